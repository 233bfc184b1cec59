/-
  encodes: a message whose past is nil; and of whatever message.
-/
import Derived.Test.YtdpnmpfkbeommaaDoorS
namespace Go.Proofs.YtdpnmpfkbeommaaDoor
open Go.RowKit

theorem copy_pack_nil {w0 w1 : World} {g : Nat} {z : Array Value} (hg0 : w0.heap.size = g) (hown : w1.ownsRow g 25 3 (.slice (some ⟨g, 0, none⟩) 1 1) 1 (madeCells z (1 * 3)).toList) (hgrow : w0.grownBy w1 none) :
    ∃ w2 cur, (∀ ty, (Builtin.copy_ #[26, 26] ty #[.slice (some ⟨g, 0, none⟩) 1 1, .slice none 0 0]).run Tryd.prog w1 = .ok (goInt 0) w2) ∧ w2.heap[g]? = some (Obj.cells cur 25 (0, 0)) ∧ cur.size = 1 * 3 ∧
      (∀ i, i < 0 → cur[i * 3]? = some (.int .i64 (dKey [] i)) ∧ cur[i * 3 + 1]? = some (.int .i64 (dClk [] i)) ∧ cur[i * 3 + 2]? = some (.int .i64 (dSrv [] i))) ∧ Below g w0 w2 := by
  have hb1 : Below g w0 w1 := (Below.refl g w0).grown hgrow (by omega) (by intro k h; cases h)
  rcases hown.2 with ⟨h, _⟩ | ⟨g', cap, cur, h, _, hh, _, _, hcs, _⟩
  · cases h
  simp only [Value.slice.injEq, Option.some.injEq, Addr.mk.injEq, and_true, true_and] at h
  obtain ⟨rfl, rfl⟩ := h
  exact ⟨w1, cur, fun ty => run_copy3_nil w1 ty _ 1 1, hh, hcs, fun i hi => absurd hi (Nat.not_lt_zero _), hb1⟩

theorem Mid.first0 {w : World} {g : Nat} {cur : Array Value} (h : w.heap[g]? = some (Obj.cells cur 25 (0, 0))) (hs : cur.size = 1 * 3) :
    Mid (((w.setCell ⟨g, 0, none⟩ (.int .i64 79)).setCell ⟨g, 1, none⟩ (.int .i64 0)).setCell ⟨g, 2, none⟩ (.int .i64 0)) g [] 0 := by
  have := Mid.first (ds := []) h hs (fun i hi => absurd hi (Nat.not_lt_zero _))
  simp only [List.length_nil, Nat.zero_mul, Nat.zero_add] at this
  exact this

set_option maxRecDepth 100000 in
set_option maxHeartbeats 4000000 in
theorem encodes_none (m : Msg) (w : World) (base B nb np : Nat) (vb vp : Value) (bs ps : List Value) (hL : Law w base B nb np nb w.heap.size 0 vb vp bs ps) (hao : m.ao = none) (hpa : m.past = []) (hca : m.c = 0) (hr : m.past.length * 24 ≤ 140737488351232) (hG : GTab w) (hg : Rng m) (hbase : base ≤ w.heap.size) (hnb : nb ≤ 90) (hnp : np ≤ 90) (h4 : nb % 4 = 0) :
    Calls Tryd.prog 5 #[.pointer (some ⟨B, 0, none⟩), .agg #[.int .i64 m.kind, .int .i64 m.src, .int .i64 m.dst, .int .i64 m.clock, .int .i64 m.op, .int .i64 m.index, .int .i64 m.key, .int .i64 m.vc, .int .i64 m.vs, .int .i64 m.value, .int .i64 m.fk, .int .i64 m.fc, .int .i64 m.fs, .slice m.ao m.past.length m.c, .bool m.settled]] w fun e w' => e = .returned (.bool true) ∧ (∃ vb' vp' bs' ps', Law w' base B (nb + 4) (np + 1) (nb + 4) w'.heap.size 0 vb' vp' bs' ps') ∧ Below base w w' := by
  obtain ⟨ki, s, d, cl, op, ix, ke, vc, vs, va, fk, fc, fs, ao, ds, c, se⟩ := m
  simp only at hao hpa hca hr ⊢
  subst hao hpa hca
  simp only [List.length_nil]
  obtain ⟨i0, hi, hz0, hz1, hz2⟩ := info_parts info25
  obtain ⟨i26, hi26, hz026, hz126, hz226⟩ := info_parts info26
  have hB0 := ((Below.refl w.heap.size w).alloc (Nat.le_refl _) (.cells #[.int .i64 ki, .int .i64 s, .int .i64 d, .int .i64 cl, .int .i64 op, .int .i64 ix, .int .i64 ke, .int .i64 vc, .int .i64 vs, .int .i64 va, .int .i64 fk, .int .i64 fc, .int .i64 fs, .slice none 0 0, .bool se] 28))
  go_enter Tryd.func5, Tryd.ntmps5
  go_upto_region 2 with (at_make; (refine wpList_make_full _ rfl (.tmp 15) (.tmp 15) 26 rfl (w.heap.size + 1) 25 i0 _ 3 Tryd.underlying26 hi hz0 hz1 .i64 .i64 _ _ 1 rfl rfl (by omega) (by omega) (by rw [hz2]; omega) (by unfold maxLen; omega) (by simp) ?_); intro w1 hown hgrow)
  simp only [World.size_alloc] at hown ⊢
  obtain ⟨w2, cur, hcp, hblk, hcsz, hdeps, hbel⟩ := copy_pack_nil (by simp) hown hgrow
  have hb1 : Below (w.heap.size + 1) (w.alloc (.cells #[.int .i64 ki, .int .i64 s, .int .i64 d, .int .i64 cl, .int .i64 op, .int .i64 ix, .int .i64 ke, .int .i64 vc, .int .i64 vs, .int .i64 va, .int .i64 fk, .int .i64 fc, .int .i64 fs, .slice none 0 0, .bool se] 28)) w1 := (Below.refl _ _).grown hgrow (by simp) (by intro k h; cases h)
  have r1 : ∀ o, w1.cell? ⟨w.heap.size, o, none⟩ = (w.alloc (.cells #[.int .i64 ki, .int .i64 s, .int .i64 d, .int .i64 cl, .int .i64 op, .int .i64 ix, .int .i64 ke, .int .i64 vc, .int .i64 vs, .int .i64 va, .int .i64 fk, .int .i64 fc, .int .i64 fs, .slice none 0 0, .bool se] 28)).cell? ⟨w.heap.size, o, none⟩ := fun o => hb1.cell (by simp)
  have r2 : ∀ o, w2.cell? ⟨w.heap.size, o, none⟩ = (w.alloc (.cells #[.int .i64 ki, .int .i64 s, .int .i64 d, .int .i64 cl, .int .i64 op, .int .i64 ix, .int .i64 ke, .int .i64 vc, .int .i64 vs, .int .i64 va, .int .i64 fk, .int .i64 fc, .int .i64 fs, .slice none 0 0, .bool se] 28)).cell? ⟨w.heap.size, o, none⟩ := fun o => hbel.cell (by simp)
  have hcell : ∀ o, w2.cell? ⟨w.heap.size + 1, o, none⟩ = cur[o]? := fun o => cell_of_row _ _ _ _ _ _ hblk
  obtain ⟨y0, hy0⟩ : ∃ y, w2.cell? ⟨w.heap.size + 1, 0, none⟩ = some y := ⟨cur[0]'(by omega), by rw [hcell]; simp [show 0 < cur.size by omega]⟩
  obtain ⟨y1, hy1⟩ : ∃ y, w2.cell? ⟨w.heap.size + 1, 1, none⟩ = some y := ⟨cur[1]'(by omega), by rw [hcell]; simp [show 1 < cur.size by omega]⟩
  obtain ⟨y2, hy2⟩ : ∃ y, w2.cell? ⟨w.heap.size + 1, 2, none⟩ = some y := ⟨cur[2]'(by omega), by rw [hcell]; simp [show 2 < cur.size by omega]⟩
  have hfz : ∀ o, w2.frozen? ⟨w.heap.size + 1, o, none⟩ = false := fun o => frozen_of_blk hblk
  have HBLK : Hid (w2.heap[w.heap.size + 1]? = some (Obj.cells cur 25 (0, 0))) := hblk
  have HDEPS : Hid (∀ i, i < 0 → cur[i * 3]? = some (.int .i64 (dKey [] i)) ∧ cur[i * 3 + 1]? = some (.int .i64 (dClk [] i)) ∧ cur[i * 3 + 2]? = some (.int .i64 (dSrv [] i))) := hdeps
  clear hown hgrow hblk hdeps hcell
  go_upto_region 4 with fail
  obtain ⟨w3, hw3⟩ : ∃ w3, w3 = ((w2.setCell ⟨w.heap.size + 1, 0, none⟩ (.int .i64 79)).setCell ⟨w.heap.size + 1, 1, none⟩ (.int .i64 0)).setCell ⟨w.heap.size + 1, 2, none⟩ (.int .i64 0) := ⟨_, rfl⟩
  rw [← hw3]
  have HM3 : Hid (Mid w3 (w.heap.size + 1) [] 0) := by rw [hw3]; exact Mid.first0 HBLK.out hcsz
  have hb3 : Below (w.heap.size + 1) (w.alloc (.cells #[.int .i64 ki, .int .i64 s, .int .i64 d, .int .i64 cl, .int .i64 op, .int .i64 ix, .int .i64 ke, .int .i64 vc, .int .i64 vs, .int .i64 va, .int .i64 fk, .int .i64 fc, .int .i64 fs, .slice none 0 0, .bool se] 28)) w3 := by
    rw [hw3]
    exact ((hbel.setCell (by simp) _).setCell (by simp) _).setCell (by simp) _
  have hs3 : w.heap.size + 2 ≤ w3.heap.size := by
    have := lt_of_heap HBLK.out
    rw [hw3]; simp [World.setCell]; omega
  have r3 : ∀ o, w3.cell? ⟨w.heap.size, o, none⟩ = (w.alloc (.cells #[.int .i64 ki, .int .i64 s, .int .i64 d, .int .i64 cl, .int .i64 op, .int .i64 ix, .int .i64 ke, .int .i64 vc, .int .i64 vs, .int .i64 va, .int .i64 fk, .int .i64 fc, .int .i64 fs, .slice none 0 0, .bool se] 28)).cell? ⟨w.heap.size, o, none⟩ := fun o => hb3.cell (by simp)
  have hen : ∀ wz, (binOp .eql 26 (.slice none 0 0) (.slice none 0 0)).run Tryd.prog wz = .ok (.bool true) wz := fun wz => Lib.run_eql_slice_nil wz 26 25 none 0 0 0 0 Tryd.underlying26
  have hs3a : w.heap.size < w3.heap.size := by omega
  have hs3b : w.heap.size + 1 < w3.heap.size := by omega
  clear hw3 r1 r2 hy0 hy1 hy2 hfz HBLK HDEPS hcp hcsz
  go_upto_region 8 with fail
  have hM4 : Mid (w3.alloc (.cells #[.int .i64 ki, .int .i64 s, .int .i64 d, .int .i64 cl, .int .i64 op, .int .i64 ix, .int .i64 ke, .int .i64 vc, .int .i64 vs, .int .i64 va, .int .i64 fk, .int .i64 fc, .int .i64 fs, .slice none 0 0, .bool se] 28)) (w.heap.size + 1) [] 0 := HM3.out.on (Below.heap_alloc _ _ _ hs3b)
  have hB4' : Below (w.heap.size + 1) (w.alloc (.cells #[.int .i64 ki, .int .i64 s, .int .i64 d, .int .i64 cl, .int .i64 op, .int .i64 ix, .int .i64 ke, .int .i64 vc, .int .i64 vs, .int .i64 va, .int .i64 fk, .int .i64 fc, .int .i64 fs, .slice none 0 0, .bool se] 28)) (w3.alloc (.cells #[.int .i64 ki, .int .i64 s, .int .i64 d, .int .i64 cl, .int .i64 op, .int .i64 ix, .int .i64 ke, .int .i64 vc, .int .i64 vs, .int .i64 va, .int .i64 fk, .int .i64 fc, .int .i64 fs, .slice none 0 0, .bool se] 28)) := hb3.alloc (by omega) _
  have HG4 : Hid (GTab (w3.alloc (.cells #[.int .i64 ki, .int .i64 s, .int .i64 d, .int .i64 cl, .int .i64 op, .int .i64 ix, .int .i64 ke, .int .i64 vc, .int .i64 vs, .int .i64 va, .int .i64 fk, .int .i64 fc, .int .i64 fs, .slice none 0 0, .bool se] 28))) := ⟨by simp, fun i hi => (hB4'.cell (by show 0 < w.heap.size + 1; omega)).trans ((hB0.cell (by exact hG.1)).trans (hG.2 i hi))⟩
  have HD4 : Hid (DepsAt (w3.alloc (.cells #[.int .i64 ki, .int .i64 s, .int .i64 d, .int .i64 cl, .int .i64 op, .int .i64 ix, .int .i64 ke, .int .i64 vc, .int .i64 vs, .int .i64 va, .int .i64 fk, .int .i64 fc, .int .i64 fs, .slice none 0 0, .bool se] 28)) none []) := fun h => absurd h (by simp)
  have HM4 : Hid (Mid (w3.alloc (.cells #[.int .i64 ki, .int .i64 s, .int .i64 d, .int .i64 cl, .int .i64 op, .int .i64 ix, .int .i64 ke, .int .i64 vc, .int .i64 vs, .int .i64 va, .int .i64 fk, .int .i64 fc, .int .i64 fs, .slice none 0 0, .bool se] 28)) (w.heap.size + 1) [] 0) := hM4
  have hB4 : Below (w.heap.size + 1) (w.alloc (.cells #[.int .i64 ki, .int .i64 s, .int .i64 d, .int .i64 cl, .int .i64 op, .int .i64 ix, .int .i64 ke, .int .i64 vc, .int .i64 vs, .int .i64 va, .int .i64 fk, .int .i64 fc, .int .i64 fs, .slice none 0 0, .bool se] 28)) (w3.alloc (.cells #[.int .i64 ki, .int .i64 s, .int .i64 d, .int .i64 cl, .int .i64 op, .int .i64 ix, .int .i64 ke, .int .i64 vc, .int .i64 vs, .int .i64 va, .int .i64 fk, .int .i64 fc, .int .i64 fs, .slice none 0 0, .bool se] 28)) := hb3.alloc (by omega) _
  have HF : Hid (msgB ⟨ki, s, d, cl, op, ix, ke, vc, vs, va, fk, fc, fs, none, [], 0, se⟩ = true → Fit ⟨ki, s, d, cl, op, ix, ke, vc, vs, va, fk, fc, fs, none, [], 0, se⟩) := fun hm => fit_of (m := ⟨ki, s, d, cl, op, ix, ke, vc, vs, va, fk, fc, fs, none, [], 0, se⟩) ⟨hg.src, hg.dst, hg.clock, hg.op, hg.index, hg.key, hg.vc, hg.vs, hg.value, hg.fk, hg.fc, hg.fs, hg.past⟩ hm
  clear hM4 hB4' hen
  cases hm : msgB ⟨ki, s, d, cl, op, ix, ke, vc, vs, va, fk, fc, fs, none, [], 0, se⟩
  · go_upto_region 9 with (go_at_call 7; refine (encode_no ⟨ki, s, d, cl, op, ix, ke, vc, vs, va, fk, fc, fs, none, [], 0, se⟩ _ HD4.out hr HG4.out HF.out hm).mono ?_; rintro e w5 ⟨aov, cpv, rfl, hown5, hb5⟩)
    simp only [World.size_alloc] at hown5
    have hz5 := hb5.size
    simp only [World.size_alloc] at hz5
    have hbw5 : Below (w.heap.size + 1) (w.alloc (.cells #[.int .i64 ki, .int .i64 s, .int .i64 d, .int .i64 cl, .int .i64 op, .int .i64 ix, .int .i64 ke, .int .i64 vc, .int .i64 vs, .int .i64 va, .int .i64 fk, .int .i64 fc, .int .i64 fs, .slice none 0 0, .bool se] 28)) w5 := hB4.trans (hb5.mono (by simp; omega))
    have r5 : ∀ o, w5.cell? ⟨w.heap.size, o, none⟩ = (w.alloc (.cells #[.int .i64 ki, .int .i64 s, .int .i64 d, .int .i64 cl, .int .i64 op, .int .i64 ix, .int .i64 ke, .int .i64 vc, .int .i64 vs, .int .i64 va, .int .i64 fk, .int .i64 fc, .int .i64 fs, .slice none 0 0, .bool se] 28)).cell? ⟨w.heap.size, o, none⟩ := fun o => hbw5.cell (by simp)
    have HD5 : Hid (DepsAt w5 none []) := fun h => absurd h (by simp)
    have HM5 : Hid (Mid w5 (w.heap.size + 1) [] 0) := HM4.out.on (hb5.block _ (by simp; omega))
    clear hb5 HD4 HG4 HM4 HF r3
    go_upto_region 13 with (go_at_call 10; refine (rmsg_any ⟨ki, s, d, cl, op, ix, ke, vc, vs, va, fk, fc, fs, none, [], 0, se⟩ _ HD5.out hr hg).mono ?_; rintro e w6 ⟨rfl, hb6⟩; have hz6 := hb6.size; have r6 : ∀ o, w6.cell? ⟨w.heap.size, o, none⟩ = (w.alloc (.cells #[.int .i64 ki, .int .i64 s, .int .i64 d, .int .i64 cl, .int .i64 op, .int .i64 ix, .int .i64 ke, .int .i64 vc, .int .i64 vs, .int .i64 va, .int .i64 fk, .int .i64 fc, .int .i64 fs, .slice none 0 0, .bool se] 28)).cell? ⟨w.heap.size, o, none⟩ := fun o => (hb6.cell (by show w.heap.size < w5.heap.size; omega)).trans (r5 o))
    have hown7 := ownsRow_below hown5 hb6
    have hbw7 : Below (w.heap.size + 1) (w.alloc (.cells #[.int .i64 ki, .int .i64 s, .int .i64 d, .int .i64 cl, .int .i64 op, .int .i64 ix, .int .i64 ke, .int .i64 vc, .int .i64 vs, .int .i64 va, .int .i64 fk, .int .i64 fc, .int .i64 fs, .slice none 0 0, .bool se] 28)) w6 := hbw5.trans (hb6.mono (by omega))
    have HM7 : Hid (Mid w6 (w.heap.size + 1) [] 0) := HM5.out.on (hb6.block _ (by omega))
    have hz7 := hz6
    have hVL : 0 ≤ 400 := by omega
    clear hown5 HD5 HM5 r5 r6 hb6
    have r7 : ∀ o, w6.cell? ⟨w.heap.size, o, none⟩ = (w.alloc (.cells #[.int .i64 ki, .int .i64 s, .int .i64 d, .int .i64 cl, .int .i64 op, .int .i64 ix, .int .i64 ke, .int .i64 vc, .int .i64 vs, .int .i64 va, .int .i64 fk, .int .i64 fc, .int .i64 fs, .slice none 0 0, .bool se] 28)).cell? ⟨w.heap.size, o, none⟩ := fun o => hbw7.cell (by simp)
    have c79 : w6.cell? ⟨w.heap.size + 1, 0, none⟩ = some (.int .i64 79) := by obtain ⟨cur, hh, _, _, h3, _⟩ := HM7.out; rw [cell_of_row _ _ _ _ _ _ hh]; exact h3 (Nat.zero_le _)
    have HOW7 : Hid (w6.ownsRow (w3.heap.size + 1) 5 1 (.slice aov 0 cpv) 0 (bytesV [])) := hown7
    have hbx : Below w.heap.size w w6 := hB0.trans (hbw7.mono (by omega))
    clear hown7
    go_wp2_with fail
    go_loopw [10, 11] (fun t10 t11 wr => ∃ k : Nat, k ≤ 1 ∧ t10 = .bool true ∧ t11 = .int .i64 k ∧ Hid (Mid wr (w.heap.size + 1) [] k) ∧ Hid (wr.ownsRow (w3.heap.size + 1) 5 1 (.slice aov 0 cpv) 0 (bytesV [])) ∧ Below w.heap.size w wr ∧ Hid (∀ b, b < w6.heap.size → b ≠ w.heap.size + 1 → wr.heap[b]? = w6.heap[b]?) ∧ w6.heap.size ≤ wr.heap.size) (fun _ t11 _ => 1 - (intOf t11).toNat)
    case atStart => exact ⟨0, Nat.zero_le _, rfl, rfl, HM7, HOW7, hbx, fun _ _ _ => rfl, Nat.le_refl _⟩
    case round =>
      obtain ⟨k, hk, rfl, rfl, HMk, HOk, hbk, HKk, hsk⟩ := hrel
      have r8 : ∀ o, wr.cell? ⟨w.heap.size, o, none⟩ = (w.alloc (.cells #[.int .i64 ki, .int .i64 s, .int .i64 d, .int .i64 cl, .int .i64 op, .int .i64 ix, .int .i64 ke, .int .i64 vc, .int .i64 vs, .int .i64 va, .int .i64 fk, .int .i64 fc, .int .i64 fs, .slice none 0 0, .bool se] 28)).cell? ⟨w.heap.size, o, none⟩ := fun o => (World.cell?_of_block (HKk.out w.heap.size (by omega) (by omega))).trans (r7 o)
      clear r7 c79
      by_cases hlt : k < 1
      · obtain ⟨cur, hh, hcs, hlo, h79, hdp⟩ := HMk.out
        have hcell : ∀ o, wr.cell? ⟨w.heap.size + 1, o, none⟩ = cur[o]? := fun o => cell_of_row _ _ _ _ _ _ hh
        have fz : ∀ o, wr.frozen? ⟨w.heap.size + 1, o, none⟩ = false := fun o => frozen_of_blk hh
        have hX : ∀ b, b ≠ w.heap.size + 1 → (((wr.setCell ⟨w.heap.size + 1, k * 3, none⟩ (.int .i64 (-8))).setCell ⟨w.heap.size + 1, k * 3 + 1, none⟩ (.int .i64 0)).setCell ⟨w.heap.size + 1, k * 3 + 2, none⟩ (.int .i64 0)).heap[b]? = wr.heap[b]? := fun b hb => by rw [Below.heap_setCell _ _ _ _ hb, Below.heap_setCell _ _ _ _ hb, Below.heap_setCell _ _ _ _ hb]
        have HM' : Hid (Mid (((wr.setCell ⟨w.heap.size + 1, k * 3, none⟩ (.int .i64 (-8))).setCell ⟨w.heap.size + 1, k * 3 + 1, none⟩ (.int .i64 0)).setCell ⟨w.heap.size + 1, k * 3 + 2, none⟩ (.int .i64 0)) (w.heap.size + 1) [] (k + 1)) := HMk.out.step hlt
        have HO' : Hid ((((wr.setCell ⟨w.heap.size + 1, k * 3, none⟩ (.int .i64 (-8))).setCell ⟨w.heap.size + 1, k * 3 + 1, none⟩ (.int .i64 0)).setCell ⟨w.heap.size + 1, k * 3 + 2, none⟩ (.int .i64 0)).ownsRow (w3.heap.size + 1) 5 1 (.slice aov 0 cpv) 0 (bytesV [])) := ownsRow_on HOk.out (fun b cur' hh' => hX b (by rintro rfl; rw [hh] at hh'; simp at hh'))
        have HB' : Hid (Below w.heap.size w (((wr.setCell ⟨w.heap.size + 1, k * 3, none⟩ (.int .i64 (-8))).setCell ⟨w.heap.size + 1, k * 3 + 1, none⟩ (.int .i64 0)).setCell ⟨w.heap.size + 1, k * 3 + 2, none⟩ (.int .i64 0))) := ((hbk.setCell (by simp) _).setCell (by simp) _).setCell (by simp) _
        have HK' : Hid (∀ b, b < w6.heap.size → b ≠ w.heap.size + 1 → (((wr.setCell ⟨w.heap.size + 1, k * 3, none⟩ (.int .i64 (-8))).setCell ⟨w.heap.size + 1, k * 3 + 1, none⟩ (.int .i64 0)).setCell ⟨w.heap.size + 1, k * 3 + 2, none⟩ (.int .i64 0)).heap[b]? = w6.heap[b]?) := fun b hb hne => (hX b hne).trans (HKk.out b hb hne)
        have HS' : Hid (w6.heap.size ≤ (((wr.setCell ⟨w.heap.size + 1, k * 3, none⟩ (.int .i64 (-8))).setCell ⟨w.heap.size + 1, k * 3 + 1, none⟩ (.int .i64 0)).setCell ⟨w.heap.size + 1, k * 3 + 2, none⟩ (.int .i64 0)).heap.size) := by show _ ≤ _; simp [World.setCell]; omega
        by_cases hkn : k = 0
        · obtain ⟨y0, z0⟩ : ∃ y, wr.cell? ⟨w.heap.size + 1, k * 3, none⟩ = some y := ⟨cur[k * 3]'(by omega), by rw [hcell]; simp [show k * 3 < cur.size by omega]⟩
          obtain ⟨y1, z1⟩ : ∃ y, wr.cell? ⟨w.heap.size + 1, k * 3 + 1, none⟩ = some y := ⟨cur[k * 3 + 1]'(by omega), by rw [hcell]; simp [show k * 3 + 1 < cur.size by omega]⟩
          obtain ⟨y2, z2⟩ : ∃ y, wr.cell? ⟨w.heap.size + 1, k * 3 + 2, none⟩ = some y := ⟨cur[k * 3 + 2]'(by omega), by rw [hcell]; simp [show k * 3 + 2 < cur.size by omega]⟩
          have hke : ((k : Int) == (0 : Int)) = true := by simp; omega
          have hke2 : (k == 0) = true := by simp; omega
          have hkl : k < 1 := hlt
          clear hh hcs hlo h79 hdp hcell hX hkn
          go_wp2_with fail
          go_quiet (fail)
          go_wp2_with fail
          go_roundw
          case rel => exact ⟨k + 1, by omega, rfl, by go_num, HM'.out, HO'.out, below_drewN HB'.out _, HK'.out, HS'.out⟩
          case measure => simp [intOf]; omega
        · have hkl : k < 0 := by omega
          omega
      · have hk1 : k = 1 := by omega
        subst hk1
        have hPE : PastE wr (.slice (some ⟨w.heap.size + 1, 0, none⟩) 1 1) := HMk.out.past hr
        have hLr : Law wr base B nb np nb w.heap.size 0 vb vp bs ps := hL.same (fun b hb => hbk.block b hb)
        have cB9 := hLr.own.c9
        go_wp2_with (at_builtin; refine wpList_append_lies _ rfl (.tmp 111) (.tmp 113) 34 rfl base 26 i26 (.slice none 0 0) 1 24 Tryd.underlying34 hi26 hz026 hz126 hz226 rfl (by decide) _ _ _ rfl (hLr.rp.alloc _) ⟨wr.heap.size, 0, none⟩ 1 1 [.slice (some ⟨w.heap.size + 1, 0, none⟩) 1 1] rfl rfl (cell_one_new _ _ _) (by intro u hu; simp at hu; subst hu; rfl) (by decide) (by unfold maxLen; omega) (by omega) (by have := hbk.size; simp; omega) (wr.heap.size + 1) (by simp) ?_; intro g9 cap9 w9 hown9 hgrow9 hat9 hlt9; have hblk9 := blk_of hLr.rp (by decide) hLr.blk hgrow9; have cB10 : w9.cell? ⟨B, 9, none⟩ = some vp := (by rw [cell_of_row _ _ _ _ _ _ hblk9]; rfl); have fB10 : w9.frozen? ⟨B, 9, none⟩ = false := frozen_of_blk hblk9; clear hblk9)
        have hL9 := hLr.addP hgrow9 hown9 hPE
        have hO9 := ownsRow_on HOk.out fun b cur hh => rest_of (j := 9) (u := .slice (some ⟨g9, 0, none⟩) (np + 1) cap9) hLr.rp ⟨_, hLr.blk⟩ hgrow9 b cur 5 hh (by decide) (by decide)
        have hs9 := hgrow9.size
        simp at hs9
        have hb9 : Below base w (w9.setCell ⟨B, 9, none⟩ (.slice (some ⟨g9, 0, none⟩) (np + 1) cap9)) := (((hbk.mono hbase).alloc (by have := hbk.size; omega) _).grown hgrow9 (by have := hbk.size; simp; omega) (fun k' h' => (hLr.rp.lt k' h').1)).setCell hL.hB _
        refine (keepBytes_any _ base B nb (np + 1) w.heap.size 0 _ _ (.slice aov 0 cpv) bs _ [] hL9 (own_base hO9 (by omega)) hbase (by have := hbk.size; simp [World.setCell]; omega) (by omega) (by omega) h4).mono ?_
        rintro e w10 ⟨rfl, ⟨vb', bs', hL10⟩, hb10⟩
        go_wp2
        go_ret
        exact ⟨rfl, ⟨vb', _, bs', _, hL10⟩, hb9.trans hb10⟩
  · go_upto_region 9 with (go_at_call 7; refine (encode_yes ⟨ki, s, d, cl, op, ix, ke, vc, vs, va, fk, fc, fs, none, [], 0, se⟩ _ HD4.out hr HG4.out HF.out hm).mono ?_; rintro e w5 ⟨v, rfl, hown5, hb5⟩)
    simp only [World.size_alloc] at hown5
    have hz5 := hb5.size
    simp only [World.size_alloc] at hz5
    have hbw5 : Below (w.heap.size + 1) (w.alloc (.cells #[.int .i64 ki, .int .i64 s, .int .i64 d, .int .i64 cl, .int .i64 op, .int .i64 ix, .int .i64 ke, .int .i64 vc, .int .i64 vs, .int .i64 va, .int .i64 fk, .int .i64 fc, .int .i64 fs, .slice none 0 0, .bool se] 28)) w5 := hB4.trans (hb5.mono (by simp; omega))
    have r5 : ∀ o, w5.cell? ⟨w.heap.size, o, none⟩ = (w.alloc (.cells #[.int .i64 ki, .int .i64 s, .int .i64 d, .int .i64 cl, .int .i64 op, .int .i64 ix, .int .i64 ke, .int .i64 vc, .int .i64 vs, .int .i64 va, .int .i64 fk, .int .i64 fc, .int .i64 fs, .slice none 0 0, .bool se] 28)).cell? ⟨w.heap.size, o, none⟩ := fun o => hbw5.cell (by simp)
    have HD5 : Hid (DepsAt w5 none []) := fun h => absurd h (by simp)
    have HM5 : Hid (Mid w5 (w.heap.size + 1) [] 0) := HM4.out.on (hb5.block _ (by simp; omega))
    clear hb5 HD4 HG4 HM4 HF r3
    go_upto_region 12 with (go_at_call 10; refine (rmsg_any ⟨ki, s, d, cl, op, ix, ke, vc, vs, va, fk, fc, fs, none, [], 0, se⟩ _ HD5.out hr hg).mono ?_; rintro e w6 ⟨rfl, hb6⟩; have hz6 := hb6.size; have r6 : ∀ o, w6.cell? ⟨w.heap.size, o, none⟩ = (w.alloc (.cells #[.int .i64 ki, .int .i64 s, .int .i64 d, .int .i64 cl, .int .i64 op, .int .i64 ix, .int .i64 ke, .int .i64 vc, .int .i64 vs, .int .i64 va, .int .i64 fk, .int .i64 fc, .int .i64 fs, .slice none 0 0, .bool se] 28)).cell? ⟨w.heap.size, o, none⟩ := fun o => (hb6.cell (by show w.heap.size < w5.heap.size; omega)).trans (r5 o))
    have hown6 := ownsRow_below hown5 hb6
    have hbw6 : Below (w.heap.size + 1) (w.alloc (.cells #[.int .i64 ki, .int .i64 s, .int .i64 d, .int .i64 cl, .int .i64 op, .int .i64 ix, .int .i64 ke, .int .i64 vc, .int .i64 vs, .int .i64 va, .int .i64 fk, .int .i64 fc, .int .i64 fs, .slice none 0 0, .bool se] 28)) w6 := hbw5.trans (hb6.mono (by omega))
    have HD6 : Hid (DepsAt w6.drew none []) := fun h => absurd h (by simp)
    have HM6 : Hid (Mid w6 (w.heap.size + 1) [] 0) := HM5.out.on (hb6.block _ (by omega))
    have hkd : isKindB ki = true := by have h := hm; unfold msgB at h; simp at h; exact h.1
    have hft : Fit ⟨ki, s, d, cl, op, ix, ke, vc, vs, va, fk, fc, fs, none, [], 0, se⟩ := fit_of hg hm
    have HRB : Hid (∀ wz, DepsAt wz none [] → Calls Tryd.prog 11 #[.agg #[.int .i64 ki, .int .i64 s, .int .i64 d, .int .i64 cl, .int .i64 op, .int .i64 ix, .int .i64 ke, .int .i64 vc, .int .i64 vs, .int .i64 va, .int .i64 fk, .int .i64 fc, .int .i64 fs, .slice none 0 0, .bool se]] wz fun e w' => e = .returned (.string (sB (msgBytes ⟨ki, s, d, cl, op, ix, ke, vc, vs, va, fk, fc, fs, none, [], 0, se⟩))) ∧ Below wz.heap.size wz w') := fun wz h => by rw [← bytes_eq _ hkd]; exact rbytes_any ⟨ki, s, d, cl, op, ix, ke, vc, vs, va, fk, fc, fs, none, [], 0, se⟩ wz h hft hkd
    have hcv6 : (convert 41 9 v).run Tryd.prog w6.drew = .ok (.string (sB (msgBytes ⟨ki, s, d, cl, op, ix, ke, vc, vs, va, fk, fc, fs, none, [], 0, se⟩))) w6.drew := conv_row (w := w6.drew) hown6.drew (msgBytes_pos _)
    have HOW6 : Hid (w6.ownsRow (w3.heap.size + 1) 5 1 v (msgBytes ⟨ki, s, d, cl, op, ix, ke, vc, vs, va, fk, fc, fs, none, [], 0, se⟩).length (bytesV (msgBytes ⟨ki, s, d, cl, op, ix, ke, vc, vs, va, fk, fc, fs, none, [], 0, se⟩))) := hown6
    have hz6' : w.heap.size < w6.heap.size := by omega
    clear hown5 hown6 HD5 HM5 r5 hkd hft
    go_cut [10] (fun t10 wx => t10 = .bool true ∧ Below w6.heap.size w6 wx)
    case first =>
      go_region_with (go_at_call 11; refine (HRB.out _ (by exact HD6.out)).mono ?_; rintro e w7 ⟨rfl, hb7⟩; have hcv7 : (convert 41 9 v).run Tryd.prog w7 = .ok (.string (sB (msgBytes ⟨ki, s, d, cl, op, ix, ke, vc, vs, va, fk, fc, fs, none, [], 0, se⟩))) w7 := conv_row (ownsRow_below (World.ownsRow.drew HOW6.out) hb7) (msgBytes_pos _))
      all_goals (go_wp2_with fail; go_meet; exact ⟨rfl, (Below.refl _ _).drew.trans (hb7.mono (by simp))⟩)
    case rest =>
    obtain ⟨rfl, hb7⟩ := hcut
    have hown7 : wc.ownsRow (w3.heap.size + 1) 5 1 v (msgBytes ⟨ki, s, d, cl, op, ix, ke, vc, vs, va, fk, fc, fs, none, [], 0, se⟩).length (bytesV (msgBytes ⟨ki, s, d, cl, op, ix, ke, vc, vs, va, fk, fc, fs, none, [], 0, se⟩)) := ownsRow_below HOW6.out hb7
    have hbw7 : Below (w.heap.size + 1) (w.alloc (.cells #[.int .i64 ki, .int .i64 s, .int .i64 d, .int .i64 cl, .int .i64 op, .int .i64 ix, .int .i64 ke, .int .i64 vc, .int .i64 vs, .int .i64 va, .int .i64 fk, .int .i64 fc, .int .i64 fs, .slice none 0 0, .bool se] 28)) wc := hbw6.trans (hb7.mono (by omega))
    have HM7 : Hid (Mid wc (w.heap.size + 1) [] 0) := HM6.out.on (hb7.block _ (by omega))
    have hz7 := hb7.size
    have hVL : (msgBytes ⟨ki, s, d, cl, op, ix, ke, vc, vs, va, fk, fc, fs, none, [], 0, se⟩).length ≤ 400 := msgBytes_len _ (fit_of hg hm).six
    clear hcv6 HRB HD6 HM6 HOW6 r6 hb6 hb7
    have r7 : ∀ o, wc.cell? ⟨w.heap.size, o, none⟩ = (w.alloc (.cells #[.int .i64 ki, .int .i64 s, .int .i64 d, .int .i64 cl, .int .i64 op, .int .i64 ix, .int .i64 ke, .int .i64 vc, .int .i64 vs, .int .i64 va, .int .i64 fk, .int .i64 fc, .int .i64 fs, .slice none 0 0, .bool se] 28)).cell? ⟨w.heap.size, o, none⟩ := fun o => hbw7.cell (by simp)
    have c79 : wc.cell? ⟨w.heap.size + 1, 0, none⟩ = some (.int .i64 79) := by obtain ⟨cur, hh, _, _, h3, _⟩ := HM7.out; rw [cell_of_row _ _ _ _ _ _ hh]; exact h3 (Nat.zero_le _)
    have HOW7 : Hid (wc.ownsRow (w3.heap.size + 1) 5 1 v (msgBytes ⟨ki, s, d, cl, op, ix, ke, vc, vs, va, fk, fc, fs, none, [], 0, se⟩).length (bytesV (msgBytes ⟨ki, s, d, cl, op, ix, ke, vc, vs, va, fk, fc, fs, none, [], 0, se⟩))) := hown7
    have hbx : Below w.heap.size w wc := hB0.trans (hbw7.mono (by omega))
    clear hown7
    go_wp2_with fail
    go_loopw [10, 11] (fun t10 t11 wr => ∃ k : Nat, k ≤ 1 ∧ t10 = .bool true ∧ t11 = .int .i64 k ∧ Hid (Mid wr (w.heap.size + 1) [] k) ∧ Hid (wr.ownsRow (w3.heap.size + 1) 5 1 v (msgBytes ⟨ki, s, d, cl, op, ix, ke, vc, vs, va, fk, fc, fs, none, [], 0, se⟩).length (bytesV (msgBytes ⟨ki, s, d, cl, op, ix, ke, vc, vs, va, fk, fc, fs, none, [], 0, se⟩))) ∧ Below w.heap.size w wr ∧ Hid (∀ b, b < wc.heap.size → b ≠ w.heap.size + 1 → wr.heap[b]? = wc.heap[b]?) ∧ wc.heap.size ≤ wr.heap.size) (fun _ t11 _ => 1 - (intOf t11).toNat)
    case atStart => exact ⟨0, Nat.zero_le _, rfl, rfl, HM7, HOW7, hbx, fun _ _ _ => rfl, Nat.le_refl _⟩
    case round =>
      obtain ⟨k, hk, rfl, rfl, HMk, HOk, hbk, HKk, hsk⟩ := hrel
      have r8 : ∀ o, wr.cell? ⟨w.heap.size, o, none⟩ = (w.alloc (.cells #[.int .i64 ki, .int .i64 s, .int .i64 d, .int .i64 cl, .int .i64 op, .int .i64 ix, .int .i64 ke, .int .i64 vc, .int .i64 vs, .int .i64 va, .int .i64 fk, .int .i64 fc, .int .i64 fs, .slice none 0 0, .bool se] 28)).cell? ⟨w.heap.size, o, none⟩ := fun o => (World.cell?_of_block (HKk.out w.heap.size (by omega) (by omega))).trans (r7 o)
      clear r7 c79
      by_cases hlt : k < 1
      · obtain ⟨cur, hh, hcs, hlo, h79, hdp⟩ := HMk.out
        have hcell : ∀ o, wr.cell? ⟨w.heap.size + 1, o, none⟩ = cur[o]? := fun o => cell_of_row _ _ _ _ _ _ hh
        have fz : ∀ o, wr.frozen? ⟨w.heap.size + 1, o, none⟩ = false := fun o => frozen_of_blk hh
        have hX : ∀ b, b ≠ w.heap.size + 1 → (((wr.setCell ⟨w.heap.size + 1, k * 3, none⟩ (.int .i64 (-8))).setCell ⟨w.heap.size + 1, k * 3 + 1, none⟩ (.int .i64 0)).setCell ⟨w.heap.size + 1, k * 3 + 2, none⟩ (.int .i64 0)).heap[b]? = wr.heap[b]? := fun b hb => by rw [Below.heap_setCell _ _ _ _ hb, Below.heap_setCell _ _ _ _ hb, Below.heap_setCell _ _ _ _ hb]
        have HM' : Hid (Mid (((wr.setCell ⟨w.heap.size + 1, k * 3, none⟩ (.int .i64 (-8))).setCell ⟨w.heap.size + 1, k * 3 + 1, none⟩ (.int .i64 0)).setCell ⟨w.heap.size + 1, k * 3 + 2, none⟩ (.int .i64 0)) (w.heap.size + 1) [] (k + 1)) := HMk.out.step hlt
        have HO' : Hid ((((wr.setCell ⟨w.heap.size + 1, k * 3, none⟩ (.int .i64 (-8))).setCell ⟨w.heap.size + 1, k * 3 + 1, none⟩ (.int .i64 0)).setCell ⟨w.heap.size + 1, k * 3 + 2, none⟩ (.int .i64 0)).ownsRow (w3.heap.size + 1) 5 1 v (msgBytes ⟨ki, s, d, cl, op, ix, ke, vc, vs, va, fk, fc, fs, none, [], 0, se⟩).length (bytesV (msgBytes ⟨ki, s, d, cl, op, ix, ke, vc, vs, va, fk, fc, fs, none, [], 0, se⟩))) := ownsRow_on HOk.out (fun b cur' hh' => hX b (by rintro rfl; rw [hh] at hh'; simp at hh'))
        have HB' : Hid (Below w.heap.size w (((wr.setCell ⟨w.heap.size + 1, k * 3, none⟩ (.int .i64 (-8))).setCell ⟨w.heap.size + 1, k * 3 + 1, none⟩ (.int .i64 0)).setCell ⟨w.heap.size + 1, k * 3 + 2, none⟩ (.int .i64 0))) := ((hbk.setCell (by simp) _).setCell (by simp) _).setCell (by simp) _
        have HK' : Hid (∀ b, b < wc.heap.size → b ≠ w.heap.size + 1 → (((wr.setCell ⟨w.heap.size + 1, k * 3, none⟩ (.int .i64 (-8))).setCell ⟨w.heap.size + 1, k * 3 + 1, none⟩ (.int .i64 0)).setCell ⟨w.heap.size + 1, k * 3 + 2, none⟩ (.int .i64 0)).heap[b]? = wc.heap[b]?) := fun b hb hne => (hX b hne).trans (HKk.out b hb hne)
        have HS' : Hid (wc.heap.size ≤ (((wr.setCell ⟨w.heap.size + 1, k * 3, none⟩ (.int .i64 (-8))).setCell ⟨w.heap.size + 1, k * 3 + 1, none⟩ (.int .i64 0)).setCell ⟨w.heap.size + 1, k * 3 + 2, none⟩ (.int .i64 0)).heap.size) := by show _ ≤ _; simp [World.setCell]; omega
        by_cases hkn : k = 0
        · obtain ⟨y0, z0⟩ : ∃ y, wr.cell? ⟨w.heap.size + 1, k * 3, none⟩ = some y := ⟨cur[k * 3]'(by omega), by rw [hcell]; simp [show k * 3 < cur.size by omega]⟩
          obtain ⟨y1, z1⟩ : ∃ y, wr.cell? ⟨w.heap.size + 1, k * 3 + 1, none⟩ = some y := ⟨cur[k * 3 + 1]'(by omega), by rw [hcell]; simp [show k * 3 + 1 < cur.size by omega]⟩
          obtain ⟨y2, z2⟩ : ∃ y, wr.cell? ⟨w.heap.size + 1, k * 3 + 2, none⟩ = some y := ⟨cur[k * 3 + 2]'(by omega), by rw [hcell]; simp [show k * 3 + 2 < cur.size by omega]⟩
          have hke : ((k : Int) == (0 : Int)) = true := by simp; omega
          have hke2 : (k == 0) = true := by simp; omega
          have hkl : k < 1 := hlt
          clear hh hcs hlo h79 hdp hcell hX hkn
          go_wp2_with fail
          go_quiet (fail)
          go_wp2_with fail
          go_roundw
          case rel => exact ⟨k + 1, by omega, rfl, by go_num, HM'.out, HO'.out, below_drewN HB'.out _, HK'.out, HS'.out⟩
          case measure => simp [intOf]; omega
        · have hkl : k < 0 := by omega
          omega
      · have hk1 : k = 1 := by omega
        subst hk1
        have hPE : PastE wr (.slice (some ⟨w.heap.size + 1, 0, none⟩) 1 1) := HMk.out.past hr
        have hLr : Law wr base B nb np nb w.heap.size 0 vb vp bs ps := hL.same (fun b hb => hbk.block b hb)
        have cB9 := hLr.own.c9
        go_wp2_with (at_builtin; refine wpList_append_lies _ rfl (.tmp 111) (.tmp 113) 34 rfl base 26 i26 (.slice none 0 0) 1 24 Tryd.underlying34 hi26 hz026 hz126 hz226 rfl (by decide) _ _ _ rfl (hLr.rp.alloc _) ⟨wr.heap.size, 0, none⟩ 1 1 [.slice (some ⟨w.heap.size + 1, 0, none⟩) 1 1] rfl rfl (cell_one_new _ _ _) (by intro u hu; simp at hu; subst hu; rfl) (by decide) (by unfold maxLen; omega) (by omega) (by have := hbk.size; simp; omega) (wr.heap.size + 1) (by simp) ?_; intro g9 cap9 w9 hown9 hgrow9 hat9 hlt9; have hblk9 := blk_of hLr.rp (by decide) hLr.blk hgrow9; have cB10 : w9.cell? ⟨B, 9, none⟩ = some vp := (by rw [cell_of_row _ _ _ _ _ _ hblk9]; rfl); have fB10 : w9.frozen? ⟨B, 9, none⟩ = false := frozen_of_blk hblk9; clear hblk9)
        have hL9 := hLr.addP hgrow9 hown9 hPE
        have hO9 := ownsRow_on HOk.out fun b cur hh => rest_of (j := 9) (u := .slice (some ⟨g9, 0, none⟩) (np + 1) cap9) hLr.rp ⟨_, hLr.blk⟩ hgrow9 b cur 5 hh (by decide) (by decide)
        have hs9 := hgrow9.size
        simp at hs9
        have hb9 : Below base w (w9.setCell ⟨B, 9, none⟩ (.slice (some ⟨g9, 0, none⟩) (np + 1) cap9)) := (((hbk.mono hbase).alloc (by have := hbk.size; omega) _).grown hgrow9 (by have := hbk.size; simp; omega) (fun k' h' => (hLr.rp.lt k' h').1)).setCell hL.hB _
        refine (keepBytes_any _ base B nb (np + 1) w.heap.size (msgBytes ⟨ki, s, d, cl, op, ix, ke, vc, vs, va, fk, fc, fs, none, [], 0, se⟩).length _ _ v bs _ (msgBytes ⟨ki, s, d, cl, op, ix, ke, vc, vs, va, fk, fc, fs, none, [], 0, se⟩) hL9 (own_base hO9 (by omega)) hbase (by have := hbk.size; simp [World.setCell]; omega) (by omega) (by omega) h4).mono ?_
        rintro e w10 ⟨rfl, ⟨vb', bs', hL10⟩, hb10⟩
        go_wp2
        go_ret
        exact ⟨rfl, ⟨vb', _, bs', _, hL10⟩, hb9.trans hb10⟩

theorem encodes_any (m : Msg) (w : World) (base B nb np : Nat) (vb vp : Value) (bs ps : List Value) (hL : Law w base B nb np nb w.heap.size 0 vb vp bs ps) (hd : DepsAt w m.ao m.past) (hn : m.ao = none → m.past = [] ∧ m.c = 0) (hr : m.past.length * 24 ≤ 140737488351232) (hG : GTab w) (hg : Rng m) (hbase : base ≤ w.heap.size) (hnb : nb ≤ 90) (hnp : np ≤ 90) (h4 : nb % 4 = 0) :
    Calls Tryd.prog 5 #[.pointer (some ⟨B, 0, none⟩), .agg #[.int .i64 m.kind, .int .i64 m.src, .int .i64 m.dst, .int .i64 m.clock, .int .i64 m.op, .int .i64 m.index, .int .i64 m.key, .int .i64 m.vc, .int .i64 m.vs, .int .i64 m.value, .int .i64 m.fk, .int .i64 m.fc, .int .i64 m.fs, .slice m.ao m.past.length m.c, .bool m.settled]] w fun e w' => e = .returned (.bool true) ∧ (∃ vb' vp' bs' ps', Law w' base B (nb + 4) (np + 1) (nb + 4) w'.heap.size 0 vb' vp' bs' ps') ∧ Below base w w' := by
  cases hao : m.ao with
  | none => rw [← hao]; exact encodes_none m w base B nb np vb vp bs ps hL hao (hn hao).1 (hn hao).2 hr hG hg hbase hnb hnp h4
  | some a => rw [← hao]; exact encodes_some m a w base B nb np vb vp bs ps hL hao hd hr hG hg hbase hnb hnp h4

end Go.Proofs.YtdpnmpfkbeommaaDoor
