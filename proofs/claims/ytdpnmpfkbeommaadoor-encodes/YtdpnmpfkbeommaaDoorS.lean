/-
  encodes.
-/
import Derived.Test.YtdpnmpfkbeommaaDoorQ
import Derived.Test.YtdpnmpfkbeommaaDoorR
namespace Go.Proofs.YtdpnmpfkbeommaaDoor
open Go.RowKit

theorem info25 : (Tryd.prog.info? 25).map (fun i => (i.zero, i.size, i.bytes)) = some (some (.agg #[.int .i64 0, .int .i64 0, .int .i64 0]), 3, 24) := by kernel_rfl
theorem info26 : (Tryd.prog.info? 26).map (fun i => (i.zero, i.size, i.bytes)) = some (some (.slice none 0 0), 1, 24) := by kernel_rfl

theorem run_copy3 (w : World) (ty : TypeId) (g dLen dCap : Nat) (a : Addr) (sLen sCap : Nat) (cur : Array Value) (t : TypeId) (cs : List Value) (hg : w.heap[g]? = some (.cells cur t (0, 0))) (hn : cs.length = Nat.min sLen dLen * 3)
    (hsrc : ∀ j v, cs[j]? = some v → w.cell? (a.add j) = some v) (hfit : cs.length ≤ cur.size) (h1 : ∀ v ∈ cs, v.oneCell' = true) :
    (Builtin.copy_ #[26, 26] ty #[.slice (some ⟨g, 0, none⟩) dLen dCap, .slice (some a) sLen sCap]).run Tryd.prog w = .ok (goInt (Nat.min sLen dLen)) (w.setRow g (cs ++ cur.toList.drop cs.length).toArray) := by
  have hl := run_loadCells_list (P := Tryd.prog) w a cs hsrc
  have hst := run_storeCells_at Tryd.prog g 0 t cs 0 cur w hg (by simpa using hfit) h1
  obtain ⟨i, hq, _, hi, _⟩ := info_parts info25
  simp [Builtin.copy_, run_underlying Tryd.underlying26, Builtin.lenOf, Builtin.firstCells, sizeOf, typeInfo, hq, hi, ← hn, hl]
  simp at hst
  rw [hst]
  rfl
theorem run_copy3_nil (w : World) (ty : TypeId) (a : Addr) (dLen dCap : Nat) : (Builtin.copy_ #[26, 26] ty #[.slice (some a) dLen dCap, .slice none 0 0]).run Tryd.prog w = .ok (goInt 0) w :=
  run_copy_nil Tryd.prog w 26 26 ty 25 a dLen dCap Tryd.underlying26 (by kernel_rfl)

/-- The cells of a list of keys and versions. -/
def depsC (ds : List (Int × Int × Int)) : List Value := (ds.map fun d => [Value.int .i64 d.1, Value.int .i64 d.2.1, Value.int .i64 d.2.2]).flatten
theorem depsC_len (ds : List (Int × Int × Int)) : (depsC ds).length = ds.length * 3 := by
  induction ds with
  | nil => rfl
  | cons d r ih => simp only [depsC, List.map_cons, List.flatten_cons, List.length_append, List.length_cons, List.length_nil] at *; omega
theorem depsC_one (ds : List (Int × Int × Int)) : ∀ v ∈ depsC ds, v.oneCell' = true := by
  intro v hv
  simp only [depsC, List.mem_flatten, List.mem_map] at hv
  obtain ⟨l, ⟨d, _, rfl⟩, hv⟩ := hv
  simp at hv
  rcases hv with rfl | rfl | rfl <;> rfl
theorem depsC_at (ds : List (Int × Int × Int)) (i : Nat) (h : i < ds.length) : (depsC ds)[i * 3]? = some (.int .i64 (dKey ds i)) ∧ (depsC ds)[i * 3 + 1]? = some (.int .i64 (dClk ds i)) ∧ (depsC ds)[i * 3 + 2]? = some (.int .i64 (dSrv ds i)) := by
  induction ds generalizing i with
  | nil => simp at h
  | cons d r ih =>
    have e : depsC (d :: r) = Value.int .i64 d.1 :: Value.int .i64 d.2.1 :: Value.int .i64 d.2.2 :: depsC r := by simp [depsC]
    cases i with
    | zero => rw [e]; simp [dKey, dClk, dSrv]
    | succ i =>
      have := ih i (by simpa using h)
      rw [e, show (i + 1) * 3 = i * 3 + 3 by omega]
      simpa [dKey, dClk, dSrv] using this
theorem depsC_src {w : World} {b o : Nat} {ds : List (Int × Int × Int)} (hc : ∀ i, i < ds.length → w.cell? ⟨b, o + i * 3, none⟩ = some (.int .i64 (dKey ds i)) ∧ w.cell? ⟨b, o + i * 3 + 1, none⟩ = some (.int .i64 (dClk ds i)) ∧ w.cell? ⟨b, o + i * 3 + 2, none⟩ = some (.int .i64 (dSrv ds i))) :
    ∀ j v, (depsC ds)[j]? = some v → w.cell? ((⟨b, o, none⟩ : Addr).add j) = some v := by
  intro j v hj
  have hlt : j < ds.length * 3 := by rw [← depsC_len]; exact (List.getElem?_eq_some_iff.1 hj).1
  have hd := depsC_at ds (j / 3) (by omega)
  have hh := hc (j / 3) (by omega)
  rw [Addr.add_lit]
  rcases (show j = j / 3 * 3 ∨ j = j / 3 * 3 + 1 ∨ j = j / 3 * 3 + 2 by omega) with e | e | e
  · rw [e] at hj ⊢; rw [hd.1] at hj; rw [← hj, show o + j / 3 * 3 = o + j / 3 * 3 from rfl]; exact hh.1
  · rw [e] at hj ⊢; rw [hd.2.1] at hj; rw [← hj, ← Nat.add_assoc]; exact hh.2.1
  · rw [e] at hj ⊢; rw [hd.2.2] at hj; rw [← hj, ← Nat.add_assoc]; exact hh.2.2

/-- The list that goes in: the past, and one place behind it. -/
structure OwnIn (w : World) (g : Nat) (ds : List (Int × Int × Int)) : Prop where
  blk : ∃ cur, w.heap[g]? = some (Obj.cells cur 25 (0, 0)) ∧ cur.size = (ds.length + 1) * 3
  deps : ∀ i, i < ds.length → w.cell? ⟨g, i * 3, none⟩ = some (.int .i64 (dKey ds i)) ∧ w.cell? ⟨g, i * 3 + 1, none⟩ = some (.int .i64 (dClk ds i)) ∧ w.cell? ⟨g, i * 3 + 2, none⟩ = some (.int .i64 (dSrv ds i))
  last : w.cell? ⟨g, ds.length * 3, none⟩ = some (.int .i64 79)

theorem copy_pack {w0 w1 : World} {g : Nat} {a : Addr} {c : Nat} {ds : List (Int × Int × Int)} {z : Array Value} (hg0 : w0.heap.size = g)
    (hown : w1.ownsRow g 25 3 (.slice (some ⟨g, 0, none⟩) (ds.length + 1) (ds.length + 1)) (ds.length + 1) (madeCells z ((ds.length + 1) * 3)).toList) (hgrow : w0.grownBy w1 none) (hd : DepsAt w0 (some a) ds) :
    ∃ w2 cur, (∀ ty, (Builtin.copy_ #[26, 26] ty #[.slice (some ⟨g, 0, none⟩) (ds.length + 1) (ds.length + 1), .slice (some a) ds.length c]).run Tryd.prog w1 = .ok (goInt ds.length) w2) ∧ w2.heap[g]? = some (Obj.cells cur 25 (0, 0)) ∧ cur.size = (ds.length + 1) * 3 ∧
      (∀ i, i < ds.length → cur[i * 3]? = some (.int .i64 (dKey ds i)) ∧ cur[i * 3 + 1]? = some (.int .i64 (dClk ds i)) ∧ cur[i * 3 + 2]? = some (.int .i64 (dSrv ds i))) ∧ Below g w0 w2 := by
  have hb1 : Below g w0 w1 := (Below.refl g w0).grown hgrow (by omega) (by intro k h; cases h)
  rcases hown.2 with ⟨h, _⟩ | ⟨g', cap, cur, h, _, hh, _, _, hcs, _⟩
  · cases h
  simp only [Value.slice.injEq, Option.some.injEq, Addr.mk.injEq, and_true, true_and] at h
  obtain ⟨rfl, rfl⟩ := h
  have hlen := depsC_len ds
  have hrun : ∀ ty, (Builtin.copy_ #[26, 26] ty #[.slice (some ⟨g, 0, none⟩) (ds.length + 1) (ds.length + 1), .slice (some a) ds.length c]).run Tryd.prog w1 = .ok (goInt ds.length) (w1.setRow g (depsC ds ++ cur.toList.drop (depsC ds).length).toArray) := by
    intro ty
    have hmin : Nat.min ds.length (ds.length + 1) = ds.length := Nat.min_eq_left (by omega)
    have := run_copy3 w1 ty g (ds.length + 1) (ds.length + 1) a ds.length c cur 25 (depsC ds) hh (by rw [hmin]; exact hlen) ?_ (by omega) (depsC_one ds)
    · rw [hmin] at this; exact this
    · intro j v hj
      have h0 : 0 < ds.length := by
        have := (List.getElem?_eq_some_iff.1 hj).1
        omega
      obtain ⟨b, o, e, hlt, hc⟩ := hd h0
      cases e
      exact depsC_src (fun i hi => ⟨(hb1.cell (by show b < g; omega)).trans (hc i hi).1, (hb1.cell (by show b < g; omega)).trans (hc i hi).2.1, (hb1.cell (by show b < g; omega)).trans (hc i hi).2.2⟩) j v hj
  refine ⟨_, _, hrun, setRow_heap w1 g _ _ 25 _ hh, by simp [hlen, hcs]; omega, fun i hi => ?_, below_setRow hb1 (Nat.le_refl _) _⟩
  have hd3 := depsC_at ds i hi
  simp only [List.getElem?_toArray]
  rw [List.getElem?_append_left (by omega), List.getElem?_append_left (by omega), List.getElem?_append_left (by omega)]
  exact hd3

theorem optB_len (b : Bool) (l : List Int) : (optB b l).length ≤ l.length := by unfold optB; split <;> simp
theorem msgBytes_len (m : Msg) (h6 : m.past.length ≤ 6) : (msgBytes m).length ≤ 400 := by
  have a0 := numsB_len [m.src, m.dst, m.clock]
  have a1 := numsB_len [m.op]
  have a2 := numsB_len [m.index]
  have a3 := numsB_len [m.key]
  have a4 := numsB_len [m.vc, m.vs]
  have a5 := vint_len 9 (zz m.value)
  have a6 := numsB_len [m.fk, m.fc, m.fs]
  have a7 := numsB_len [(m.past.length : Int)]
  have a8 := depsB_len m.past
  have b1 := optB_len (hasB m.kind 1) (numsB [m.op])
  have b2 := optB_len (hasB m.kind 2) (numsB [m.index])
  have b3 := optB_len (hasB m.kind 4) (numsB [m.key])
  have b4 := optB_len (hasB m.kind 8) (numsB [m.vc, m.vs])
  have b5 := optB_len (hasB m.kind 16) (numsB [m.fk, m.fc, m.fs])
  have b6 := optB_len (hasB m.kind 32) (vint 9 (zz m.value))
  have b7 := optB_len (hasB m.kind 64) (numsB [(m.past.length : Int)] ++ depsB m.past)
  have b8 := optB_len (hasB m.kind 128) [flagB m.settled]
  unfold msgBytes
  simp only [List.length_append, List.length_cons, List.length_nil] at *
  omega
theorem msgBytes_pos (m : Msg) : 0 < (msgBytes m).length := by unfold msgBytes; simp only [List.length_append, List.length_cons]; omega
theorem own_base {w : World} {b b' e size n : Nat} {v : Value} {xs : List Value} (h : w.ownsRow b e size v n xs) (hb : b' ≤ b) : w.ownsRow b' e size v n xs := by
  obtain ⟨h1, h2⟩ := h
  refine ⟨h1, ?_⟩
  rcases h2 with h2 | ⟨g, cap, cur, hv, hg, r⟩
  · exact .inl h2
  · exact .inr ⟨g, cap, cur, hv, by omega, r⟩
theorem encode_yes (m : Msg) (w : World) (hd : DepsAt w m.ao m.past) (hr : m.past.length * 24 ≤ 140737488351232) (hG : GTab w) (hf : msgB m = true → Fit m) (hm : msgB m = true) :
    Calls Tryd.prog 7 #[.agg #[.int .i64 m.kind, .int .i64 m.src, .int .i64 m.dst, .int .i64 m.clock, .int .i64 m.op, .int .i64 m.index, .int .i64 m.key, .int .i64 m.vc, .int .i64 m.vs, .int .i64 m.value, .int .i64 m.fk, .int .i64 m.fc, .int .i64 m.fs, .slice m.ao m.past.length m.c, .bool m.settled]] w fun e w' => ∃ v', e = .returned (.tuple #[v', .int .i64 0]) ∧ w'.ownsRow w.heap.size 5 1 v' (msgBytes m).length (bytesV (msgBytes m)) ∧ Below w.heap.size w w' := by
  refine (encode_any m w hd hr hG hf).mono ?_
  rintro e w' ⟨v', rfl, h1, h2⟩
  rw [hm] at h1 ⊢
  exact ⟨v', rfl, h1, h2⟩
theorem encode_no (m : Msg) (w : World) (hd : DepsAt w m.ao m.past) (hr : m.past.length * 24 ≤ 140737488351232) (hG : GTab w) (hf : msgB m = true → Fit m) (hm : msgB m = false) :
    Calls Tryd.prog 7 #[.agg #[.int .i64 m.kind, .int .i64 m.src, .int .i64 m.dst, .int .i64 m.clock, .int .i64 m.op, .int .i64 m.index, .int .i64 m.key, .int .i64 m.vc, .int .i64 m.vs, .int .i64 m.value, .int .i64 m.fk, .int .i64 m.fc, .int .i64 m.fs, .slice m.ao m.past.length m.c, .bool m.settled]] w fun e w' => ∃ ao c, e = .returned (.tuple #[.slice ao 0 c, .int .i64 5]) ∧ w'.ownsRow w.heap.size 5 1 (.slice ao 0 c) 0 (bytesV []) ∧ Below w.heap.size w w' := by
  refine (encode_any m w hd hr hG hf).mono ?_
  rintro e w' ⟨v', rfl, h1, h2⟩
  rw [hm] at h1 ⊢
  have h3 : w'.ownsRow w.heap.size 5 1 v' 0 (bytesV []) := h1
  rcases h3.2 with ⟨rfl, _⟩ | ⟨g, cap, cur, rfl, _⟩
  · exact ⟨none, 0, rfl, h3, h2⟩
  · exact ⟨_, cap, rfl, h3, h2⟩

/-- The list that goes in, turned over up to place k. -/
def Mid (w : World) (g : Nat) (ds : List (Int × Int × Int)) (k : Nat) : Prop := ∃ cur, w.heap[g]? = some (Obj.cells cur 25 (0, 0)) ∧ cur.size = (ds.length + 1) * 3 ∧ (∀ i, i < k → cur[i * 3]? = some (.int .i64 (-8))) ∧
  (k ≤ ds.length → cur[ds.length * 3]? = some (.int .i64 79)) ∧
  (∀ i, k ≤ i → i < ds.length → cur[i * 3]? = some (.int .i64 (dKey ds i)) ∧ cur[i * 3 + 1]? = some (.int .i64 (dClk ds i)) ∧ cur[i * 3 + 2]? = some (.int .i64 (dSrv ds i)))
theorem heap_set3 {w : World} {g j : Nat} {cur : Array Value} {x y z : Value} (h : w.heap[g]? = some (Obj.cells cur 25 (0, 0))) :
    (((w.setCell ⟨g, j, none⟩ x).setCell ⟨g, j + 1, none⟩ y).setCell ⟨g, j + 2, none⟩ z).heap[g]? = some (Obj.cells (((cur.setIfInBounds j x).setIfInBounds (j + 1) y).setIfInBounds (j + 2) z) 25 (0, 0)) :=
  heap_setCell_same _ _ _ _ _ _ (heap_setCell_same _ _ _ _ _ _ (heap_setCell_same _ _ _ _ _ _ h))
theorem Mid.first {w : World} {g : Nat} {ds : List (Int × Int × Int)} {cur : Array Value} (h : w.heap[g]? = some (Obj.cells cur 25 (0, 0))) (hs : cur.size = (ds.length + 1) * 3) (hd : ∀ i, i < ds.length → cur[i * 3]? = some (.int .i64 (dKey ds i)) ∧ cur[i * 3 + 1]? = some (.int .i64 (dClk ds i)) ∧ cur[i * 3 + 2]? = some (.int .i64 (dSrv ds i))) :
    Mid (((w.setCell ⟨g, ds.length * 3, none⟩ (.int .i64 79)).setCell ⟨g, ds.length * 3 + 1, none⟩ (.int .i64 0)).setCell ⟨g, ds.length * 3 + 2, none⟩ (.int .i64 0)) g ds 0 := by
  refine ⟨_, heap_set3 h, by simpa using hs, fun i hi => by omega, fun _ => ?_, fun i _ hi => ?_⟩
  · simp [show ds.length * 3 < cur.size by omega]
  · have := hd i hi
    simp only [Array.getElem?_setIfInBounds]
    rw [if_neg (by omega), if_neg (by omega), if_neg (by omega), if_neg (by omega), if_neg (by omega), if_neg (by omega), if_neg (by omega), if_neg (by omega), if_neg (by omega)]
    exact this
theorem Mid.step {w : World} {g k : Nat} {ds : List (Int × Int × Int)} (h : Mid w g ds k) (hk : k < ds.length + 1) :
    Mid (((w.setCell ⟨g, k * 3, none⟩ (.int .i64 (-8))).setCell ⟨g, k * 3 + 1, none⟩ (.int .i64 0)).setCell ⟨g, k * 3 + 2, none⟩ (.int .i64 0)) g ds (k + 1) := by
  obtain ⟨cur, hh, hs, h1, h3, h2⟩ := h
  refine ⟨_, heap_set3 hh, by simpa using hs, fun i hi => ?_, fun hle => ?_, fun i hi hi2 => ?_⟩
  · simp only [Array.getElem?_setIfInBounds]
    rw [if_neg (by omega), if_neg (by omega)]
    by_cases e : i = k
    · subst e; simp; omega
    · rw [if_neg (by omega)]; exact h1 i (by omega)
  · simp only [Array.getElem?_setIfInBounds]
    rw [if_neg (by omega), if_neg (by omega), if_neg (by omega)]
    exact h3 (by omega)
  · have := h2 i (by omega) hi2
    simp only [Array.getElem?_setIfInBounds]
    rw [if_neg (by omega), if_neg (by omega), if_neg (by omega), if_neg (by omega), if_neg (by omega), if_neg (by omega), if_neg (by omega), if_neg (by omega), if_neg (by omega)]
    exact this
theorem Mid.on {w w' : World} {g k : Nat} {ds : List (Int × Int × Int)} (h : Mid w g ds k) (hb : w'.heap[g]? = w.heap[g]?) : Mid w' g ds k := by
  obtain ⟨cur, hh, r⟩ := h
  exact ⟨cur, hb.trans hh, r⟩
theorem Mid.deps {w : World} {g : Nat} {ds : List (Int × Int × Int)} (h : Mid w g ds 0) : DepsAt w (some ⟨g, 0, none⟩) ds := by
  intro _
  obtain ⟨cur, hh, hs, h1, _, h2⟩ := h
  refine ⟨g, 0, rfl, lt_of_heap hh, fun i hi => ?_⟩
  have := h2 i (Nat.zero_le _) hi
  simp only [Nat.zero_add]
  rw [cell_of_row _ _ _ _ _ _ hh, cell_of_row _ _ _ _ _ _ hh, cell_of_row _ _ _ _ _ _ hh]
  exact this
theorem Mid.past {w : World} {g : Nat} {ds : List (Int × Int × Int)} (h : Mid w g ds (ds.length + 1)) (hr : ds.length * 24 ≤ 140737488351232) : PastE w (.slice (some ⟨g, 0, none⟩) (ds.length + 1) (ds.length + 1)) := by
  obtain ⟨cur, hh, hs, h1, _, h2⟩ := h
  exact ⟨g, _, _, cur, rfl, by omega, hh, h1⟩
theorem conv_row {w : World} {F n : Nat} {v : Value} {l : List Int} (h : w.ownsRow F 5 1 v n (bytesV l)) (hn : 0 < n) : (convert 41 9 v).run Tryd.prog w = .ok (.string (sB l)) w := by
  obtain ⟨gg, cap, rfl, _, _⟩ := h.form hn
  have hl : l.length = n := by have := h.1; simp [bytesV] at this; exact this
  rw [run_convert_bytes_string _ 41 9 5 _ n cap Tryd.underlying41 Tryd.underlying5 Tryd.underlying9]
  have hld := run_loadCells_list (P := Tryd.prog) w ⟨gg, 0, none⟩ (l.map (Value.int .u8)) (fun j v hj => h.cells rfl j v hj)
  rw [List.length_map, hl] at hld
  rw [run_bytesToString _ _ n cap l hld]
  congr 2
  apply ByteArray.ext
  have e : ∀ (l : List Int) (b : ByteArray), (l.foldl (fun r n => r.push (UInt8.ofNat n.toNat)) b).data = b.data ++ (l.map fun x => UInt8.ofNat x.toNat).toArray := by
    intro l
    induction l with
    | nil => intro b; simp
    | cons x r ih => intro b; rw [List.foldl_cons, ih]; simp [ByteArray.push]
  rw [e]
  have he0 : ByteArray.empty.data = #[] := rfl
  rw [he0]
  simp [sB, str, u8s]

set_option maxRecDepth 100000 in
set_option maxHeartbeats 4000000 in
theorem encodes_some (m : Msg) (a : Addr) (w : World) (base B nb np : Nat) (vb vp : Value) (bs ps : List Value) (hL : Law w base B nb np nb w.heap.size 0 vb vp bs ps) (hao : m.ao = some a) (hd : DepsAt w m.ao m.past) (hr : m.past.length * 24 ≤ 140737488351232) (hG : GTab w) (hg : Rng m) (hbase : base ≤ w.heap.size) (hnb : nb ≤ 90) (hnp : np ≤ 90) (h4 : nb % 4 = 0) :
    Calls Tryd.prog 5 #[.pointer (some ⟨B, 0, none⟩), .agg #[.int .i64 m.kind, .int .i64 m.src, .int .i64 m.dst, .int .i64 m.clock, .int .i64 m.op, .int .i64 m.index, .int .i64 m.key, .int .i64 m.vc, .int .i64 m.vs, .int .i64 m.value, .int .i64 m.fk, .int .i64 m.fc, .int .i64 m.fs, .slice m.ao m.past.length m.c, .bool m.settled]] w fun e w' => e = .returned (.bool true) ∧ (∃ vb' vp' bs' ps', Law w' base B (nb + 4) (np + 1) (nb + 4) w'.heap.size 0 vb' vp' bs' ps') ∧ Below base w w' := by
  obtain ⟨ki, s, d, cl, op, ix, ke, vc, vs, va, fk, fc, fs, ao, ds, c, se⟩ := m
  simp only at hao hd hr ⊢
  subst hao
  obtain ⟨i0, hi, hz0, hz1, hz2⟩ := info_parts info25
  obtain ⟨i26, hi26, hz026, hz126, hz226⟩ := info_parts info26
  have hB0 := ((Below.refl w.heap.size w).alloc (Nat.le_refl _) (.cells #[.int .i64 ki, .int .i64 s, .int .i64 d, .int .i64 cl, .int .i64 op, .int .i64 ix, .int .i64 ke, .int .i64 vc, .int .i64 vs, .int .i64 va, .int .i64 fk, .int .i64 fc, .int .i64 fs, .slice (some a) ds.length c, .bool se] 28))
  have hd0 := hd.below hB0 (Nat.le_refl _)
  go_enter Tryd.func5, Tryd.ntmps5
  go_upto_region 2 with (at_make; (refine wpList_make_full _ rfl (.tmp 15) (.tmp 15) 26 rfl (w.heap.size + 1) 25 i0 _ 3 Tryd.underlying26 hi hz0 hz1 .i64 .i64 _ _ (ds.length + 1) rfl rfl (by omega) (by omega) (by rw [hz2]; omega) (by unfold maxLen; omega) (by simp) ?_); intro w1 hown hgrow)
  simp only [World.size_alloc] at hown ⊢
  obtain ⟨w2, cur, hcp, hblk, hcsz, hdeps, hbel⟩ := copy_pack (c := c) (by simp) hown hgrow hd0
  have hb1 : Below (w.heap.size + 1) (w.alloc (.cells #[.int .i64 ki, .int .i64 s, .int .i64 d, .int .i64 cl, .int .i64 op, .int .i64 ix, .int .i64 ke, .int .i64 vc, .int .i64 vs, .int .i64 va, .int .i64 fk, .int .i64 fc, .int .i64 fs, .slice (some a) ds.length c, .bool se] 28)) w1 := (Below.refl _ _).grown hgrow (by simp) (by intro k h; cases h)
  have r1 : ∀ o, w1.cell? ⟨w.heap.size, o, none⟩ = (w.alloc (.cells #[.int .i64 ki, .int .i64 s, .int .i64 d, .int .i64 cl, .int .i64 op, .int .i64 ix, .int .i64 ke, .int .i64 vc, .int .i64 vs, .int .i64 va, .int .i64 fk, .int .i64 fc, .int .i64 fs, .slice (some a) ds.length c, .bool se] 28)).cell? ⟨w.heap.size, o, none⟩ := fun o => hb1.cell (by simp)
  have r2 : ∀ o, w2.cell? ⟨w.heap.size, o, none⟩ = (w.alloc (.cells #[.int .i64 ki, .int .i64 s, .int .i64 d, .int .i64 cl, .int .i64 op, .int .i64 ix, .int .i64 ke, .int .i64 vc, .int .i64 vs, .int .i64 va, .int .i64 fk, .int .i64 fc, .int .i64 fs, .slice (some a) ds.length c, .bool se] 28)).cell? ⟨w.heap.size, o, none⟩ := fun o => hbel.cell (by simp)
  have hcell : ∀ o, w2.cell? ⟨w.heap.size + 1, o, none⟩ = cur[o]? := fun o => cell_of_row _ _ _ _ _ _ hblk
  obtain ⟨y0, hy0⟩ : ∃ y, w2.cell? ⟨w.heap.size + 1, ds.length * 3, none⟩ = some y := ⟨cur[ds.length * 3]'(by omega), by rw [hcell]; simp [show ds.length * 3 < cur.size by omega]⟩
  obtain ⟨y1, hy1⟩ : ∃ y, w2.cell? ⟨w.heap.size + 1, ds.length * 3 + 1, none⟩ = some y := ⟨cur[ds.length * 3 + 1]'(by omega), by rw [hcell]; simp [show ds.length * 3 + 1 < cur.size by omega]⟩
  obtain ⟨y2, hy2⟩ : ∃ y, w2.cell? ⟨w.heap.size + 1, ds.length * 3 + 2, none⟩ = some y := ⟨cur[ds.length * 3 + 2]'(by omega), by rw [hcell]; simp [show ds.length * 3 + 2 < cur.size by omega]⟩
  have hfz : ∀ o, w2.frozen? ⟨w.heap.size + 1, o, none⟩ = false := fun o => frozen_of_blk hblk
  have HBLK : Hid (w2.heap[w.heap.size + 1]? = some (Obj.cells cur 25 (0, 0))) := hblk
  have HDEPS : Hid (∀ i, i < ds.length → cur[i * 3]? = some (.int .i64 (dKey ds i)) ∧ cur[i * 3 + 1]? = some (.int .i64 (dClk ds i)) ∧ cur[i * 3 + 2]? = some (.int .i64 (dSrv ds i))) := hdeps
  clear hown hgrow hblk hdeps hcell hd0
  go_upto_region 4 with fail
  obtain ⟨w3, hw3⟩ : ∃ w3, w3 = ((w2.setCell ⟨w.heap.size + 1, ds.length * 3, none⟩ (.int .i64 79)).setCell ⟨w.heap.size + 1, ds.length * 3 + 1, none⟩ (.int .i64 0)).setCell ⟨w.heap.size + 1, ds.length * 3 + 2, none⟩ (.int .i64 0) := ⟨_, rfl⟩
  rw [← hw3]
  have HM3 : Hid (Mid w3 (w.heap.size + 1) ds 0) := by rw [hw3]; exact Mid.first HBLK.out hcsz HDEPS.out
  have hb3 : Below (w.heap.size + 1) (w.alloc (.cells #[.int .i64 ki, .int .i64 s, .int .i64 d, .int .i64 cl, .int .i64 op, .int .i64 ix, .int .i64 ke, .int .i64 vc, .int .i64 vs, .int .i64 va, .int .i64 fk, .int .i64 fc, .int .i64 fs, .slice (some a) ds.length c, .bool se] 28)) w3 := by
    rw [hw3]
    exact ((hbel.setCell (by simp) _).setCell (by simp) _).setCell (by simp) _
  have hs3 : w.heap.size + 2 ≤ w3.heap.size := by
    have := lt_of_heap HBLK.out
    rw [hw3]; simp [World.setCell]; omega
  have r3 : ∀ o, w3.cell? ⟨w.heap.size, o, none⟩ = (w.alloc (.cells #[.int .i64 ki, .int .i64 s, .int .i64 d, .int .i64 cl, .int .i64 op, .int .i64 ix, .int .i64 ke, .int .i64 vc, .int .i64 vs, .int .i64 va, .int .i64 fk, .int .i64 fc, .int .i64 fs, .slice (some a) ds.length c, .bool se] 28)).cell? ⟨w.heap.size, o, none⟩ := fun o => hb3.cell (by simp)
  have hen : ∀ wz, (binOp .eql 26 (.slice (some a) ds.length c) (.slice none 0 0)).run Tryd.prog wz = .ok (.bool false) wz := fun wz => Lib.run_eql_slice_nil wz 26 25 (some a) ds.length c 0 0 Tryd.underlying26
  have hs3a : w.heap.size < w3.heap.size := by omega
  have hs3b : w.heap.size + 1 < w3.heap.size := by omega
  clear hw3 r1 r2 hy0 hy1 hy2 hfz HBLK HDEPS hcp hcsz
  go_upto_region 8 with fail
  have hM4 : Mid (w3.alloc (.cells #[.int .i64 ki, .int .i64 s, .int .i64 d, .int .i64 cl, .int .i64 op, .int .i64 ix, .int .i64 ke, .int .i64 vc, .int .i64 vs, .int .i64 va, .int .i64 fk, .int .i64 fc, .int .i64 fs, .slice (some ⟨w.heap.size + 1, 0, none⟩) ds.length (ds.length + 1), .bool se] 28)) (w.heap.size + 1) ds 0 := HM3.out.on (Below.heap_alloc _ _ _ hs3b)
  have hB4' : Below (w.heap.size + 1) (w.alloc (.cells #[.int .i64 ki, .int .i64 s, .int .i64 d, .int .i64 cl, .int .i64 op, .int .i64 ix, .int .i64 ke, .int .i64 vc, .int .i64 vs, .int .i64 va, .int .i64 fk, .int .i64 fc, .int .i64 fs, .slice (some a) ds.length c, .bool se] 28)) (w3.alloc (.cells #[.int .i64 ki, .int .i64 s, .int .i64 d, .int .i64 cl, .int .i64 op, .int .i64 ix, .int .i64 ke, .int .i64 vc, .int .i64 vs, .int .i64 va, .int .i64 fk, .int .i64 fc, .int .i64 fs, .slice (some ⟨w.heap.size + 1, 0, none⟩) ds.length (ds.length + 1), .bool se] 28)) := hb3.alloc (by omega) _
  have HG4 : Hid (GTab (w3.alloc (.cells #[.int .i64 ki, .int .i64 s, .int .i64 d, .int .i64 cl, .int .i64 op, .int .i64 ix, .int .i64 ke, .int .i64 vc, .int .i64 vs, .int .i64 va, .int .i64 fk, .int .i64 fc, .int .i64 fs, .slice (some ⟨w.heap.size + 1, 0, none⟩) ds.length (ds.length + 1), .bool se] 28))) := ⟨by simp, fun i hi => (hB4'.cell (by show 0 < w.heap.size + 1; omega)).trans ((hB0.cell (by exact hG.1)).trans (hG.2 i hi))⟩
  have HD4 : Hid (DepsAt (w3.alloc (.cells #[.int .i64 ki, .int .i64 s, .int .i64 d, .int .i64 cl, .int .i64 op, .int .i64 ix, .int .i64 ke, .int .i64 vc, .int .i64 vs, .int .i64 va, .int .i64 fk, .int .i64 fc, .int .i64 fs, .slice (some ⟨w.heap.size + 1, 0, none⟩) ds.length (ds.length + 1), .bool se] 28)) (some ⟨w.heap.size + 1, 0, none⟩) ds) := hM4.deps
  have HM4 : Hid (Mid (w3.alloc (.cells #[.int .i64 ki, .int .i64 s, .int .i64 d, .int .i64 cl, .int .i64 op, .int .i64 ix, .int .i64 ke, .int .i64 vc, .int .i64 vs, .int .i64 va, .int .i64 fk, .int .i64 fc, .int .i64 fs, .slice (some ⟨w.heap.size + 1, 0, none⟩) ds.length (ds.length + 1), .bool se] 28)) (w.heap.size + 1) ds 0) := hM4
  have hB4 : Below (w.heap.size + 1) (w.alloc (.cells #[.int .i64 ki, .int .i64 s, .int .i64 d, .int .i64 cl, .int .i64 op, .int .i64 ix, .int .i64 ke, .int .i64 vc, .int .i64 vs, .int .i64 va, .int .i64 fk, .int .i64 fc, .int .i64 fs, .slice (some a) ds.length c, .bool se] 28)) (w3.alloc (.cells #[.int .i64 ki, .int .i64 s, .int .i64 d, .int .i64 cl, .int .i64 op, .int .i64 ix, .int .i64 ke, .int .i64 vc, .int .i64 vs, .int .i64 va, .int .i64 fk, .int .i64 fc, .int .i64 fs, .slice (some ⟨w.heap.size + 1, 0, none⟩) ds.length (ds.length + 1), .bool se] 28)) := hb3.alloc (by omega) _
  have HF : Hid (msgB ⟨ki, s, d, cl, op, ix, ke, vc, vs, va, fk, fc, fs, some ⟨w.heap.size + 1, 0, none⟩, ds, ds.length + 1, se⟩ = true → Fit ⟨ki, s, d, cl, op, ix, ke, vc, vs, va, fk, fc, fs, some ⟨w.heap.size + 1, 0, none⟩, ds, ds.length + 1, se⟩) := fun hm => fit_of (m := ⟨ki, s, d, cl, op, ix, ke, vc, vs, va, fk, fc, fs, some ⟨w.heap.size + 1, 0, none⟩, ds, ds.length + 1, se⟩) ⟨hg.src, hg.dst, hg.clock, hg.op, hg.index, hg.key, hg.vc, hg.vs, hg.value, hg.fk, hg.fc, hg.fs, hg.past⟩ hm
  clear hM4 hB4' hen
  cases hm : msgB ⟨ki, s, d, cl, op, ix, ke, vc, vs, va, fk, fc, fs, some a, ds, c, se⟩
  · go_upto_region 9 with (go_at_call 7; refine (encode_no ⟨ki, s, d, cl, op, ix, ke, vc, vs, va, fk, fc, fs, some ⟨w.heap.size + 1, 0, none⟩, ds, ds.length + 1, se⟩ _ HD4.out hr HG4.out HF.out hm).mono ?_; rintro e w5 ⟨aov, cpv, rfl, hown5, hb5⟩)
    simp only [World.size_alloc] at hown5
    have hz5 := hb5.size
    simp only [World.size_alloc] at hz5
    have hbw5 : Below (w.heap.size + 1) (w.alloc (.cells #[.int .i64 ki, .int .i64 s, .int .i64 d, .int .i64 cl, .int .i64 op, .int .i64 ix, .int .i64 ke, .int .i64 vc, .int .i64 vs, .int .i64 va, .int .i64 fk, .int .i64 fc, .int .i64 fs, .slice (some a) ds.length c, .bool se] 28)) w5 := hB4.trans (hb5.mono (by simp; omega))
    have r5 : ∀ o, w5.cell? ⟨w.heap.size, o, none⟩ = (w.alloc (.cells #[.int .i64 ki, .int .i64 s, .int .i64 d, .int .i64 cl, .int .i64 op, .int .i64 ix, .int .i64 ke, .int .i64 vc, .int .i64 vs, .int .i64 va, .int .i64 fk, .int .i64 fc, .int .i64 fs, .slice (some a) ds.length c, .bool se] 28)).cell? ⟨w.heap.size, o, none⟩ := fun o => hbw5.cell (by simp)
    have HD5 : Hid (DepsAt w5 (some a) ds) := (hd.below hB0 (Nat.le_refl _)).below hbw5 (by simp)
    have HM5 : Hid (Mid w5 (w.heap.size + 1) ds 0) := HM4.out.on (hb5.block _ (by simp; omega))
    clear hb5 HD4 HG4 HM4 HF r3
    go_upto_region 13 with (go_at_call 10; refine (rmsg_any ⟨ki, s, d, cl, op, ix, ke, vc, vs, va, fk, fc, fs, some a, ds, c, se⟩ _ HD5.out hr hg).mono ?_; rintro e w6 ⟨rfl, hb6⟩; have hz6 := hb6.size; have r6 : ∀ o, w6.cell? ⟨w.heap.size, o, none⟩ = (w.alloc (.cells #[.int .i64 ki, .int .i64 s, .int .i64 d, .int .i64 cl, .int .i64 op, .int .i64 ix, .int .i64 ke, .int .i64 vc, .int .i64 vs, .int .i64 va, .int .i64 fk, .int .i64 fc, .int .i64 fs, .slice (some a) ds.length c, .bool se] 28)).cell? ⟨w.heap.size, o, none⟩ := fun o => (hb6.cell (by show w.heap.size < w5.heap.size; omega)).trans (r5 o))
    have hown7 := ownsRow_below hown5 hb6
    have hbw7 : Below (w.heap.size + 1) (w.alloc (.cells #[.int .i64 ki, .int .i64 s, .int .i64 d, .int .i64 cl, .int .i64 op, .int .i64 ix, .int .i64 ke, .int .i64 vc, .int .i64 vs, .int .i64 va, .int .i64 fk, .int .i64 fc, .int .i64 fs, .slice (some a) ds.length c, .bool se] 28)) w6 := hbw5.trans (hb6.mono (by omega))
    have HM7 : Hid (Mid w6 (w.heap.size + 1) ds 0) := HM5.out.on (hb6.block _ (by omega))
    have hz7 := hz6
    have hVL : 0 ≤ 400 := by omega
    clear hown5 HD5 HM5 r5 r6 hb6
    have r7 : ∀ o, w6.cell? ⟨w.heap.size, o, none⟩ = (w.alloc (.cells #[.int .i64 ki, .int .i64 s, .int .i64 d, .int .i64 cl, .int .i64 op, .int .i64 ix, .int .i64 ke, .int .i64 vc, .int .i64 vs, .int .i64 va, .int .i64 fk, .int .i64 fc, .int .i64 fs, .slice (some a) ds.length c, .bool se] 28)).cell? ⟨w.heap.size, o, none⟩ := fun o => hbw7.cell (by simp)
    have c79 : w6.cell? ⟨w.heap.size + 1, ds.length * 3, none⟩ = some (.int .i64 79) := by obtain ⟨cur, hh, _, _, h3, _⟩ := HM7.out; rw [cell_of_row _ _ _ _ _ _ hh]; exact h3 (Nat.zero_le _)
    have HOW7 : Hid (w6.ownsRow (w3.heap.size + 1) 5 1 (.slice aov 0 cpv) 0 (bytesV [])) := hown7
    have hbx : Below w.heap.size w w6 := hB0.trans (hbw7.mono (by omega))
    clear hown7
    go_wp2_with fail
    go_loopw [10, 11] (fun t10 t11 wr => ∃ k : Nat, k ≤ ds.length + 1 ∧ t10 = .bool true ∧ t11 = .int .i64 k ∧ Hid (Mid wr (w.heap.size + 1) ds k) ∧ Hid (wr.ownsRow (w3.heap.size + 1) 5 1 (.slice aov 0 cpv) 0 (bytesV [])) ∧ Below w.heap.size w wr ∧ Hid (∀ b, b < w6.heap.size → b ≠ w.heap.size + 1 → wr.heap[b]? = w6.heap[b]?) ∧ w6.heap.size ≤ wr.heap.size) (fun _ t11 _ => ds.length + 1 - (intOf t11).toNat)
    case atStart => exact ⟨0, Nat.zero_le _, rfl, rfl, HM7, HOW7, hbx, fun _ _ _ => rfl, Nat.le_refl _⟩
    case round =>
      obtain ⟨k, hk, rfl, rfl, HMk, HOk, hbk, HKk, hsk⟩ := hrel
      have r8 : ∀ o, wr.cell? ⟨w.heap.size, o, none⟩ = (w.alloc (.cells #[.int .i64 ki, .int .i64 s, .int .i64 d, .int .i64 cl, .int .i64 op, .int .i64 ix, .int .i64 ke, .int .i64 vc, .int .i64 vs, .int .i64 va, .int .i64 fk, .int .i64 fc, .int .i64 fs, .slice (some a) ds.length c, .bool se] 28)).cell? ⟨w.heap.size, o, none⟩ := fun o => (World.cell?_of_block (HKk.out w.heap.size (by omega) (by omega))).trans (r7 o)
      clear r7 c79
      by_cases hlt : k < ds.length + 1
      · obtain ⟨cur, hh, hcs, hlo, h79, hdp⟩ := HMk.out
        have hcell : ∀ o, wr.cell? ⟨w.heap.size + 1, o, none⟩ = cur[o]? := fun o => cell_of_row _ _ _ _ _ _ hh
        have fz : ∀ o, wr.frozen? ⟨w.heap.size + 1, o, none⟩ = false := fun o => frozen_of_blk hh
        have hX : ∀ b, b ≠ w.heap.size + 1 → (((wr.setCell ⟨w.heap.size + 1, k * 3, none⟩ (.int .i64 (-8))).setCell ⟨w.heap.size + 1, k * 3 + 1, none⟩ (.int .i64 0)).setCell ⟨w.heap.size + 1, k * 3 + 2, none⟩ (.int .i64 0)).heap[b]? = wr.heap[b]? := fun b hb => by rw [Below.heap_setCell _ _ _ _ hb, Below.heap_setCell _ _ _ _ hb, Below.heap_setCell _ _ _ _ hb]
        have HM' : Hid (Mid (((wr.setCell ⟨w.heap.size + 1, k * 3, none⟩ (.int .i64 (-8))).setCell ⟨w.heap.size + 1, k * 3 + 1, none⟩ (.int .i64 0)).setCell ⟨w.heap.size + 1, k * 3 + 2, none⟩ (.int .i64 0)) (w.heap.size + 1) ds (k + 1)) := HMk.out.step hlt
        have HO' : Hid ((((wr.setCell ⟨w.heap.size + 1, k * 3, none⟩ (.int .i64 (-8))).setCell ⟨w.heap.size + 1, k * 3 + 1, none⟩ (.int .i64 0)).setCell ⟨w.heap.size + 1, k * 3 + 2, none⟩ (.int .i64 0)).ownsRow (w3.heap.size + 1) 5 1 (.slice aov 0 cpv) 0 (bytesV [])) := ownsRow_on HOk.out (fun b cur' hh' => hX b (by rintro rfl; rw [hh] at hh'; simp at hh'))
        have HB' : Hid (Below w.heap.size w (((wr.setCell ⟨w.heap.size + 1, k * 3, none⟩ (.int .i64 (-8))).setCell ⟨w.heap.size + 1, k * 3 + 1, none⟩ (.int .i64 0)).setCell ⟨w.heap.size + 1, k * 3 + 2, none⟩ (.int .i64 0))) := ((hbk.setCell (by simp) _).setCell (by simp) _).setCell (by simp) _
        have HK' : Hid (∀ b, b < w6.heap.size → b ≠ w.heap.size + 1 → (((wr.setCell ⟨w.heap.size + 1, k * 3, none⟩ (.int .i64 (-8))).setCell ⟨w.heap.size + 1, k * 3 + 1, none⟩ (.int .i64 0)).setCell ⟨w.heap.size + 1, k * 3 + 2, none⟩ (.int .i64 0)).heap[b]? = w6.heap[b]?) := fun b hb hne => (hX b hne).trans (HKk.out b hb hne)
        have HS' : Hid (w6.heap.size ≤ (((wr.setCell ⟨w.heap.size + 1, k * 3, none⟩ (.int .i64 (-8))).setCell ⟨w.heap.size + 1, k * 3 + 1, none⟩ (.int .i64 0)).setCell ⟨w.heap.size + 1, k * 3 + 2, none⟩ (.int .i64 0)).heap.size) := by show _ ≤ _; simp [World.setCell]; omega
        by_cases hkn : k = ds.length
        · obtain ⟨y0, z0⟩ : ∃ y, wr.cell? ⟨w.heap.size + 1, k * 3, none⟩ = some y := ⟨cur[k * 3]'(by omega), by rw [hcell]; simp [show k * 3 < cur.size by omega]⟩
          obtain ⟨y1, z1⟩ : ∃ y, wr.cell? ⟨w.heap.size + 1, k * 3 + 1, none⟩ = some y := ⟨cur[k * 3 + 1]'(by omega), by rw [hcell]; simp [show k * 3 + 1 < cur.size by omega]⟩
          obtain ⟨y2, z2⟩ : ∃ y, wr.cell? ⟨w.heap.size + 1, k * 3 + 2, none⟩ = some y := ⟨cur[k * 3 + 2]'(by omega), by rw [hcell]; simp [show k * 3 + 2 < cur.size by omega]⟩
          have hke : ((k : Int) == (ds.length : Int)) = true := by simp; omega
          have hke2 : (k == ds.length) = true := by simp; omega
          have hkl : k < ds.length + 1 := hlt
          clear hh hcs hlo h79 hdp hcell hX hkn
          go_wp2_with fail
          go_quiet (fail)
          go_wp2_with fail
          go_roundw
          case rel => exact ⟨k + 1, by omega, rfl, by go_num, HM'.out, HO'.out, below_drewN HB'.out _, HK'.out, HS'.out⟩
          case measure => simp [intOf]; omega
        · have hkl : k < ds.length := by omega
          obtain ⟨b, o, e, hbl, hc⟩ := hd (by omega)
          cases e
          have p1 : wr.cell? ⟨b, o + k * 3, none⟩ = some (.int .i64 (dKey ds k)) := (hbk.cell (by exact hbl)).trans (hc k hkl).1
          have p2 : wr.cell? ⟨b, o + k * 3 + 1, none⟩ = some (.int .i64 (dClk ds k)) := (hbk.cell (by exact hbl)).trans (hc k hkl).2.1
          have p3 : wr.cell? ⟨b, o + k * 3 + 2, none⟩ = some (.int .i64 (dSrv ds k)) := (hbk.cell (by exact hbl)).trans (hc k hkl).2.2
          have z0 : wr.cell? ⟨w.heap.size + 1, k * 3, none⟩ = some (.int .i64 (dKey ds k)) := by rw [hcell]; exact (hdp k (Nat.le_refl _) hkl).1
          have z1 : wr.cell? ⟨w.heap.size + 1, k * 3 + 1, none⟩ = some (.int .i64 (dClk ds k)) := by rw [hcell]; exact (hdp k (Nat.le_refl _) hkl).2.1
          have z2 : wr.cell? ⟨w.heap.size + 1, k * 3 + 2, none⟩ = some (.int .i64 (dSrv ds k)) := by rw [hcell]; exact (hdp k (Nat.le_refl _) hkl).2.2
          have he : eqD (dKey ds k) (dClk ds k) (dSrv ds k) (dKey ds k) (dClk ds k) (dSrv ds k) = true := by simp [eqD]
          have e25 := eql25
          have hke : ((k : Int) == (ds.length : Int)) = false := by simp; omega
          have hke2 : (k == ds.length) = false := by simp; omega
          have hk1 : (k : Int) < (ds.length : Int) := by omega
          have hk2 : (k : Int) < (ds.length : Int) + 1 := by omega
          have hk0 : (0 : Int) ≤ (k : Int) := by omega
          clear hh hcs hlo h79 hdp hcell hX hkn hc
          go_wp2_with fail
          go_quiet (fail)
          go_wp2_with fail
          go_roundw
          case rel => exact ⟨k + 1, by omega, rfl, by go_num, HM'.out, HO'.out, below_drewN HB'.out _, HK'.out, HS'.out⟩
          case measure => simp [intOf]; omega
      · have hk1 : k = ds.length + 1 := by omega
        subst hk1
        have hPE : PastE wr (.slice (some ⟨w.heap.size + 1, 0, none⟩) (ds.length + 1) (ds.length + 1)) := HMk.out.past hr
        have hLr : Law wr base B nb np nb w.heap.size 0 vb vp bs ps := hL.same (fun b hb => hbk.block b hb)
        have cB9 := hLr.own.c9
        go_wp2_with (at_builtin; refine wpList_append_lies _ rfl (.tmp 111) (.tmp 113) 34 rfl base 26 i26 (.slice none 0 0) 1 24 Tryd.underlying34 hi26 hz026 hz126 hz226 rfl (by decide) _ _ _ rfl (hLr.rp.alloc _) ⟨wr.heap.size, 0, none⟩ 1 1 [.slice (some ⟨w.heap.size + 1, 0, none⟩) (ds.length + 1) (ds.length + 1)] rfl rfl (cell_one_new _ _ _) (by intro u hu; simp at hu; subst hu; rfl) (by decide) (by unfold maxLen; omega) (by omega) (by have := hbk.size; simp; omega) (wr.heap.size + 1) (by simp) ?_; intro g9 cap9 w9 hown9 hgrow9 hat9 hlt9; have hblk9 := blk_of hLr.rp (by decide) hLr.blk hgrow9; have cB10 : w9.cell? ⟨B, 9, none⟩ = some vp := (by rw [cell_of_row _ _ _ _ _ _ hblk9]; rfl); have fB10 : w9.frozen? ⟨B, 9, none⟩ = false := frozen_of_blk hblk9; clear hblk9)
        have hL9 := hLr.addP hgrow9 hown9 hPE
        have hO9 := ownsRow_on HOk.out fun b cur hh => rest_of (j := 9) (u := .slice (some ⟨g9, 0, none⟩) (np + 1) cap9) hLr.rp ⟨_, hLr.blk⟩ hgrow9 b cur 5 hh (by decide) (by decide)
        have hs9 := hgrow9.size
        simp at hs9
        have hb9 : Below base w (w9.setCell ⟨B, 9, none⟩ (.slice (some ⟨g9, 0, none⟩) (np + 1) cap9)) := (((hbk.mono hbase).alloc (by have := hbk.size; omega) _).grown hgrow9 (by have := hbk.size; simp; omega) (fun k' h' => (hLr.rp.lt k' h').1)).setCell hL.hB _
        refine (keepBytes_any _ base B nb (np + 1) w.heap.size 0 _ _ (.slice aov 0 cpv) bs _ [] hL9 (own_base hO9 (by omega)) hbase (by have := hbk.size; simp [World.setCell]; omega) (by omega) (by omega) h4).mono ?_
        rintro e w10 ⟨rfl, ⟨vb', bs', hL10⟩, hb10⟩
        go_wp2
        go_ret
        exact ⟨rfl, ⟨vb', _, bs', _, hL10⟩, hb9.trans hb10⟩
  · go_upto_region 9 with (go_at_call 7; refine (encode_yes ⟨ki, s, d, cl, op, ix, ke, vc, vs, va, fk, fc, fs, some ⟨w.heap.size + 1, 0, none⟩, ds, ds.length + 1, se⟩ _ HD4.out hr HG4.out HF.out hm).mono ?_; rintro e w5 ⟨v, rfl, hown5, hb5⟩)
    simp only [World.size_alloc] at hown5
    have hz5 := hb5.size
    simp only [World.size_alloc] at hz5
    have hbw5 : Below (w.heap.size + 1) (w.alloc (.cells #[.int .i64 ki, .int .i64 s, .int .i64 d, .int .i64 cl, .int .i64 op, .int .i64 ix, .int .i64 ke, .int .i64 vc, .int .i64 vs, .int .i64 va, .int .i64 fk, .int .i64 fc, .int .i64 fs, .slice (some a) ds.length c, .bool se] 28)) w5 := hB4.trans (hb5.mono (by simp; omega))
    have r5 : ∀ o, w5.cell? ⟨w.heap.size, o, none⟩ = (w.alloc (.cells #[.int .i64 ki, .int .i64 s, .int .i64 d, .int .i64 cl, .int .i64 op, .int .i64 ix, .int .i64 ke, .int .i64 vc, .int .i64 vs, .int .i64 va, .int .i64 fk, .int .i64 fc, .int .i64 fs, .slice (some a) ds.length c, .bool se] 28)).cell? ⟨w.heap.size, o, none⟩ := fun o => hbw5.cell (by simp)
    have HD5 : Hid (DepsAt w5 (some a) ds) := (hd.below hB0 (Nat.le_refl _)).below hbw5 (by simp)
    have HM5 : Hid (Mid w5 (w.heap.size + 1) ds 0) := HM4.out.on (hb5.block _ (by simp; omega))
    clear hb5 HD4 HG4 HM4 HF r3
    go_upto_region 12 with (go_at_call 10; refine (rmsg_any ⟨ki, s, d, cl, op, ix, ke, vc, vs, va, fk, fc, fs, some a, ds, c, se⟩ _ HD5.out hr hg).mono ?_; rintro e w6 ⟨rfl, hb6⟩; have hz6 := hb6.size; have r6 : ∀ o, w6.cell? ⟨w.heap.size, o, none⟩ = (w.alloc (.cells #[.int .i64 ki, .int .i64 s, .int .i64 d, .int .i64 cl, .int .i64 op, .int .i64 ix, .int .i64 ke, .int .i64 vc, .int .i64 vs, .int .i64 va, .int .i64 fk, .int .i64 fc, .int .i64 fs, .slice (some a) ds.length c, .bool se] 28)).cell? ⟨w.heap.size, o, none⟩ := fun o => (hb6.cell (by show w.heap.size < w5.heap.size; omega)).trans (r5 o))
    have hown6 := ownsRow_below hown5 hb6
    have hbw6 : Below (w.heap.size + 1) (w.alloc (.cells #[.int .i64 ki, .int .i64 s, .int .i64 d, .int .i64 cl, .int .i64 op, .int .i64 ix, .int .i64 ke, .int .i64 vc, .int .i64 vs, .int .i64 va, .int .i64 fk, .int .i64 fc, .int .i64 fs, .slice (some a) ds.length c, .bool se] 28)) w6 := hbw5.trans (hb6.mono (by omega))
    have HD6 : Hid (DepsAt w6.drew (some a) ds) := (HD5.out.below hb6 (Nat.le_refl _)).below (Below.refl _ _).drew (Nat.le_refl _)
    have HM6 : Hid (Mid w6 (w.heap.size + 1) ds 0) := HM5.out.on (hb6.block _ (by omega))
    have hkd : isKindB ki = true := by have h := hm; unfold msgB at h; simp at h; exact h.1
    have hft : Fit ⟨ki, s, d, cl, op, ix, ke, vc, vs, va, fk, fc, fs, some a, ds, c, se⟩ := fit_of hg hm
    have HRB : Hid (∀ wz, DepsAt wz (some a) ds → Calls Tryd.prog 11 #[.agg #[.int .i64 ki, .int .i64 s, .int .i64 d, .int .i64 cl, .int .i64 op, .int .i64 ix, .int .i64 ke, .int .i64 vc, .int .i64 vs, .int .i64 va, .int .i64 fk, .int .i64 fc, .int .i64 fs, .slice (some a) ds.length c, .bool se]] wz fun e w' => e = .returned (.string (sB (msgBytes ⟨ki, s, d, cl, op, ix, ke, vc, vs, va, fk, fc, fs, some a, ds, c, se⟩))) ∧ Below wz.heap.size wz w') := fun wz h => by rw [← bytes_eq _ hkd]; exact rbytes_any ⟨ki, s, d, cl, op, ix, ke, vc, vs, va, fk, fc, fs, some a, ds, c, se⟩ wz h hft hkd
    have hcv6 : (convert 41 9 v).run Tryd.prog w6.drew = .ok (.string (sB (msgBytes ⟨ki, s, d, cl, op, ix, ke, vc, vs, va, fk, fc, fs, some a, ds, c, se⟩))) w6.drew := conv_row (w := w6.drew) hown6.drew (msgBytes_pos _)
    have HOW6 : Hid (w6.ownsRow (w3.heap.size + 1) 5 1 v (msgBytes ⟨ki, s, d, cl, op, ix, ke, vc, vs, va, fk, fc, fs, some a, ds, c, se⟩).length (bytesV (msgBytes ⟨ki, s, d, cl, op, ix, ke, vc, vs, va, fk, fc, fs, some a, ds, c, se⟩))) := hown6
    have hz6' : w.heap.size < w6.heap.size := by omega
    clear hown5 hown6 HD5 HM5 r5 hkd hft
    go_cut [10] (fun t10 wx => t10 = .bool true ∧ Below w6.heap.size w6 wx)
    case first =>
      go_region_with (go_at_call 11; refine (HRB.out _ (by exact HD6.out)).mono ?_; rintro e w7 ⟨rfl, hb7⟩; have hcv7 : (convert 41 9 v).run Tryd.prog w7 = .ok (.string (sB (msgBytes ⟨ki, s, d, cl, op, ix, ke, vc, vs, va, fk, fc, fs, some a, ds, c, se⟩))) w7 := conv_row (ownsRow_below (World.ownsRow.drew HOW6.out) hb7) (msgBytes_pos _))
      all_goals (go_wp2_with fail; go_meet; exact ⟨rfl, (Below.refl _ _).drew.trans (hb7.mono (by simp))⟩)
    case rest =>
    obtain ⟨rfl, hb7⟩ := hcut
    have hown7 : wc.ownsRow (w3.heap.size + 1) 5 1 v (msgBytes ⟨ki, s, d, cl, op, ix, ke, vc, vs, va, fk, fc, fs, some a, ds, c, se⟩).length (bytesV (msgBytes ⟨ki, s, d, cl, op, ix, ke, vc, vs, va, fk, fc, fs, some a, ds, c, se⟩)) := ownsRow_below HOW6.out hb7
    have hbw7 : Below (w.heap.size + 1) (w.alloc (.cells #[.int .i64 ki, .int .i64 s, .int .i64 d, .int .i64 cl, .int .i64 op, .int .i64 ix, .int .i64 ke, .int .i64 vc, .int .i64 vs, .int .i64 va, .int .i64 fk, .int .i64 fc, .int .i64 fs, .slice (some a) ds.length c, .bool se] 28)) wc := hbw6.trans (hb7.mono (by omega))
    have HM7 : Hid (Mid wc (w.heap.size + 1) ds 0) := HM6.out.on (hb7.block _ (by omega))
    have hz7 := hb7.size
    have hVL : (msgBytes ⟨ki, s, d, cl, op, ix, ke, vc, vs, va, fk, fc, fs, some a, ds, c, se⟩).length ≤ 400 := msgBytes_len _ (fit_of hg hm).six
    clear hcv6 HRB HD6 HM6 HOW6 r6 hb6 hb7
    have r7 : ∀ o, wc.cell? ⟨w.heap.size, o, none⟩ = (w.alloc (.cells #[.int .i64 ki, .int .i64 s, .int .i64 d, .int .i64 cl, .int .i64 op, .int .i64 ix, .int .i64 ke, .int .i64 vc, .int .i64 vs, .int .i64 va, .int .i64 fk, .int .i64 fc, .int .i64 fs, .slice (some a) ds.length c, .bool se] 28)).cell? ⟨w.heap.size, o, none⟩ := fun o => hbw7.cell (by simp)
    have c79 : wc.cell? ⟨w.heap.size + 1, ds.length * 3, none⟩ = some (.int .i64 79) := by obtain ⟨cur, hh, _, _, h3, _⟩ := HM7.out; rw [cell_of_row _ _ _ _ _ _ hh]; exact h3 (Nat.zero_le _)
    have HOW7 : Hid (wc.ownsRow (w3.heap.size + 1) 5 1 v (msgBytes ⟨ki, s, d, cl, op, ix, ke, vc, vs, va, fk, fc, fs, some a, ds, c, se⟩).length (bytesV (msgBytes ⟨ki, s, d, cl, op, ix, ke, vc, vs, va, fk, fc, fs, some a, ds, c, se⟩))) := hown7
    have hbx : Below w.heap.size w wc := hB0.trans (hbw7.mono (by omega))
    clear hown7
    go_wp2_with fail
    go_loopw [10, 11] (fun t10 t11 wr => ∃ k : Nat, k ≤ ds.length + 1 ∧ t10 = .bool true ∧ t11 = .int .i64 k ∧ Hid (Mid wr (w.heap.size + 1) ds k) ∧ Hid (wr.ownsRow (w3.heap.size + 1) 5 1 v (msgBytes ⟨ki, s, d, cl, op, ix, ke, vc, vs, va, fk, fc, fs, some a, ds, c, se⟩).length (bytesV (msgBytes ⟨ki, s, d, cl, op, ix, ke, vc, vs, va, fk, fc, fs, some a, ds, c, se⟩))) ∧ Below w.heap.size w wr ∧ Hid (∀ b, b < wc.heap.size → b ≠ w.heap.size + 1 → wr.heap[b]? = wc.heap[b]?) ∧ wc.heap.size ≤ wr.heap.size) (fun _ t11 _ => ds.length + 1 - (intOf t11).toNat)
    case atStart => exact ⟨0, Nat.zero_le _, rfl, rfl, HM7, HOW7, hbx, fun _ _ _ => rfl, Nat.le_refl _⟩
    case round =>
      obtain ⟨k, hk, rfl, rfl, HMk, HOk, hbk, HKk, hsk⟩ := hrel
      have r8 : ∀ o, wr.cell? ⟨w.heap.size, o, none⟩ = (w.alloc (.cells #[.int .i64 ki, .int .i64 s, .int .i64 d, .int .i64 cl, .int .i64 op, .int .i64 ix, .int .i64 ke, .int .i64 vc, .int .i64 vs, .int .i64 va, .int .i64 fk, .int .i64 fc, .int .i64 fs, .slice (some a) ds.length c, .bool se] 28)).cell? ⟨w.heap.size, o, none⟩ := fun o => (World.cell?_of_block (HKk.out w.heap.size (by omega) (by omega))).trans (r7 o)
      clear r7 c79
      by_cases hlt : k < ds.length + 1
      · obtain ⟨cur, hh, hcs, hlo, h79, hdp⟩ := HMk.out
        have hcell : ∀ o, wr.cell? ⟨w.heap.size + 1, o, none⟩ = cur[o]? := fun o => cell_of_row _ _ _ _ _ _ hh
        have fz : ∀ o, wr.frozen? ⟨w.heap.size + 1, o, none⟩ = false := fun o => frozen_of_blk hh
        have hX : ∀ b, b ≠ w.heap.size + 1 → (((wr.setCell ⟨w.heap.size + 1, k * 3, none⟩ (.int .i64 (-8))).setCell ⟨w.heap.size + 1, k * 3 + 1, none⟩ (.int .i64 0)).setCell ⟨w.heap.size + 1, k * 3 + 2, none⟩ (.int .i64 0)).heap[b]? = wr.heap[b]? := fun b hb => by rw [Below.heap_setCell _ _ _ _ hb, Below.heap_setCell _ _ _ _ hb, Below.heap_setCell _ _ _ _ hb]
        have HM' : Hid (Mid (((wr.setCell ⟨w.heap.size + 1, k * 3, none⟩ (.int .i64 (-8))).setCell ⟨w.heap.size + 1, k * 3 + 1, none⟩ (.int .i64 0)).setCell ⟨w.heap.size + 1, k * 3 + 2, none⟩ (.int .i64 0)) (w.heap.size + 1) ds (k + 1)) := HMk.out.step hlt
        have HO' : Hid ((((wr.setCell ⟨w.heap.size + 1, k * 3, none⟩ (.int .i64 (-8))).setCell ⟨w.heap.size + 1, k * 3 + 1, none⟩ (.int .i64 0)).setCell ⟨w.heap.size + 1, k * 3 + 2, none⟩ (.int .i64 0)).ownsRow (w3.heap.size + 1) 5 1 v (msgBytes ⟨ki, s, d, cl, op, ix, ke, vc, vs, va, fk, fc, fs, some a, ds, c, se⟩).length (bytesV (msgBytes ⟨ki, s, d, cl, op, ix, ke, vc, vs, va, fk, fc, fs, some a, ds, c, se⟩))) := ownsRow_on HOk.out (fun b cur' hh' => hX b (by rintro rfl; rw [hh] at hh'; simp at hh'))
        have HB' : Hid (Below w.heap.size w (((wr.setCell ⟨w.heap.size + 1, k * 3, none⟩ (.int .i64 (-8))).setCell ⟨w.heap.size + 1, k * 3 + 1, none⟩ (.int .i64 0)).setCell ⟨w.heap.size + 1, k * 3 + 2, none⟩ (.int .i64 0))) := ((hbk.setCell (by simp) _).setCell (by simp) _).setCell (by simp) _
        have HK' : Hid (∀ b, b < wc.heap.size → b ≠ w.heap.size + 1 → (((wr.setCell ⟨w.heap.size + 1, k * 3, none⟩ (.int .i64 (-8))).setCell ⟨w.heap.size + 1, k * 3 + 1, none⟩ (.int .i64 0)).setCell ⟨w.heap.size + 1, k * 3 + 2, none⟩ (.int .i64 0)).heap[b]? = wc.heap[b]?) := fun b hb hne => (hX b hne).trans (HKk.out b hb hne)
        have HS' : Hid (wc.heap.size ≤ (((wr.setCell ⟨w.heap.size + 1, k * 3, none⟩ (.int .i64 (-8))).setCell ⟨w.heap.size + 1, k * 3 + 1, none⟩ (.int .i64 0)).setCell ⟨w.heap.size + 1, k * 3 + 2, none⟩ (.int .i64 0)).heap.size) := by show _ ≤ _; simp [World.setCell]; omega
        by_cases hkn : k = ds.length
        · obtain ⟨y0, z0⟩ : ∃ y, wr.cell? ⟨w.heap.size + 1, k * 3, none⟩ = some y := ⟨cur[k * 3]'(by omega), by rw [hcell]; simp [show k * 3 < cur.size by omega]⟩
          obtain ⟨y1, z1⟩ : ∃ y, wr.cell? ⟨w.heap.size + 1, k * 3 + 1, none⟩ = some y := ⟨cur[k * 3 + 1]'(by omega), by rw [hcell]; simp [show k * 3 + 1 < cur.size by omega]⟩
          obtain ⟨y2, z2⟩ : ∃ y, wr.cell? ⟨w.heap.size + 1, k * 3 + 2, none⟩ = some y := ⟨cur[k * 3 + 2]'(by omega), by rw [hcell]; simp [show k * 3 + 2 < cur.size by omega]⟩
          have hke : ((k : Int) == (ds.length : Int)) = true := by simp; omega
          have hke2 : (k == ds.length) = true := by simp; omega
          have hkl : k < ds.length + 1 := hlt
          clear hh hcs hlo h79 hdp hcell hX hkn
          go_wp2_with fail
          go_quiet (fail)
          go_wp2_with fail
          go_roundw
          case rel => exact ⟨k + 1, by omega, rfl, by go_num, HM'.out, HO'.out, below_drewN HB'.out _, HK'.out, HS'.out⟩
          case measure => simp [intOf]; omega
        · have hkl : k < ds.length := by omega
          obtain ⟨b, o, e, hbl, hc⟩ := hd (by omega)
          cases e
          have p1 : wr.cell? ⟨b, o + k * 3, none⟩ = some (.int .i64 (dKey ds k)) := (hbk.cell (by exact hbl)).trans (hc k hkl).1
          have p2 : wr.cell? ⟨b, o + k * 3 + 1, none⟩ = some (.int .i64 (dClk ds k)) := (hbk.cell (by exact hbl)).trans (hc k hkl).2.1
          have p3 : wr.cell? ⟨b, o + k * 3 + 2, none⟩ = some (.int .i64 (dSrv ds k)) := (hbk.cell (by exact hbl)).trans (hc k hkl).2.2
          have z0 : wr.cell? ⟨w.heap.size + 1, k * 3, none⟩ = some (.int .i64 (dKey ds k)) := by rw [hcell]; exact (hdp k (Nat.le_refl _) hkl).1
          have z1 : wr.cell? ⟨w.heap.size + 1, k * 3 + 1, none⟩ = some (.int .i64 (dClk ds k)) := by rw [hcell]; exact (hdp k (Nat.le_refl _) hkl).2.1
          have z2 : wr.cell? ⟨w.heap.size + 1, k * 3 + 2, none⟩ = some (.int .i64 (dSrv ds k)) := by rw [hcell]; exact (hdp k (Nat.le_refl _) hkl).2.2
          have he : eqD (dKey ds k) (dClk ds k) (dSrv ds k) (dKey ds k) (dClk ds k) (dSrv ds k) = true := by simp [eqD]
          have e25 := eql25
          have hke : ((k : Int) == (ds.length : Int)) = false := by simp; omega
          have hke2 : (k == ds.length) = false := by simp; omega
          have hk1 : (k : Int) < (ds.length : Int) := by omega
          have hk2 : (k : Int) < (ds.length : Int) + 1 := by omega
          have hk0 : (0 : Int) ≤ (k : Int) := by omega
          clear hh hcs hlo h79 hdp hcell hX hkn hc
          go_wp2_with fail
          go_quiet (fail)
          go_wp2_with fail
          go_roundw
          case rel => exact ⟨k + 1, by omega, rfl, by go_num, HM'.out, HO'.out, below_drewN HB'.out _, HK'.out, HS'.out⟩
          case measure => simp [intOf]; omega
      · have hk1 : k = ds.length + 1 := by omega
        subst hk1
        have hPE : PastE wr (.slice (some ⟨w.heap.size + 1, 0, none⟩) (ds.length + 1) (ds.length + 1)) := HMk.out.past hr
        have hLr : Law wr base B nb np nb w.heap.size 0 vb vp bs ps := hL.same (fun b hb => hbk.block b hb)
        have cB9 := hLr.own.c9
        go_wp2_with (at_builtin; refine wpList_append_lies _ rfl (.tmp 111) (.tmp 113) 34 rfl base 26 i26 (.slice none 0 0) 1 24 Tryd.underlying34 hi26 hz026 hz126 hz226 rfl (by decide) _ _ _ rfl (hLr.rp.alloc _) ⟨wr.heap.size, 0, none⟩ 1 1 [.slice (some ⟨w.heap.size + 1, 0, none⟩) (ds.length + 1) (ds.length + 1)] rfl rfl (cell_one_new _ _ _) (by intro u hu; simp at hu; subst hu; rfl) (by decide) (by unfold maxLen; omega) (by omega) (by have := hbk.size; simp; omega) (wr.heap.size + 1) (by simp) ?_; intro g9 cap9 w9 hown9 hgrow9 hat9 hlt9; have hblk9 := blk_of hLr.rp (by decide) hLr.blk hgrow9; have cB10 : w9.cell? ⟨B, 9, none⟩ = some vp := (by rw [cell_of_row _ _ _ _ _ _ hblk9]; rfl); have fB10 : w9.frozen? ⟨B, 9, none⟩ = false := frozen_of_blk hblk9; clear hblk9)
        have hL9 := hLr.addP hgrow9 hown9 hPE
        have hO9 := ownsRow_on HOk.out fun b cur hh => rest_of (j := 9) (u := .slice (some ⟨g9, 0, none⟩) (np + 1) cap9) hLr.rp ⟨_, hLr.blk⟩ hgrow9 b cur 5 hh (by decide) (by decide)
        have hs9 := hgrow9.size
        simp at hs9
        have hb9 : Below base w (w9.setCell ⟨B, 9, none⟩ (.slice (some ⟨g9, 0, none⟩) (np + 1) cap9)) := (((hbk.mono hbase).alloc (by have := hbk.size; omega) _).grown hgrow9 (by have := hbk.size; simp; omega) (fun k' h' => (hLr.rp.lt k' h').1)).setCell hL.hB _
        refine (keepBytes_any _ base B nb (np + 1) w.heap.size (msgBytes ⟨ki, s, d, cl, op, ix, ke, vc, vs, va, fk, fc, fs, some a, ds, c, se⟩).length _ _ v bs _ (msgBytes ⟨ki, s, d, cl, op, ix, ke, vc, vs, va, fk, fc, fs, some a, ds, c, se⟩) hL9 (own_base hO9 (by omega)) hbase (by have := hbk.size; simp [World.setCell]; omega) (by omega) (by omega) h4).mono ?_
        rintro e w10 ⟨rfl, ⟨vb', bs', hL10⟩, hb10⟩
        go_wp2
        go_ret
        exact ⟨rfl, ⟨vb', _, bs', _, hL10⟩, hb9.trans hb10⟩
end Go.Proofs.YtdpnmpfkbeommaaDoor
