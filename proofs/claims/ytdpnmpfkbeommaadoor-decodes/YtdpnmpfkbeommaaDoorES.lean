/-
  decodes: Decode of whatever bytes is what the document answers; what went in and what came out is written over and kept.
-/
import Derived.Test.YtdpnmpfkbeommaaDoorER
import Derived.Deep.DeepCutAuto
namespace Go.Proofs.YtdpnmpfkbeommaaDoor
open Go.RowKit
set_option linter.unusedVariables false
set_option linter.unusedSimpArgs false

theorem Decoded.form {w w' : World} {r : Option Msg} {e : Ending} {m : Msg} {q : Bool} {k : Int} (h : Decoded w r e w') (hm : r.getD errMsg = m) (hq : r.isSome = q) (hk : (if q then 0 else 5) = k) : ∃ ao c, e = .returned (.tuple #[.agg #[.int .i64 m.kind, .int .i64 m.src, .int .i64 m.dst, .int .i64 m.clock, .int .i64 m.op, .int .i64 m.index, .int .i64 m.key, .int .i64 m.vc, .int .i64 m.vs, .int .i64 m.value, .int .i64 m.fk, .int .i64 m.fc, .int .i64 m.fs, (.slice ao m.past.length c), .bool m.settled], .int .i64 k]) ∧
    w'.ownsRow w.heap.size 25 3 (.slice ao m.past.length c) m.past.length (depCells m.past) ∧ w.grownBy w' none := by
  subst hm hq hk; exact h.all
theorem ReadIs.form {w w' : World} {r : Option Msg} {e : Ending} {m : Msg} {q : Bool} (h : ReadIs w r e w') (hm : r.getD errMsg = m) (hq : r.isSome = q) : ∃ ao c, e = .returned (.tuple #[.agg #[.int .i64 m.kind, .int .i64 m.src, .int .i64 m.dst, .int .i64 m.clock, .int .i64 m.op, .int .i64 m.index, .int .i64 m.key, .int .i64 m.vc, .int .i64 m.vs, .int .i64 m.value, .int .i64 m.fk, .int .i64 m.fc, .int .i64 m.fs, (.slice ao m.past.length c), .bool m.settled], .bool q]) ∧
    w'.ownsRow w.heap.size 25 3 (.slice ao m.past.length c) m.past.length (depCells m.past) ∧ w.grownBy w' none := by
  subst hm hq; exact h.all
theorem own_depsAt {w : World} {base n c : Nat} {ao : Option Addr} {ds : List (Int × Int × Int)} (h : w.ownsRow base 25 3 (.slice ao ds.length c) ds.length (depCells ds)) : DepsAt w ao ds := by
  obtain ⟨ao', c', e1, e2⟩ := own_deps h
  simp only [Value.slice.injEq] at e1
  obtain ⟨rfl, _, rfl⟩ := e1
  exact e2
theorem GTab.below {w w' : World} {B : Nat} (h : GTab w) (hb : Below B w w') (hB : 0 < B) : GTab w' :=
  ⟨Nat.lt_of_lt_of_le h.1 hb.size, fun i hi => (hb.cell (by exact hB)).trans (h.2 i hi)⟩
theorem grown_below {w w' : World} (h : w.grownBy w' none) : Below w.heap.size w w' := (Below.refl _ _).grown h (Nat.le_refl _) (by intro k h'; cases h')
theorem Cells.below {w w' : World} {g B : Nat} {cs : Array Value} (h : Cells w g cs) (hb : Below B w w') (hg : g < B) (hlt : g < w.heap.size) : Cells w' g cs := by
  have e := hb.block g hg
  refine ⟨fun o => ?_, fun o => ?_⟩
  · rw [World.cell?_of_block e]; exact h.1 o
  · have := h.2 o
    unfold World.frozen? at this ⊢
    simp only [e]
    exact this

set_option maxRecDepth 100000 in
set_option maxHeartbeats 8000000 in
theorem decodes_form (s : ByteArray) (w : World) (base B nb np : Nat) (vb vp : Value) (bs ps : List Value) (hL : LawD w base B nb np nb w.heap.size 0 vb vp bs ps) (hG : GTab w) (hsz : s.size ≤ 140737488351232) (hbase : base ≤ w.heap.size) (hnb : nb ≤ 90) (hnp : np ≤ 90) (h4 : nb % 4 = 0)
    (m : Msg) (hm : (pDec (bsOf s)).getD errMsg = m) (q : Bool) (hq : (pDec (bsOf s)).isSome = q) (k : Int) (hk : (if q then 0 else 5) = k) (hk2 : q = true ∧ k = 0 ∨ q = false ∧ k = 5) :
    Calls Tryd.prog 8 #[.pointer (some ⟨B, 0, none⟩), .string s] w fun e w' => e = .returned (.bool true) ∧ (∃ vb' vp' bs' ps', LawD w' base B (nb + 4) (np + 1) (nb + 4) w'.heap.size 0 vb' vp' bs' ps') ∧ Below base w w' := by
  obtain ⟨i0, hi, hz0, hz1, hz2⟩ := info_parts info5r
  obtain ⟨i41, hi41, hz041, hz141, hz241⟩ := info_parts info41r
  have HM : Hid ((pDec (bsOf s)).getD errMsg = m) := hm
  have HQ : Hid ((pDec (bsOf s)).isSome = q) := hq
  have HK : Hid ((if q then 0 else 5) = k) := hk
  have h6 : m.past.length ≤ 6 := by rw [← hm]; exact pDec_six (bsOf_256 s)
  clear hm hq hk
  have hw2 : IntKind.i64.wrap ((s.size : Int) + 2) = (s.size : Int) + 2 := by simp [IntKind.wrap, IntKind.bits, IntKind.signed]; omega
  have hw1 : IntKind.i64.wrap ((s.size : Int) + 1) = (s.size : Int) + 1 := by simp [IntKind.wrap, IntKind.bits, IntKind.signed]; omega
  have hBl := lt_of_heap hL.blk
  go_enter Tryd.func8, Tryd.ntmps8
  go_upto_region 2 with (at_make; (refine wpList_make_full _ rfl (.tmp 16) (.tmp 16) 41 rfl w.heap.size 5 i0 _ 1 Tryd.underlying41 hi hz0 hz1 .i64 .i64 _ _ (s.size + 2) rfl rfl (by omega) (by omega) (by rw [hz2]; omega) (by unfold maxLen; omega) (by simp) ?_); intro w1 hown hgrow)
  obtain ⟨w2, cur, hcp, hblk, hcsz, hbytes, hbel⟩ := strcopy_pack rfl hown hgrow
  have hcell : ∀ o, w2.cell? ⟨w.heap.size, o, none⟩ = cur[o]? := fun o => cell_of_row _ _ _ _ _ _ hblk
  obtain ⟨y0, hy0⟩ : ∃ y, w2.cell? ⟨w.heap.size, s.size, none⟩ = some y := ⟨cur[s.size]'(by omega), by rw [hcell]; simp [show s.size < cur.size by omega]⟩
  obtain ⟨y1, hy1⟩ : ∃ y, w2.cell? ⟨w.heap.size, s.size + 1, none⟩ = some y := ⟨cur[s.size + 1]'(by omega), by rw [hcell]; simp [show s.size + 1 < cur.size by omega]⟩
  have hfz : ∀ o, w2.frozen? ⟨w.heap.size, o, none⟩ = false := fun o => frozen_of_blk hblk
  have HBLK : Hid (w2.heap[w.heap.size]? = some (Obj.cells cur 5 (0, 0))) := hblk
  have HBY : Hid (∀ i, i < s.size → cur[i]? = some (.int .u8 (bAt (bsOf s) i))) := hbytes
  clear hown hgrow hblk hbytes hcell
  go_upto_region 5 with fail
  obtain ⟨w3, hw3⟩ : ∃ w3, w3 = (w2.setCell ⟨w.heap.size, s.size, none⟩ (.int .u8 252)).setCell ⟨w.heap.size, s.size + 1, none⟩ (.int .u8 253) := ⟨_, rfl⟩
  rw [← hw3]
  have HI3 : Hid (InMid w3 w.heap.size s 0) := by
    show InMid w3 w.heap.size s 0
    rw [hw3]
    refine ⟨_, heap_setCell_same _ _ _ _ _ _ (heap_setCell_same _ _ _ _ _ _ HBLK.out), by simp [hcsz], fun i hi => by omega, fun _ => ⟨fun i hi => ?_, ?_, ?_⟩⟩
    · rw [Array.getElem?_setIfInBounds, if_neg (by omega), Array.getElem?_setIfInBounds, if_neg (by omega)]
      exact HBY.out i hi
    · rw [Array.getElem?_setIfInBounds, if_neg (by omega), Array.getElem?_setIfInBounds, if_pos rfl, if_pos (by omega)]
    · rw [Array.getElem?_setIfInBounds, if_pos rfl, if_pos (by simp; omega)]
  have hb3 : Below w.heap.size w w3 := by
    rw [hw3]
    exact (hbel.setCell (by simp) _).setCell (by simp) _
  have hs3 : w.heap.size < w3.heap.size := HI3.out.lt
  have HG3 : Hid (GTab w3) := hG.below hb3 hG.1
  clear hw3 hy0 hy1 hfz HBLK HBY hcp hcsz hbel
  go_upto_region 6 with (go_at_call 9; refine (decode_any w.heap.size 0 s.size (s.size + 2) (some ⟨w.heap.size, 0, none⟩) (bsOf s) _ (bsOf_len s) HI3.out.bytes (bsOf_256 s) (fun _ => rfl) (by omega) hs3 HG3.out).mono ?_; rintro e w4 hD; obtain ⟨ao, c, rfl, hO4, hg4⟩ := hD.form HM.out HQ.out HK.out; clear hD)
  have hz4 := hg4.size
  have hb4 : Below w3.heap.size w3 w4 := grown_below hg4
  have hA4 := Cells.new w4 #[.int .i64 m.kind, .int .i64 m.src, .int .i64 m.dst, .int .i64 m.clock, .int .i64 m.op, .int .i64 m.index, .int .i64 m.key, .int .i64 m.vc, .int .i64 m.vs, .int .i64 m.value, .int .i64 m.fk, .int .i64 m.fc, .int .i64 m.fs, (.slice ao m.past.length c), .bool m.settled] 28
  go_upto_region 7 with (go_at_call 18; refine (sread_any s _ hsz).mono ?_; rintro e w5 hD; obtain ⟨bo, c2, rfl, hO5, hg5⟩ := hD.form HM.out HQ.out; clear hD)
  have hz5 := hg5.size
  simp only [World.size_alloc] at hz5 hO5
  have hA5 : Cells w5 w4.heap.size #[.int .i64 m.kind, .int .i64 m.src, .int .i64 m.dst, .int .i64 m.clock, .int .i64 m.op, .int .i64 m.index, .int .i64 m.key, .int .i64 m.vc, .int .i64 m.vs, .int .i64 m.value, .int .i64 m.fk, .int .i64 m.fc, .int .i64 m.fs, (.slice ao m.past.length c), .bool m.settled] := hA4.far (hg5.but (some (w4.heap.size + 1))) (by simp) (by omega)
  have hO45 : w5.ownsRow w3.heap.size 25 3 (.slice ao m.past.length c) m.past.length (depCells m.past) := ownsRow_far (hO4.alloc _) (hg5.but (some w.heap.size)) hs3
  have h45 : w4.heap.size < w5.heap.size := by omega
  have HDa : Hid (DepsAt (w5.alloc (.cells #[.int .i64 m.kind, .int .i64 m.src, .int .i64 m.dst, .int .i64 m.clock, .int .i64 m.op, .int .i64 m.index, .int .i64 m.key, .int .i64 m.vc, .int .i64 m.vs, .int .i64 m.value, .int .i64 m.fk, .int .i64 m.fc, .int .i64 m.fs, (.slice bo m.past.length c2), .bool m.settled] 28)) ao m.past) := own_depsAt (n := 0) (hO45.alloc _)
  have HDb : Hid (DepsAt (w5.alloc (.cells #[.int .i64 m.kind, .int .i64 m.src, .int .i64 m.dst, .int .i64 m.clock, .int .i64 m.op, .int .i64 m.index, .int .i64 m.key, .int .i64 m.vc, .int .i64 m.vs, .int .i64 m.value, .int .i64 m.fk, .int .i64 m.fc, .int .i64 m.fs, (.slice bo m.past.length c2), .bool m.settled] 28)) bo m.past) := own_depsAt (n := 0) (hO5.alloc _)
  have hac5 := hA5.1
  clear hO5
  rcases hk2 with ⟨rfl, rfl⟩ | ⟨rfl, rfl⟩
  · go_upto_region 11 with (go_at_call 19; refine (sameDeps_same ao bo m.past c c2 _ HDa.out HDb.out h6).mono ?_; rintro e w6 ⟨rfl, hb6⟩)
    have hz6 := hb6.size
    simp only [World.size_alloc] at hz6
    have hA6 : Cells w6 w4.heap.size #[.int .i64 m.kind, .int .i64 m.src, .int .i64 m.dst, .int .i64 m.clock, .int .i64 m.op, .int .i64 m.index, .int .i64 m.key, .int .i64 m.vc, .int .i64 m.vs, .int .i64 m.value, .int .i64 m.fk, .int .i64 m.fc, .int .i64 m.fs, (.slice ao m.past.length c), .bool m.settled] := (hA5.far (World.grownBy_alloc _ _ (some (w4.heap.size + 1))) h45 (by omega)).below hb6 (by simp; omega) (by simp; omega)
    have hB6 : Cells w6 w5.heap.size #[.int .i64 m.kind, .int .i64 m.src, .int .i64 m.dst, .int .i64 m.clock, .int .i64 m.op, .int .i64 m.index, .int .i64 m.key, .int .i64 m.vc, .int .i64 m.vs, .int .i64 m.value, .int .i64 m.fk, .int .i64 m.fc, .int .i64 m.fs, (.slice bo m.past.length c2), .bool m.settled] := (Cells.new w5 _ 28).below hb6 (by simp) (by simp)
    have hb06 : Below w.heap.size w w6 := (((hb3.trans (hb4.mono (by omega))).alloc (by omega) _).trans ((grown_below hg5).mono (by simp; omega)) |>.alloc (by omega) _).trans (hb6.mono (by simp; omega))
    have HI6 : Hid (InMid w6 w.heap.size s 0) := by
      refine HI3.out.on ?_
      rw [hb6.block w.heap.size (by simp; omega), Below.heap_alloc _ _ _ (by omega), (grown_below hg5).block w.heap.size (by simp; omega), Below.heap_alloc _ _ _ (by omega), hb4.block w.heap.size hs3]
    have HO6 : Hid (w6.ownsRow w3.heap.size 25 3 (.slice ao m.past.length c) m.past.length (depCells m.past)) := ownsRow_on (hO45.alloc _) (fun b cur hh => hb6.block b (lt_of_heap hh))
    have hgl6 : w.heap.size < w6.heap.size := by omega
    have h46 : w4.heap.size < w6.heap.size := by omega
    have hac := hA6.1
    have hbc := hB6.1
    have hlast := HI6.out.last
    have hl0 := hlast.1
    have hl1 := hlast.2
    have hcv := HI6.out.conv (c := s.size + 2)
    have e23 := eql23
    have e25 := eql25
    have hee : ∀ x y : Int, eqV x y x y = true := fun x y => by simp [eqV]
    have hee2 : ∀ k x y : Int, eqD k x y k x y = true := fun k x y => by simp [eqD]
    clear HDa HDb hac5 hA5 hg5 hb6 hO45 hO4 hg4 hb4 hA4 HI3 HG3 hb3 hlast
    go_upto_region 13 with fail
    clear hbc hl0 hl1 hcv e23 e25 hee hee2 hB6
    go_wp2_with fail
    go_loopw [13] (fun t13 wr => ∃ j : Nat, j ≤ s.size + 2 ∧ t13 = .int .i64 j ∧ Hid (InMid wr w.heap.size s j) ∧ Below w.heap.size w wr ∧ Hid (∀ b, b < w6.heap.size → b ≠ w.heap.size → wr.heap[b]? = w6.heap[b]?) ∧ w6.heap.size ≤ wr.heap.size) (fun t13 _ => s.size + 2 - (intOf t13).toNat)
    case atStart => exact ⟨0, Nat.zero_le _, rfl, HI6, hb06, fun _ _ _ => rfl, Nat.le_refl _⟩
    case round =>
      obtain ⟨j, hj, rfl, HIj, hbj, HKj, hsj⟩ := hrel
      clear hac
      by_cases hlt : j < s.size + 2
      · obtain ⟨y, hy⟩ := HIj.out.there j hlt
        have hfz := HIj.out.free j
        have hj1 : (j : Int) < (s.size : Int) + 2 := by omega
        have hj0 : (0 : Int) ≤ (j : Int) := by omega
        have HI' : Hid (InMid (wr.setCell ⟨w.heap.size, j, none⟩ (.int .u8 251)) w.heap.size s (j + 1)) := HIj.out.step hlt
        go_wp2_with fail
        go_roundw
        case rel => exact ⟨j + 1, by omega, by go_num, HI', hbj.setCell (by simp) _, fun b hb hne => by rw [Below.heap_setCell _ _ _ _ hne]; exact HKj.out b hb hne, by simp [World.setCell]; omega⟩
        case measure => simp [intOf]; omega
      · have hje : j = s.size + 2 := by omega
        subst hje
        have HT : Hid (TurnE wr (.slice (some ⟨w.heap.size, 0, none⟩) (s.size + 2) (s.size + 2))) := HIj.out.turn hsz
        have hLr : LawD wr base B nb np nb w.heap.size 0 vb vp bs ps := hL.same (fun b hb => hbj.block b hb)
        have cB : wr.cell? ⟨B, 8, none⟩ = some vp := hLr.own.c8
        have hne6 : ∀ (b : Nat) (cur : Array Value) (t : Nat), w6.heap[b]? = some (Obj.cells cur t (0, 0)) → t ≠ 5 → b ≠ w.heap.size := by
          rintro b cur t hh ht rfl
          obtain ⟨cur', hh', _⟩ := HI6.out
          rw [hh'] at hh; simp at hh; exact ht hh.2.symm
        have hOr : wr.ownsRow w3.heap.size 25 3 (.slice ao m.past.length c) m.past.length (depCells m.past) := ownsRow_on HO6.out (fun b cur hh => HKj.out b (lt_of_heap hh) (hne6 b cur 25 hh (by decide)))
        have hAr : Cells wr w4.heap.size #[.int .i64 m.kind, .int .i64 m.src, .int .i64 m.dst, .int .i64 m.clock, .int .i64 m.op, .int .i64 m.index, .int .i64 m.key, .int .i64 m.vc, .int .i64 m.vs, .int .i64 m.value, .int .i64 m.fk, .int .i64 m.fc, .int .i64 m.fs, (.slice ao m.past.length c), .bool m.settled] := by
          have e := HKj.out w4.heap.size h46 (by omega)
          refine ⟨fun o => by rw [World.cell?_of_block e]; exact hA6.1 o, fun o => ?_⟩
          have := hA6.2 o
          unfold World.frozen? at this ⊢
          simp only [e]
          exact this
        have hsr : base ≤ wr.heap.size := by omega
        have hBA : ¬ B = w4.heap.size := by omega
        have hBA' : ¬ w4.heap.size = B := by omega
        clear hne6
        go_upto_region 18 with (at_builtin; (refine wpList_append_lies _ rfl (.tmp 173) (.tmp 175) 31 rfl base 41 i41 (.slice none 0 0) 1 24 Tryd.underlying31 hi41 hz041 hz141 hz241 rfl (by decide) _ _ _ rfl (hLr.rp.alloc _) ⟨wr.heap.size, 0, none⟩ 1 1 [.slice (some ⟨w.heap.size, 0, none⟩) (s.size + 2) (s.size + 2)] rfl rfl (cell_one_new _ _ _) (by intro u hu; simp at hu; subst hu; rfl) (by decide) (by unfold maxLen; omega) (by omega) (by simp; omega) (wr.heap.size + 1) (by simp) ?_); intro g1 cap1 w7 hown7 hgrow7 hat7 hlt7; have hblk7 := blk_of hLr.rp (by decide) hLr.blk hgrow7; have cB7 : w7.cell? ⟨B, 8, none⟩ = some vp := (by rw [cell_of_row _ _ _ _ _ _ hblk7]; rfl); have fB7 : w7.frozen? ⟨B, 8, none⟩ = false := frozen_of_blk hblk7; clear hblk7)
        have HL8 := (show Hid _ from hLr.addT hgrow7 hown7 HT.out)
        have HO8 := (show Hid _ from ownsRow_on hOr fun b cur hh => rest_of (j := 8) (u := .slice (some ⟨g1, 0, none⟩) (np + 1) cap1) hLr.rp ⟨_, hLr.blk⟩ hgrow7 b cur 25 hh (by decide) (by decide))
        have HB8 : Hid (Below base w (w7.setCell ⟨B, 8, none⟩ (.slice (some ⟨g1, 0, none⟩) (np + 1) cap1))) := ((((hbj.mono hbase).alloc (by omega) _).grown hgrow7 (by simp; omega) (fun k' h' => ((hLr.rp.lt k' h').1))).setCell hL.hB _)
        have hA7 : Cells w7 w4.heap.size #[.int .i64 m.kind, .int .i64 m.src, .int .i64 m.dst, .int .i64 m.clock, .int .i64 m.op, .int .i64 m.index, .int .i64 m.key, .int .i64 m.vc, .int .i64 m.vs, .int .i64 m.value, .int .i64 m.fk, .int .i64 m.fc, .int .i64 m.fs, (.slice ao m.past.length c), .bool m.settled] := (hAr.far (World.grownBy_alloc _ _ (some (w4.heap.size + 1))) (by omega) (by omega)).keepRow hgrow7 (by simp; omega) (fun b hb => by have := (hL.rp.lt b hb).2; omega)
        have hs7 : wr.heap.size < w7.heap.size := by have := hgrow7.size; simp at this; omega
        have hac7 := hA7.1
        clear hA7 hAr hOr hLr cB
        go_wp2_with (go_at_call 20; refine (keepDeps_any _ base B nb (np + 1) w.heap.size m.past.length vb _ _ bs _ (depCells m.past) HL8.out (ownBase HO8.out (by omega)) hbase (by simp [World.setCell]; omega) (by omega) (by omega) h4).mono ?_; rintro e w9 ⟨rfl, ⟨vb', bs', hL9⟩, hb9⟩)
        go_ret
        exact ⟨rfl, ⟨vb', _, bs', _, hL9⟩, HB8.out.trans hb9⟩
  · go_upto_region 11 with (go_at_call 19; refine (sameDeps_same ao bo m.past c c2 _ HDa.out HDb.out h6).mono ?_; rintro e w6 ⟨rfl, hb6⟩)
    have hz6 := hb6.size
    simp only [World.size_alloc] at hz6
    have hA6 : Cells w6 w4.heap.size #[.int .i64 m.kind, .int .i64 m.src, .int .i64 m.dst, .int .i64 m.clock, .int .i64 m.op, .int .i64 m.index, .int .i64 m.key, .int .i64 m.vc, .int .i64 m.vs, .int .i64 m.value, .int .i64 m.fk, .int .i64 m.fc, .int .i64 m.fs, (.slice ao m.past.length c), .bool m.settled] := (hA5.far (World.grownBy_alloc _ _ (some (w4.heap.size + 1))) h45 (by omega)).below hb6 (by simp; omega) (by simp; omega)
    have hB6 : Cells w6 w5.heap.size #[.int .i64 m.kind, .int .i64 m.src, .int .i64 m.dst, .int .i64 m.clock, .int .i64 m.op, .int .i64 m.index, .int .i64 m.key, .int .i64 m.vc, .int .i64 m.vs, .int .i64 m.value, .int .i64 m.fk, .int .i64 m.fc, .int .i64 m.fs, (.slice bo m.past.length c2), .bool m.settled] := (Cells.new w5 _ 28).below hb6 (by simp) (by simp)
    have hb06 : Below w.heap.size w w6 := (((hb3.trans (hb4.mono (by omega))).alloc (by omega) _).trans ((grown_below hg5).mono (by simp; omega)) |>.alloc (by omega) _).trans (hb6.mono (by simp; omega))
    have HI6 : Hid (InMid w6 w.heap.size s 0) := by
      refine HI3.out.on ?_
      rw [hb6.block w.heap.size (by simp; omega), Below.heap_alloc _ _ _ (by omega), (grown_below hg5).block w.heap.size (by simp; omega), Below.heap_alloc _ _ _ (by omega), hb4.block w.heap.size hs3]
    have HO6 : Hid (w6.ownsRow w3.heap.size 25 3 (.slice ao m.past.length c) m.past.length (depCells m.past)) := ownsRow_on (hO45.alloc _) (fun b cur hh => hb6.block b (lt_of_heap hh))
    have hgl6 : w.heap.size < w6.heap.size := by omega
    have h46 : w4.heap.size < w6.heap.size := by omega
    have hac := hA6.1
    have hbc := hB6.1
    have hlast := HI6.out.last
    have hl0 := hlast.1
    have hl1 := hlast.2
    have hcv := HI6.out.conv (c := s.size + 2)
    have e23 := eql23
    have e25 := eql25
    have hee : ∀ x y : Int, eqV x y x y = true := fun x y => by simp [eqV]
    have hee2 : ∀ k x y : Int, eqD k x y k x y = true := fun k x y => by simp [eqD]
    clear HDa HDb hac5 hA5 hg5 hb6 hO45 hO4 hg4 hb4 hA4 HI3 HG3 hb3 hlast
    go_upto_region 13 with fail
    clear hbc hl0 hl1 hcv e23 e25 hee hee2 hB6
    go_wp2_with fail
    go_loopw [13] (fun t13 wr => ∃ j : Nat, j ≤ s.size + 2 ∧ t13 = .int .i64 j ∧ Hid (InMid wr w.heap.size s j) ∧ Below w.heap.size w wr ∧ Hid (∀ b, b < w6.heap.size → b ≠ w.heap.size → wr.heap[b]? = w6.heap[b]?) ∧ w6.heap.size ≤ wr.heap.size) (fun t13 _ => s.size + 2 - (intOf t13).toNat)
    case atStart => exact ⟨0, Nat.zero_le _, rfl, HI6, hb06, fun _ _ _ => rfl, Nat.le_refl _⟩
    case round =>
      obtain ⟨j, hj, rfl, HIj, hbj, HKj, hsj⟩ := hrel
      clear hac
      by_cases hlt : j < s.size + 2
      · obtain ⟨y, hy⟩ := HIj.out.there j hlt
        have hfz := HIj.out.free j
        have hj1 : (j : Int) < (s.size : Int) + 2 := by omega
        have hj0 : (0 : Int) ≤ (j : Int) := by omega
        have HI' : Hid (InMid (wr.setCell ⟨w.heap.size, j, none⟩ (.int .u8 251)) w.heap.size s (j + 1)) := HIj.out.step hlt
        go_wp2_with fail
        go_roundw
        case rel => exact ⟨j + 1, by omega, by go_num, HI', hbj.setCell (by simp) _, fun b hb hne => by rw [Below.heap_setCell _ _ _ _ hne]; exact HKj.out b hb hne, by simp [World.setCell]; omega⟩
        case measure => simp [intOf]; omega
      · have hje : j = s.size + 2 := by omega
        subst hje
        have HT : Hid (TurnE wr (.slice (some ⟨w.heap.size, 0, none⟩) (s.size + 2) (s.size + 2))) := HIj.out.turn hsz
        have hLr : LawD wr base B nb np nb w.heap.size 0 vb vp bs ps := hL.same (fun b hb => hbj.block b hb)
        have cB : wr.cell? ⟨B, 8, none⟩ = some vp := hLr.own.c8
        have hne6 : ∀ (b : Nat) (cur : Array Value) (t : Nat), w6.heap[b]? = some (Obj.cells cur t (0, 0)) → t ≠ 5 → b ≠ w.heap.size := by
          rintro b cur t hh ht rfl
          obtain ⟨cur', hh', _⟩ := HI6.out
          rw [hh'] at hh; simp at hh; exact ht hh.2.symm
        have hOr : wr.ownsRow w3.heap.size 25 3 (.slice ao m.past.length c) m.past.length (depCells m.past) := ownsRow_on HO6.out (fun b cur hh => HKj.out b (lt_of_heap hh) (hne6 b cur 25 hh (by decide)))
        have hAr : Cells wr w4.heap.size #[.int .i64 m.kind, .int .i64 m.src, .int .i64 m.dst, .int .i64 m.clock, .int .i64 m.op, .int .i64 m.index, .int .i64 m.key, .int .i64 m.vc, .int .i64 m.vs, .int .i64 m.value, .int .i64 m.fk, .int .i64 m.fc, .int .i64 m.fs, (.slice ao m.past.length c), .bool m.settled] := by
          have e := HKj.out w4.heap.size h46 (by omega)
          refine ⟨fun o => by rw [World.cell?_of_block e]; exact hA6.1 o, fun o => ?_⟩
          have := hA6.2 o
          unfold World.frozen? at this ⊢
          simp only [e]
          exact this
        have hsr : base ≤ wr.heap.size := by omega
        have hBA : ¬ B = w4.heap.size := by omega
        have hBA' : ¬ w4.heap.size = B := by omega
        clear hne6
        go_upto_region 18 with (at_builtin; (refine wpList_append_lies _ rfl (.tmp 173) (.tmp 175) 31 rfl base 41 i41 (.slice none 0 0) 1 24 Tryd.underlying31 hi41 hz041 hz141 hz241 rfl (by decide) _ _ _ rfl (hLr.rp.alloc _) ⟨wr.heap.size, 0, none⟩ 1 1 [.slice (some ⟨w.heap.size, 0, none⟩) (s.size + 2) (s.size + 2)] rfl rfl (cell_one_new _ _ _) (by intro u hu; simp at hu; subst hu; rfl) (by decide) (by unfold maxLen; omega) (by omega) (by simp; omega) (wr.heap.size + 1) (by simp) ?_); intro g1 cap1 w7 hown7 hgrow7 hat7 hlt7; have hblk7 := blk_of hLr.rp (by decide) hLr.blk hgrow7; have cB7 : w7.cell? ⟨B, 8, none⟩ = some vp := (by rw [cell_of_row _ _ _ _ _ _ hblk7]; rfl); have fB7 : w7.frozen? ⟨B, 8, none⟩ = false := frozen_of_blk hblk7; clear hblk7)
        have HL8 := (show Hid _ from hLr.addT hgrow7 hown7 HT.out)
        have HO8 := (show Hid _ from ownsRow_on hOr fun b cur hh => rest_of (j := 8) (u := .slice (some ⟨g1, 0, none⟩) (np + 1) cap1) hLr.rp ⟨_, hLr.blk⟩ hgrow7 b cur 25 hh (by decide) (by decide))
        have HB8 : Hid (Below base w (w7.setCell ⟨B, 8, none⟩ (.slice (some ⟨g1, 0, none⟩) (np + 1) cap1))) := ((((hbj.mono hbase).alloc (by omega) _).grown hgrow7 (by simp; omega) (fun k' h' => ((hLr.rp.lt k' h').1))).setCell hL.hB _)
        have hA7 : Cells w7 w4.heap.size #[.int .i64 m.kind, .int .i64 m.src, .int .i64 m.dst, .int .i64 m.clock, .int .i64 m.op, .int .i64 m.index, .int .i64 m.key, .int .i64 m.vc, .int .i64 m.vs, .int .i64 m.value, .int .i64 m.fk, .int .i64 m.fc, .int .i64 m.fs, (.slice ao m.past.length c), .bool m.settled] := (hAr.far (World.grownBy_alloc _ _ (some (w4.heap.size + 1))) (by omega) (by omega)).keepRow hgrow7 (by simp; omega) (fun b hb => by have := (hL.rp.lt b hb).2; omega)
        have hs7 : wr.heap.size < w7.heap.size := by have := hgrow7.size; simp at this; omega
        have hac7 := hA7.1
        clear hA7 hAr hOr hLr cB
        go_wp2_with (go_at_call 20; refine (keepDeps_any _ base B nb (np + 1) w.heap.size m.past.length vb _ _ bs _ (depCells m.past) HL8.out (ownBase HO8.out (by omega)) hbase (by simp [World.setCell]; omega) (by omega) (by omega) h4).mono ?_; rintro e w9 ⟨rfl, ⟨vb', bs', hL9⟩, hb9⟩)
        go_ret
        exact ⟨rfl, ⟨vb', _, bs', _, hL9⟩, HB8.out.trans hb9⟩

/-- decodes, of whatever bytes. -/
theorem decodes_any (s : ByteArray) (w : World) (base B nb np : Nat) (vb vp : Value) (bs ps : List Value) (hL : LawD w base B nb np nb w.heap.size 0 vb vp bs ps) (hG : GTab w) (hsz : s.size ≤ 140737488351232) (hbase : base ≤ w.heap.size) (hnb : nb ≤ 90) (hnp : np ≤ 90) (h4 : nb % 4 = 0) :
    Calls Tryd.prog 8 #[.pointer (some ⟨B, 0, none⟩), .string s] w fun e w' => e = .returned (.bool true) ∧ (∃ vb' vp' bs' ps', LawD w' base B (nb + 4) (np + 1) (nb + 4) w'.heap.size 0 vb' vp' bs' ps') ∧ Below base w w' := by
  cases hq : (pDec (bsOf s)).isSome
  · exact decodes_form s w base B nb np vb vp bs ps hL hG hsz hbase hnb hnp h4 _ rfl false hq 5 rfl (Or.inr ⟨rfl, rfl⟩)
  · exact decodes_form s w base B nb np vb vp bs ps hL hG hsz hbase hnb hnp h4 _ rfl true hq 0 rfl (Or.inl ⟨rfl, rfl⟩)

end Go.Proofs.YtdpnmpfkbeommaaDoor
