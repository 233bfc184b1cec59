/-
  keepDeps.
-/
import Derived.Test.YtdpnmpfkbeommaaDoorEO
import Derived.Test.YtdpnmpfkbeommaaDoorP
import Derived.Test.YtdpnmpfkbeommaaDoorDF
import Derived.Deep.DeepCutAuto
namespace Go.Proofs.YtdpnmpfkbeommaaDoor
open Go.RowKit
set_option linter.unusedVariables false
set_option linter.unusedSimpArgs false

def fillsD (n k : Nat) : List Value := (List.range (k * 3)).map (fillD n)
theorem fillsD_len (n k : Nat) : (fillsD n k).length = k * 3 := by simp [fillsD]
theorem fillsD_at (n k j : Nat) (h : j < k * 3) : (fillsD n k)[j]? = some (fillD n j) := by simp [fillsD, h]
theorem fill0 (n k : Nat) : fillD n (k * 3) = .int .i64 (-1 - (n : Int)) := by simp [fillD]
theorem fill1 (n k : Nat) : fillD n (k * 3 + 1) = .int .i64 0 := by unfold fillD; rw [if_neg (by omega)]
theorem fill2 (n k : Nat) : fillD n (k * 3 + 2) = .int .i64 0 := by unfold fillD; rw [if_neg (by omega)]
theorem fillsD_succ (n k : Nat) : fillsD n (k + 1) = fillsD n k ++ [.int .i64 (-1 - (n : Int)), .int .i64 0, .int .i64 0] := by
  unfold fillsD
  rw [show (k + 1) * 3 = k * 3 + 1 + 1 + 1 by omega, List.range_succ, List.range_succ, List.range_succ]
  simp [fill0, fill1, fill2]

theorem info26 : (Tryd.prog.info? 26).map (fun i => (i.zero, i.size, i.bytes)) = some (some (.slice none 0 0), 1, 24) := by kernel_rfl

/-- The list that is written over, half done: k places. -/
def halfD (n k : Nat) (xs : List Value) : List Value := fillsD n k ++ xs.drop (k * 3)
theorem halfD_zero (n : Nat) (xs : List Value) : halfD n 0 xs = xs := by simp [halfD, fillsD]
theorem halfD_get (n k : Nat) (xs : List Value) (i : Nat) : (halfD n k xs)[i]? = if i < k * 3 then some (fillD n i) else xs[i]? := by
  unfold halfD
  by_cases h : i < k * 3
  · rw [if_pos h, List.getElem?_append_left (by rw [fillsD_len]; exact h), fillsD_at n k i h]
  · rw [if_neg h, List.getElem?_append_right (by rw [fillsD_len]; omega), fillsD_len, List.getElem?_drop]
    congr 1; omega
theorem halfD_len (n k : Nat) (xs : List Value) (h : k * 3 ≤ xs.length) : (halfD n k xs).length = xs.length := by simp [halfD, fillsD_len]; omega
theorem halfD_set (n k : Nat) (xs : List Value) (h : (k + 1) * 3 ≤ xs.length) : (((halfD n k xs).set (k * 3) (.int .i64 (-1 - (n : Int)))).set (k * 3 + 1) (.int .i64 0)).set (k * 3 + 2) (.int .i64 0) = halfD n (k + 1) xs := by
  have hl := halfD_len n k xs (by omega)
  apply List.ext_getElem?
  intro i
  simp only [List.getElem?_set, List.length_set, hl]
  rw [halfD_get, halfD_get]
  by_cases e2 : k * 3 + 2 = i
  · subst e2; rw [if_pos rfl, if_pos (by omega), if_pos (by omega), fill2]
  rw [if_neg e2]
  by_cases e1 : k * 3 + 1 = i
  · subst e1; rw [if_pos rfl, if_pos (by omega), if_pos (by omega), fill1]
  rw [if_neg e1]
  by_cases e0 : k * 3 = i
  · subst e0; rw [if_pos rfl, if_pos (by omega), if_pos (by omega), fill0]
  rw [if_neg e0]
  by_cases hlt : i < k * 3
  · rw [if_pos hlt, if_pos (by omega)]
  · rw [if_neg hlt, if_neg (by omega)]
theorem halfD_full (n k : Nat) (xs : List Value) (h : xs.length = k * 3) : halfD n k xs = fillsD n k := by simp [halfD, ← h]

/-- An owned list that holds the fill is an entry. -/
theorem depE_of {w : World} {F n m : Nat} {v : Value} (h : w.ownsRow F 25 3 v m (fillsD n m)) (hm : m ≤ 2000) : DepE w n v := by
  rcases h.2 with ⟨rfl, rfl⟩ | ⟨g, cap, cur, rfl, hb, hh, hn, hc, hs, ht⟩
  · exact ⟨none, 0, 0, rfl, by omega, fun h => by omega⟩
  · refine ⟨_, m, cap, rfl, hm, fun _ => ⟨g, cur, rfl, hh, fun k hk => ?_⟩⟩
    have := fillsD_at n m k hk
    rw [← ht, List.getElem?_take] at this
    simp [hk] at this
    simpa using this

theorem new_three (w : World) (b : Nat) (hb : b = w.heap.size) (x y z : Value) (t : TypeId) : ∀ j u, [x, y, z][j]? = some u → (w.alloc (.cells #[x, y, z] t)).cell? ((⟨b, 0, none⟩ : Addr).add j) = some u := by
  subst hb; exact new3 w x y z t
theorem one3' (a b c : Int) : ∀ u ∈ [Value.int .i64 a, .int .i64 b, .int .i64 c], u.oneCell' = true := by
  intro u hu; simp at hu; rcases hu with rfl | rfl | rfl <;> rfl
theorem LawD.setM {w : World} {base B nb np n4 F M M' : Nat} {vb vp : Value} {bs ps : List Value} (h : LawD w base B nb np n4 F M vb vp bs ps) (hn : nb ≤ n4) : LawD w base B nb np n4 F M' vb vp bs ps :=
  ⟨h.blk, h.hB, h.rb, h.rp, fun i hi => by
    obtain ⟨v, h1, h2, h3, _⟩ := h.eb i hi
    exact ⟨v, h1, h2, h3, fun h' => by omega⟩, h.ep⟩
theorem LawD.mono {w : World} {base B nb np n4 F M M' : Nat} {vb vp : Value} {bs ps : List Value} (h : LawD w base B nb np n4 F M vb vp bs ps) (hM : M ≤ M') : LawD w base B nb np n4 F M' vb vp bs ps :=
  ⟨h.blk, h.hB, h.rb, h.rp, fun i hi => by
    obtain ⟨v, h1, h2, h3, h5⟩ := h.eb i hi
    exact ⟨v, h1, h2, h3, fun h' ao len cap e => Nat.le_trans (h5 h' ao len cap e) hM⟩, h.ep⟩
theorem LawD.close {w : World} {base B nb np n4 F M : Nat} {vb vp : Value} {bs ps : List Value} (h : LawD w base B nb np n4 F M vb vp bs ps) : LawD w base B nb np nb w.heap.size 0 vb vp bs ps :=
  ⟨h.blk, h.hB, h.rb, h.rp, fun i hi => by
    obtain ⟨v, h1, h2, h3, h5⟩ := h.eb i hi
    refine ⟨v, h1, h2, fun _ g len cap e h0 => ?_, fun h' => by omega⟩
    obtain ⟨ao, len', cap', e', _, hp⟩ := h2
    rw [e] at e'
    simp only [Value.slice.injEq] at e'
    obtain ⟨rfl, rfl, rfl⟩ := e'
    obtain ⟨g', cur, e2, hh, _⟩ := hp h0
    simp at e2; subst e2
    exact lt_of_heap hh, h.ep⟩
/-- A block of another list, or of none, is as it was. -/
theorem Cells.keepRow {w w' : World} {g : Nat} {row : Option Nat} {cs : Array Value} (h : Cells w g cs) (hg : w.grownBy w' row) (hlt : g < w.heap.size) (hne : ∀ b, row = some b → b ≠ g) : Cells w' g cs := by
  cases row with
  | none => exact h.far (hg.but (some (g + 1))) hlt (by omega)
  | some b => exact h.far hg hlt (fun e => hne b rfl e.symm)
theorem LawD.list {w : World} {base B nb np n4 F M : Nat} {vb vp : Value} {bs ps : List Value} (h : LawD w base B nb np n4 F M vb vp bs ps) {N : Nat} {c : Array Value} (hN : w.heap[N]? = some (Obj.cells c 25 (0, 0))) : ∀ b, vb.ownBlock = some b → b ≠ N := by
  rintro b hb rfl
  obtain ⟨cur, hc⟩ := own_elem h.rb hb
  rw [hc] at hN; simp at hN

/-- The block of the number that is written, and that it is the list's no more. -/
structure NAt (w : World) (N nb : Nat) (l : Value) : Prop where
  cs : Cells w N #[.int .i64 (-1 - (nb : Int)), .int .i64 0, .int .i64 0]
  hb : ∃ c, w.heap[N]? = some (Obj.cells c 25 (0, 0))
  ne : ∀ b, l.ownBlock = some b → b ≠ N
theorem NAt.lt {w : World} {N nb : Nat} {l : Value} (h : NAt w N nb l) : N < w.heap.size := by obtain ⟨c, hc⟩ := h.hb; exact lt_of_heap hc
theorem NAt.row {w w' : World} {N nb : Nat} {l : Value} {row : Option Nat} (h : NAt w N nb l) (hg : w.grownBy w' row) (hne : ∀ b, row = some b → b ≠ N) : NAt w' N nb l := by
  obtain ⟨c, hc⟩ := h.hb
  refine ⟨h.cs.keepRow hg h.lt hne, ⟨c, ?_⟩, h.ne⟩
  rw [hg.block N h.lt (by cases row with | none => simp | some b => simpa using (hne b rfl).symm)]
  exact hc
theorem NAt.alloc {w : World} {N nb : Nat} {l : Value} (h : NAt w N nb l) (o : Obj) : NAt (w.alloc o) N nb l := h.row (World.grownBy_alloc _ _ none) (by intro b hb; cases hb)
theorem NAt.set {w : World} {N nb g : Nat} {l : Value} (h : NAt w N nb l) (hg : g ≠ N) (i : Nat) (v : Value) : NAt (w.setCell ⟨g, i, none⟩ v) N nb l := h.row (Lib.grownBy_setCell w g i v) (by intro b hb; cases hb; exact hg)
theorem NAt.other {w : World} {N nb : Nat} {l l' : Value} (h : NAt w N nb l) (hne : ∀ b, l'.ownBlock = some b → b ≠ N) : NAt w N nb l' := ⟨h.cs, h.hb, hne⟩

set_option maxRecDepth 100000 in
set_option maxHeartbeats 4000000 in
theorem keepDeps_any (w : World) (base B nb np F n : Nat) (vb vp l : Value) (bs ps : List Value) (xs : List Value) (hL : LawD w base B nb np nb F 0 vb vp bs ps) (hl : w.ownsRow F 25 3 l n xs) (hF : base ≤ F) (hFs : F ≤ w.heap.size) (hn : n ≤ 1000) (hnb : nb ≤ 100) (h4 : nb % 4 = 0) :
    Calls Tryd.prog 20 #[.pointer (some ⟨B, 0, none⟩), l] w fun e w' => e = .returned (.tuple #[]) ∧ (∃ vb' bs', LawD w' base B (nb + 4) np (nb + 4) w'.heap.size 0 vb' vp bs' ps) ∧ Below base w w' := by
  obtain ⟨i0, hi, hz0, hz1, hz2⟩ := info_parts info25r
  obtain ⟨i1, hi1, hy0, hy1, hy2⟩ := info_parts info26
  have hxl : xs.length = n * 3 := hl.1
  have HXL : Hid (xs.length = n * 3) := hxl
  have hwx : IntKind.i64.wrap (-1 - (nb : Int)) = -1 - (nb : Int) := by simp [IntKind.wrap, IntKind.bits, IntKind.signed]; omega
  have hBl := lt_of_heap hL.blk
  have hBN : ¬ B = w.heap.size := by omega
  have hBN' : ¬ w.heap.size = B := by omega
  have hv1 : w.cell? ⟨B, 4, none⟩ = some vb := by rw [cell_of_row _ _ _ _ _ _ hL.blk]; rfl
  obtain ⟨aob, cpb, hvb⟩ : ∃ aob cpb, vb = .slice aob nb cpb := by
    rcases hL.rb.2 with ⟨h, h0⟩ | ⟨g, cap, cur, h, _⟩
    · exact ⟨none, 0, by rw [h, h0]⟩
    · exact ⟨_, cap, h⟩
  obtain ⟨aol, cpl, hvl⟩ : ∃ aol cpl, l = .slice aol n cpl := by
    rcases hl.2 with ⟨h, h0⟩ | ⟨g, cap, cur, h, _⟩
    · exact ⟨none, 0, by rw [h, h0]⟩
    · exact ⟨_, cap, h⟩
  rw [hvb] at hv1
  subst hvl
  have HN0 : Hid (NAt (w.alloc (.cells #[.int .i64 (-1 - (nb : Int)), .int .i64 0, .int .i64 0] 25)) w.heap.size nb (.slice aol n cpl)) := ⟨Cells.new _ _ _, ⟨_, heap_alloc_new w _⟩, fun b hb => by have := (hl.lt b hb).2; omega⟩
  clear hxl
  go_enter Tryd.func20, Tryd.ntmps20
  go_wp2_with fail
  go_loopw [5] (fun t5 wr => ∃ k : Nat, k ≤ n ∧ t5 = .int .i64 k ∧ wr.ownsRow F 25 3 (.slice aol n cpl) n (halfD nb k xs) ∧ LawD wr base B nb np nb F 0 vb vp bs ps ∧ Below base w wr ∧ w.heap.size ≤ wr.heap.size ∧ Hid (NAt wr w.heap.size nb (.slice aol n cpl))) (fun t5 _ => n - (intOf t5).toNat)
  case atStart => exact ⟨0, Nat.zero_le _, rfl, by rw [halfD_zero]; exact hl.alloc _, hL.same (fun b hb => Below.heap_alloc _ _ _ hb), (Below.refl _ _).alloc (by omega) _, by simp, HN0⟩
  case round =>
    clear HN0
    obtain ⟨k, hk, rfl, hlr, hLr, hbr, hsr, HN⟩ := hrel
    have hnc := HN.out.cs.1
    have hnf := HN.out.cs.2
    by_cases hlt : k < n
    · obtain ⟨g, cp, hform, hgF, hgl⟩ := hlr.form (by omega)
      simp only [Value.slice.injEq] at hform
      obtain ⟨rfl, _, rfl⟩ := hform
      have hx := HXL.out
      have hsome : ∀ j, j < k * 3 + 3 → k * 3 ≤ j → ∃ u, wr.cell? ⟨g, j, none⟩ = some u := by
        intro j hj hj'
        refine ⟨xs[j]'(by omega), ?_⟩
        rw [hlr.cellAt j (by omega), halfD_get, if_neg (by omega), List.getElem?_eq_getElem (by omega)]
      obtain ⟨u0, ck0⟩ := hsome (k * 3) (by omega) (by omega)
      obtain ⟨u1, ck1⟩ := hsome (k * 3 + 1) (by omega) (by omega)
      obtain ⟨u2, ck2⟩ := hsome (k * 3 + 2) (by omega) (by omega)
      clear hsome
      have fk := hlr.frozenAt
      have h1 := hlr.stored (k * 3) (.int .i64 (-1 - (nb : Int)))
      have h2 := h1.1.stored (k * 3 + 1) (.int .i64 0)
      have h3 := h2.1.stored (k * 3 + 2) (.int .i64 0)
      have hst := h3.1
      rw [halfD_set nb k xs (by omega)] at hst
      have HST := (show Hid _ from hst)
      have HGR := (show Hid _ from (h1.2.trans h2.2).trans h3.2)
      have hgN : g ≠ w.heap.size := HN.out.ne g rfl
      have hgN' : ¬ g = w.heap.size := hgN
      have hgN2 : ¬ w.heap.size = g := fun e => hgN e.symm
      clear hst h1 h2 h3 hx
      go_wp2_with fail
      go_roundw
      case rel =>
        refine ⟨k + 1, by omega, by go_num, HST.out, ?_, ?_, ?_, HN.out.row HGR.out (by intro b hb; cases hb; exact hgN)⟩
        · refine hLr.row25 (G := g) (fun b hb hne => HGR.out.block b hb (by simpa using hne)) (own_elem hlr rfl) hgF h4 (by omega) (fun h => by omega)
        · exact hbr.grown HGR.out (by have := hbr.size; omega) (by intro k' h'; cases h'; omega)
        · have := HGR.out.size; omega
      case measure => simp [intOf]; omega
    · have hkn : k = n := by omega
      subst hkn
      have hlr' : wr.ownsRow F 25 3 (.slice aol k cpl) k (fillsD nb k) := by
        have := hlr; rw [halfD_full nb k xs HXL.out] at this; exact this
      clear hlr hnc hnf
      go_wp2_with fail
      go_loopw [1, 6] (fun t1 t6 wr => ∃ (i : Nat) (vb2 : Value) (bs2 : List Value), i ≤ 4 ∧ t6 = .int .i64 i ∧ wr.ownsRow F 25 3 t1 (k + i) (fillsD nb (k + i)) ∧ LawD wr base B (nb + i) np nb F (k + i) vb2 vp bs2 ps ∧ Below base w wr ∧ F ≤ wr.heap.size ∧ Hid (NAt wr w.heap.size nb t1)) (fun _ t6 _ => 4 - (intOf t6).toNat)
      case atStart => exact ⟨0, vb, bs, by omega, rfl, hlr', hLr.setM (Nat.le_refl _), hbr, by omega, HN⟩
      case round =>
        clear hlr' hLr hbr hsr hv1 hvb HN
        obtain ⟨i, vb2, bs2, hi4, rfl, hl2, hL2, hb2, hF2, HN⟩ := hrel
        have cB : wr.cell? ⟨B, 4, none⟩ = some vb2 := by rw [cell_of_row _ _ _ _ _ _ hL2.blk]; rfl
        by_cases hlt : i < 4
        · rcases hl2.2 with ⟨rfl, hk0⟩ | ⟨g, cap, cur, rfl, hgF, hgh, hnc, hcm, hcs, hct⟩
          · have hold : (fillsD nb (k + i)).length = (k + i) * 3 := hl2.1
            have HK0 : Hid (k + i = 0) := hk0
            have hki : k + i ≤ 1004 := by omega
            clear hk0
            go_upto_region 9 with (first | (at_builtin; (refine wpList_append_lies _ rfl (.tmp 33) (.tmp 35) 34 rfl base 26 i1 (.slice none 0 0) 1 24 Tryd.underlying34 hi1 hy0 hy1 hy2 rfl (by decide) _ _ _ rfl (hL2.rb.alloc _) ⟨wr.heap.size, 0, none⟩ 1 1 [.slice none 0 0] rfl rfl (cell_one_new _ _ _) (by intro u hu; simp at hu; subst hu; rfl) (by decide) (by unfold maxLen; omega) (by omega) (by have := hb2.size; simp; omega) (wr.heap.size + 1) (by simp) ?_); intro g1 cap1 w1 hown1 hgrow1 hat1 hlt1; have hblk1 := blk_of hL2.rb (by decide) hL2.blk hgrow1; have cB1 : w1.cell? ⟨B, 4, none⟩ = some vb2 := (by rw [cell_of_row _ _ _ _ _ _ hblk1]; rfl); have fB1 : w1.frozen? ⟨B, 4, none⟩ = false := frozen_of_blk hblk1; clear hblk1; have hN1 : NAt w1 w.heap.size nb (.slice none 0 0) := ((HN.out.alloc _).row hgrow1 (by obtain ⟨c, hc⟩ := HN.out.hb; exact hL2.list hc)); have hnc1 := hN1.cs.1; have hnf1 := hN1.cs.2))
            have HL3 := (show Hid _ from hL2.addD hgrow1 hown1 h4 (by omega) (by omega) (depE_of hl2 (by omega)) (by intro ao len cap h; cases h; omega))
            have HO3 := (show Hid _ from ownsRow_on hl2 fun b cur hh => rest_of (j := 4) (u := .slice (some ⟨g1, 0, none⟩) (nb + i + 1) cap1) hL2.rb ⟨_, hL2.blk⟩ hgrow1 b cur 25 hh (by decide) (by decide))
            have HB3 : Hid (Below base w (w1.setCell ⟨B, 4, none⟩ (.slice (some ⟨g1, 0, none⟩) (nb + i + 1) cap1))) := ((hb2.alloc (by have := hb2.size; omega) _).grown hgrow1 (by have := hb2.size; simp; omega) (fun k' h' => ((hL2.rb.lt k' h').1))).setCell hL2.hB _
            have HN3 : Hid (NAt (w1.setCell ⟨B, 4, none⟩ (.slice (some ⟨g1, 0, none⟩) (nb + i + 1) cap1)) w.heap.size nb (.slice none 0 0)) := hN1.set hBN 4 _
            have hsz3 : wr.heap.size < w1.heap.size := by have := hgrow1.size; simp at this; omega
            go_wp2_with (first | (at_builtin; refine wpList_append_grows _ rfl (.tmp 39) (.tmp 41) 26 rfl 25 i0 (.agg #[.int .i64 0, .int .i64 0, .int .i64 0]) 3 24 Tryd.underlying26 hi hz0 hz1 hz2 rfl (by decide) none 0 0 [] rfl (fun _ => ⟨rfl, rfl⟩) rfl (by intro b h; cases h) ⟨w1.heap.size, 0, none⟩ 1 1 [.int .i64 (-1 - (nb : Int)), .int .i64 0, .int .i64 0] rfl rfl (new_three _ _ (by simp [World.setCell]) _ _ _ _) (one3' _ _ _) (by decide) (by decide) (by decide) ?_; intro v4 w4 hown4 hgrow4))
            go_wp2
            go_roundw
            case rel =>
              have hz4 := hgrow4.size
              simp at hz4
              have hbk : ∀ b, b < (w1.setCell ⟨B, 4, none⟩ (.slice (some ⟨g1, 0, none⟩) (nb + i + 1) cap1)).heap.size → w4.heap[b]? = (w1.setCell ⟨B, 4, none⟩ (.slice (some ⟨g1, 0, none⟩) (nb + i + 1) cap1)).heap[b]? := fun b hb => (hgrow4.block b (by simp at hb ⊢; omega) (by simp)).trans (Below.heap_alloc _ _ _ hb)
              refine ⟨i + 1, _, _, by omega, by go_num, ?_, (HL3.out.same hbk).mono (by omega), (HB3.out.alloc (by have := hb2.size; simp; omega) _).grown hgrow4 (by have := hb2.size; simp; omega) (by intro k' h'; cases h'), by omega, ?_⟩
              · have hkk := HK0.out
                obtain ⟨rfl, rfl⟩ : k = 0 ∧ i = 0 := by omega
                obtain ⟨a1, a2⟩ := hown4
                refine ⟨by simp [fillsD], ?_⟩
                rcases a2 with ⟨_, h⟩ | ⟨g5, c5, cur5, e5, hb5, r5⟩
                · omega
                · refine .inr ⟨g5, c5, cur5, e5, by simp at hb5; omega, ?_⟩
                  rw [fillsD_succ]
                  simpa [fillsD] using r5
              · refine ((HN3.out.alloc _).row hgrow4 (by intro b hb; cases hb)).other (fun b hb => ?_)
                have h5 := (hown4.lt b hb).1
                have h6 := HN3.out.lt
                simp at h5 h6
                omega
            case measure => simp [intOf]; omega
          · clear hcs hct hgh
            obtain ⟨q, hq⟩ : ∃ q, k + i = q := ⟨_, rfl⟩
            rw [hq] at hl2 hL2 hnc HN
            rw [hq]
            have hold : (fillsD nb q).length = q * 3 := hl2.1
            have hki : q ≤ 1004 := by omega
            have HQ : Hid (k + i = q) := hq
            clear hq
            by_cases hroom : q + 1 ≤ cap
            · have hge := own_elem hl2 rfl
              go_upto_region 9 with (first | (at_builtin; (refine wpList_append_lies _ rfl (.tmp 33) (.tmp 35) 34 rfl base 26 i1 (.slice none 0 0) 1 24 Tryd.underlying34 hi1 hy0 hy1 hy2 rfl (by decide) _ _ _ rfl (hL2.rb.alloc _) ⟨wr.heap.size, 0, none⟩ 1 1 [.slice (some ⟨g, 0, none⟩) q cap] rfl rfl (cell_one_new _ _ _) (by intro u hu; simp at hu; subst hu; rfl) (by decide) (by unfold maxLen; omega) (by omega) (by have := hb2.size; simp; omega) (wr.heap.size + 1) (by simp) ?_); intro g1 cap1 w1 hown1 hgrow1 hat1 hlt1; have hblk1 := blk_of hL2.rb (by decide) hL2.blk hgrow1; have cB1 : w1.cell? ⟨B, 4, none⟩ = some vb2 := (by rw [cell_of_row _ _ _ _ _ _ hblk1]; rfl); have fB1 : w1.frozen? ⟨B, 4, none⟩ = false := frozen_of_blk hblk1; clear hblk1; have hN1 : NAt w1 w.heap.size nb (.slice (some ⟨g, 0, none⟩) q cap) := ((HN.out.alloc _).row hgrow1 (by obtain ⟨c, hc⟩ := HN.out.hb; exact hL2.list hc)); have hnc1 := hN1.cs.1; have hnf1 := hN1.cs.2))
              have HL3 := (show Hid _ from hL2.addD hgrow1 hown1 h4 (by omega) (by omega) (depE_of hl2 (by omega)) (by intro ao len cap h; cases h; omega))
              have HO3 := (show Hid _ from ownsRow_on hl2 fun b cur hh => rest_of (j := 4) (u := .slice (some ⟨g1, 0, none⟩) (nb + i + 1) cap1) hL2.rb ⟨_, hL2.blk⟩ hgrow1 b cur 25 hh (by decide) (by decide))
              have HB3 : Hid (Below base w (w1.setCell ⟨B, 4, none⟩ (.slice (some ⟨g1, 0, none⟩) (nb + i + 1) cap1))) := ((hb2.alloc (by have := hb2.size; omega) _).grown hgrow1 (by have := hb2.size; simp; omega) (fun k' h' => ((hL2.rb.lt k' h').1))).setCell hL2.hB _
              have HN3 : Hid (NAt (w1.setCell ⟨B, 4, none⟩ (.slice (some ⟨g1, 0, none⟩) (nb + i + 1) cap1)) w.heap.size nb (.slice (some ⟨g, 0, none⟩) q cap)) := hN1.set hBN 4 _
              have hsz3 : wr.heap.size < w1.heap.size := by have := hgrow1.size; simp at this; omega
              go_wp2_with (first | (at_builtin; (refine wpList_append_fits _ rfl (.tmp 39) (.tmp 41) 26 rfl F 25 i0 3 Tryd.underlying26 hi hz1 g q cap (fillsD nb q) rfl (World.ownsRow.alloc HO3.out _) ⟨w1.heap.size, 0, none⟩ 1 1 [.int .i64 (-1 - (nb : Int)), .int .i64 0, .int .i64 0] rfl rfl (new_three _ _ (by simp [World.setCell]) _ _ _ _) (one3' _ _ _) (by omega) ?_); intro w4 hown4 hgrow4))
              go_wp2
              go_roundw
              case rel =>
                have hqq := HQ.out
                have e9 : k + (i + 1) = q + 1 := by omega
                have hz4 := hgrow4.size
                simp at hz4
                have hbk : ∀ b, b < (w1.setCell ⟨B, 4, none⟩ (.slice (some ⟨g1, 0, none⟩) (nb + i + 1) cap1)).heap.size → b ≠ g → w4.heap[b]? = (w1.setCell ⟨B, 4, none⟩ (.slice (some ⟨g1, 0, none⟩) (nb + i + 1) cap1)).heap[b]? := fun b hb hne => (hgrow4.block b (by simp at hb ⊢; omega) (by simpa using hne)).trans (Below.heap_alloc _ _ _ hb)
                have hown5 : w4.ownsRow F 25 3 (.slice (some ⟨g, 0, none⟩) (q + 1) cap) (q + 1) (fillsD nb (q + 1)) := by
                  rw [fillsD_succ]; exact hown4
                refine ⟨i + 1, _, _, by omega, by go_num, by rw [e9]; exact hown5, ((HL3.out.row25 (G := g) hbk (own_elem HO3.out rfl) hgF h4 (by omega) (fun _ => ?_)).mono (by omega)), (HB3.out.alloc (by have := hb2.size; simp; omega) _).grown hgrow4 (by have := hb2.size; simp; omega) (by intro k' h'; cases h'; omega), by omega, ?_⟩
                · rcases hown5.2 with ⟨h, _⟩ | ⟨g5, c5, cur5, e5, hb5, hh5, _, _, _, ht5⟩
                  · cases h
                  · simp only [Value.slice.injEq, Option.some.injEq, Addr.mk.injEq, and_true] at e5
                    obtain ⟨rfl, _⟩ := e5
                    refine ⟨cur5, hh5, fun k' hk' => ?_⟩
                    have := fillsD_at nb (q + 1) k' (by omega)
                    rw [← ht5, List.getElem?_take] at this
                    simp [show k' < (q + 1) * 3 by omega] at this
                    simpa using this
                · refine ((HN3.out.alloc _).row hgrow4 (by intro b hb; cases hb; exact HN3.out.ne g rfl)).other (fun b hb => ?_)
                  exact HN3.out.ne b hb
              case measure => simp [intOf]; omega
            · have hcapeq : cap < q + 1 := by omega
              go_upto_region 9 with (first | (at_builtin; (refine wpList_append_lies _ rfl (.tmp 33) (.tmp 35) 34 rfl base 26 i1 (.slice none 0 0) 1 24 Tryd.underlying34 hi1 hy0 hy1 hy2 rfl (by decide) _ _ _ rfl (hL2.rb.alloc _) ⟨wr.heap.size, 0, none⟩ 1 1 [.slice (some ⟨g, 0, none⟩) q cap] rfl rfl (cell_one_new _ _ _) (by intro u hu; simp at hu; subst hu; rfl) (by decide) (by unfold maxLen; omega) (by omega) (by have := hb2.size; simp; omega) (wr.heap.size + 1) (by simp) ?_); intro g1 cap1 w1 hown1 hgrow1 hat1 hlt1; have hblk1 := blk_of hL2.rb (by decide) hL2.blk hgrow1; have cB1 : w1.cell? ⟨B, 4, none⟩ = some vb2 := (by rw [cell_of_row _ _ _ _ _ _ hblk1]; rfl); have fB1 : w1.frozen? ⟨B, 4, none⟩ = false := frozen_of_blk hblk1; clear hblk1; have hN1 : NAt w1 w.heap.size nb (.slice (some ⟨g, 0, none⟩) q cap) := ((HN.out.alloc _).row hgrow1 (by obtain ⟨c, hc⟩ := HN.out.hb; exact hL2.list hc)); have hnc1 := hN1.cs.1; have hnf1 := hN1.cs.2))
              have HL3 := (show Hid _ from hL2.addD hgrow1 hown1 h4 (by omega) (by omega) (depE_of hl2 (by omega)) (by intro ao len cap h; cases h; omega))
              have HO3 := (show Hid _ from ownsRow_on hl2 fun b cur hh => rest_of (j := 4) (u := .slice (some ⟨g1, 0, none⟩) (nb + i + 1) cap1) hL2.rb ⟨_, hL2.blk⟩ hgrow1 b cur 25 hh (by decide) (by decide))
              have HB3 : Hid (Below base w (w1.setCell ⟨B, 4, none⟩ (.slice (some ⟨g1, 0, none⟩) (nb + i + 1) cap1))) := ((hb2.alloc (by have := hb2.size; omega) _).grown hgrow1 (by have := hb2.size; simp; omega) (fun k' h' => ((hL2.rb.lt k' h').1))).setCell hL2.hB _
              have HN3 : Hid (NAt (w1.setCell ⟨B, 4, none⟩ (.slice (some ⟨g1, 0, none⟩) (nb + i + 1) cap1)) w.heap.size nb (.slice (some ⟨g, 0, none⟩) q cap)) := hN1.set hBN 4 _
              have hsz3 : wr.heap.size < w1.heap.size := by have := hgrow1.size; simp at this; omega
              go_wp2_with (first | (at_builtin; (refine wpList_append_grows _ rfl (.tmp 39) (.tmp 41) 26 rfl 25 i0 (.agg #[.int .i64 0, .int .i64 0, .int .i64 0]) 3 24 Tryd.underlying26 hi hz0 hz1 hz2 rfl (by decide) (some ⟨g, 0, none⟩) q cap (fillsD nb q) rfl (by intro h; cases h) hold (by intro b h; cases h; exact World.ownsRow.cells (World.ownsRow.alloc HO3.out _) rfl) ⟨w1.heap.size, 0, none⟩ 1 1 [.int .i64 (-1 - (nb : Int)), .int .i64 0, .int .i64 0] rfl rfl (new_three _ _ (by simp [World.setCell]) _ _ _ _) (one3' _ _ _) (by omega) (by unfold maxLen; omega) (by omega) ?_); intro v4 w4 hown4 hgrow4))
              go_wp2
              go_roundw
              case rel =>
                have hqq := HQ.out
                have e9 : k + (i + 1) = q + 1 := by omega
                have hz4 := hgrow4.size
                simp at hz4
                have hbk : ∀ b, b < (w1.setCell ⟨B, 4, none⟩ (.slice (some ⟨g1, 0, none⟩) (nb + i + 1) cap1)).heap.size → w4.heap[b]? = (w1.setCell ⟨B, 4, none⟩ (.slice (some ⟨g1, 0, none⟩) (nb + i + 1) cap1)).heap[b]? := fun b hb => (hgrow4.block b (by simp at hb ⊢; omega) (by simp)).trans (Below.heap_alloc _ _ _ hb)
                have hown6 : w4.ownsRow F 25 3 v4 (q + 1) (fillsD nb (q + 1)) := by
                  obtain ⟨a1, a2⟩ := hown4
                  rw [← fillsD_succ] at a1 a2
                  refine ⟨a1, ?_⟩
                  rcases a2 with ⟨_, h⟩ | ⟨g5, c5, cur5, e5, hb5, r5⟩
                  · omega
                  · exact .inr ⟨g5, c5, cur5, e5, by simp at hb5; omega, r5⟩
                refine ⟨i + 1, _, _, by omega, by go_num, by rw [e9]; exact hown6, (HL3.out.same hbk).mono (by omega), (HB3.out.alloc (by have := hb2.size; simp; omega) _).grown hgrow4 (by have := hb2.size; simp; omega) (by intro k' h'; cases h'), by omega, ?_⟩
                refine ((HN3.out.alloc _).row hgrow4 (by intro b hb; cases hb)).other (fun b hb => ?_)
                have h5 := (hown4.lt b hb).1
                have h6 := HN3.out.lt
                simp at h5 h6
                omega
              case measure => simp [intOf]; omega
        · go_wp2
          go_end0
          refine ⟨rfl, ⟨vb2, bs2, ?_⟩, hb2⟩
          obtain rfl : i = 4 := by omega
          exact hL2.close
end Go.Proofs.YtdpnmpfkbeommaaDoor
