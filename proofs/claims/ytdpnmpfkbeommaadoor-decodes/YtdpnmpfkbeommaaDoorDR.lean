/-
  The reference's reader: a number of 64 bits.
-/
import Derived.Test.YtdpnmpfkbeommaaDoorDF
namespace Go.Proofs.YtdpnmpfkbeommaaDoor
open Go.RowKit

def bsOf (s : ByteArray) : List Int := s.data.toList.map fun x => (x.toNat : Int)
theorem bsOf_len (s : ByteArray) : (bsOf s).length = s.size := by simp [bsOf]
theorem bsOf_at (s : ByteArray) (k : Nat) (h : k < s.size) : ((s[k].toNat : Nat) : Int) = bAt (bsOf s) k := by
  unfold bAt bsOf
  have h' : k < s.data.toList.length := by simpa using h
  simp [List.getD, List.getElem?_eq_getElem h']
  rfl
theorem bsOf_256 (s : ByteArray) : Bytes256 (bsOf s) := by
  intro i
  unfold bAt bsOf
  by_cases h : i < s.data.toList.length
  · simp [List.getD, List.getElem?_eq_getElem h]
    have := (s.data.toList[i]'h).toNat_lt
    simp at this
    omega
  · simp [List.getD, List.getElem?_eq_none (Nat.le_of_not_lt h)]

def sl (bs : List Int) : Nat → Nat → Nat → Nat → Nat × Nat × Bool
  | 0, k, _, _ => (0, k, true)
  | f + 1, k, i, v =>
    if k < bs.length then
      if i = 9 ∧ 1 < bAt bs k then (0, k + 1, true)
      else if bAt bs k < 128 then (v + (bAt bs k).toNat % 128 * 128 ^ i, k + 1, decide (bAt bs k = 0) && decide (0 < i))
      else sl bs f (k + 1) (i + 1) (v + (bAt bs k).toNat % 128 * 128 ^ i)
    else (0, k, true)

theorem sl_pVar {bs : List Int} (hB : Bytes256 bs) : ∀ f k i v, pVar bs f k i v = if (sl bs f k i v).2.2 = true then none else some ((sl bs f k i v).1, (sl bs f k i v).2.1)
  | 0, k, i, v => by simp [sl, pVar]
  | f + 1, k, i, v => by
    rw [sl, pVar]
    by_cases h1 : k < bs.length
    · rw [if_pos h1, if_pos h1]
      by_cases h2 : i = 9 ∧ 1 < bAt bs k
      · rw [if_pos h2, if_pos (Or.inr h2)]; rfl
      · rw [if_neg h2]
        have hb := hB k
        by_cases h3 : bAt bs k < 128
        · rw [if_pos h3, if_pos h3]
          by_cases h4 : bAt bs k = 0 ∧ 0 < i
          · rw [if_pos (Or.inl h4)]; simp [h4]
          · rw [if_neg (by rintro (h | h); exact h4 h; exact h2 h)]
            have : (decide (bAt bs k = 0) && decide (0 < i)) = false := by simpa using h4
            simp [this]
        · rw [if_neg h3, if_neg h3, if_neg (by rintro (h | h); omega; exact h2 h)]
          exact sl_pVar hB f _ _ _
    · rw [if_neg h1, if_neg h1]; rfl

theorem sl_le {bs : List Int} : ∀ f k i v, k ≤ bs.length → k ≤ (sl bs f k i v).2.1 ∧ (sl bs f k i v).2.1 ≤ bs.length
  | 0, k, i, v, h => ⟨Nat.le_refl _, h⟩
  | f + 1, k, i, v, h => by
    rw [sl]
    by_cases h1 : k < bs.length
    · rw [if_pos h1]
      split
      · exact ⟨Nat.le_succ _, h1⟩
      · split
        · exact ⟨Nat.le_succ _, h1⟩
        · have := sl_le f (k + 1) (i + 1) (v + (bAt bs k).toNat % 128 * 128 ^ i) h1
          exact ⟨by omega, this.2⟩
    · rw [if_neg h1]; exact ⟨Nat.le_refl _, h⟩

theorem drewN_grown {w w' : World} {row : Option Nat} (h : w.grownBy w' row) : ∀ n, w.grownBy (w'.drewN n) row
  | _ => ⟨h.os, h.tape, h.output, h.size, h.block⟩
theorem Cells.drewN {w : World} {g : Nat} {cs : Array Value} (h : Cells w g cs) : ∀ n, Cells (w.drewN n) g cs := by
  intro n
  refine ⟨fun o => ?_, fun o => ?_⟩
  · simpa [go_sem] using h.1 o
  · simpa [go_sem] using h.2 o

theorem addStep {v i x : Nat} (h : v + x % 128 * 128 ^ i < 18446744073709551616) : IntKind.u64.wrap ((v : Int) + IntKind.u64.wrap ((x : Int) % 128 * 128 ^ i)) = ((v + x % 128 * 128 ^ i : Nat) : Int) := by
  obtain ⟨y, hy⟩ : ∃ y, x % 128 * 128 ^ i = y := ⟨_, rfl⟩
  have e : ((x : Int) % 128 * 128 ^ i) = (y : Int) := by rw [← hy]; push_cast; rfl
  rw [hy] at h
  rw [e, IntKind.wrap_u64, IntKind.wrap_u64, hy]
  omega
theorem longFin {w wr : World} {R q : Nat} {s : ByteArray} {bad : Bool} (hC : Cells wr R #[.string s, .int .i64 q, .bool bad]) (hg : w.grownBy wr (some R)) (n : Nat) (t : Bool) :
    Cells (((wr.drewN n).setCell ⟨R, 1, none⟩ (.int .i64 ((q : Int) + 1))).setCell ⟨R, 2, none⟩ (.bool t)) R #[.string s, .int .i64 ((q + 1 : Nat) : Int), .bool t] ∧
      w.grownBy (((wr.drewN n).setCell ⟨R, 1, none⟩ (.int .i64 ((q : Int) + 1))).setCell ⟨R, 2, none⟩ (.bool t)) (some R) := by
  refine ⟨?_, ((drewN_grown hg n).trans (Lib.grownBy_setCell _ _ _ _)).trans (Lib.grownBy_setCell _ _ _ _)⟩
  simpa using ((hC.drewN n).set 1 (.int .i64 ((q : Int) + 1)) (by simp)).set 2 (.bool t) (by simp)
theorem unitStep {i : Nat} (h : i ≤ 8) : IntKind.u64.wrap (128 ^ i * 128) = ((128 ^ (i + 1) : Nat) : Int) := by
  have h1 : 128 ^ (i + 1) ≤ 128 ^ 9 := Nat.pow_le_pow_right (by decide) (by omega)
  have h2 : (128 : Nat) ^ 9 = 9223372036854775808 := by decide
  obtain ⟨y, hy⟩ : ∃ y, 128 ^ (i + 1) = y := ⟨_, rfl⟩
  have e : ((128 : Int) ^ i * 128) = (y : Int) := by rw [← hy, Nat.pow_succ]; push_cast; rfl
  rw [e, IntKind.wrap_u64, hy]
  omega
theorem ret64 {a b : Int} (h : a = b) : Ending.returned (.int .u64 a) = .returned (.int .u64 b) := by rw [h]

set_option maxRecDepth 100000 in
set_option maxHeartbeats 4000000 in
theorem slong_any (R a : Nat) (s : ByteArray) (bad : Bool) (w : World) (hC : Cells w R #[.string s, .int .i64 a, .bool bad]) (hle : a ≤ s.size) (hsz : s.size ≤ 140737488351232) :
    Calls Tryd.prog 50 #[.pointer (some ⟨R, 0, none⟩)] w fun e w' => e = .returned (.int .u64 (sl (bsOf s) 10 a 0 0).1) ∧ Cells w' R #[.string s, .int .i64 (sl (bsOf s) 10 a 0 0).2.1, .bool (bad || (sl (bsOf s) 10 a 0 0).2.2)] ∧ w.grownBy w' (some R) := by
  go_enter Tryd.func50, Tryd.ntmps50
  go_wp2_with fail
  go_loopw [3, 4, 5] (fun t3 t4 t5 wr => ∃ (i v q : Nat), i ≤ 9 ∧ t3 = .int .u64 v ∧ t4 = .int .u64 ((128 ^ i : Nat) : Int) ∧ t5 = .int .i64 i ∧ Hid (v < 128 ^ i) ∧ q ≤ s.size ∧ Cells wr R #[.string s, .int .i64 q, .bool bad] ∧ Hid (sl (bsOf s) (10 - i) q i v = sl (bsOf s) 10 a 0 0) ∧ w.grownBy wr (some R)) (fun _ _ t5 _ => 10 - (intOf t5).toNat)
  case atStart => exact ⟨0, 0, a, by omega, rfl, rfl, rfl, (by show 0 < 1; omega), hle, hC, rfl, World.grownBy.refl _ _⟩
  case round =>
    obtain ⟨i, v, q, hi, rfl, rfl, rfl, hv, hq, hCr, hp, hg⟩ := hrel
    have hc := hCr.1
    have hf := hCr.2
    have hi' : (i : Int) < 10 := by omega
    by_cases hlt : q < s.size
    · have hq' : (q : Int) < (s.size : Int) := by omega
      have hq0 : (0 : Int) ≤ (q : Int) := by omega
      have hat := bsOf_at s q hlt
      obtain ⟨x, hx⟩ : ∃ x : Nat, s[q].toNat = x := ⟨_, rfl⟩
      have hx256 : x < 256 := by have := s[q].toNat_lt; simp at this; omega
      have hbx : bAt (bsOf s) q = (x : Int) := by rw [← hat, hx]
      clear hat
      by_cases h9 : i = 9 ∧ 1 < x
      · have hp0 : sl (bsOf s) 10 a 0 0 = (0, q + 1, true) := by
          rw [← hp.out, show 10 - i = (9 - i) + 1 by omega, sl, if_pos (by rw [bsOf_len]; exact hlt), if_pos (by rw [hbx]; omega)]
        have hp0' : Hid (sl (bsOf s) 10 a 0 0 = (0, q + 1, true)) := hp0
        obtain ⟨rfl, h9x⟩ := h9
        have h9x' : (1 : Int) < (x : Int) := by omega
        clear hp0
        go_wp2
        go_quiet (fail)
        go_wp2
        go_quiet (fail)
        go_wp2
        go_ret
        rw [hp0'.out]
        refine ⟨rfl, ?_⟩
        rw [show (bad || (0, q + 1, true).2.2) = true by simp]
        exact longFin hCr hg _ true
      · by_cases h128 : x < 128
        · have h128' : (x : Int) < 128 := by omega
          have ho := orStep (c := (x : Int)) hv.out (by omega) hi (by omega)
          rw [Int.toNat_natCast] at ho
          have HV : Hid (IntKind.u64.wrap ((v : Int) + IntKind.u64.wrap ((x : Int) % 128 * 128 ^ i)) = ((v + x % 128 * 128 ^ i : Nat) : Int)) := addStep ho.2.1
          have hp0 : Hid (sl (bsOf s) 10 a 0 0 = (v + x % 128 * 128 ^ i, q + 1, decide (x = 0) && decide (0 < i))) := by
            show sl (bsOf s) 10 a 0 0 = _
            rw [← hp.out, show 10 - i = (9 - i) + 1 by omega, sl, if_pos (by rw [bsOf_len]; exact hlt), hbx, if_neg (by omega), if_pos h128', Int.toNat_natCast]
            have e : decide ((x : Int) = 0) = decide (x = 0) := by by_cases e : x = 0 <;> simp [e]
            rw [e]
          clear ho
          go_wp2
          go_quiet (fail)
          go_wp2
          go_quiet (fail)
          go_wp2
          all_goals go_ret
          all_goals rw [hp0.out]
          all_goals (refine ⟨ret64 ?_, ?_⟩)
          all_goals first
            | exact HV.out
            | (have e : x = 0 := by assumption
               subst e
               simpa using HV.out)
            | (have e1 : bad = false := by simpa using (show ¬ bad = true by assumption)
               have e2 : x = 0 := by assumption
               rw [show (bad || (v + x % 128 * 128 ^ i, q + 1, decide (x = 0) && decide (0 < i)).2.2) = decide (0 < i) by simp [e1, e2]]
               exact longFin hCr hg _ (decide (0 < i)))
            | (rw [show (bad || (v + x % 128 * 128 ^ i, q + 1, decide (x = 0) && decide (0 < i)).2.2) = true by
                 simp only [Bool.or_eq_true, Bool.and_eq_true, decide_eq_true_eq]
                 first | exact Or.inl (by assumption) | exact Or.inr ⟨by omega, by omega⟩]
               exact longFin hCr hg _ true)
            | (rw [show (bad || (v + x % 128 * 128 ^ i, q + 1, decide (x = 0) && decide (0 < i)).2.2) = false by
                 rw [Bool.or_eq_false_iff]
                 refine ⟨by simpa using (show ¬ bad = true by assumption), ?_⟩
                 simp only [Bool.and_eq_false_iff, decide_eq_false_iff_not]
                 omega]
               exact longFin hCr hg _ false)
        · have h128' : ¬ (x : Int) < 128 := by omega
          have hi8 : i ≤ 8 := by omega
          have ho := orStep (c := (x : Int)) hv.out (by omega) hi (by omega)
          rw [Int.toNat_natCast] at ho
          have HV : Hid (IntKind.u64.wrap ((v : Int) + IntKind.u64.wrap ((x : Int) % 128 * 128 ^ i)) = ((v + x % 128 * 128 ^ i : Nat) : Int)) := addStep ho.2.1
          have HO : Hid (v + x % 128 * 128 ^ i < 128 ^ (i + 1)) := ho.2.2
          have hp0 : Hid (sl (bsOf s) (10 - (i + 1)) (q + 1) (i + 1) (v + x % 128 * 128 ^ i) = sl (bsOf s) 10 a 0 0) := by
            show _ = _
            rw [← hp.out, show 10 - i = (10 - (i + 1)) + 1 by omega, sl, if_pos (by rw [bsOf_len]; exact hlt), hbx, if_neg (by omega), if_neg h128', Int.toNat_natCast]
          clear ho
          go_wp2
          go_quiet (fail)
          go_wp2
          go_quiet (fail)
          go_wp2
          refine ⟨⟨i + 1, v + x % 128 * 128 ^ i, q + 1, by omega, by rw [HV.out], by rw [unitStep hi8], by congr 1, HO, by omega, ?_, hp0, (drewN_grown hg _).trans (Lib.grownBy_setCell _ _ _ _)⟩, by simp [intOf]; omega⟩
          simpa using (hCr.drewN _).set 1 (.int .i64 ((q : Int) + 1)) (by simp)
    · have hq' : ¬ (q : Int) < (s.size : Int) := by omega
      have hqe : (s.size : Int) ≤ (q : Int) := by omega
      have hp0 : Hid (sl (bsOf s) 10 a 0 0 = (0, q, true)) := by
        show sl (bsOf s) 10 a 0 0 = _
        rw [← hp.out, show 10 - i = (9 - i) + 1 by omega, sl, if_neg (by rw [bsOf_len]; exact hlt)]
      go_wp2
      go_quiet (fail)
      go_wp2
      go_ret
      rw [hp0.out]
      refine ⟨rfl, ?_, (drewN_grown hg _).trans (Lib.grownBy_setCell _ _ _ _)⟩
      simpa using (hCr.drewN nq).set 2 (.bool true) (by simp)

end Go.Proofs.YtdpnmpfkbeommaaDoor
