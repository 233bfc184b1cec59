/-
  What the reference reads, held against what wire reads: numbers, values, versions, pairs, flags.
-/
import Derived.Test.YtdpnmpfkbeommaaDoorDT
namespace Go.Proofs.YtdpnmpfkbeommaaDoor
open Go.RowKit

theorem sn_pNum {bs : List Int} (hB : Bytes256 bs) (k : Nat) : pNum bs k = if (sn bs k).2.2 = true then none else some ((sn bs k).1, (sn bs k).2.1) := by
  unfold pNum sn
  rw [sl_pVar hB]
  by_cases hb : (sl bs 10 k 0 0).2.2 = true
  · rw [if_pos hb]
    by_cases h : (sl bs 10 k 0 0).1 < 9223372036854775808
    · rw [if_pos h, if_pos hb]
    · rw [if_neg h, if_pos rfl]
  · rw [if_neg hb]
    by_cases h : (sl bs 10 k 0 0).1 < 9223372036854775808
    · rw [if_pos h, if_neg hb]
      simp only [h, if_true]
    · rw [if_neg h, if_pos rfl]
      simp only [h, if_false]

theorem sl_pVal {bs : List Int} (hB : Bytes256 bs) (k : Nat) : pVal bs k = if (sl bs 10 k 0 0).2.2 = true then none else some (zag (sl bs 10 k 0 0).1, (sl bs 10 k 0 0).2.1) := by
  unfold pVal
  rw [sl_pVar hB]
  by_cases hb : (sl bs 10 k 0 0).2.2 = true
  · rw [if_pos hb, if_pos hb]
  · rw [if_neg hb, if_neg hb]

/-- A version, as the reference reads it. -/
def sv (bs : List Int) (k : Nat) : (Nat × Nat) × Nat × Bool :=
  (((sn bs k).1, (sn bs (sn bs k).2.1).1), (sn bs (sn bs k).2.1).2.1, (sn bs k).2.2 || (sn bs (sn bs k).2.1).2.2)
theorem sv_pVer {bs : List Int} (hB : Bytes256 bs) (k : Nat) : pVer bs k = if (sv bs k).2.2 = true then none else some ((sv bs k).1, (sv bs k).2.1) := by
  unfold pVer sv
  rw [sn_pNum hB k]
  by_cases h1 : (sn bs k).2.2 = true
  · rw [if_pos h1, if_pos (by simp [h1])]
  · rw [if_neg h1]
    simp only
    rw [sn_pNum hB]
    by_cases h2 : (sn bs (sn bs k).2.1).2.2 = true
    · rw [if_pos h2, if_pos (by simp [h2])]
    · rw [if_neg h2, if_neg (by simp [h1, h2])]

/-- A pair, as the reference reads it. -/
def sd (bs : List Int) (k : Nat) : (Nat × Nat × Nat) × Nat × Bool :=
  (((sn bs k).1, (sv bs (sn bs k).2.1).1.1, (sv bs (sn bs k).2.1).1.2), (sv bs (sn bs k).2.1).2.1, (sn bs k).2.2 || (sv bs (sn bs k).2.1).2.2)
theorem sd_pDep {bs : List Int} (hB : Bytes256 bs) (k : Nat) : pDep bs k = if (sd bs k).2.2 = true then none else some ((sd bs k).1, (sd bs k).2.1) := by
  unfold pDep sd
  rw [sn_pNum hB k]
  by_cases h1 : (sn bs k).2.2 = true
  · rw [if_pos h1, if_pos (by simp [h1])]
  · rw [if_neg h1]
    simp only
    rw [sv_pVer hB]
    by_cases h2 : (sv bs (sn bs k).2.1).2.2 = true
    · rw [if_pos h2, if_pos (by simp [h2])]
    · rw [if_neg h2, if_neg (by simp [h1, h2])]

/-- A flag: the reference reads a number. -/
theorem sn_pFlag {bs : List Int} (hB : Bytes256 bs) (k : Nat) : pFlag bs k = if ((sn bs k).2.2 || decide (1 < (sn bs k).1)) = true then none else some (decide ((sn bs k).1 = 1), (sn bs k).2.1) := by
  unfold pFlag sn
  rw [sl_pVar hB]
  by_cases hb : (sl bs 10 k 0 0).2.2 = true
  · rw [if_pos hb]
    by_cases h : (sl bs 10 k 0 0).1 < 9223372036854775808
    · rw [if_pos h, if_pos (by simp [hb])]
    · rw [if_neg h, if_pos (by simp)]
  · rw [if_neg hb]
    by_cases h : (sl bs 10 k 0 0).1 < 9223372036854775808
    · rw [if_pos h]
      by_cases h1 : (sl bs 10 k 0 0).1 ≤ 1
      · rw [if_neg (by simp [hb]; omega)]
        simp only [h1, if_true]
      · rw [if_pos (by simp; omega)]
        simp only [h1, if_false]
    · rw [if_neg h, if_pos (by simp)]
      have h1 : ¬ (sl bs 10 k 0 0).1 ≤ 1 := by omega
      simp only [h1, if_false]

end Go.Proofs.YtdpnmpfkbeommaaDoor
