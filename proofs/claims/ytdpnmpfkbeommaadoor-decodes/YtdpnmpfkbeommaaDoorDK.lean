/-
  A reading ends inside the bytes.
-/
import Derived.Test.YtdpnmpfkbeommaaDoorDF
namespace Go.Proofs.YtdpnmpfkbeommaaDoor
open Go.RowKit

theorem pVar_le {bs : List Int} : ∀ (f k i n : Nat) (r : Nat × Nat), pVar bs f k i n = some r → r.2 ≤ bs.length
  | 0, _, _, _, _, h => by simp [pVar] at h
  | f + 1, k, i, n, r, h => by
    rw [pVar] at h
    by_cases h1 : k < bs.length
    · rw [if_pos h1] at h
      by_cases h2 : (bAt bs k = 0 ∧ 0 < i) ∨ (i = 9 ∧ 1 < bAt bs k)
      · rw [if_pos h2] at h; cases h
      · rw [if_neg h2] at h
        by_cases h3 : bAt bs k < 128
        · rw [if_pos h3] at h
          cases h
          exact h1
        · rw [if_neg h3] at h
          exact pVar_le f _ _ _ _ h
    · rw [if_neg h1] at h; cases h
theorem pNum_le {bs : List Int} {k : Nat} {r : Nat × Nat} (h : pNum bs k = some r) : r.2 ≤ bs.length := by
  unfold pNum at h
  cases hp : pVar bs 10 k 0 0 with
  | none => rw [hp] at h; cases h
  | some x =>
    rw [hp] at h
    simp only at h
    split at h
    · cases h; exact pVar_le _ _ _ _ _ hp
    · cases h
theorem pVal_le {bs : List Int} {k : Nat} {r : Int × Nat} (h : pVal bs k = some r) : r.2 ≤ bs.length := by
  unfold pVal at h
  cases hp : pVar bs 10 k 0 0 with
  | none => rw [hp] at h; cases h
  | some x => rw [hp] at h; cases h; exact pVar_le _ _ _ _ _ hp
theorem pFlag_le {bs : List Int} {k : Nat} {r : Bool × Nat} (h : pFlag bs k = some r) : r.2 ≤ bs.length := by
  unfold pFlag at h
  cases hp : pVar bs 10 k 0 0 with
  | none => rw [hp] at h; cases h
  | some x =>
    rw [hp] at h
    simp only at h
    split at h
    · cases h; exact pVar_le _ _ _ _ _ hp
    · cases h
theorem pVer_le {bs : List Int} {k : Nat} {r : (Nat × Nat) × Nat} (h : pVer bs k = some r) : r.2 ≤ bs.length := by
  unfold pVer at h
  cases hp : pNum bs k with
  | none => rw [hp] at h; cases h
  | some x =>
    rw [hp] at h
    simp only at h
    cases hp2 : pNum bs x.2 with
    | none => rw [hp2] at h; cases h
    | some y => rw [hp2] at h; cases h; exact pNum_le hp2
theorem pDep_le {bs : List Int} {k : Nat} {r : (Nat × Nat × Nat) × Nat} (h : pDep bs k = some r) : r.2 ≤ bs.length := by
  unfold pDep at h
  cases hp : pNum bs k with
  | none => rw [hp] at h; cases h
  | some x =>
    rw [hp] at h
    simp only at h
    cases hp2 : pVer bs x.2 with
    | none => rw [hp2] at h; cases h
    | some y => rw [hp2] at h; cases h; exact pVer_le hp2
theorem pDeps_le {bs : List Int} : ∀ (n k : Nat) (acc : List (Int × Int × Int)) (r : List (Int × Int × Int) × Nat), k ≤ bs.length → pDeps bs n k acc = some r → r.2 ≤ bs.length
  | 0, k, acc, r, hk, h => by cases h; exact hk
  | n + 1, k, acc, r, hk, h => by
    rw [pDeps] at h
    cases hp : pDep bs k with
    | none => rw [hp] at h; cases h
    | some x => rw [hp] at h; exact pDeps_le n _ _ r (pDep_le hp) h
theorem pPast_le {bs : List Int} {k : Nat} {r : List (Int × Int × Int) × Nat} (h : pPast bs k = some r) : r.2 ≤ bs.length := by
  unfold pPast at h
  cases hp : pNum bs k with
  | none => rw [hp] at h; cases h
  | some x =>
    rw [hp] at h
    simp only at h
    split at h
    · cases hp2 : pDeps bs x.1 x.2 [] with
      | none => rw [hp2] at h; cases h
      | some y =>
        rw [hp2] at h
        simp only at h
        split at h
        · cases h; exact pDeps_le _ _ _ _ (pNum_le hp) hp2
        · cases h
    · cases h
theorem lStep_le {bs : List Int} {c : UInt8} {s r : Msg × Nat} (hs : s.2 ≤ bs.length) (h : lStep bs c s = some r) : r.2 ≤ bs.length := by
  unfold lStep at h
  repeat' split at h
  all_goals first
    | (cases h; done)
    | (cases h; first | exact hs | exact pNum_le (by assumption) | exact pVer_le (by assumption) | exact pVal_le (by assumption) | exact pDep_le (by assumption) | exact pPast_le (by assumption) | exact pFlag_le (by assumption))
theorem lSteps_le {bs : List Int} : ∀ (l : List UInt8) (s r : Msg × Nat), s.2 ≤ bs.length → lSteps bs l s = some r → r.2 ≤ bs.length
  | [], s, r, hs, h => by cases h; exact hs
  | c :: l, s, r, hs, h => by
    rw [lSteps] at h
    cases hp : lStep bs c s with
    | none => rw [hp] at h; cases h
    | some x => rw [hp] at h; exact lSteps_le l x r (lStep_le hs hp) h
theorem pMsg_le {bs : List Int} {k : Nat} {r : Msg × Nat} (h : pMsg bs k = some r) : r.2 ≤ bs.length := by
  unfold pMsg at h
  repeat' split at h
  all_goals first
    | (cases h; done)
    | (rename_i hp; exact lSteps_le _ _ _ (pNum_le hp) h)

end Go.Proofs.YtdpnmpfkbeommaaDoor
