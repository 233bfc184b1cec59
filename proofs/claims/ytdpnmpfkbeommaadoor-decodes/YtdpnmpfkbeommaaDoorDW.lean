/-
  What the reference reads of a message's letters, held against what wire reads.
-/
import Derived.Test.YtdpnmpfkbeommaaDoorDV
namespace Go.Proofs.YtdpnmpfkbeommaaDoor
open Go.RowKit
set_option linter.unusedSimpArgs false

/-- The loop over a past's pairs, as the reference has it. -/
def sdeps (bs : List Int) : Nat → Nat → List (Int × Int × Int) → List (Int × Int × Int) × Nat × Bool
  | 0, k, acc => (acc, k, false)
  | n + 1, k, acc =>
    if (sd bs k).2.2 = true then (acc ++ [(((sd bs k).1.1 : Int), ((sd bs k).1.2.1 : Int), ((sd bs k).1.2.2 : Int))], (sd bs k).2.1, true)
    else sdeps bs n (sd bs k).2.1 (acc ++ [(((sd bs k).1.1 : Int), ((sd bs k).1.2.1 : Int), ((sd bs k).1.2.2 : Int))])
theorem sdeps_pDeps {bs : List Int} (hB : Bytes256 bs) : ∀ n k acc, pDeps bs n k acc = if (sdeps bs n k acc).2.2 = true then none else some ((sdeps bs n k acc).1, (sdeps bs n k acc).2.1)
  | 0, k, acc => by simp [sdeps, pDeps]
  | n + 1, k, acc => by
    rw [pDeps, sdeps, sd_pDep hB]
    by_cases h : (sd bs k).2.2 = true
    · rw [if_pos h, if_pos h]; rfl
    · rw [if_neg h, if_neg h]
      exact sdeps_pDeps hB n _ _

def sPast (bs : List Int) (k : Nat) : List (Int × Int × Int) × Nat × Bool :=
  if ((sn bs k).2.2 || decide (6 < (sn bs k).1)) = true then ([], (sn bs k).2.1, true) else sdeps bs (sn bs k).1 (sn bs k).2.1 []
theorem sPast_pPast {bs : List Int} (hB : Bytes256 bs) (k : Nat) : pPast bs k = if (sPast bs k).2.2 = true then none else if pastOk (sPast bs k).1 = true then some ((sPast bs k).1, (sPast bs k).2.1) else none := by
  unfold pPast
  rw [sn_pNum hB]
  by_cases h : (sn bs k).2.2 = true
  · have e : sPast bs k = ([], (sn bs k).2.1, true) := by unfold sPast; rw [if_pos (by simp [h])]
    rw [if_pos h, e]
    simp
  · rw [if_neg h]
    simp only
    by_cases h6 : (sn bs k).1 ≤ 6
    · have e : sPast bs k = sdeps bs (sn bs k).1 (sn bs k).2.1 [] := by
        unfold sPast
        rw [if_neg]
        intro hx
        simp only [Bool.or_eq_true, decide_eq_true_eq] at hx
        rcases hx with hx | hx
        · exact h hx
        · omega
      rw [if_pos h6, e, sdeps_pDeps hB]
      by_cases h2 : (sdeps bs (sn bs k).1 (sn bs k).2.1 []).2.2 = true
      · rw [if_pos h2, if_pos h2]
      · rw [if_neg h2, if_neg h2]
    · have e : sPast bs k = ([], (sn bs k).2.1, true) := by
        unfold sPast
        rw [if_pos]
        simp only [Bool.or_eq_true, decide_eq_true_eq]
        omega
      rw [if_neg h6, e]
      simp

/-- One letter, as the reference has it (it is only come to where nothing was bad). -/
def rStep (bs : List Int) (c : UInt8) (m : Msg) (k : Nat) : Msg × Nat × Bool :=
  if c = 111 then ({ m with op := (sn bs k).1 }, (sn bs k).2.1, (sn bs k).2.2)
  else if c = 105 then ({ m with index := (sn bs k).1 }, (sn bs k).2.1, (sn bs k).2.2)
  else if c = 107 then ({ m with key := (sn bs k).1 }, (sn bs k).2.1, (sn bs k).2.2)
  else if c = 118 then ({ m with vc := (sv bs k).1.1, vs := (sv bs k).1.2 }, (sv bs k).2.1, (sv bs k).2.2)
  else if c = 120 then ({ m with value := zag (sl bs 10 k 0 0).1 }, (sl bs 10 k 0 0).2.1, (sl bs 10 k 0 0).2.2)
  else if c = 102 then ({ m with fk := (sd bs k).1.1, fc := (sd bs k).1.2.1, fs := (sd bs k).1.2.2 }, (sd bs k).2.1, (sd bs k).2.2)
  else if c = 112 then ({ m with past := (sPast bs k).1 }, (sPast bs k).2.1, (sPast bs k).2.2)
  else if c = 115 then ({ m with settled := decide ((sn bs k).1 = 1) }, (sn bs k).2.1, (sn bs k).2.2 || decide (1 < (sn bs k).1))
  else (m, k, false)
def rSteps (bs : List Int) : List UInt8 → Msg → Nat → Msg × Nat × Bool
  | [], m, k => (m, k, false)
  | c :: l, m, k => if (rStep bs c m k).2.2 = true then rStep bs c m k else rSteps bs l (rStep bs c m k).1 (rStep bs c m k).2.1

theorem rStep_lStep {bs : List Int} (hB : Bytes256 bs) (c : UInt8) (m : Msg) (k : Nat) : lStep bs c (m, k) = if (rStep bs c m k).2.2 = true then none else if c = 112 ∧ ¬ pastOk (sPast bs k).1 = true then none else some ((rStep bs c m k).1, (rStep bs c m k).2.1) := by
  unfold lStep rStep
  by_cases h1 : c = 111
  · subst h1
    by_cases hb : (sn bs k).2.2 = true <;> simp [sn_pNum hB, hb]
  by_cases h2 : c = 105
  · subst h2
    by_cases hb : (sn bs k).2.2 = true <;> simp [sn_pNum hB, hb]
  by_cases h3 : c = 107
  · subst h3
    by_cases hb : (sn bs k).2.2 = true <;> simp [sn_pNum hB, hb]
  by_cases h4 : c = 118
  · subst h4
    by_cases hb : (sv bs k).2.2 = true <;> simp [sv_pVer hB, hb]
  by_cases h5 : c = 120
  · subst h5
    by_cases hb : (sl bs 10 k 0 0).2.2 = true <;> simp [sl_pVal hB, hb]
  by_cases h6 : c = 102
  · subst h6
    by_cases hb : (sd bs k).2.2 = true <;> simp [sd_pDep hB, hb]
  by_cases h7 : c = 112
  · subst h7
    by_cases hb : (sPast bs k).2.2 = true
    · simp [sPast_pPast hB, hb]
    · by_cases ho : pastOk (sPast bs k).1 = true <;> simp [sPast_pPast hB, hb, ho]
  by_cases h8 : c = 115
  · subst h8
    by_cases hb : ((sn bs k).2.2 || decide (1 < (sn bs k).1)) = true
    · rw [sn_pFlag hB, if_pos hb]
      simp only [Bool.or_eq_true, decide_eq_true_eq] at hb
      simp [hb]
    · rw [sn_pFlag hB, if_neg hb]
      simp only [Bool.or_eq_true, decide_eq_true_eq] at hb
      simp [hb]
  simp [h1, h2, h3, h4, h5, h6, h7, h8]

end Go.Proofs.YtdpnmpfkbeommaaDoor
