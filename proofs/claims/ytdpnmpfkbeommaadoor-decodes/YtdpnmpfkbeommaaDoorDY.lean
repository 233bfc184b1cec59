/-
  What the reference reads of whatever bytes is what wire reads of them.
-/
import Derived.Test.YtdpnmpfkbeommaaDoorDX
import Derived.Test.YtdpnmpfkbeommaaDoorDL
namespace Go.Proofs.YtdpnmpfkbeommaaDoor
open Go.RowKit
set_option linter.unusedSimpArgs false

/-- The letters' loop from a place on, where something may have been bad already. -/
def rGo (bs : List Int) (l : List UInt8) (m : Msg) (k : Nat) (bad : Bool) : Msg × Nat × Bool :=
  if bad = true then (m, k, true) else rSteps bs l m k
theorem rGo_nil (bs : List Int) (m : Msg) (k : Nat) (bad : Bool) : rGo bs [] m k bad = (m, k, bad) := by
  unfold rGo; cases bad <;> simp [rSteps]
theorem rGo_bad (bs : List Int) (l : List UInt8) (m : Msg) (k : Nat) : rGo bs l m k true = (m, k, true) := by simp [rGo]
theorem rGo_cons (bs : List Int) (c : UInt8) (l : List UInt8) (m : Msg) (k : Nat) : rGo bs (c :: l) m k false = rGo bs l (rStep bs c m k).1 (rStep bs c m k).2.1 (rStep bs c m k).2.2 := by
  unfold rGo
  by_cases h : (rStep bs c m k).2.2 = true
  · simp only [rSteps, h, if_true]
    rw [if_neg (by simp)]
    rw [← h]
  · simp only [rSteps, h]
    simp

def s1 (bs : List Int) : Nat × Nat × Bool := sn bs 1
def s2 (bs : List Int) : Nat × Nat × Bool := sn bs (s1 bs).2.1
def s3 (bs : List Int) : Nat × Nat × Bool := sn bs (s2 bs).2.1
def sBad (bs : List Int) : Bool := ((s1 bs).2.2 || (s2 bs).2.2) || (s3 bs).2.2
def sMsg (bs : List Int) : Msg := zMsg (bAt bs 0) (s1 bs).1 (s2 bs).1 (s3 bs).1
def sEnd (bs : List Int) : Msg × Nat × Bool := rGo bs (letters (bAt bs 0)) (sMsg bs) (s3 bs).2.1 (sBad bs)
def sRead (bs : List Int) : Option Msg :=
  if bs.length = 0 then none
  else if letters (bAt bs 0) = [] then none
  else if ((sEnd bs).2.2 || !decide ((sEnd bs).2.1 = bs.length)) || !rpast (sEnd bs).1.past then none else some (sEnd bs).1

/-- No number of a past is below 0. -/
def NonNeg (ds : List (Int × Int × Int)) : Prop := ∀ d ∈ ds, 0 ≤ d.1 ∧ 0 ≤ d.2.1 ∧ 0 ≤ d.2.2
theorem rpast_pastOk {ds : List (Int × Int × Int)} (h : NonNeg ds) : rpast ds = pastOk ds := by
  unfold rpast pastOk
  rw [Bool.and_comm]
  congr 1
  have hz : ∀ i, i < ds.length → rokAt ds i = okAt ds i := by
    intro i hi
    have e : ds.getD i (0, 0, 0) = ds[i] := by simp [List.getD, hi]
    have := h (ds.getD i (0, 0, 0)) (by rw [e]; exact List.getElem_mem hi)
    unfold rokAt negAt negD negV dKey dClk dSrv
    simp only [decide_eq_false (show ¬ (ds.getD i (0, 0, 0)).1 < 0 by omega), decide_eq_false (show ¬ (ds.getD i (0, 0, 0)).2.1 < 0 by omega), decide_eq_false (show ¬ (ds.getD i (0, 0, 0)).2.2 < 0 by omega)]
    simp
  rw [Bool.eq_iff_iff]
  simp only [List.all_eq_true, List.mem_range]
  constructor
  · intro hh i hi
    rw [← hz i hi]; exact hh i hi
  · intro hh i hi
    rw [hz i hi]; exact hh i hi

theorem sdeps_nonneg {bs : List Int} : ∀ n k acc, NonNeg acc → NonNeg (sdeps bs n k acc).1
  | 0, k, acc, h => h
  | n + 1, k, acc, h => by
    have h' : NonNeg (acc ++ [(((sd bs k).1.1 : Int), ((sd bs k).1.2.1 : Int), ((sd bs k).1.2.2 : Int))]) := by
      intro d hd
      rcases List.mem_append.1 hd with hd | hd
      · exact h d hd
      · simp at hd
        subst hd
        refine ⟨?_, ?_, ?_⟩ <;> simp
    rw [sdeps]
    split
    · exact h'
    · exact sdeps_nonneg n _ _ h'
theorem sPast_nonneg (bs : List Int) (k : Nat) : NonNeg (sPast bs k).1 := by
  unfold sPast
  split
  · intro d hd; simp at hd
  · exact sdeps_nonneg _ _ _ (fun d hd => by simp at hd)
theorem rStep_nonneg {bs : List Int} {c : UInt8} {m : Msg} {k : Nat} (h : NonNeg m.past) : NonNeg (rStep bs c m k).1.past := by
  by_cases hc : c = 112
  · subst hc
    have : (rStep bs 112 m k).1.past = (sPast bs k).1 := by simp [rStep]
    rw [this]
    exact sPast_nonneg _ _
  · rw [rStep_past hc]; exact h
theorem rSteps_nonneg {bs : List Int} : ∀ (l : List UInt8) (m : Msg) (k : Nat), NonNeg m.past → NonNeg (rSteps bs l m k).1.past
  | [], m, k, h => h
  | c :: l, m, k, h => by
    rw [rSteps]
    split
    · exact rStep_nonneg h
    · exact rSteps_nonneg l _ _ (rStep_nonneg h)
theorem rGo_nonneg {bs : List Int} (l : List UInt8) (m : Msg) (k : Nat) (bad : Bool) (h : NonNeg m.past) : NonNeg (rGo bs l m k bad).1.past := by
  unfold rGo
  split
  · exact h
  · exact rSteps_nonneg l m k h

theorem letters_nil {x : Int} : letters x = [] ↔ ¬ (0 < x ∧ x < 13) := by
  constructor
  · intro h hx
    have : x = 1 ∨ x = 2 ∨ x = 3 ∨ x = 4 ∨ x = 5 ∨ x = 6 ∨ x = 7 ∨ x = 8 ∨ x = 9 ∨ x = 10 ∨ x = 11 ∨ x = 12 := by omega
    rcases this with rfl | rfl | rfl | rfl | rfl | rfl | rfl | rfl | rfl | rfl | rfl | rfl <;> exact absurd h (by decide)
  · intro h
    unfold letters
    rw [if_neg (by omega), if_neg (by omega), if_neg (by omega), if_neg (by omega), if_neg (by omega), if_neg (by omega), if_neg (by omega), if_neg (by omega), if_neg (by omega), if_neg (by omega), if_neg (by omega), if_neg (by omega)]

theorem sRead_pDec {bs : List Int} (hB : Bytes256 bs) : sRead bs = pDec bs := by
  unfold sRead pDec pMsg pKind
  by_cases h0 : bs.length = 0
  · rw [if_pos h0]
    have : ¬ (0 < bs.length) := by omega
    simp [this, h0]
  rw [if_neg h0]
  by_cases hl : letters (bAt bs 0) = []
  · rw [if_pos hl]
    have hk := letters_nil.1 hl
    rw [if_neg (by intro h; exact hk ⟨h.2.1, h.2.2⟩)]
  rw [if_neg hl]
  have hk : 0 < bAt bs 0 ∧ bAt bs 0 < 13 := by
    by_cases h : 0 < bAt bs 0 ∧ bAt bs 0 < 13
    · exact h
    · exact absurd (letters_nil.2 h) hl
  have hkk : (if 0 < bs.length ∧ 0 < bAt bs 0 ∧ bAt bs 0 < 13 then some (bAt bs 0, 0 + 1) else none) = some (bAt bs 0, 1) := if_pos ⟨by omega, hk.1, hk.2⟩
  rw [hkk]
  simp only
  rw [sn_pNum hB]
  have e1 : sn bs 1 = s1 bs := rfl
  rw [e1]
  by_cases b1 : (s1 bs).2.2 = true
  · rw [if_pos b1]
    have : sEnd bs = (sMsg bs, (s3 bs).2.1, true) := by
      unfold sEnd sBad; rw [b1]; simp [rGo_bad]
    rw [this]; simp
  rw [if_neg b1]
  simp only
  rw [sn_pNum hB, show sn bs (s1 bs).2.1 = s2 bs from rfl]
  by_cases b2 : (s2 bs).2.2 = true
  · rw [if_pos b2]
    have : sEnd bs = (sMsg bs, (s3 bs).2.1, true) := by
      unfold sEnd sBad; rw [b2]; simp [rGo_bad]
    rw [this]; simp
  rw [if_neg b2]
  simp only
  rw [sn_pNum hB, show sn bs (s2 bs).2.1 = s3 bs from rfl]
  by_cases b3 : (s3 bs).2.2 = true
  · rw [if_pos b3]
    have : sEnd bs = (sMsg bs, (s3 bs).2.1, true) := by
      unfold sEnd sBad; rw [b3]; simp [rGo_bad]
    rw [this]; simp
  rw [if_neg b3]
  simp only
  have hE : sEnd bs = rSteps bs (letters (bAt bs 0)) (sMsg bs) (s3 bs).2.1 := by
    unfold sEnd sBad rGo
    simp only [Bool.not_eq_true] at b1 b2 b3
    rw [b1, b2, b3]; simp
  have hp : rpast (sEnd bs).1.past = pastOk (sEnd bs).1.past := rpast_pastOk (by rw [hE]; exact rSteps_nonneg _ _ _ (fun d hd => by simp [sMsg, zMsg] at hd))
  rw [show zMsg (bAt bs 0) ((s1 bs).1 : Int) ((s2 bs).1 : Int) ((s3 bs).1 : Int) = sMsg bs from rfl]
  rw [rSteps_lSteps hB _ _ _ (letters_one _) (by simp [sMsg, zMsg, pastOk]), ← hE, hp]
  by_cases hb : (sEnd bs).2.2 = true
  · rw [if_pos hb]; simp [hb]
  · rw [if_neg hb]
    by_cases ho : pastOk (sEnd bs).1.past = true
    · rw [if_pos ho]
      by_cases hn : (sEnd bs).2.1 = bs.length
      · simp [hb, ho, hn]
      · simp [hb, ho, hn]
    · rw [if_neg ho]
      simp [ho]

end Go.Proofs.YtdpnmpfkbeommaaDoor
