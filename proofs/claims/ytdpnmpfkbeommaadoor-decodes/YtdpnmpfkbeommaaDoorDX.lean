/-
  A message's letters, reference against wire.
-/
import Derived.Test.YtdpnmpfkbeommaaDoorDW
namespace Go.Proofs.YtdpnmpfkbeommaaDoor
open Go.RowKit

theorem rStep_past {bs : List Int} {c : UInt8} {m : Msg} {k : Nat} (h : c ≠ 112) : (rStep bs c m k).1.past = m.past := by
  unfold rStep
  repeat' split
  all_goals first | rfl | (rename_i e; exact absurd e h)
theorem rSteps_past {bs : List Int} : ∀ (l : List UInt8) (m : Msg) (k : Nat), 112 ∉ l → (rSteps bs l m k).1.past = m.past
  | [], m, k, _ => rfl
  | c :: l, m, k, h => by
    have hc : c ≠ 112 := fun e => h (by simp [e])
    have hl : 112 ∉ l := fun e => h (by simp [e])
    rw [rSteps]
    split
    · exact rStep_past hc
    · rw [rSteps_past l _ _ hl]; exact rStep_past hc

/-- Letters in which a past stands at most once. -/
def onePast : List UInt8 → Bool
  | [] => true
  | c :: l => (c != 112 || !l.contains 112) && onePast l

theorem rSteps_lSteps {bs : List Int} (hB : Bytes256 bs) : ∀ (l : List UInt8) (m : Msg) (k : Nat), onePast l = true → pastOk m.past = true →
    lSteps bs l (m, k) = if (rSteps bs l m k).2.2 = true then none else if pastOk (rSteps bs l m k).1.past = true then some ((rSteps bs l m k).1, (rSteps bs l m k).2.1) else none
  | [], m, k, _, hm => by simp [lSteps, rSteps, hm]
  | c :: l, m, k, ho, hm => by
    simp only [onePast, Bool.and_eq_true, Bool.or_eq_true, bne_iff_ne, ne_eq, Bool.not_eq_true'] at ho
    rw [lSteps, rSteps, rStep_lStep hB]
    by_cases hb : (rStep bs c m k).2.2 = true
    · rw [if_pos hb, if_pos hb, if_pos hb]
    · rw [if_neg hb, if_neg hb]
      by_cases hc : c = 112
      · have hl : 112 ∉ l := by
          rcases ho.1 with h | h
          · exact absurd hc h
          · simpa using h
        have hp : (rStep bs c m k).1.past = (sPast bs k).1 := by subst hc; simp [rStep]
        by_cases hok : pastOk (sPast bs k).1 = true
        · rw [if_neg (by simp [hok])]
          exact rSteps_lSteps hB l _ _ ho.2 (by rw [hp]; exact hok)
        · rw [if_pos ⟨hc, hok⟩]
          rw [rSteps_past l _ _ hl, hp, if_neg hok]
          simp
      · rw [if_neg (fun h => hc h.1)]
        exact rSteps_lSteps hB l _ _ ho.2 (by rw [rStep_past hc]; exact hm)

theorem letters_one (x : Int) : onePast (letters x) = true := by
  unfold letters
  repeat' split
  all_goals rfl

end Go.Proofs.YtdpnmpfkbeommaaDoor
