/-
  The program's and the document's answers are one: messages and bytes.
-/
import Derived.Test.YtdpnmpfkbeommaaDoorI
import Derived.Test.YtdpnmpfkbeommaaDoorJ
import Derived.Test.YtdpnmpfkbeommaaDoorK
namespace Go.Proofs.YtdpnmpfkbeommaaDoor
open Go.RowKit

/-- Every number of the message is an int. -/
structure Rng (m : Msg) : Prop where
  src : -9223372036854775808 ≤ m.src ∧ m.src < 9223372036854775808
  dst : -9223372036854775808 ≤ m.dst ∧ m.dst < 9223372036854775808
  clock : -9223372036854775808 ≤ m.clock ∧ m.clock < 9223372036854775808
  op : -9223372036854775808 ≤ m.op ∧ m.op < 9223372036854775808
  index : -9223372036854775808 ≤ m.index ∧ m.index < 9223372036854775808
  key : -9223372036854775808 ≤ m.key ∧ m.key < 9223372036854775808
  vc : -9223372036854775808 ≤ m.vc ∧ m.vc < 9223372036854775808
  vs : -9223372036854775808 ≤ m.vs ∧ m.vs < 9223372036854775808
  value : -9223372036854775808 ≤ m.value ∧ m.value < 9223372036854775808
  fk : -9223372036854775808 ≤ m.fk ∧ m.fk < 9223372036854775808
  fc : -9223372036854775808 ≤ m.fc ∧ m.fc < 9223372036854775808
  fs : -9223372036854775808 ≤ m.fs ∧ m.fs < 9223372036854775808
  past : ∀ i, i < m.past.length → dKey m.past i < 9223372036854775808 ∧ dClk m.past i < 9223372036854775808 ∧ dSrv m.past i < 9223372036854775808

theorem str_empty (l : List UInt8) : (str l).toList.isEmpty = l.isEmpty := by rw [ByteArray.toList_eq]; simp [str]
theorem negV_false {a b : Int} (h : negV a b = false) : 0 ≤ a ∧ 0 ≤ b := by simpa [negV] using h
theorem negD_false {k a b : Int} (h : negD k a b = false) : 0 ≤ k ∧ 0 ≤ a ∧ 0 ≤ b := by simpa [negD, negV] using h
theorem noNeg_true {m : Msg} (h : noNeg m = true) : (0 ≤ m.src ∧ 0 ≤ m.dst ∧ 0 ≤ m.clock ∧ 0 ≤ m.op ∧ 0 ≤ m.index ∧ 0 ≤ m.key) ∧ (∀ i, i < m.past.length → negAt m.past i = false) ∧ (0 ≤ m.vc ∧ 0 ≤ m.vs) ∧ (0 ≤ m.fk ∧ 0 ≤ m.fc ∧ 0 ≤ m.fs) := by
  simp only [noNeg, Bool.and_eq_true, Bool.not_eq_true', List.all_eq_true, List.mem_range] at h
  obtain ⟨h1, h2, h3, h4⟩ := h
  refine ⟨?_, h2, negV_false h3, negD_false h4⟩
  simp [headNeg] at h1
  omega
theorem fit_of {m : Msg} (hr : Rng m) (h : msgB m = true) : Fit m := by
  simp only [msgB, Bool.and_eq_true] at h
  obtain ⟨_, h1, _, h3⟩ := h
  obtain ⟨⟨a1, a2, a3, a4, a5, a6⟩, hp, ⟨b1, b2⟩, c1, c2, c3⟩ := noNeg_true h1
  have h6 : m.past.length ≤ 6 := by simp [pastOk] at h3; exact h3.1
  refine ⟨⟨a1, hr.src.2⟩, ⟨a2, hr.dst.2⟩, ⟨a3, hr.clock.2⟩, ⟨a4, hr.op.2⟩, ⟨a5, hr.index.2⟩, ⟨a6, hr.key.2⟩, ⟨b1, hr.vc.2⟩, ⟨b2, hr.vs.2⟩, ⟨c1, hr.fk.2⟩, ⟨c2, hr.fc.2⟩, ⟨c3, hr.fs.2⟩, hr.value, ?_, h6⟩
  intro i hi
  have hn := negD_false (hp i hi)
  have := hr.past i hi
  exact ⟨⟨hn.1, this.1⟩, ⟨hn.2.1, this.2.1⟩, ⟨hn.2.2, this.2.2⟩⟩

theorem allNN_iff (m : Msg) : allNN m = true ↔ (0 ≤ m.src ∧ 0 ≤ m.dst ∧ 0 ≤ m.clock ∧ 0 ≤ m.op ∧ 0 ≤ m.index ∧ 0 ≤ m.key ∧ 0 ≤ m.vc ∧ 0 ≤ m.vs ∧ 0 ≤ m.fk ∧ 0 ≤ m.fc ∧ 0 ≤ m.fs) := by
  have e : List.range 11 = [0, 1, 2, 3, 4, 5, 6, 7, 8, 9, 10] := rfl
  simp [allNN, e, nAt, n11]
theorem noNeg_iff (m : Msg) : noNeg m = true ↔ ((0 ≤ m.src ∧ 0 ≤ m.dst ∧ 0 ≤ m.clock ∧ 0 ≤ m.op ∧ 0 ≤ m.index ∧ 0 ≤ m.key) ∧ (∀ i, i < m.past.length → negAt m.past i = false) ∧ (0 ≤ m.vc ∧ 0 ≤ m.vs) ∧ (0 ≤ m.fk ∧ 0 ≤ m.fc ∧ 0 ≤ m.fs)) := by
  refine ⟨noNeg_true, fun ⟨h1, h2, h3, h4⟩ => ?_⟩
  simp only [noNeg, Bool.and_eq_true, Bool.not_eq_true', List.all_eq_true, List.mem_range]
  refine ⟨by simp [headNeg]; omega, h2, by simp [negV]; omega, by simp [negD, negV]; omega⟩
theorem past_eq (m : Msg) : (noNeg m && pastOk m.past) = (rpast m.past && allNN m) := by
  rw [Bool.eq_iff_iff, Bool.and_eq_true, Bool.and_eq_true, noNeg_iff, allNN_iff]
  have hp : pastOk m.past = true ↔ (m.past.length ≤ 6 ∧ ∀ i, i < m.past.length → okAt m.past i = true) := by simp [pastOk]
  have hq : rpast m.past = true ↔ ((∀ i, i < m.past.length → negAt m.past i = false ∧ okAt m.past i = true) ∧ m.past.length ≤ 6) := by simp [rpast, rokAt]
  rw [hp, hq]
  constructor
  · rintro ⟨⟨h1, h2, h3, h4⟩, h5, h6⟩
    exact ⟨⟨fun i hi => ⟨h2 i hi, h6 i hi⟩, h5⟩, by omega⟩
  · rintro ⟨⟨h1, h2⟩, h3⟩
    exact ⟨⟨by omega, fun i hi => (h1 i hi).1, by omega, by omega⟩, h2, fun i hi => (h1 i hi).2⟩

def orAll (b0 b1 b2 b3 b4 b5 b6 b7 : Bool) : Int :=
  bits BinOp.or .u8 (bits BinOp.or .u8 (bits BinOp.or .u8 (bits BinOp.or .u8 (bits BinOp.or .u8 (bits BinOp.or .u8 (bits BinOp.or .u8 (fif 1 b0) (fif 2 b1)) (fif 4 b2)) (fif 8 b3)) (fif 16 b4)) (fif 32 b5)) (fif 64 b6)) (fif 128 b7)
theorem says_7 : ∀ b0 b1 b2 b3 b4 b5 b6 b7 : Bool, (bits BinOp.andNot .u8 (orAll b0 b1 b2 b3 b4 b5 b6 b7) 7 == 0) = ((true || !b0) && (true || !b1) && (true || !b2) && (false || !b3) && (false || !b4) && (false || !b5) && (false || !b6) && (false || !b7)) := by decide +kernel
theorem says_12 : ∀ b0 b1 b2 b3 b4 b5 b6 b7 : Bool, (bits BinOp.andNot .u8 (orAll b0 b1 b2 b3 b4 b5 b6 b7) 12 == 0) = ((false || !b0) && (false || !b1) && (true || !b2) && (true || !b3) && (false || !b4) && (false || !b5) && (false || !b6) && (false || !b7)) := by decide +kernel
theorem says_13 : ∀ b0 b1 b2 b3 b4 b5 b6 b7 : Bool, (bits BinOp.andNot .u8 (orAll b0 b1 b2 b3 b4 b5 b6 b7) 13 == 0) = ((true || !b0) && (false || !b1) && (true || !b2) && (true || !b3) && (false || !b4) && (false || !b5) && (false || !b6) && (false || !b7)) := by decide +kernel
theorem says_15 : ∀ b0 b1 b2 b3 b4 b5 b6 b7 : Bool, (bits BinOp.andNot .u8 (orAll b0 b1 b2 b3 b4 b5 b6 b7) 15 == 0) = ((true || !b0) && (true || !b1) && (true || !b2) && (true || !b3) && (false || !b4) && (false || !b5) && (false || !b6) && (false || !b7)) := by decide +kernel
theorem says_28 : ∀ b0 b1 b2 b3 b4 b5 b6 b7 : Bool, (bits BinOp.andNot .u8 (orAll b0 b1 b2 b3 b4 b5 b6 b7) 28 == 0) = ((false || !b0) && (false || !b1) && (true || !b2) && (true || !b3) && (true || !b4) && (false || !b5) && (false || !b6) && (false || !b7)) := by decide +kernel
theorem says_101 : ∀ b0 b1 b2 b3 b4 b5 b6 b7 : Bool, (bits BinOp.andNot .u8 (orAll b0 b1 b2 b3 b4 b5 b6 b7) 101 == 0) = ((true || !b0) && (false || !b1) && (true || !b2) && (false || !b3) && (false || !b4) && (true || !b5) && (true || !b6) && (false || !b7)) := by decide +kernel
theorem says_108 : ∀ b0 b1 b2 b3 b4 b5 b6 b7 : Bool, (bits BinOp.andNot .u8 (orAll b0 b1 b2 b3 b4 b5 b6 b7) 108 == 0) = ((false || !b0) && (false || !b1) && (true || !b2) && (true || !b3) && (false || !b4) && (true || !b5) && (true || !b6) && (false || !b7)) := by decide +kernel
theorem says_239 : ∀ b0 b1 b2 b3 b4 b5 b6 b7 : Bool, (bits BinOp.andNot .u8 (orAll b0 b1 b2 b3 b4 b5 b6 b7) 239 == 0) = ((true || !b0) && (true || !b1) && (true || !b2) && (true || !b3) && (false || !b4) && (true || !b5) && (true || !b6) && (true || !b7)) := by decide +kernel

theorem saysB_eq (m : Msg) (hk : isKindB m.kind = true) : saysB m = sayR (str (letters m.kind)) m := by
  have hk' : 0 < m.kind ∧ m.kind < 13 := by simpa [isKindB] using hk
  have hs : saidV m = orAll (m.op != 0) (m.index != 0) (m.key != 0) (!eqV m.vc m.vs 0 0) (!eqD m.fk m.fc m.fs 0 0 0) (m.value != 0) (decide (0 < m.past.length)) m.settled := rfl
  unfold saysB sayR
  rw [hs]
  rcases (show m.kind = 1 ∨ m.kind = 2 ∨ m.kind = 3 ∨ m.kind = 4 ∨ m.kind = 5 ∨ m.kind = 6 ∨ m.kind = 7 ∨ m.kind = 8 ∨ m.kind = 9 ∨ m.kind = 10 ∨ m.kind = 11 ∨ m.kind = 12 by omega) with e | e | e | e | e | e | e | e | e | e | e | e
  · rw [e, show tabAt 1 = 101 from rfl, says_101]
    simp only [show anyB (str (letters 1)) 111 = true by decide +kernel, show anyB (str (letters 1)) 105 = false by decide +kernel, show anyB (str (letters 1)) 107 = true by decide +kernel, show anyB (str (letters 1)) 118 = false by decide +kernel, show anyB (str (letters 1)) 120 = true by decide +kernel, show anyB (str (letters 1)) 102 = false by decide +kernel, show anyB (str (letters 1)) 112 = true by decide +kernel, show anyB (str (letters 1)) 115 = false by decide +kernel]
    rw [Bool.eq_iff_iff]; simp [eqV, eqD]; try omega
  · rw [e, show tabAt 2 = 13 from rfl, says_13]
    simp only [show anyB (str (letters 2)) 111 = true by decide +kernel, show anyB (str (letters 2)) 105 = false by decide +kernel, show anyB (str (letters 2)) 107 = true by decide +kernel, show anyB (str (letters 2)) 118 = true by decide +kernel, show anyB (str (letters 2)) 120 = false by decide +kernel, show anyB (str (letters 2)) 102 = false by decide +kernel, show anyB (str (letters 2)) 112 = false by decide +kernel, show anyB (str (letters 2)) 115 = false by decide +kernel]
    rw [Bool.eq_iff_iff]; simp [eqV, eqD]; try omega
  · rw [e, show tabAt 3 = 7 from rfl, says_7]
    simp only [show anyB (str (letters 3)) 111 = true by decide +kernel, show anyB (str (letters 3)) 105 = true by decide +kernel, show anyB (str (letters 3)) 107 = true by decide +kernel, show anyB (str (letters 3)) 118 = false by decide +kernel, show anyB (str (letters 3)) 120 = false by decide +kernel, show anyB (str (letters 3)) 102 = false by decide +kernel, show anyB (str (letters 3)) 112 = false by decide +kernel, show anyB (str (letters 3)) 115 = false by decide +kernel]
    rw [Bool.eq_iff_iff]; simp [eqV, eqD]; try omega
  · rw [e, show tabAt 4 = 239 from rfl, says_239]
    simp only [show anyB (str (letters 4)) 111 = true by decide +kernel, show anyB (str (letters 4)) 105 = true by decide +kernel, show anyB (str (letters 4)) 107 = true by decide +kernel, show anyB (str (letters 4)) 118 = true by decide +kernel, show anyB (str (letters 4)) 120 = true by decide +kernel, show anyB (str (letters 4)) 102 = false by decide +kernel, show anyB (str (letters 4)) 112 = true by decide +kernel, show anyB (str (letters 4)) 115 = true by decide +kernel]
    rw [Bool.eq_iff_iff]; simp [eqV, eqD]; try omega
  · rw [e, show tabAt 5 = 15 from rfl, says_15]
    simp only [show anyB (str (letters 5)) 111 = true by decide +kernel, show anyB (str (letters 5)) 105 = true by decide +kernel, show anyB (str (letters 5)) 107 = true by decide +kernel, show anyB (str (letters 5)) 118 = true by decide +kernel, show anyB (str (letters 5)) 120 = false by decide +kernel, show anyB (str (letters 5)) 102 = false by decide +kernel, show anyB (str (letters 5)) 112 = false by decide +kernel, show anyB (str (letters 5)) 115 = false by decide +kernel]
    rw [Bool.eq_iff_iff]; simp [eqV, eqD]; try omega
  · rw [e, show tabAt 6 = 239 from rfl, says_239]
    simp only [show anyB (str (letters 6)) 111 = true by decide +kernel, show anyB (str (letters 6)) 105 = true by decide +kernel, show anyB (str (letters 6)) 107 = true by decide +kernel, show anyB (str (letters 6)) 118 = true by decide +kernel, show anyB (str (letters 6)) 120 = true by decide +kernel, show anyB (str (letters 6)) 102 = false by decide +kernel, show anyB (str (letters 6)) 112 = true by decide +kernel, show anyB (str (letters 6)) 115 = true by decide +kernel]
    rw [Bool.eq_iff_iff]; simp [eqV, eqD]; try omega
  · rw [e, show tabAt 7 = 108 from rfl, says_108]
    simp only [show anyB (str (letters 7)) 111 = false by decide +kernel, show anyB (str (letters 7)) 105 = false by decide +kernel, show anyB (str (letters 7)) 107 = true by decide +kernel, show anyB (str (letters 7)) 118 = true by decide +kernel, show anyB (str (letters 7)) 120 = true by decide +kernel, show anyB (str (letters 7)) 102 = false by decide +kernel, show anyB (str (letters 7)) 112 = true by decide +kernel, show anyB (str (letters 7)) 115 = false by decide +kernel]
    rw [Bool.eq_iff_iff]; simp [eqV, eqD]; try omega
  · rw [e, show tabAt 8 = 12 from rfl, says_12]
    simp only [show anyB (str (letters 8)) 111 = false by decide +kernel, show anyB (str (letters 8)) 105 = false by decide +kernel, show anyB (str (letters 8)) 107 = true by decide +kernel, show anyB (str (letters 8)) 118 = true by decide +kernel, show anyB (str (letters 8)) 120 = false by decide +kernel, show anyB (str (letters 8)) 102 = false by decide +kernel, show anyB (str (letters 8)) 112 = false by decide +kernel, show anyB (str (letters 8)) 115 = false by decide +kernel]
    rw [Bool.eq_iff_iff]; simp [eqV, eqD]; try omega
  · rw [e, show tabAt 9 = 28 from rfl, says_28]
    simp only [show anyB (str (letters 9)) 111 = false by decide +kernel, show anyB (str (letters 9)) 105 = false by decide +kernel, show anyB (str (letters 9)) 107 = true by decide +kernel, show anyB (str (letters 9)) 118 = true by decide +kernel, show anyB (str (letters 9)) 120 = false by decide +kernel, show anyB (str (letters 9)) 102 = true by decide +kernel, show anyB (str (letters 9)) 112 = false by decide +kernel, show anyB (str (letters 9)) 115 = false by decide +kernel]
    rw [Bool.eq_iff_iff]; simp [eqV, eqD]; try omega
  · rw [e, show tabAt 10 = 28 from rfl, says_28]
    simp only [show anyB (str (letters 10)) 111 = false by decide +kernel, show anyB (str (letters 10)) 105 = false by decide +kernel, show anyB (str (letters 10)) 107 = true by decide +kernel, show anyB (str (letters 10)) 118 = true by decide +kernel, show anyB (str (letters 10)) 120 = false by decide +kernel, show anyB (str (letters 10)) 102 = true by decide +kernel, show anyB (str (letters 10)) 112 = false by decide +kernel, show anyB (str (letters 10)) 115 = false by decide +kernel]
    rw [Bool.eq_iff_iff]; simp [eqV, eqD]; try omega
  · rw [e, show tabAt 11 = 12 from rfl, says_12]
    simp only [show anyB (str (letters 11)) 111 = false by decide +kernel, show anyB (str (letters 11)) 105 = false by decide +kernel, show anyB (str (letters 11)) 107 = true by decide +kernel, show anyB (str (letters 11)) 118 = true by decide +kernel, show anyB (str (letters 11)) 120 = false by decide +kernel, show anyB (str (letters 11)) 102 = false by decide +kernel, show anyB (str (letters 11)) 112 = false by decide +kernel, show anyB (str (letters 11)) 115 = false by decide +kernel]
    rw [Bool.eq_iff_iff]; simp [eqV, eqD]; try omega
  · rw [e, show tabAt 12 = 12 from rfl, says_12]
    simp only [show anyB (str (letters 12)) 111 = false by decide +kernel, show anyB (str (letters 12)) 105 = false by decide +kernel, show anyB (str (letters 12)) 107 = true by decide +kernel, show anyB (str (letters 12)) 118 = true by decide +kernel, show anyB (str (letters 12)) 120 = false by decide +kernel, show anyB (str (letters 12)) 102 = false by decide +kernel, show anyB (str (letters 12)) 112 = false by decide +kernel, show anyB (str (letters 12)) 115 = false by decide +kernel]
    rw [Bool.eq_iff_iff]; simp [eqV, eqD]; try omega

theorem msg_eq (m : Msg) : msgB m = rmsgB m := by
  unfold msgB rmsgB
  cases hk : isKindB m.kind
  · rfl
  · have h1 := past_eq m
    rw [saysB_eq m hk]
    cases sayR (str (letters m.kind)) m <;> simp_all

theorem bytes_eq (m : Msg) (hk : isKindB m.kind = true) : refBytes m = msgBytes m := by
  have hk' : 0 < m.kind ∧ m.kind < 13 := by simpa [isKindB] using hk
  unfold refBytes msgBytes
  rcases (show m.kind = 1 ∨ m.kind = 2 ∨ m.kind = 3 ∨ m.kind = 4 ∨ m.kind = 5 ∨ m.kind = 6 ∨ m.kind = 7 ∨ m.kind = 8 ∨ m.kind = 9 ∨ m.kind = 10 ∨ m.kind = 11 ∨ m.kind = 12 by omega) with e | e | e | e | e | e | e | e | e | e | e | e
  · rw [e, show letters 1 = [111, 107, 120, 112] from rfl]
    simp [show hasB 1 1 = true by decide, show hasB 1 2 = false by decide, show hasB 1 4 = true by decide, show hasB 1 8 = false by decide, show hasB 1 16 = false by decide, show hasB 1 32 = true by decide, show hasB 1 64 = true by decide, show hasB 1 128 = false by decide, optB, lettersB, letB]
  · rw [e, show letters 2 = [111, 107, 118] from rfl]
    simp [show hasB 2 1 = true by decide, show hasB 2 2 = false by decide, show hasB 2 4 = true by decide, show hasB 2 8 = true by decide, show hasB 2 16 = false by decide, show hasB 2 32 = false by decide, show hasB 2 64 = false by decide, show hasB 2 128 = false by decide, optB, lettersB, letB]
  · rw [e, show letters 3 = [111, 105, 107] from rfl]
    simp [show hasB 3 1 = true by decide, show hasB 3 2 = true by decide, show hasB 3 4 = true by decide, show hasB 3 8 = false by decide, show hasB 3 16 = false by decide, show hasB 3 32 = false by decide, show hasB 3 64 = false by decide, show hasB 3 128 = false by decide, optB, lettersB, letB]
  · rw [e, show letters 4 = [111, 105, 107, 118, 120, 112, 115] from rfl]
    simp [show hasB 4 1 = true by decide, show hasB 4 2 = true by decide, show hasB 4 4 = true by decide, show hasB 4 8 = true by decide, show hasB 4 16 = false by decide, show hasB 4 32 = true by decide, show hasB 4 64 = true by decide, show hasB 4 128 = true by decide, optB, lettersB, letB]
  · rw [e, show letters 5 = [111, 105, 107, 118] from rfl]
    simp [show hasB 5 1 = true by decide, show hasB 5 2 = true by decide, show hasB 5 4 = true by decide, show hasB 5 8 = true by decide, show hasB 5 16 = false by decide, show hasB 5 32 = false by decide, show hasB 5 64 = false by decide, show hasB 5 128 = false by decide, optB, lettersB, letB]
  · rw [e, show letters 6 = [111, 105, 107, 118, 120, 112, 115] from rfl]
    simp [show hasB 6 1 = true by decide, show hasB 6 2 = true by decide, show hasB 6 4 = true by decide, show hasB 6 8 = true by decide, show hasB 6 16 = false by decide, show hasB 6 32 = true by decide, show hasB 6 64 = true by decide, show hasB 6 128 = true by decide, optB, lettersB, letB]
  · rw [e, show letters 7 = [107, 118, 120, 112] from rfl]
    simp [show hasB 7 1 = false by decide, show hasB 7 2 = false by decide, show hasB 7 4 = true by decide, show hasB 7 8 = true by decide, show hasB 7 16 = false by decide, show hasB 7 32 = true by decide, show hasB 7 64 = true by decide, show hasB 7 128 = false by decide, optB, lettersB, letB]
  · rw [e, show letters 8 = [107, 118] from rfl]
    simp [show hasB 8 1 = false by decide, show hasB 8 2 = false by decide, show hasB 8 4 = true by decide, show hasB 8 8 = true by decide, show hasB 8 16 = false by decide, show hasB 8 32 = false by decide, show hasB 8 64 = false by decide, show hasB 8 128 = false by decide, optB, lettersB, letB]
  · rw [e, show letters 9 = [107, 118, 102] from rfl]
    simp [show hasB 9 1 = false by decide, show hasB 9 2 = false by decide, show hasB 9 4 = true by decide, show hasB 9 8 = true by decide, show hasB 9 16 = true by decide, show hasB 9 32 = false by decide, show hasB 9 64 = false by decide, show hasB 9 128 = false by decide, optB, lettersB, letB]
  · rw [e, show letters 10 = [107, 118, 102] from rfl]
    simp [show hasB 10 1 = false by decide, show hasB 10 2 = false by decide, show hasB 10 4 = true by decide, show hasB 10 8 = true by decide, show hasB 10 16 = true by decide, show hasB 10 32 = false by decide, show hasB 10 64 = false by decide, show hasB 10 128 = false by decide, optB, lettersB, letB]
  · rw [e, show letters 11 = [107, 118] from rfl]
    simp [show hasB 11 1 = false by decide, show hasB 11 2 = false by decide, show hasB 11 4 = true by decide, show hasB 11 8 = true by decide, show hasB 11 16 = false by decide, show hasB 11 32 = false by decide, show hasB 11 64 = false by decide, show hasB 11 128 = false by decide, optB, lettersB, letB]
  · rw [e, show letters 12 = [107, 118] from rfl]
    simp [show hasB 12 1 = false by decide, show hasB 12 2 = false by decide, show hasB 12 4 = true by decide, show hasB 12 8 = true by decide, show hasB 12 16 = false by decide, show hasB 12 32 = false by decide, show hasB 12 64 = false by decide, show hasB 12 128 = false by decide, optB, lettersB, letB]

set_option maxRecDepth 100000 in
set_option maxHeartbeats 2000000 in
theorem rmsg_none (m : Msg) (sl : ByteArray) (w : World) (hd : DepsAt w m.ao m.past) (hr : m.past.length * 24 ≤ 140737488351232) (hfd : Hid (∀ w', Calls Tryd.prog 22 #[.int .i64 m.kind] w' fun e w'' => e = .returned (.string sl) ∧ w'' = w')) (hne : sl.toList.isEmpty = true) :
    Calls Tryd.prog 10 #[.agg #[.int .i64 m.kind, .int .i64 m.src, .int .i64 m.dst, .int .i64 m.clock, .int .i64 m.op, .int .i64 m.index, .int .i64 m.key, .int .i64 m.vc, .int .i64 m.vs, .int .i64 m.value, .int .i64 m.fk, .int .i64 m.fc, .int .i64 m.fs, .slice m.ao m.past.length m.c, .bool m.settled]] w fun e w' => e = .returned (.bool false) ∧ Below w.heap.size w w' := by
  have hB0 := ((Below.refl w.heap.size w).alloc (Nat.le_refl _) (.cells #[.int .i64 m.kind, .int .i64 m.src, .int .i64 m.dst, .int .i64 m.clock, .int .i64 m.op, .int .i64 m.index, .int .i64 m.key, .int .i64 m.vc, .int .i64 m.vs, .int .i64 m.value, .int .i64 m.fk, .int .i64 m.fc, .int .i64 m.fs, .slice m.ao m.past.length m.c, .bool m.settled] 28))
  go_enter Tryd.func10, Tryd.ntmps10
  go_wp2_with (first | (go_at_call 22; refine (hfd.out _).mono ?_; rintro e w' ⟨rfl, rfl⟩) | (go_at_call 23; refine (rpast_any m.ao m.past m.c _ (hd.below hB0 (Nat.le_refl _)) hr).mono ?_; rintro e w1 ⟨rfl, hb1⟩))
  go_ret
  exact ⟨rfl, hB0.trans (hb1.mono (by simp))⟩

theorem rmsg_any (m : Msg) (w : World) (hd : DepsAt w m.ao m.past) (hr : m.past.length * 24 ≤ 140737488351232) (hg : Rng m) :
    Calls Tryd.prog 10 #[.agg #[.int .i64 m.kind, .int .i64 m.src, .int .i64 m.dst, .int .i64 m.clock, .int .i64 m.op, .int .i64 m.index, .int .i64 m.key, .int .i64 m.vc, .int .i64 m.vs, .int .i64 m.value, .int .i64 m.fk, .int .i64 m.fc, .int .i64 m.fs, .slice m.ao m.past.length m.c, .bool m.settled]] w fun e w' => e = .returned (.bool (msgB m)) ∧ Below w.heap.size w w' := by
  have hmax : Hid (∀ j, nAt m j < 9223372036854775808) := by
    intro j
    match j with
    | 0 => exact hg.src.2
    | 1 => exact hg.dst.2
    | 2 => exact hg.clock.2
    | 3 => exact hg.op.2
    | 4 => exact hg.index.2
    | 5 => exact hg.key.2
    | 6 => exact hg.vc.2
    | 7 => exact hg.vs.2
    | 8 => exact hg.fk.2
    | 9 => exact hg.fc.2
    | 10 => exact hg.fs.2
    | j + 11 => show (([] : List Int).getD j 0) < _; simp
  have hfd : Hid (∀ w', Calls Tryd.prog 22 #[.int .i64 m.kind] w' fun e w'' => e = .returned (.string (str (letters m.kind))) ∧ w'' = w') := fun w' => fields_any m.kind w'
  rw [msg_eq]
  cases hk : isKindB m.kind
  · have hl : letters m.kind = [] := by
      have hk' : ¬ (0 < m.kind ∧ m.kind < 13) := by intro h; simp [isKindB, h] at hk
      unfold letters
      repeat rw [if_neg (by omega)]
    have : rmsgB m = false := by simp [rmsgB, hk]
    rw [this]
    exact rmsg_none m _ w hd hr hfd (by rw [str_empty, hl]; rfl)
  · have hk' : 0 < m.kind ∧ m.kind < 13 := by simpa [isKindB] using hk
    have : rmsgB m = (rpast m.past && (allNN m && sayR (str (letters m.kind)) m)) := by simp [rmsgB, hk]
    rw [this]
    rcases (show m.kind = 1 ∨ m.kind = 2 ∨ m.kind = 3 ∨ m.kind = 4 ∨ m.kind = 5 ∨ m.kind = 6 ∨ m.kind = 7 ∨ m.kind = 8 ∨ m.kind = 9 ∨ m.kind = 10 ∨ m.kind = 11 ∨ m.kind = 12 by omega) with e | e | e | e | e | e | e | e | e | e | e | e
    · refine rmsg_okxp m _ w hd hr hfd (by rw [e]; decide) (by rw [str_empty, e]; decide) hmax (by rw [e]; decide +kernel) (by rw [e]; decide +kernel) (by rw [e]; decide +kernel) (by rw [e]; decide +kernel) (by rw [e]; decide +kernel) (by rw [e]; decide +kernel) (by rw [e]; decide +kernel) (by rw [e]; decide +kernel)
    · refine rmsg_okv m _ w hd hr hfd (by rw [e]; decide) (by rw [str_empty, e]; decide) hmax (by rw [e]; decide +kernel) (by rw [e]; decide +kernel) (by rw [e]; decide +kernel) (by rw [e]; decide +kernel) (by rw [e]; decide +kernel) (by rw [e]; decide +kernel) (by rw [e]; decide +kernel) (by rw [e]; decide +kernel)
    · refine rmsg_oik m _ w hd hr hfd (by rw [e]; decide) (by rw [str_empty, e]; decide) hmax (by rw [e]; decide +kernel) (by rw [e]; decide +kernel) (by rw [e]; decide +kernel) (by rw [e]; decide +kernel) (by rw [e]; decide +kernel) (by rw [e]; decide +kernel) (by rw [e]; decide +kernel) (by rw [e]; decide +kernel)
    · refine rmsg_oikvxps m _ w hd hr hfd (by rw [e]; decide) (by rw [str_empty, e]; decide) hmax (by rw [e]; decide +kernel) (by rw [e]; decide +kernel) (by rw [e]; decide +kernel) (by rw [e]; decide +kernel) (by rw [e]; decide +kernel) (by rw [e]; decide +kernel) (by rw [e]; decide +kernel) (by rw [e]; decide +kernel)
    · refine rmsg_oikv m _ w hd hr hfd (by rw [e]; decide) (by rw [str_empty, e]; decide) hmax (by rw [e]; decide +kernel) (by rw [e]; decide +kernel) (by rw [e]; decide +kernel) (by rw [e]; decide +kernel) (by rw [e]; decide +kernel) (by rw [e]; decide +kernel) (by rw [e]; decide +kernel) (by rw [e]; decide +kernel)
    · refine rmsg_oikvxps m _ w hd hr hfd (by rw [e]; decide) (by rw [str_empty, e]; decide) hmax (by rw [e]; decide +kernel) (by rw [e]; decide +kernel) (by rw [e]; decide +kernel) (by rw [e]; decide +kernel) (by rw [e]; decide +kernel) (by rw [e]; decide +kernel) (by rw [e]; decide +kernel) (by rw [e]; decide +kernel)
    · refine rmsg_kvxp m _ w hd hr hfd (by rw [e]; decide) (by rw [str_empty, e]; decide) hmax (by rw [e]; decide +kernel) (by rw [e]; decide +kernel) (by rw [e]; decide +kernel) (by rw [e]; decide +kernel) (by rw [e]; decide +kernel) (by rw [e]; decide +kernel) (by rw [e]; decide +kernel) (by rw [e]; decide +kernel)
    · refine rmsg_kv m _ w hd hr hfd (by rw [e]; decide) (by rw [str_empty, e]; decide) hmax (by rw [e]; decide +kernel) (by rw [e]; decide +kernel) (by rw [e]; decide +kernel) (by rw [e]; decide +kernel) (by rw [e]; decide +kernel) (by rw [e]; decide +kernel) (by rw [e]; decide +kernel) (by rw [e]; decide +kernel)
    · refine rmsg_kvf m _ w hd hr hfd (by rw [e]; decide) (by rw [str_empty, e]; decide) hmax (by rw [e]; decide +kernel) (by rw [e]; decide +kernel) (by rw [e]; decide +kernel) (by rw [e]; decide +kernel) (by rw [e]; decide +kernel) (by rw [e]; decide +kernel) (by rw [e]; decide +kernel) (by rw [e]; decide +kernel)
    · refine rmsg_kvf m _ w hd hr hfd (by rw [e]; decide) (by rw [str_empty, e]; decide) hmax (by rw [e]; decide +kernel) (by rw [e]; decide +kernel) (by rw [e]; decide +kernel) (by rw [e]; decide +kernel) (by rw [e]; decide +kernel) (by rw [e]; decide +kernel) (by rw [e]; decide +kernel) (by rw [e]; decide +kernel)
    · refine rmsg_kv m _ w hd hr hfd (by rw [e]; decide) (by rw [str_empty, e]; decide) hmax (by rw [e]; decide +kernel) (by rw [e]; decide +kernel) (by rw [e]; decide +kernel) (by rw [e]; decide +kernel) (by rw [e]; decide +kernel) (by rw [e]; decide +kernel) (by rw [e]; decide +kernel) (by rw [e]; decide +kernel)
    · refine rmsg_kv m _ w hd hr hfd (by rw [e]; decide) (by rw [str_empty, e]; decide) hmax (by rw [e]; decide +kernel) (by rw [e]; decide +kernel) (by rw [e]; decide +kernel) (by rw [e]; decide +kernel) (by rw [e]; decide +kernel) (by rw [e]; decide +kernel) (by rw [e]; decide +kernel) (by rw [e]; decide +kernel)

end Go.Proofs.YtdpnmpfkbeommaaDoor
