/-
  The reference's Read: what it needs.
-/
import Derived.Test.YtdpnmpfkbeommaaDoorDY
import Derived.Deep.RegionLaw
import Derived.Deep.AppendLies
namespace Go.Proofs.YtdpnmpfkbeommaaDoor
open Go.RowKit
set_option linter.unusedSimpArgs false
set_option linter.unusedVariables false

/-- What Read answers. -/
def ReadIs (w : World) (r : Option Msg) (e : Ending) (w' : World) : Prop :=
  w.grownBy w' none ∧ match r with
    | none => e = .returned (.tuple #[mval errMsg (.slice none 0 0), .bool false])
    | some m => ∃ ao c, e = .returned (.tuple #[mval m (.slice ao m.past.length c), .bool true]) ∧ w'.ownsRow w.heap.size 25 3 (.slice ao m.past.length c) m.past.length (depCells m.past)

theorem strSize (l : List UInt8) : (str l).size = l.length := by simp [str, ByteArray.size]
theorem strNil {l : List UInt8} : str l = ⟨#[]⟩ ↔ l = [] := by
  constructor
  · intro h
    have := congrArg (fun x : ByteArray => x.data.toList) h
    simpa [str] using this
  · intro h; subst h; rfl
theorem strAt (l : List UInt8) (k : Nat) (h : k < (str l).size) (h' : k < l.length) : (str l)[k] = l[k] := by
  simp [str, ByteArray.getElem_eq_getElem_data]
theorem letters12 {x : Int} (hx : 0 < x ∧ x < 13) : x = 1 ∨ x = 2 ∨ x = 3 ∨ x = 4 ∨ x = 5 ∨ x = 6 ∨ x = 7 ∨ x = 8 ∨ x = 9 ∨ x = 10 ∨ x = 11 ∨ x = 12 := by omega
theorem lettersIn (k : Int) : ∀ c ∈ letters k, c = 111 ∨ c = 105 ∨ c = 107 ∨ c = 118 ∨ c = 120 ∨ c = 102 ∨ c = 112 ∨ c = 115 := by
  by_cases hk : 0 < k ∧ k < 13
  · rcases letters12 hk with rfl | rfl | rfl | rfl | rfl | rfl | rfl | rfl | rfl | rfl | rfl | rfl <;> decide
  · rw [letters_nil.2 hk]; intro c hc; simp at hc
theorem lettersLen (k : Int) : (letters k).length ≤ 7 := by
  by_cases hk : 0 < k ∧ k < 13
  · rcases letters12 hk with rfl | rfl | rfl | rfl | rfl | rfl | rfl | rfl | rfl | rfl | rfl | rfl <;> decide
  · rw [letters_nil.2 hk]; simp
theorem onePast_after : ∀ (l : List UInt8) (i : Nat), onePast l = true → (h : i < l.length) → l[i] = 112 → 112 ∉ l.drop (i + 1)
  | [], i, _, h, _ => by simp at h
  | c :: l, 0, ho, _, hc => by
    simp only [onePast, Bool.and_eq_true, Bool.or_eq_true, bne_iff_ne, ne_eq, Bool.not_eq_true'] at ho
    simp at hc
    rcases ho.1 with h | h
    · exact absurd hc h
    · simpa using h
  | c :: l, i + 1, ho, h, hc => by
    simp only [onePast, Bool.and_eq_true] at ho
    have := onePast_after l i ho.2 (by simpa using h) (by simpa using hc)
    simpa using this
theorem rGo_at (bs : List Int) (l : List UInt8) (i : Nat) (m : Msg) (k : Nat) (h : i < l.length) : rGo bs (l.drop i) m k false = rGo bs (l.drop (i + 1)) (rStep bs l[i] m k).1 (rStep bs l[i] m k).2.1 (rStep bs l[i] m k).2.2 := by
  rw [List.drop_eq_getElem_cons h, rGo_cons]
theorem sv_le (s : ByteArray) (a : Nat) (h : a ≤ s.size) : (sv (bsOf s) a).2.1 ≤ s.size := by
  unfold sv
  exact sn_le s _ (sn_le s a h)
theorem sd_le (s : ByteArray) (a : Nat) (h : a ≤ s.size) : (sd (bsOf s) a).2.1 ≤ s.size := by
  unfold sd
  exact sv_le s _ (sn_le s a h)
theorem sl10_le (s : ByteArray) (a : Nat) (h : a ≤ s.size) : (sl (bsOf s) 10 a 0 0).2.1 ≤ s.size := by
  have := sl_le (bs := bsOf s) 10 a 0 0 (by rw [bsOf_len]; exact h)
  rw [bsOf_len] at this
  exact this.2

/-- The cells of a message whose past is v. -/
abbrev mcs (m : Msg) (v : Value) : Array Value := #[.int .i64 m.kind, .int .i64 m.src, .int .i64 m.dst, .int .i64 m.clock, .int .i64 m.op, .int .i64 m.index, .int .i64 m.key, .int .i64 m.vc, .int .i64 m.vs, .int .i64 m.value, .int .i64 m.fk, .int .i64 m.fc, .int .i64 m.fs, v, .bool m.settled]
abbrev zcs : Array Value := #[(.int .i64 0), (.int .i64 0), (.int .i64 0), (.int .i64 0), (.int .i64 0), (.int .i64 0), (.int .i64 0), (.int .i64 0), (.int .i64 0), (.int .i64 0), (.int .i64 0), (.int .i64 0), (.int .i64 0), (.slice none 0 0), (.bool false)]

/-- Where Read stands at a letter: i letters are read. -/
structure RAt (w : World) (s : ByteArray) (l : List UInt8) (wr : World) (i k : Nat) (m : Msg) (bad : Bool) (ao : Option Addr) (c : Nat) : Prop where
  len : i ≤ l.length
  le : k ≤ s.size
  res : Cells wr w.heap.size zcs
  msg : Cells wr (w.heap.size + 1) (mcs m (.slice ao m.past.length c))
  scan : Cells wr (w.heap.size + 2) #[.string s, .int .i64 k, .bool bad]
  big : w.heap.size + 3 ≤ wr.heap.size
  own : wr.ownsRow (w.heap.size + 3) 25 3 (.slice ao m.past.length c) m.past.length (depCells m.past)
  six : m.past.length ≤ 6
  first : 112 ∈ l.drop i → m.past = []
  go : rGo (bsOf s) (l.drop i) m k bad = sEnd (bsOf s)
  grown : w.grownBy wr none


/-- What a step of Read leaves as it was. -/
structure RKeep (w wr : World) (m : Msg) (ao : Option Addr) (c : Nat) : Prop where
  res : Cells wr w.heap.size zcs
  big : w.heap.size + 3 ≤ wr.heap.size
  own : wr.ownsRow (w.heap.size + 3) 25 3 (.slice ao m.past.length c) m.past.length (depCells m.past)
  grown : w.grownBy wr none
theorem RAt.keep {w wr : World} {s : ByteArray} {l : List UInt8} {i k c : Nat} {m : Msg} {bad : Bool} {ao : Option Addr} (h : RAt w s l wr i k m bad ao c) : RKeep w wr m ao c := ⟨h.res, h.big, h.own, h.grown⟩
theorem RKeep.call {w wr w1 : World} {m : Msg} {ao : Option Addr} {c : Nat} (h : RKeep w wr m ao c) (hg : wr.grownBy w1 (some (w.heap.size + 2))) : RKeep w w1 m ao c :=
  ⟨h.res.far hg (by have := h.big; omega) (by omega), by have := h.big; have := hg.size; omega, ownsRow_far h.own hg (by omega), h.grown.andThen hg (fun g hg' => Or.inl (by simp at hg'; omega))⟩
theorem RKeep.set {w wr : World} {m : Msg} {ao : Option Addr} {c : Nat} (h : RKeep w wr m ao c) (g : Nat) (h1 : w.heap.size < g) (h2 : g < w.heap.size + 3) (i : Nat) (v : Value) : RKeep w (wr.setCell ⟨g, i, none⟩ v) m ao c :=
  ⟨h.res.other (by omega) _ _, by have := h.big; simp; omega, ownSet h.own (by omega) _ _, newSet h.grown (by omega) _ _⟩
theorem RAt.next {w wr w2 : World} {s : ByteArray} {l : List UInt8} {i k c : Nat} {m m' : Msg} {ao : Option Addr} {k' : Nat} {bad' : Bool} (h : RAt w s l wr i k m false ao c) (hi : i < l.length) {ch : UInt8} (hc : l[i] = ch) (hne : ch ≠ 112) (hK : RKeep w w2 m ao c)
    (hr : rStep (bsOf s) ch m k = (m', k', bad')) (hsc : Cells w2 (w.heap.size + 2) #[.string s, .int .i64 k', .bool bad']) (hm : Cells w2 (w.heap.size + 1) (mcs m' (.slice ao m.past.length c))) (hle : k' ≤ s.size) :
    RAt w s l w2 (i + 1) k' m' bad' ao c := by
  have hp : m'.past = m.past := by have := rStep_past (bs := bsOf s) (m := m) (k := k) hne; rw [hr] at this; exact this
  refine ⟨by omega, hle, hK.res, by rw [hp]; exact hm, hsc, hK.big, by rw [hp]; exact hK.own, by rw [hp]; exact h.six, fun hh => ?_, ?_, hK.grown⟩
  · rw [hp]
    apply h.first
    rw [List.drop_eq_getElem_cons hi]
    exact List.mem_cons_of_mem _ hh
  · rw [← h.go, rGo_at _ _ _ _ _ hi, hc, hr]

theorem sRead_end {bs : List Int} (h0 : 0 < bs.length) (hl : letters (bAt bs 0) ≠ []) {m : Msg} {k : Nat} {bad : Bool} (hE : sEnd bs = (m, k, bad)) : sRead bs = if (bad || !decide (k = bs.length)) || !rpast m.past then none else some m := by
  unfold sRead
  rw [if_neg (by omega), if_neg hl, hE]
theorem RAt.ended {w wr : World} {s : ByteArray} {l : List UInt8} {i k c : Nat} {m : Msg} {bad : Bool} {ao : Option Addr} (h : RAt w s l wr i k m bad ao c) (hx : bad = true ∨ l.length ≤ i) : sEnd (bsOf s) = (m, k, bad) := by
  rw [← h.go]
  rcases hx with rfl | hx
  · exact rGo_bad _ _ _ _
  · rw [List.drop_eq_nil_of_le hx]; exact rGo_nil _ _ _ _

end Go.Proofs.YtdpnmpfkbeommaaDoor
