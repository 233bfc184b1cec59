/-
  The bytes that go into Decode, with two places behind them, and what becomes of them.
-/
import Derived.Test.YtdpnmpfkbeommaaDoorEQ
import Derived.Test.YtdpnmpfkbeommaaDoorEC
import Derived.Test.YtdpnmpfkbeommaaDoorDU
import Derived.Lib.BufferWrite
namespace Go.Proofs.YtdpnmpfkbeommaaDoor
open Go.RowKit
set_option linter.unusedVariables false
set_option linter.unusedSimpArgs false

theorem info5r : (Tryd.prog.info? 5).map (fun i => (i.zero, i.size, i.bytes)) = some (some (.int .u8 0), 1, 1) := by kernel_rfl
theorem info41r : (Tryd.prog.info? 41).map (fun i => (i.zero, i.size, i.bytes)) = some (some (.slice none 0 0), 1, 24) := by kernel_rfl

/-- The list that goes in; k places of it are turned over. -/
def InMid (w : World) (g : Nat) (s : ByteArray) (k : Nat) : Prop := ∃ cur, w.heap[g]? = some (Obj.cells cur 5 (0, 0)) ∧ cur.size = s.size + 2 ∧ (∀ i, i < k → cur[i]? = some (.int .u8 251)) ∧
  (k = 0 → (∀ i, i < s.size → cur[i]? = some (.int .u8 (bAt (bsOf s) i))) ∧ cur[s.size]? = some (.int .u8 252) ∧ cur[s.size + 1]? = some (.int .u8 253))
theorem InMid.on {w w' : World} {g k : Nat} {s : ByteArray} (h : InMid w g s k) (hb : w'.heap[g]? = w.heap[g]?) : InMid w' g s k := by
  obtain ⟨cur, hh, r⟩ := h
  exact ⟨cur, hb.trans hh, r⟩
theorem InMid.lt {w : World} {g k : Nat} {s : ByteArray} (h : InMid w g s k) : g < w.heap.size := by obtain ⟨cur, hh, _⟩ := h; exact lt_of_heap hh
theorem InMid.step {w : World} {g k : Nat} {s : ByteArray} (h : InMid w g s k) (hk : k < s.size + 2) : InMid (w.setCell ⟨g, k, none⟩ (.int .u8 251)) g s (k + 1) := by
  obtain ⟨cur, hh, hs, h1, h2⟩ := h
  refine ⟨_, heap_setCell_same _ _ _ _ _ _ hh, by simp [hs], fun i hi => ?_, fun h => by omega⟩
  rw [Array.getElem?_setIfInBounds]
  by_cases e : k = i
  · subst e; rw [if_pos rfl, if_pos (by omega)]
  · rw [if_neg e]; exact h1 i (by omega)
theorem InMid.turn {w : World} {g : Nat} {s : ByteArray} (h : InMid w g s (s.size + 2)) (hs : s.size ≤ 140737488351232) : TurnE w (.slice (some ⟨g, 0, none⟩) (s.size + 2) (s.size + 2)) := by
  obtain ⟨cur, hh, _, h1, _⟩ := h
  exact ⟨g, _, _, cur, rfl, by omega, hh, h1⟩
theorem InMid.bytes {w : World} {g : Nat} {s : ByteArray} (h : InMid w g s 0) : BytesAt w g 0 (bsOf s) := by
  obtain ⟨cur, hh, _, _, h2⟩ := h
  intro i hi
  rw [bsOf_len] at hi
  rw [cell_of_row _ _ _ _ _ _ hh, Nat.zero_add]
  exact (h2 rfl).1 i hi
theorem InMid.last {w : World} {g : Nat} {s : ByteArray} (h : InMid w g s 0) : w.cell? ⟨g, s.size, none⟩ = some (.int .u8 252) ∧ w.cell? ⟨g, s.size + 1, none⟩ = some (.int .u8 253) := by
  obtain ⟨cur, hh, _, _, h2⟩ := h
  rw [cell_of_row _ _ _ _ _ _ hh, cell_of_row _ _ _ _ _ _ hh]
  exact (h2 rfl).2
theorem InMid.there {w : World} {g k : Nat} {s : ByteArray} (h : InMid w g s k) (i : Nat) (hi : i < s.size + 2) : ∃ y, w.cell? ⟨g, i, none⟩ = some y := by
  obtain ⟨cur, hh, hs, _⟩ := h
  exact ⟨cur[i]'(by omega), by rw [cell_of_row _ _ _ _ _ _ hh]; simp [show i < cur.size by omega]⟩
theorem InMid.free {w : World} {g k : Nat} {s : ByteArray} (h : InMid w g s k) (i : Nat) : w.frozen? ⟨g, i, none⟩ = false := by
  obtain ⟨cur, hh, _⟩ := h
  exact frozen_of_blk hh

theorem bsOf_get (s : ByteArray) (j : Nat) (v : Value) (h : ((bsOf s).map (Value.int .u8))[j]? = some v) : j < s.size ∧ v = .int .u8 (bAt (bsOf s) j) := by
  rw [List.getElem?_map] at h
  cases e : (bsOf s)[j]? with
  | none => rw [e] at h; simp at h
  | some x =>
    rw [e] at h
    simp at h
    have hj := (List.getElem?_eq_some_iff.1 e).1
    rw [bsOf_len] at hj
    refine ⟨hj, ?_⟩
    subst h
    unfold bAt
    simp [List.getD, e]
theorem bytesToStr (s : ByteArray) : ((bsOf s).foldl (fun r n => r.push (UInt8.ofNat n.toNat)) ByteArray.empty) = s := by
  apply ByteArray.ext
  have e : ∀ (l : List Int) (b : ByteArray), (l.foldl (fun r n => r.push (UInt8.ofNat n.toNat)) b).data = b.data ++ (l.map fun x => UInt8.ofNat x.toNat).toArray := by
    intro l
    induction l with
    | nil => intro b; simp
    | cons x r ih => intro b; rw [List.foldl_cons, ih]; simp [ByteArray.push]
  rw [e]
  have he0 : ByteArray.empty.data = #[] := rfl
  rw [he0]
  unfold bsOf
  simp [Function.comp_def]
theorem InMid.conv {w : World} {g c : Nat} {s : ByteArray} (h : InMid w g s 0) : (convert 41 9 (.slice (some ⟨g, 0, none⟩) s.size c)).run Tryd.prog w = .ok (.string s) w := by
  rw [run_convert_bytes_string _ 41 9 5 _ s.size c Tryd.underlying41 Tryd.underlying5 Tryd.underlying9]
  have hld := run_loadCells_list (P := Tryd.prog) w ⟨g, 0, none⟩ ((bsOf s).map (Value.int .u8)) (fun j v hj => by
    obtain ⟨hlt, rfl⟩ := bsOf_get s j v hj
    have := h.bytes j (by rw [bsOf_len]; exact hlt)
    rw [Nat.zero_add] at this
    rw [Addr.add_lit]
    simpa using this)
  rw [List.length_map, bsOf_len] at hld
  rw [run_bytesToString _ _ s.size c (bsOf s) hld]
  rw [bytesToStr]

theorem strcopy_pack {w0 w1 : World} {g : Nat} {s : ByteArray} {xs : List Value} (hg0 : w0.heap.size = g)
    (hown : w1.ownsRow g 5 1 (.slice (some ⟨g, 0, none⟩) (s.size + 2) (s.size + 2)) (s.size + 2) xs) (hgrow : w0.grownBy w1 none) :
    ∃ w2 cur, (∀ ty, (Builtin.copy_ #[41, 9] ty #[.slice (some ⟨g, 0, none⟩) (s.size + 2) (s.size + 2), .string s]).run Tryd.prog w1 = .ok (.int .i64 s.size) w2) ∧ w2.heap[g]? = some (Obj.cells cur 5 (0, 0)) ∧ cur.size = s.size + 2 ∧
      (∀ i, i < s.size → cur[i]? = some (.int .u8 (bAt (bsOf s) i))) ∧ Below g w0 w2 := by
  have hb1 : Below g w0 w1 := (Below.refl g w0).grown hgrow (by omega) (by intro k h; cases h)
  rcases hown.2 with ⟨h, _⟩ | ⟨g', cap, cur, h, _, hh, _, _, hcs, _⟩
  · cases h
  simp only [Value.slice.injEq, Option.some.injEq, Addr.mk.injEq, and_true, true_and] at h
  obtain ⟨rfl, rfl⟩ := h
  have hrun := fun ty => Lib.run_copy_row_string (P := Tryd.prog) w1 41 9 ty 5 g 0 (s.size + 2) (s.size + 2) s cur 5 Tryd.underlying41 (by obtain ⟨i0, hi, _, h1, _⟩ := info_parts info5r; simp [hi, h1]) hh (by omega) (by omega)
  refine ⟨_, _, hrun, setRow_heap w1 g _ _ 5 _ hh, ?_, fun i hi => ?_, below_setRow hb1 (Nat.le_refl _) _⟩
  · simp [Lib.byteCells, hcs]
  · simp only [List.getElem?_toArray, List.take_zero, List.nil_append]
    have hbl : (Lib.byteCells s.data.toList).length = s.size := by rw [Lib.byteCells_length, ← Lib.size_eq]
    rw [List.getElem?_append_left (by omega), ← bsOf_at s i hi]
    simp [Lib.byteCells]
    exact ⟨s.data[i]'hi, Array.getElem?_eq_getElem hi, rfl⟩

/-- The two answers that Decode and Read give, in one form. -/
theorem Decoded.all {w w' : World} {r : Option Msg} {e : Ending} (h : Decoded w r e w') : ∃ ao c, e = .returned (.tuple #[mval (r.getD errMsg) (.slice ao (r.getD errMsg).past.length c), .int .i64 (if r.isSome then 0 else 5)]) ∧
    w'.ownsRow w.heap.size 25 3 (.slice ao (r.getD errMsg).past.length c) (r.getD errMsg).past.length (depCells (r.getD errMsg).past) ∧ w.grownBy w' none := by
  obtain ⟨hg, h⟩ := h
  cases r with
  | none => exact ⟨none, 0, h, ownNil _ _ _ _, hg⟩
  | some m =>
    obtain ⟨ao, c, h1, h2⟩ := h
    exact ⟨ao, c, h1, h2, hg⟩
theorem ReadIs.all {w w' : World} {r : Option Msg} {e : Ending} (h : ReadIs w r e w') : ∃ ao c, e = .returned (.tuple #[mval (r.getD errMsg) (.slice ao (r.getD errMsg).past.length c), .bool r.isSome]) ∧
    w'.ownsRow w.heap.size 25 3 (.slice ao (r.getD errMsg).past.length c) (r.getD errMsg).past.length (depCells (r.getD errMsg).past) ∧ w.grownBy w' none := by
  obtain ⟨hg, h⟩ := h
  cases r with
  | none => exact ⟨none, 0, h, ownNil _ _ _ _, hg⟩
  | some m =>
    obtain ⟨ao, c, h1, h2⟩ := h
    exact ⟨ao, c, h1, h2, hg⟩
theorem pDec_six {bs : List Int} (hB : Bytes256 bs) : ((pDec bs).getD errMsg).past.length ≤ 6 := by
  rw [← sRead_pDec hB]
  unfold sRead
  by_cases h0 : bs.length = 0
  · rw [if_pos h0]; simp [errMsg, zMsg]
  rw [if_neg h0]
  by_cases hl : letters (bAt bs 0) = []
  · rw [if_pos hl]; simp [errMsg, zMsg]
  rw [if_neg hl]
  split
  · simp [errMsg, zMsg]
  · rename_i h
    simp only [Bool.or_eq_true, not_or] at h
    have h2 : rpast (sEnd bs).1.past = true := by simpa using h.2
    unfold rpast at h2
    rw [Bool.and_eq_true] at h2
    simpa using h2.2

end Go.Proofs.YtdpnmpfkbeommaaDoor
