/-
  appendMessage at every kind; Encode.
-/
import Derived.Test.YtdpnmpfkbeommaaDoorG
namespace Go.Proofs.YtdpnmpfkbeommaaDoor
open Go.RowKit

def hasB (k b : Int) : Bool := bits BinOp.and IntKind.u8 (tabAt k) b != 0
def optB (b : Bool) (l : List Int) : List Int := if b then l else []
/-- The bytes of a message. -/
def msgBytes (m : Msg) : List Int :=
  [m.kind] ++ numsB [m.src, m.dst, m.clock] ++ optB (hasB m.kind 1) (numsB [m.op]) ++ optB (hasB m.kind 2) (numsB [m.index]) ++ optB (hasB m.kind 4) (numsB [m.key]) ++ optB (hasB m.kind 8) (numsB [m.vc, m.vs])
    ++ optB (hasB m.kind 16) (numsB [m.fk, m.fc, m.fs]) ++ optB (hasB m.kind 32) (vint 9 (zz m.value)) ++ optB (hasB m.kind 64) (numsB [(m.past.length : Int)] ++ depsB m.past) ++ optB (hasB m.kind 128) [flagB m.settled]

theorem appendMessage_any (m : Msg) (w : World) (hd : DepsAt w m.ao m.past) (hG : GTab w) (hf : Fit m) (hk : isKindB m.kind = true) :
    Calls Tryd.prog 17 #[.slice none 0 0, .agg #[.int .i64 m.kind, .int .i64 m.src, .int .i64 m.dst, .int .i64 m.clock, .int .i64 m.op, .int .i64 m.index, .int .i64 m.key, .int .i64 m.vc, .int .i64 m.vs, .int .i64 m.value, .int .i64 m.fk, .int .i64 m.fc, .int .i64 m.fs, .slice m.ao m.past.length m.c, .bool m.settled]] w fun e w' => ∃ v' L, e = .returned v' ∧ St (w.alloc (.cells #[.int .i64 m.kind, .int .i64 m.src, .int .i64 m.dst, .int .i64 m.clock, .int .i64 m.op, .int .i64 m.index, .int .i64 m.key, .int .i64 m.vc, .int .i64 m.vs, .int .i64 m.value, .int .i64 m.fk, .int .i64 m.fc, .int .i64 m.fs, .slice m.ao m.past.length m.c, .bool m.settled] 28)) w' v' (msgBytes m) L := by
  have hk' : 0 < m.kind ∧ m.kind < 13 := by simpa [isKindB] using hk
  rcases (show m.kind = 1 ∨ m.kind = 2 ∨ m.kind = 3 ∨ m.kind = 4 ∨ m.kind = 5 ∨ m.kind = 6 ∨ m.kind = 7 ∨ m.kind = 8 ∨ m.kind = 9 ∨ m.kind = 10 ∨ m.kind = 11 ∨ m.kind = 12 by omega) with e | e | e | e | e | e | e | e | e | e | e | e
  · have h := appendMessage_1 m w hd hG hf
    unfold msgBytes
    rw [e]
    simp only [show hasB 1 1 = true by decide, show hasB 1 2 = false by decide, show hasB 1 4 = true by decide, show hasB 1 8 = false by decide, show hasB 1 16 = false by decide, show hasB 1 32 = true by decide, show hasB 1 64 = true by decide, show hasB 1 128 = false by decide, optB, if_true, if_false, Bool.false_eq_true, List.append_nil]
    exact h
  · have h := appendMessage_2 m w hd hG hf
    unfold msgBytes
    rw [e]
    simp only [show hasB 2 1 = true by decide, show hasB 2 2 = false by decide, show hasB 2 4 = true by decide, show hasB 2 8 = true by decide, show hasB 2 16 = false by decide, show hasB 2 32 = false by decide, show hasB 2 64 = false by decide, show hasB 2 128 = false by decide, optB, if_true, if_false, Bool.false_eq_true, List.append_nil]
    exact h
  · have h := appendMessage_3 m w hd hG hf
    unfold msgBytes
    rw [e]
    simp only [show hasB 3 1 = true by decide, show hasB 3 2 = true by decide, show hasB 3 4 = true by decide, show hasB 3 8 = false by decide, show hasB 3 16 = false by decide, show hasB 3 32 = false by decide, show hasB 3 64 = false by decide, show hasB 3 128 = false by decide, optB, if_true, if_false, Bool.false_eq_true, List.append_nil]
    exact h
  · have h := appendMessage_4 m w hd hG hf
    unfold msgBytes
    rw [e]
    simp only [show hasB 4 1 = true by decide, show hasB 4 2 = true by decide, show hasB 4 4 = true by decide, show hasB 4 8 = true by decide, show hasB 4 16 = false by decide, show hasB 4 32 = true by decide, show hasB 4 64 = true by decide, show hasB 4 128 = true by decide, optB, if_true, if_false, Bool.false_eq_true, List.append_nil]
    exact h
  · have h := appendMessage_5 m w hd hG hf
    unfold msgBytes
    rw [e]
    simp only [show hasB 5 1 = true by decide, show hasB 5 2 = true by decide, show hasB 5 4 = true by decide, show hasB 5 8 = true by decide, show hasB 5 16 = false by decide, show hasB 5 32 = false by decide, show hasB 5 64 = false by decide, show hasB 5 128 = false by decide, optB, if_true, if_false, Bool.false_eq_true, List.append_nil]
    exact h
  · have h := appendMessage_6 m w hd hG hf
    unfold msgBytes
    rw [e]
    simp only [show hasB 6 1 = true by decide, show hasB 6 2 = true by decide, show hasB 6 4 = true by decide, show hasB 6 8 = true by decide, show hasB 6 16 = false by decide, show hasB 6 32 = true by decide, show hasB 6 64 = true by decide, show hasB 6 128 = true by decide, optB, if_true, if_false, Bool.false_eq_true, List.append_nil]
    exact h
  · have h := appendMessage_7 m w hd hG hf
    unfold msgBytes
    rw [e]
    simp only [show hasB 7 1 = false by decide, show hasB 7 2 = false by decide, show hasB 7 4 = true by decide, show hasB 7 8 = true by decide, show hasB 7 16 = false by decide, show hasB 7 32 = true by decide, show hasB 7 64 = true by decide, show hasB 7 128 = false by decide, optB, if_true, if_false, Bool.false_eq_true, List.append_nil]
    exact h
  · have h := appendMessage_8 m w hd hG hf
    unfold msgBytes
    rw [e]
    simp only [show hasB 8 1 = false by decide, show hasB 8 2 = false by decide, show hasB 8 4 = true by decide, show hasB 8 8 = true by decide, show hasB 8 16 = false by decide, show hasB 8 32 = false by decide, show hasB 8 64 = false by decide, show hasB 8 128 = false by decide, optB, if_true, if_false, Bool.false_eq_true, List.append_nil]
    exact h
  · have h := appendMessage_9 m w hd hG hf
    unfold msgBytes
    rw [e]
    simp only [show hasB 9 1 = false by decide, show hasB 9 2 = false by decide, show hasB 9 4 = true by decide, show hasB 9 8 = true by decide, show hasB 9 16 = true by decide, show hasB 9 32 = false by decide, show hasB 9 64 = false by decide, show hasB 9 128 = false by decide, optB, if_true, if_false, Bool.false_eq_true, List.append_nil]
    exact h
  · have h := appendMessage_10 m w hd hG hf
    unfold msgBytes
    rw [e]
    simp only [show hasB 10 1 = false by decide, show hasB 10 2 = false by decide, show hasB 10 4 = true by decide, show hasB 10 8 = true by decide, show hasB 10 16 = true by decide, show hasB 10 32 = false by decide, show hasB 10 64 = false by decide, show hasB 10 128 = false by decide, optB, if_true, if_false, Bool.false_eq_true, List.append_nil]
    exact h
  · have h := appendMessage_11 m w hd hG hf
    unfold msgBytes
    rw [e]
    simp only [show hasB 11 1 = false by decide, show hasB 11 2 = false by decide, show hasB 11 4 = true by decide, show hasB 11 8 = true by decide, show hasB 11 16 = false by decide, show hasB 11 32 = false by decide, show hasB 11 64 = false by decide, show hasB 11 128 = false by decide, optB, if_true, if_false, Bool.false_eq_true, List.append_nil]
    exact h
  · have h := appendMessage_12 m w hd hG hf
    unfold msgBytes
    rw [e]
    simp only [show hasB 12 1 = false by decide, show hasB 12 2 = false by decide, show hasB 12 4 = true by decide, show hasB 12 8 = true by decide, show hasB 12 16 = false by decide, show hasB 12 32 = false by decide, show hasB 12 64 = false by decide, show hasB 12 128 = false by decide, optB, if_true, if_false, Bool.false_eq_true, List.append_nil]
    exact h

set_option maxHeartbeats 1000000 in
theorem encode_any (m : Msg) (w : World) (hd : DepsAt w m.ao m.past) (hr : m.past.length * 24 ≤ 140737488351232) (hG : GTab w) (hf : msgB m = true → Fit m) :
    Calls Tryd.prog 7 #[.agg #[.int .i64 m.kind, .int .i64 m.src, .int .i64 m.dst, .int .i64 m.clock, .int .i64 m.op, .int .i64 m.index, .int .i64 m.key, .int .i64 m.vc, .int .i64 m.vs, .int .i64 m.value, .int .i64 m.fk, .int .i64 m.fc, .int .i64 m.fs, .slice m.ao m.past.length m.c, .bool m.settled]] w fun e w' => ∃ v', e = .returned (.tuple #[v', .int .i64 (if msgB m then 0 else 5)]) ∧ w'.ownsRow w.heap.size 5 1 v' (if msgB m then msgBytes m else []).length (bytesV (if msgB m then msgBytes m else [])) ∧ Below w.heap.size w w' := by
  have hB0 := ((Below.refl w.heap.size w).alloc (Nat.le_refl _) (.cells #[.int .i64 m.kind, .int .i64 m.src, .int .i64 m.dst, .int .i64 m.clock, .int .i64 m.op, .int .i64 m.index, .int .i64 m.key, .int .i64 m.vc, .int .i64 m.vs, .int .i64 m.value, .int .i64 m.fk, .int .i64 m.fc, .int .i64 m.fs, .slice m.ao m.past.length m.c, .bool m.settled] 28))
  have hG0 : GTab (w.alloc (.cells #[.int .i64 m.kind, .int .i64 m.src, .int .i64 m.dst, .int .i64 m.clock, .int .i64 m.op, .int .i64 m.index, .int .i64 m.key, .int .i64 m.vc, .int .i64 m.vs, .int .i64 m.value, .int .i64 m.fk, .int .i64 m.fc, .int .i64 m.fs, .slice m.ao m.past.length m.c, .bool m.settled] 28)) := ⟨by simp, fun i hi => (hB0.cell (by exact hG.1)).trans (hG.2 i hi)⟩
  cases hm : msgB m
  · go_enter Tryd.func7, Tryd.ntmps7
    go_wp2_with (go_at_call 16; refine (isMessage_any m _ (hd.below hB0 (Nat.le_refl _)) hr hG0).mono ?_; rintro e w1 ⟨rfl, hb1⟩)
    go_ret2
    exact ⟨_, rfl, World.ownsRow_nil _ _ _ _, hB0.trans (hb1.mono (by simp))⟩
  · have hk : isKindB m.kind = true := by
      unfold msgB at hm; simp at hm; exact hm.1
    go_enter Tryd.func7, Tryd.ntmps7
    go_wp2_with fail
    refine (isMessage_any m _ (hd.below hB0 (Nat.le_refl _)) hr hG0).mono ?_
    rintro e w1 ⟨rfl, hb1⟩
    have hc1 := (bcell hb1).1
    simp only [World.size_alloc] at hc1
    have hG1 : GTab w1 := ⟨by have := hb1.size; have := hG.1; simp at *; omega, fun i hi => (hb1.cell (by simp)).trans (hG0.2 i hi)⟩
    go_wp2_with fail
    refine (appendMessage_any m _ ((hd.below hB0 (Nat.le_refl _)).below hb1 (Nat.le_refl _)) hG1 (hf hm) hk).mono ?_
    rintro e w2 ⟨v2, L, rfl, hst⟩
    go_wp2
    go_ret2
    refine ⟨_, rfl, ?_, ?_⟩
    · have h1 := hst.own
      have h2 := hb1.size
      simp at h2
      obtain ⟨a1, a2⟩ := h1
      refine ⟨a1, ?_⟩
      rcases a2 with a2 | ⟨g, cap, cur, hv, hgb, r⟩
      · exact .inl a2
      · exact .inr ⟨g, cap, cur, hv, by simp at hgb; omega, r⟩
    · exact hB0.trans ((hb1.trans (((Below.refl _ _).alloc (Nat.le_refl _) _).trans (hst.below.mono (by simp)) |>.mono hb1.size)).mono (by simp))

end Go.Proofs.YtdpnmpfkbeommaaDoor
