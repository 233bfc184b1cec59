/-
  The document's Bytes.
-/
import Derived.Test.YtdpnmpfkbeommaaDoorH
import Derived.Test.YtdpnmpfkbeommaaDoorK
import Derived.Deep.DrawnRows
import Derived.Deep.RegionHeld3
import Derived.Deep.DeepCutAuto
namespace Go.Proofs.YtdpnmpfkbeommaaDoor
open Go.RowKit
attribute [local go_sem ↓] Go.wp_at_zero Go.wp_at_succ

theorem convAt (w : World) (b : Nat) (x : Int) (h : w.cell? ⟨b, 0, none⟩ = some (.int .u8 x)) : (convert 41 9 (.slice (some ⟨b, 0, none⟩) 1 1)).run Tryd.prog w = .ok (.string (sB [x])) w := by
  rw [run_convert_bytes_string _ 41 9 5 _ 1 1 Tryd.underlying41 Tryd.underlying5 Tryd.underlying9]
  have hl := run_loadCells_list (P := Tryd.prog) w ⟨b, 0, none⟩ (([x] : List Int).map (Value.int .u8)) (fun j v hj => by
    match j, hj with
    | 0, hj => simp at hj; subst hj; simpa [Addr.add] using h)
  simp only [List.length_map, List.length_cons, List.length_nil] at hl
  rw [run_bytesToString _ _ 1 1 [x] hl]
  rfl
theorem convKeep {W w1 : World} (x : Int) (hb : Below W.heap.size W w1) : ∀ b, b < W.heap.size → W.cell? ⟨b, 0, none⟩ = some (.int .u8 x) → (convert 41 9 (.slice (some ⟨b, 0, none⟩) 1 1)).run Tryd.prog w1 = .ok (.string (sB [x])) w1 :=
  fun b hlt h => convAt w1 b x ((hb.cell (p := ⟨b, 0, none⟩) hlt).trans h)

theorem keep4 {w1 w2 : World} {B : Nat} {k s d c : Int} (hb : Below w1.heap.size w1 w2)
    (h : w1.cell? ⟨B, 0, none⟩ = some (.int .i64 k) ∧ w1.cell? ⟨B, 1, none⟩ = some (.int .i64 s) ∧ w1.cell? ⟨B, 2, none⟩ = some (.int .i64 d) ∧ w1.cell? ⟨B, 3, none⟩ = some (.int .i64 c) ∧ B < w1.heap.size) :
    w2.cell? ⟨B, 0, none⟩ = some (.int .i64 k) ∧ w2.cell? ⟨B, 1, none⟩ = some (.int .i64 s) ∧ w2.cell? ⟨B, 2, none⟩ = some (.int .i64 d) ∧ w2.cell? ⟨B, 3, none⟩ = some (.int .i64 c) ∧ B < w2.heap.size := by
  obtain ⟨h0, h1, h2, h3, h4⟩ := h
  exact ⟨(hb.cell (by exact h4)).trans h0, (hb.cell (by exact h4)).trans h1, (hb.cell (by exact h4)).trans h2, (hb.cell (by exact h4)).trans h3, Nat.lt_of_lt_of_le h4 hb.size⟩

def letB (m : Msg) (c : Int) : List Int :=
  if c = 111 then numsB [m.op] else if c = 105 then numsB [m.index] else if c = 107 then numsB [m.key] else if c = 118 then numsB [m.vc, m.vs] else if c = 120 then vint 9 (zz m.value)
  else if c = 102 then numsB [m.fk, m.fc, m.fs] else if c = 112 then numsB [(m.past.length : Int)] ++ depsB m.past else if c = 115 then [flagB m.settled] else []
def lettersB (m : Msg) (l : List UInt8) : List Int := (l.map fun c => letB m (c.toNat : Int)).flatten
def refBytes (m : Msg) : List Int := [m.kind] ++ numsB [m.src, m.dst, m.clock] ++ lettersB m (letters m.kind)

theorem wpAnyH_mono {P : Program} {md : Region.Mode} {ops : Array Oper} {Q : Exit → Act → World → Prop} {S S2 : World → Prop} (h : ∀ w, S2 w → S w) :
    ∀ (fuel : Nat) (listed : Array Bool) (a : Act) (w : World), wpAnyH P md ops Q S2 fuel listed a w → wpAnyH P md ops Q S fuel listed a w
  | 0, _, _, _, hh => hh
  | fuel + 1, _, _, _, hh => ⟨hh.1, fun i hi => wpOp_mono (fun a' w' h' => ⟨h _ h'.1, wpAnyH_mono h fuel _ a' w' h'.2⟩) (hh.2 i hi)⟩

def S1 (W0 : World) (B : Nat) (k s d c : Int) (w' : World) : Prop := w'.cell? ⟨B, 0, none⟩ = some (.int .i64 k) ∧ w'.cell? ⟨B, 1, none⟩ = some (.int .i64 s) ∧ w'.cell? ⟨B, 2, none⟩ = some (.int .i64 d) ∧ w'.cell? ⟨B, 3, none⟩ = some (.int .i64 c) ∧ Below (B + 1) W0 w' ∧ B < w'.heap.size
def S2 (W0 : World) (B : Nat) (k s d c : Int) (b : Nat) (w' : World) : Prop := S1 W0 B k s d c w' ∧ w'.cell? ⟨b, 0, none⟩ = some (.int .u8 k) ∧ b < w'.heap.size
theorem S1.on {W0 w1 w2 : World} {B : Nat} {k s d c : Int} (hb : Below w1.heap.size w1 w2) (h : S1 W0 B k s d c w1) : S1 W0 B k s d c w2 := by
  obtain ⟨h0, h1, h2, h3, h5, h4⟩ := h
  exact ⟨(hb.cell (by exact h4)).trans h0, (hb.cell (by exact h4)).trans h1, (hb.cell (by exact h4)).trans h2, (hb.cell (by exact h4)).trans h3, h5.trans (hb.mono (by omega)), Nat.lt_of_lt_of_le h4 hb.size⟩
theorem S2.on {W0 w1 w2 : World} {B b : Nat} {k s d c : Int} (hb : Below w1.heap.size w1 w2) (h : S2 W0 B k s d c b w1) : S2 W0 B k s d c b w2 :=
  ⟨h.1.on hb, (hb.cell (by exact h.2.2)).trans h.2.1, Nat.lt_of_lt_of_le h.2.2 hb.size⟩

theorem keepD {w1 w2 : World} {B b o1 o2 o3 : Nat} {v x y z : Value} (hb : Below w1.heap.size w1 w2)
    (h : w1.cell? ⟨B, 13, none⟩ = some v ∧ w1.cell? ⟨b, o1, none⟩ = some x ∧ w1.cell? ⟨b, o2, none⟩ = some y ∧ w1.cell? ⟨b, o3, none⟩ = some z ∧ B < w1.heap.size ∧ b < w1.heap.size) :
    w2.cell? ⟨B, 13, none⟩ = some v ∧ w2.cell? ⟨b, o1, none⟩ = some x ∧ w2.cell? ⟨b, o2, none⟩ = some y ∧ w2.cell? ⟨b, o3, none⟩ = some z ∧ B < w2.heap.size ∧ b < w2.heap.size := by
  obtain ⟨h0, h1, h2, h3, h4, h5⟩ := h
  exact ⟨(hb.cell (by exact h4)).trans h0, (hb.cell (by exact h5)).trans h1, (hb.cell (by exact h5)).trans h2, (hb.cell (by exact h5)).trans h3, Nat.lt_of_lt_of_le h4 hb.size, Nat.lt_of_lt_of_le h5 hb.size⟩

theorem letters_len (k : Int) : (letters k).length ≤ 7 := by
  unfold letters
  repeat' split
  all_goals decide
def allL : List (List UInt8) := [[111, 107, 120, 112], [111, 107, 118], [111, 105, 107], [111, 105, 107, 118, 120, 112, 115], [111, 105, 107, 118], [107, 118, 120, 112], [107, 118], [107, 118, 102], []]
theorem letters_mem (k : Int) : letters k ∈ allL := by
  unfold letters
  repeat' split
  all_goals decide
theorem letters_in (k : Int) : ∀ c ∈ letters k, c.toNat = 111 ∨ c.toNat = 105 ∨ c.toNat = 107 ∨ c.toNat = 118 ∨ c.toNat = 120 ∨ c.toNat = 102 ∨ c.toNat = 112 ∨ c.toNat = 115 :=
  (show ∀ l ∈ allL, ∀ c ∈ l, c.toNat = 111 ∨ c.toNat = 105 ∨ c.toNat = 107 ∨ c.toNat = 118 ∨ c.toNat = 120 ∨ c.toNat = 102 ∨ c.toNat = 112 ∨ c.toNat = 115 by decide) _ (letters_mem k)
theorem letB_len (m : Msg) (h6 : m.past.length ≤ 6) (c : Int) : (letB m c).length ≤ 190 := by
  have a1 := numsB_len [m.op]
  have a2 := numsB_len [m.index]
  have a3 := numsB_len [m.key]
  have a4 := numsB_len [m.vc, m.vs]
  have a5 := vint_len 9 (zz m.value)
  have a6 := numsB_len [m.fk, m.fc, m.fs]
  have a7 := numsB_len [(m.past.length : Int)]
  have a8 := depsB_len m.past
  simp only [List.length_cons, List.length_nil] at a1 a2 a3 a4 a6 a7
  unfold letB
  repeat' split
  all_goals (try simp only [List.length_append, List.length_cons, List.length_nil])
  all_goals omega
theorem lettersB_snoc (m : Msg) (l : List UInt8) (c : UInt8) : lettersB m (l ++ [c]) = lettersB m l ++ letB m (c.toNat : Int) := by simp [lettersB]
theorem str_size (l : List UInt8) : (str l).size = l.length := by simp [str, ByteArray.size]
theorem pre_step {m : Msg} {pre cur : List Int} {l : List UInt8} {sl : ByteArray} (hs : sl = str l) {k : Nat} (hlt : k < sl.size) (hc : cur = pre ++ lettersB m (l.take k)) {c : Int} (hx : (sl[k].toNat : Int) = c) : cur ++ letB m c = pre ++ lettersB m (l.take (k + 1)) := by
  subst hs
  have hk : k < l.length := by rw [str_size] at hlt; exact hlt
  have e1 : l.take (k + 1) = l.take k ++ [l[k]] := List.take_succ_eq_append_getElem hk
  rw [e1, lettersB_snoc, hc, ← List.append_assoc, ← hx]
  rfl

set_option maxRecDepth 100000 in
set_option maxHeartbeats 8000000 in
theorem rbytes_any (m : Msg) (w : World) (hd : DepsAt w m.ao m.past) (hf : Fit m) (hk : isKindB m.kind = true) :
    Calls Tryd.prog 11 #[.agg #[.int .i64 m.kind, .int .i64 m.src, .int .i64 m.dst, .int .i64 m.clock, .int .i64 m.op, .int .i64 m.index, .int .i64 m.key, .int .i64 m.vc, .int .i64 m.vs, .int .i64 m.value, .int .i64 m.fk, .int .i64 m.fc, .int .i64 m.fs, .slice m.ao m.past.length m.c, .bool m.settled]] w
      fun e w' => e = .returned (.string (sB (refBytes m))) ∧ Below w.heap.size w w' := by
  have hsz := sB_size
  have happ := sB_append
  have hB0 := ((Below.refl w.heap.size w).alloc (Nat.le_refl _) (.cells #[.int .i64 m.kind, .int .i64 m.src, .int .i64 m.dst, .int .i64 m.clock, .int .i64 m.op, .int .i64 m.index, .int .i64 m.key, .int .i64 m.vc, .int .i64 m.vs, .int .i64 m.value, .int .i64 m.fk, .int .i64 m.fc, .int .i64 m.fs, .slice m.ao m.past.length m.c, .bool m.settled] 28))
  have hk' : 0 < m.kind ∧ m.kind < 13 := by simpa [isKindB] using hk
  have hwk : IntKind.u8.wrap m.kind = m.kind := by simp [IntKind.wrap, IntKind.bits, IntKind.signed]; omega
  have l1 := numsB_len [m.src]
  have l2 := numsB_len [m.dst]
  have l3 := numsB_len [m.clock]
  simp only [List.length_cons, List.length_nil] at l1 l2 l3
  have q1 : ¬ 9223372036854775807 < (numsB [m.src]).length + 1 := by omega
  have q1' : ¬ 9223372036854775807 < 1 + (numsB [m.src]).length := by omega
  have q2 : ¬ 9223372036854775807 < (numsB [m.src]).length + 1 + (numsB [m.dst]).length := by omega
  have q3 : ¬ 9223372036854775807 < (numsB [m.src]).length + (numsB [m.dst]).length + 1 + (numsB [m.clock]).length := by omega
  have q3' : ¬ 9223372036854775807 < (numsB [m.src]).length + 1 + (numsB [m.dst]).length + (numsB [m.clock]).length := by omega
  go_enter Tryd.func11, Tryd.ntmps11
  go_upto_region 1 with fail
  go_cut [3] (fun t3 wx => t3 = .string (sB ([m.kind] ++ numsB [m.src, m.dst, m.clock])) ∧ Below (w.heap.size + 1) (w.alloc (.cells #[.int .i64 m.kind, .int .i64 m.src, .int .i64 m.dst, .int .i64 m.clock, .int .i64 m.op, .int .i64 m.index, .int .i64 m.key, .int .i64 m.vc, .int .i64 m.vs, .int .i64 m.value, .int .i64 m.fk, .int .i64 m.fc, .int .i64 m.fs, .slice m.ao m.past.length m.c, .bool m.settled] 28)) wx)
  case first =>
    refine wp_region_held_drew (S := S1 (w.alloc (.cells #[.int .i64 m.kind, .int .i64 m.src, .int .i64 m.dst, .int .i64 m.clock, .int .i64 m.op, .int .i64 m.index, .int .i64 m.key, .int .i64 m.vc, .int .i64 m.vs, .int .i64 m.value, .int .i64 m.fk, .int .i64 m.fc, .int .i64 m.fs, .slice m.ao m.past.length m.c, .bool m.settled] 28)) w.heap.size m.kind m.src m.dst m.clock) (by kernel_rfl) ?_ (fun hHeld => ?_)
    · exact ⟨by simp, by simp, by simp, by simp, (Below.refl _ _).drew, by simp⟩
    (refine wpAnyH_take (i := 0) (v := ?_) rfl (by kernel_rfl) (by kernel_rfl) (by kernel_rfl) (fun _ _ _ h => h) (Or.inl ⟨by rfl, ?_⟩) (by assumption) ?_; rotate_left; focus (intro wz hSw; (first | obtain ⟨⟨h0, h1, h2, h3, h4⟩, h5, h6⟩ := hSw | obtain ⟨h0, h1, h2, h3, h4⟩ := hSw); go_simp; try with_reducible rfl); try simp only [Act.put, List.setIfInBounds_toArray, List.set_cons_zero, List.set_cons_succ])
    (refine wpAnyH_take (i := 1) (v := ?_) rfl (by kernel_rfl) (by kernel_rfl) (by kernel_rfl) (fun _ _ _ h => h) (Or.inl ⟨by rfl, ?_⟩) (by assumption) ?_; rotate_left; focus (intro wz hSw; (first | obtain ⟨⟨h0, h1, h2, h3, h4⟩, h5, h6⟩ := hSw | obtain ⟨h0, h1, h2, h3, h4⟩ := hSw); go_simp; try with_reducible rfl); try simp only [Act.put, List.setIfInBounds_toArray, List.set_cons_zero, List.set_cons_succ])
    (refine wpAnyH_take (i := 2) (v := ?_) rfl (by kernel_rfl) (by kernel_rfl) (by kernel_rfl) (fun _ _ _ h => h) (Or.inl ⟨by rfl, ?_⟩) (by assumption) ?_; rotate_left; focus (intro wz hSw; (first | obtain ⟨⟨h0, h1, h2, h3, h4⟩, h5, h6⟩ := hSw | obtain ⟨h0, h1, h2, h3, h4⟩ := hSw); go_simp; try with_reducible rfl); try simp only [Act.put, List.setIfInBounds_toArray, List.set_cons_zero, List.set_cons_succ])
    (refine wpAnyH_take (i := 5) (v := ?_) rfl (by kernel_rfl) (by kernel_rfl) (by kernel_rfl) (fun _ _ _ h => h) (Or.inl ⟨by rfl, ?_⟩) (by assumption) ?_; rotate_left; focus (intro wz hSw; (first | obtain ⟨⟨h0, h1, h2, h3, h4⟩, h5, h6⟩ := hSw | obtain ⟨h0, h1, h2, h3, h4⟩ := hSw); go_simp; try with_reducible rfl); try simp only [Act.put, List.setIfInBounds_toArray, List.set_cons_zero, List.set_cons_succ])
    (refine wpAnyH_take (i := 6) (v := ?_) rfl (by kernel_rfl) (by kernel_rfl) (by kernel_rfl) (fun _ _ _ h => h) (Or.inl ⟨by rfl, ?_⟩) (by assumption) ?_; rotate_left; focus (intro wz hSw; (first | obtain ⟨⟨h0, h1, h2, h3, h4⟩, h5, h6⟩ := hSw | obtain ⟨h0, h1, h2, h3, h4⟩ := hSw); go_simp; try with_reducible rfl); try simp only [Act.put, List.setIfInBounds_toArray, List.set_cons_zero, List.set_cons_succ])
    (refine wpAnyH_take (i := 9) (v := ?_) rfl (by kernel_rfl) (by kernel_rfl) (by kernel_rfl) (fun _ _ _ h => h) (Or.inl ⟨by rfl, ?_⟩) (by assumption) ?_; rotate_left; focus (intro wz hSw; (first | obtain ⟨⟨h0, h1, h2, h3, h4⟩, h5, h6⟩ := hSw | obtain ⟨h0, h1, h2, h3, h4⟩ := hSw); go_simp; try with_reducible rfl); try simp only [Act.put, List.setIfInBounds_toArray, List.set_cons_zero, List.set_cons_succ])
    (refine wpAnyH_take (i := 10) (v := ?_) rfl (by kernel_rfl) (by kernel_rfl) (by kernel_rfl) (fun _ _ _ h => h) (Or.inl ⟨by rfl, ?_⟩) (by assumption) ?_; rotate_left; focus (intro wz hSw; (first | obtain ⟨⟨h0, h1, h2, h3, h4⟩, h5, h6⟩ := hSw | obtain ⟨h0, h1, h2, h3, h4⟩ := hSw); go_simp; try with_reducible rfl); try simp only [Act.put, List.setIfInBounds_toArray, List.set_cons_zero, List.set_cons_succ])
    (refine wpAnyH_take (i := 13) (v := ?_) rfl (by kernel_rfl) (by kernel_rfl) (by kernel_rfl) (fun _ _ _ h => h) (Or.inl ⟨by rfl, ?_⟩) (by assumption) ?_; rotate_left; focus (intro wz hSw; (first | obtain ⟨⟨h0, h1, h2, h3, h4⟩, h5, h6⟩ := hSw | obtain ⟨h0, h1, h2, h3, h4⟩ := hSw); go_simp; try with_reducible rfl); try simp only [Act.put, List.setIfInBounds_toArray, List.set_cons_zero, List.set_cons_succ])
    (refine wpAnyH_take (i := 14) (v := ?_) rfl (by kernel_rfl) (by kernel_rfl) (by kernel_rfl) (fun _ _ _ h => h) (Or.inl ⟨by rfl, ?_⟩) (by assumption) ?_; rotate_left; focus (intro wz hSw; (first | obtain ⟨⟨h0, h1, h2, h3, h4⟩, h5, h6⟩ := hSw | obtain ⟨h0, h1, h2, h3, h4⟩ := hSw); go_simp; try with_reducible rfl); try simp only [Act.put, List.setIfInBounds_toArray, List.set_cons_zero, List.set_cons_succ])
    refine wpAnyH_ready (rs := [3, 7]) (by kernel_rfl) (by simp) ?_
    refine AllReadyH.cons rfl (fun K hK => ?_) ?_
    · go_simp
      refine hK.out _ _ ?_ (fun hHeld => ?_)
      · exact S1.on ((Below.refl _ _).alloc (Nat.le_refl _) _) hHeld
      clear hK K
      try simp only [Act.put, List.setIfInBounds_toArray, List.set_cons_zero, List.set_cons_succ]
      refine wpAnyH_mono (S2 := S2 (w.alloc (.cells #[.int .i64 m.kind, .int .i64 m.src, .int .i64 m.dst, .int .i64 m.clock, .int .i64 m.op, .int .i64 m.index, .int .i64 m.key, .int .i64 m.vc, .int .i64 m.vs, .int .i64 m.value, .int .i64 m.fk, .int .i64 m.fc, .int .i64 m.fs, .slice m.ao m.past.length m.c, .bool m.settled] 28)) w.heap.size m.kind m.src m.dst m.clock (w.heap.size + 1)) (fun _ h => h.1) _ _ _ _ ?_
      have hcvb := fun w' => convAt w' (w.heap.size + 1) m.kind
      replace hHeld := (show S2 (w.alloc (.cells #[.int .i64 m.kind, .int .i64 m.src, .int .i64 m.dst, .int .i64 m.clock, .int .i64 m.op, .int .i64 m.index, .int .i64 m.key, .int .i64 m.vc, .int .i64 m.vs, .int .i64 m.value, .int .i64 m.fk, .int .i64 m.fc, .int .i64 m.fs, .slice m.ao m.past.length m.c, .bool m.settled] 28)) w.heap.size m.kind m.src m.dst m.clock (w.heap.size + 1) _ from ⟨hHeld, by simp, by simp⟩)
      (refine wpAnyH_take (i := 4) (v := ?_) rfl (by kernel_rfl) (by kernel_rfl) (by kernel_rfl) (fun _ _ _ h => h) (Or.inl ⟨by rfl, ?_⟩) (by assumption) ?_; rotate_left; focus (intro wz hSw; (first | obtain ⟨⟨h0, h1, h2, h3, h4⟩, h5, h6⟩ := hSw | obtain ⟨h0, h1, h2, h3, h4⟩ := hSw); go_simp; try with_reducible rfl); try simp only [Act.put, List.setIfInBounds_toArray, List.set_cons_zero, List.set_cons_succ])
      refine wpAnyH_ready (rs := [7]) (by kernel_rfl) (by simp) ?_
      refine AllReadyH.cons rfl (fun K hK => ?_) ?_
      · go_simp
        refine (rnum_any m.src _ hf.src).mono ?_
        rintro e w1 ⟨rfl, hb1⟩
        go_wp2_with fail
        refine hK.out _ _ ?_ (fun hHeld => ?_)
        · exact S2.on hb1 hHeld
        clear hK K
        try simp only [Act.put, List.setIfInBounds_toArray, List.set_cons_zero, List.set_cons_succ]
        (refine wpAnyH_take (i := 8) (v := ?_) rfl (by kernel_rfl) (by kernel_rfl) (by kernel_rfl) (fun _ _ _ h => h) (Or.inl ⟨by rfl, ?_⟩) (by assumption) ?_; rotate_left; focus (intro wz hSw; (first | obtain ⟨⟨h0, h1, h2, h3, h4⟩, h5, h6⟩ := hSw | obtain ⟨h0, h1, h2, h3, h4⟩ := hSw); go_simp; try with_reducible rfl); try simp only [Act.put, List.setIfInBounds_toArray, List.set_cons_zero, List.set_cons_succ])
        refine wpAnyH_ready (rs := [11]) (by kernel_rfl) (by simp) ?_
        refine AllReadyH.cons rfl (fun K hK => ?_) ?_
        · go_simp
          refine (rnum_any m.dst _ hf.dst).mono ?_
          rintro e w2 ⟨rfl, hb2⟩
          go_wp2_with fail
          refine hK.out _ _ ?_ (fun hHeld => ?_)
          · exact S2.on hb2 hHeld
          clear hK K
          try simp only [Act.put, List.setIfInBounds_toArray, List.set_cons_zero, List.set_cons_succ]
          (refine wpAnyH_take (i := 12) (v := ?_) rfl (by kernel_rfl) (by kernel_rfl) (by kernel_rfl) (fun _ _ _ h => h) (Or.inl ⟨by rfl, ?_⟩) (by assumption) ?_; rotate_left; focus (intro wz hSw; (first | obtain ⟨⟨h0, h1, h2, h3, h4⟩, h5, h6⟩ := hSw | obtain ⟨h0, h1, h2, h3, h4⟩ := hSw); go_simp; try with_reducible rfl); try simp only [Act.put, List.setIfInBounds_toArray, List.set_cons_zero, List.set_cons_succ])
          refine wpAnyH_ready (rs := [15]) (by kernel_rfl) (by simp) ?_
          refine AllReadyH.cons rfl (fun K hK => ?_) ?_
          · go_simp
            refine (rnum_any m.clock _ hf.clock).mono ?_
            rintro e w3 ⟨rfl, hb3⟩
            go_wp2_with fail
            refine hK.out _ _ ?_ (fun hHeld => ?_)
            · exact S2.on hb3 hHeld
            clear hK K
            try simp only [Act.put, List.setIfInBounds_toArray, List.set_cons_zero, List.set_cons_succ]
            (refine wpAnyH_take (i := 16) (v := ?_) rfl (by kernel_rfl) (by kernel_rfl) (by kernel_rfl) (fun _ _ _ h => h) (Or.inl ⟨by rfl, ?_⟩) (by assumption) ?_; rotate_left; focus (intro wz hSw; (first | obtain ⟨⟨h0, h1, h2, h3, h4⟩, h5, h6⟩ := hSw | obtain ⟨h0, h1, h2, h3, h4⟩ := hSw); go_simp; try with_reducible rfl); try simp only [Act.put, List.setIfInBounds_toArray, List.set_cons_zero, List.set_cons_succ])
            (refine wpAnyH_take (i := 17) (v := ?_) rfl (by kernel_rfl) (by kernel_rfl) (by kernel_rfl) (fun _ _ _ h => h) (Or.inl ⟨by rfl, ?_⟩) (by assumption) ?_; rotate_left; focus (intro wz hSw; (first | obtain ⟨⟨h0, h1, h2, h3, h4⟩, h5, h6⟩ := hSw | obtain ⟨h0, h1, h2, h3, h4⟩ := hSw); go_simp; try with_reducible rfl); try simp only [Act.put, List.setIfInBounds_toArray, List.set_cons_zero, List.set_cons_succ])
            refine wpAnyH_done (by kernel_rfl) ?_ _
            go_wp2_with fail
            go_meet
            exact ⟨by simp [numsB], hHeld.1.2.2.2.2.1⟩
          exact AllReadyH.nil
        exact AllReadyH.nil
      exact AllReadyH.nil
    refine AllReadyH.cons rfl (fun K hK => ?_) ?_
    · go_simp
      refine (rnum_any m.src _ hf.src).mono ?_
      rintro e w1 ⟨rfl, hb1⟩
      go_wp2_with fail
      refine hK.out _ _ ?_ (fun hHeld => ?_)
      · exact S1.on hb1 hHeld
      clear hK K
      try simp only [Act.put, List.setIfInBounds_toArray, List.set_cons_zero, List.set_cons_succ]
      refine wpAnyH_ready (rs := [3, 11]) (by kernel_rfl) (by simp) ?_
      refine AllReadyH.cons rfl (fun K hK => ?_) ?_
      · go_simp
        refine hK.out _ _ ?_ (fun hHeld => ?_)
        · exact S1.on ((Below.refl _ _).alloc (Nat.le_refl _) _) hHeld
        clear hK K
        try simp only [Act.put, List.setIfInBounds_toArray, List.set_cons_zero, List.set_cons_succ]
        refine wpAnyH_mono (S2 := S2 (w.alloc (.cells #[.int .i64 m.kind, .int .i64 m.src, .int .i64 m.dst, .int .i64 m.clock, .int .i64 m.op, .int .i64 m.index, .int .i64 m.key, .int .i64 m.vc, .int .i64 m.vs, .int .i64 m.value, .int .i64 m.fk, .int .i64 m.fc, .int .i64 m.fs, .slice m.ao m.past.length m.c, .bool m.settled] 28)) w.heap.size m.kind m.src m.dst m.clock w1.heap.size) (fun _ h => h.1) _ _ _ _ ?_
        have hcvb := fun w' => convAt w' w1.heap.size m.kind
        replace hHeld := (show S2 (w.alloc (.cells #[.int .i64 m.kind, .int .i64 m.src, .int .i64 m.dst, .int .i64 m.clock, .int .i64 m.op, .int .i64 m.index, .int .i64 m.key, .int .i64 m.vc, .int .i64 m.vs, .int .i64 m.value, .int .i64 m.fk, .int .i64 m.fc, .int .i64 m.fs, .slice m.ao m.past.length m.c, .bool m.settled] 28)) w.heap.size m.kind m.src m.dst m.clock w1.heap.size _ from ⟨hHeld, by simp, by simp⟩)
        (refine wpAnyH_take (i := 4) (v := ?_) rfl (by kernel_rfl) (by kernel_rfl) (by kernel_rfl) (fun _ _ _ h => h) (Or.inl ⟨by rfl, ?_⟩) (by assumption) ?_; rotate_left; focus (intro wz hSw; (first | obtain ⟨⟨h0, h1, h2, h3, h4⟩, h5, h6⟩ := hSw | obtain ⟨h0, h1, h2, h3, h4⟩ := hSw); go_simp; try with_reducible rfl); try simp only [Act.put, List.setIfInBounds_toArray, List.set_cons_zero, List.set_cons_succ])
        (refine wpAnyH_take (i := 8) (v := ?_) rfl (by kernel_rfl) (by kernel_rfl) (by kernel_rfl) (fun _ _ _ h => h) (Or.inl ⟨by rfl, ?_⟩) (by assumption) ?_; rotate_left; focus (intro wz hSw; (first | obtain ⟨⟨h0, h1, h2, h3, h4⟩, h5, h6⟩ := hSw | obtain ⟨h0, h1, h2, h3, h4⟩ := hSw); go_simp; try with_reducible rfl); try simp only [Act.put, List.setIfInBounds_toArray, List.set_cons_zero, List.set_cons_succ])
        refine wpAnyH_ready (rs := [11]) (by kernel_rfl) (by simp) ?_
        refine AllReadyH.cons rfl (fun K hK => ?_) ?_
        · go_simp
          refine (rnum_any m.dst _ hf.dst).mono ?_
          rintro e w2 ⟨rfl, hb2⟩
          go_wp2_with fail
          refine hK.out _ _ ?_ (fun hHeld => ?_)
          · exact S2.on hb2 hHeld
          clear hK K
          try simp only [Act.put, List.setIfInBounds_toArray, List.set_cons_zero, List.set_cons_succ]
          (refine wpAnyH_take (i := 12) (v := ?_) rfl (by kernel_rfl) (by kernel_rfl) (by kernel_rfl) (fun _ _ _ h => h) (Or.inl ⟨by rfl, ?_⟩) (by assumption) ?_; rotate_left; focus (intro wz hSw; (first | obtain ⟨⟨h0, h1, h2, h3, h4⟩, h5, h6⟩ := hSw | obtain ⟨h0, h1, h2, h3, h4⟩ := hSw); go_simp; try with_reducible rfl); try simp only [Act.put, List.setIfInBounds_toArray, List.set_cons_zero, List.set_cons_succ])
          refine wpAnyH_ready (rs := [15]) (by kernel_rfl) (by simp) ?_
          refine AllReadyH.cons rfl (fun K hK => ?_) ?_
          · go_simp
            refine (rnum_any m.clock _ hf.clock).mono ?_
            rintro e w3 ⟨rfl, hb3⟩
            go_wp2_with fail
            refine hK.out _ _ ?_ (fun hHeld => ?_)
            · exact S2.on hb3 hHeld
            clear hK K
            try simp only [Act.put, List.setIfInBounds_toArray, List.set_cons_zero, List.set_cons_succ]
            (refine wpAnyH_take (i := 16) (v := ?_) rfl (by kernel_rfl) (by kernel_rfl) (by kernel_rfl) (fun _ _ _ h => h) (Or.inl ⟨by rfl, ?_⟩) (by assumption) ?_; rotate_left; focus (intro wz hSw; (first | obtain ⟨⟨h0, h1, h2, h3, h4⟩, h5, h6⟩ := hSw | obtain ⟨h0, h1, h2, h3, h4⟩ := hSw); go_simp; try with_reducible rfl); try simp only [Act.put, List.setIfInBounds_toArray, List.set_cons_zero, List.set_cons_succ])
            (refine wpAnyH_take (i := 17) (v := ?_) rfl (by kernel_rfl) (by kernel_rfl) (by kernel_rfl) (fun _ _ _ h => h) (Or.inl ⟨by rfl, ?_⟩) (by assumption) ?_; rotate_left; focus (intro wz hSw; (first | obtain ⟨⟨h0, h1, h2, h3, h4⟩, h5, h6⟩ := hSw | obtain ⟨h0, h1, h2, h3, h4⟩ := hSw); go_simp; try with_reducible rfl); try simp only [Act.put, List.setIfInBounds_toArray, List.set_cons_zero, List.set_cons_succ])
            refine wpAnyH_done (by kernel_rfl) ?_ _
            go_wp2_with fail
            go_meet
            exact ⟨by simp [numsB], hHeld.1.2.2.2.2.1⟩
          exact AllReadyH.nil
        exact AllReadyH.nil
      refine AllReadyH.cons rfl (fun K hK => ?_) ?_
      · go_simp
        refine (rnum_any m.dst _ hf.dst).mono ?_
        rintro e w2 ⟨rfl, hb2⟩
        go_wp2_with fail
        refine hK.out _ _ ?_ (fun hHeld => ?_)
        · exact S1.on hb2 hHeld
        clear hK K
        try simp only [Act.put, List.setIfInBounds_toArray, List.set_cons_zero, List.set_cons_succ]
        refine wpAnyH_ready (rs := [3, 15]) (by kernel_rfl) (by simp) ?_
        refine AllReadyH.cons rfl (fun K hK => ?_) ?_
        · go_simp
          refine hK.out _ _ ?_ (fun hHeld => ?_)
          · exact S1.on ((Below.refl _ _).alloc (Nat.le_refl _) _) hHeld
          clear hK K
          try simp only [Act.put, List.setIfInBounds_toArray, List.set_cons_zero, List.set_cons_succ]
          refine wpAnyH_mono (S2 := S2 (w.alloc (.cells #[.int .i64 m.kind, .int .i64 m.src, .int .i64 m.dst, .int .i64 m.clock, .int .i64 m.op, .int .i64 m.index, .int .i64 m.key, .int .i64 m.vc, .int .i64 m.vs, .int .i64 m.value, .int .i64 m.fk, .int .i64 m.fc, .int .i64 m.fs, .slice m.ao m.past.length m.c, .bool m.settled] 28)) w.heap.size m.kind m.src m.dst m.clock w2.heap.size) (fun _ h => h.1) _ _ _ _ ?_
          have hcvb := fun w' => convAt w' w2.heap.size m.kind
          replace hHeld := (show S2 (w.alloc (.cells #[.int .i64 m.kind, .int .i64 m.src, .int .i64 m.dst, .int .i64 m.clock, .int .i64 m.op, .int .i64 m.index, .int .i64 m.key, .int .i64 m.vc, .int .i64 m.vs, .int .i64 m.value, .int .i64 m.fk, .int .i64 m.fc, .int .i64 m.fs, .slice m.ao m.past.length m.c, .bool m.settled] 28)) w.heap.size m.kind m.src m.dst m.clock w2.heap.size _ from ⟨hHeld, by simp, by simp⟩)
          (refine wpAnyH_take (i := 4) (v := ?_) rfl (by kernel_rfl) (by kernel_rfl) (by kernel_rfl) (fun _ _ _ h => h) (Or.inl ⟨by rfl, ?_⟩) (by assumption) ?_; rotate_left; focus (intro wz hSw; (first | obtain ⟨⟨h0, h1, h2, h3, h4⟩, h5, h6⟩ := hSw | obtain ⟨h0, h1, h2, h3, h4⟩ := hSw); go_simp; try with_reducible rfl); try simp only [Act.put, List.setIfInBounds_toArray, List.set_cons_zero, List.set_cons_succ])
          (refine wpAnyH_take (i := 8) (v := ?_) rfl (by kernel_rfl) (by kernel_rfl) (by kernel_rfl) (fun _ _ _ h => h) (Or.inl ⟨by rfl, ?_⟩) (by assumption) ?_; rotate_left; focus (intro wz hSw; (first | obtain ⟨⟨h0, h1, h2, h3, h4⟩, h5, h6⟩ := hSw | obtain ⟨h0, h1, h2, h3, h4⟩ := hSw); go_simp; try with_reducible rfl); try simp only [Act.put, List.setIfInBounds_toArray, List.set_cons_zero, List.set_cons_succ])
          (refine wpAnyH_take (i := 12) (v := ?_) rfl (by kernel_rfl) (by kernel_rfl) (by kernel_rfl) (fun _ _ _ h => h) (Or.inl ⟨by rfl, ?_⟩) (by assumption) ?_; rotate_left; focus (intro wz hSw; (first | obtain ⟨⟨h0, h1, h2, h3, h4⟩, h5, h6⟩ := hSw | obtain ⟨h0, h1, h2, h3, h4⟩ := hSw); go_simp; try with_reducible rfl); try simp only [Act.put, List.setIfInBounds_toArray, List.set_cons_zero, List.set_cons_succ])
          refine wpAnyH_ready (rs := [15]) (by kernel_rfl) (by simp) ?_
          refine AllReadyH.cons rfl (fun K hK => ?_) ?_
          · go_simp
            refine (rnum_any m.clock _ hf.clock).mono ?_
            rintro e w3 ⟨rfl, hb3⟩
            go_wp2_with fail
            refine hK.out _ _ ?_ (fun hHeld => ?_)
            · exact S2.on hb3 hHeld
            clear hK K
            try simp only [Act.put, List.setIfInBounds_toArray, List.set_cons_zero, List.set_cons_succ]
            (refine wpAnyH_take (i := 16) (v := ?_) rfl (by kernel_rfl) (by kernel_rfl) (by kernel_rfl) (fun _ _ _ h => h) (Or.inl ⟨by rfl, ?_⟩) (by assumption) ?_; rotate_left; focus (intro wz hSw; (first | obtain ⟨⟨h0, h1, h2, h3, h4⟩, h5, h6⟩ := hSw | obtain ⟨h0, h1, h2, h3, h4⟩ := hSw); go_simp; try with_reducible rfl); try simp only [Act.put, List.setIfInBounds_toArray, List.set_cons_zero, List.set_cons_succ])
            (refine wpAnyH_take (i := 17) (v := ?_) rfl (by kernel_rfl) (by kernel_rfl) (by kernel_rfl) (fun _ _ _ h => h) (Or.inl ⟨by rfl, ?_⟩) (by assumption) ?_; rotate_left; focus (intro wz hSw; (first | obtain ⟨⟨h0, h1, h2, h3, h4⟩, h5, h6⟩ := hSw | obtain ⟨h0, h1, h2, h3, h4⟩ := hSw); go_simp; try with_reducible rfl); try simp only [Act.put, List.setIfInBounds_toArray, List.set_cons_zero, List.set_cons_succ])
            refine wpAnyH_done (by kernel_rfl) ?_ _
            go_wp2_with fail
            go_meet
            exact ⟨by simp [numsB], hHeld.1.2.2.2.2.1⟩
          exact AllReadyH.nil
        refine AllReadyH.cons rfl (fun K hK => ?_) ?_
        · go_simp
          refine (rnum_any m.clock _ hf.clock).mono ?_
          rintro e w3 ⟨rfl, hb3⟩
          go_wp2_with fail
          refine hK.out _ _ ?_ (fun hHeld => ?_)
          · exact S1.on hb3 hHeld
          clear hK K
          try simp only [Act.put, List.setIfInBounds_toArray, List.set_cons_zero, List.set_cons_succ]
          refine wpAnyH_ready (rs := [3]) (by kernel_rfl) (by simp) ?_
          refine AllReadyH.cons rfl (fun K hK => ?_) ?_
          · go_simp
            refine hK.out _ _ ?_ (fun hHeld => ?_)
            · exact S1.on ((Below.refl _ _).alloc (Nat.le_refl _) _) hHeld
            clear hK K
            try simp only [Act.put, List.setIfInBounds_toArray, List.set_cons_zero, List.set_cons_succ]
            refine wpAnyH_mono (S2 := S2 (w.alloc (.cells #[.int .i64 m.kind, .int .i64 m.src, .int .i64 m.dst, .int .i64 m.clock, .int .i64 m.op, .int .i64 m.index, .int .i64 m.key, .int .i64 m.vc, .int .i64 m.vs, .int .i64 m.value, .int .i64 m.fk, .int .i64 m.fc, .int .i64 m.fs, .slice m.ao m.past.length m.c, .bool m.settled] 28)) w.heap.size m.kind m.src m.dst m.clock w3.heap.size) (fun _ h => h.1) _ _ _ _ ?_
            have hcvb := fun w' => convAt w' w3.heap.size m.kind
            replace hHeld := (show S2 (w.alloc (.cells #[.int .i64 m.kind, .int .i64 m.src, .int .i64 m.dst, .int .i64 m.clock, .int .i64 m.op, .int .i64 m.index, .int .i64 m.key, .int .i64 m.vc, .int .i64 m.vs, .int .i64 m.value, .int .i64 m.fk, .int .i64 m.fc, .int .i64 m.fs, .slice m.ao m.past.length m.c, .bool m.settled] 28)) w.heap.size m.kind m.src m.dst m.clock w3.heap.size _ from ⟨hHeld, by simp, by simp⟩)
            (refine wpAnyH_take (i := 4) (v := ?_) rfl (by kernel_rfl) (by kernel_rfl) (by kernel_rfl) (fun _ _ _ h => h) (Or.inl ⟨by rfl, ?_⟩) (by assumption) ?_; rotate_left; focus (intro wz hSw; (first | obtain ⟨⟨h0, h1, h2, h3, h4⟩, h5, h6⟩ := hSw | obtain ⟨h0, h1, h2, h3, h4⟩ := hSw); go_simp; try with_reducible rfl); try simp only [Act.put, List.setIfInBounds_toArray, List.set_cons_zero, List.set_cons_succ])
            (refine wpAnyH_take (i := 8) (v := ?_) rfl (by kernel_rfl) (by kernel_rfl) (by kernel_rfl) (fun _ _ _ h => h) (Or.inl ⟨by rfl, ?_⟩) (by assumption) ?_; rotate_left; focus (intro wz hSw; (first | obtain ⟨⟨h0, h1, h2, h3, h4⟩, h5, h6⟩ := hSw | obtain ⟨h0, h1, h2, h3, h4⟩ := hSw); go_simp; try with_reducible rfl); try simp only [Act.put, List.setIfInBounds_toArray, List.set_cons_zero, List.set_cons_succ])
            (refine wpAnyH_take (i := 12) (v := ?_) rfl (by kernel_rfl) (by kernel_rfl) (by kernel_rfl) (fun _ _ _ h => h) (Or.inl ⟨by rfl, ?_⟩) (by assumption) ?_; rotate_left; focus (intro wz hSw; (first | obtain ⟨⟨h0, h1, h2, h3, h4⟩, h5, h6⟩ := hSw | obtain ⟨h0, h1, h2, h3, h4⟩ := hSw); go_simp; try with_reducible rfl); try simp only [Act.put, List.setIfInBounds_toArray, List.set_cons_zero, List.set_cons_succ])
            (refine wpAnyH_take (i := 16) (v := ?_) rfl (by kernel_rfl) (by kernel_rfl) (by kernel_rfl) (fun _ _ _ h => h) (Or.inl ⟨by rfl, ?_⟩) (by assumption) ?_; rotate_left; focus (intro wz hSw; (first | obtain ⟨⟨h0, h1, h2, h3, h4⟩, h5, h6⟩ := hSw | obtain ⟨h0, h1, h2, h3, h4⟩ := hSw); go_simp; try with_reducible rfl); try simp only [Act.put, List.setIfInBounds_toArray, List.set_cons_zero, List.set_cons_succ])
            (refine wpAnyH_take (i := 17) (v := ?_) rfl (by kernel_rfl) (by kernel_rfl) (by kernel_rfl) (fun _ _ _ h => h) (Or.inl ⟨by rfl, ?_⟩) (by assumption) ?_; rotate_left; focus (intro wz hSw; (first | obtain ⟨⟨h0, h1, h2, h3, h4⟩, h5, h6⟩ := hSw | obtain ⟨h0, h1, h2, h3, h4⟩ := hSw); go_simp; try with_reducible rfl); try simp only [Act.put, List.setIfInBounds_toArray, List.set_cons_zero, List.set_cons_succ])
            refine wpAnyH_done (by kernel_rfl) ?_ _
            go_wp2_with fail
            go_meet
            exact ⟨by simp [numsB], hHeld.1.2.2.2.2.1⟩
          exact AllReadyH.nil
        exact AllReadyH.nil
      exact AllReadyH.nil
    exact AllReadyH.nil
  case rest =>
  obtain ⟨rfl, hbc⟩ := hcut
  clear q1 q1' q2 q3 q3'
  obtain ⟨sl, hsl⟩ : ∃ sl, sl = str (letters m.kind) := ⟨_, rfl⟩
  have hfd : ∀ w', Calls Tryd.prog 22 #[.int .i64 m.kind] w' fun e w'' => e = .returned (.string sl) ∧ w'' = w' := fun w' => by rw [hsl]; exact fields_any m.kind w'
  have HFD : Hid (∀ w', Calls Tryd.prog 22 #[.int .i64 m.kind] w' fun e w'' => e = .returned (.string sl) ∧ w'' = w') := hfd
  have HSL : Hid (sl = str (letters m.kind)) := hsl
  have hssz : sl.size ≤ 7 := by rw [hsl, str_size]; exact letters_len _
  clear hfd hsl
  have x0 : wc.cell? ⟨w.heap.size, 0, none⟩ = some (.int .i64 m.kind) := (hbc.cell (by simp)).trans (by simp)
  obtain ⟨cur0, hcur0⟩ : ∃ cur0, cur0 = [m.kind] ++ numsB [m.src, m.dst, m.clock] := ⟨_, rfl⟩
  rw [← hcur0]
  have hl0 : cur0.length ≤ 31 := by
    have := numsB_len [m.src, m.dst, m.clock]
    rw [hcur0]; simp at this ⊢; omega
  have HC0 : Hid (cur0 = [m.kind] ++ numsB [m.src, m.dst, m.clock]) := hcur0
  clear hcur0
  go_wp2_with (go_at_call 22; refine (HFD.out _).mono ?_; rintro e w' ⟨rfl, rfl⟩)
  go_loopw [5, 3] (fun i t3 wr => ∃ (k : Nat) (cur : List Int), k ≤ sl.size ∧ i = .int .i64 k ∧ t3 = .string (sB cur) ∧ Hid (cur = cur0 ++ lettersB m ((letters m.kind).take k)) ∧ cur.length ≤ 31 + 190 * k ∧ Below (w.heap.size + 1) (w.alloc (.cells #[.int .i64 m.kind, .int .i64 m.src, .int .i64 m.dst, .int .i64 m.clock, .int .i64 m.op, .int .i64 m.index, .int .i64 m.key, .int .i64 m.vc, .int .i64 m.vs, .int .i64 m.value, .int .i64 m.fk, .int .i64 m.fc, .int .i64 m.fs, .slice m.ao m.past.length m.c, .bool m.settled] 28)) wr) (fun i _ _ => sl.size - (intOf i).toNat)
  case atStart => exact ⟨0, cur0, Nat.zero_le _, rfl, rfl, by show _ = _; simp [lettersB], by omega, hbc⟩
  case round =>
    obtain ⟨k, cur, hk, rfl, rfl, hcur, hl, hb⟩ := hrel
    clear x0 hbc
    have hsz0 := hb.size
    simp at hsz0
    have hr : ∀ o, wr.cell? ⟨w.heap.size, o, none⟩ = (w.alloc (.cells #[.int .i64 m.kind, .int .i64 m.src, .int .i64 m.dst, .int .i64 m.clock, .int .i64 m.op, .int .i64 m.index, .int .i64 m.key, .int .i64 m.vc, .int .i64 m.vs, .int .i64 m.value, .int .i64 m.fk, .int .i64 m.fc, .int .i64 m.fs, .slice m.ao m.past.length m.c, .bool m.settled] 28)).cell? ⟨w.heap.size, o, none⟩ := fun o => hb.cell (by simp)
    by_cases hlt : k < sl.size
    · have hcl : cur.length ≤ 1400 := by omega
      have hin : sl[k].toNat = 111 ∨ sl[k].toNat = 105 ∨ sl[k].toNat = 107 ∨ sl[k].toNat = 118 ∨ sl[k].toNat = 120 ∨ sl[k].toNat = 102 ∨ sl[k].toNat = 112 ∨ sl[k].toNat = 115 := by
        refine letters_in m.kind _ ?_
        have e := HSL.out
        subst e
        exact List.getElem_mem (by rw [str_size] at hlt; exact hlt)
      have HST : ∀ c : Int, (sl[k].toNat : Int) = c → Hid (cur ++ letB m c = cur0 ++ lettersB m ((letters m.kind).take (k + 1))) := fun c hx => pre_step HSL.out hlt hcur.out hx
      have HLB : ∀ c : Int, Hid ((letB m c).length ≤ 190) := fun c => letB_len m hf.six c
      rcases hin with e | e | e | e | e | e | e | e
      · have hst := HST 111 (by omega)
        have hlb := HLB 111
        rw [show letB m 111 = numsB [m.op] by simp [letB]] at hst hlb
        have hlb' := hlb.out
        clear HST HLB
        go_wp2_with (go_at_call 25; refine (rnum_any m.op _ hf.op).mono ?_; rintro e w' ⟨rfl, hb1⟩)
        go_roundw
        case rel => exact ⟨k + 1, cur ++ numsB [m.op], by omega, by go_num, by first | rfl | simp, hst, by simp; omega, hb.trans (hb1.mono (by omega))⟩
        case measure => simp [intOf]; omega
      · have hst := HST 105 (by omega)
        have hlb := HLB 105
        rw [show letB m 105 = numsB [m.index] by simp [letB]] at hst hlb
        have hlb' := hlb.out
        clear HST HLB
        go_wp2_with (go_at_call 25; refine (rnum_any m.index _ hf.index).mono ?_; rintro e w' ⟨rfl, hb1⟩)
        go_roundw
        case rel => exact ⟨k + 1, cur ++ numsB [m.index], by omega, by go_num, by first | rfl | simp, hst, by simp; omega, hb.trans (hb1.mono (by omega))⟩
        case measure => simp [intOf]; omega
      · have hst := HST 107 (by omega)
        have hlb := HLB 107
        rw [show letB m 107 = numsB [m.key] by simp [letB]] at hst hlb
        have hlb' := hlb.out
        clear HST HLB
        go_wp2_with (go_at_call 25; refine (rnum_any m.key _ hf.key).mono ?_; rintro e w' ⟨rfl, hb1⟩)
        go_roundw
        case rel => exact ⟨k + 1, cur ++ numsB [m.key], by omega, by go_num, by first | rfl | simp, hst, by simp; omega, hb.trans (hb1.mono (by omega))⟩
        case measure => simp [intOf]; omega
      · have hst := HST 118 (by omega)
        have hlb := HLB 118
        rw [show letB m 118 = numsB [m.vc, m.vs] by simp [letB]] at hst hlb
        have hlb' := hlb.out
        clear HST HLB
        go_wp2_with (go_at_call 26; refine (rver_any m.vc m.vs _ hf.vc hf.vs).mono ?_; rintro e w' ⟨rfl, hb1⟩)
        go_roundw
        case rel => exact ⟨k + 1, cur ++ numsB [m.vc, m.vs], by omega, by go_num, by first | rfl | simp, hst, by simp; omega, hb.trans (hb1.mono (by omega))⟩
        case measure => simp [intOf]; omega
      · have hst := HST 120 (by omega)
        have hlb := HLB 120
        rw [show letB m 120 = vint 9 (zz m.value) by simp [letB]] at hst hlb
        have hlb' := hlb.out
        clear HST HLB
        go_wp2_with (go_at_call 27; refine (rval_any m.value _ hf.value).mono ?_; rintro e w' ⟨rfl, hb1⟩)
        go_roundw
        case rel => exact ⟨k + 1, cur ++ vint 9 (zz m.value), by omega, by go_num, by first | rfl | simp, hst, by simp; omega, hb.trans (hb1.mono (by omega))⟩
        case measure => simp [intOf]; omega
      · have hst := HST 102 (by omega)
        have hlb := HLB 102
        rw [show letB m 102 = numsB [m.fk] ++ numsB [m.fc, m.fs] by simp [letB, numsB]] at hst hlb
        have hlb' := hlb.out
        simp only [List.length_append] at hlb'
        clear HST HLB
        go_wp2_with fail
        go_region_with (first
          | (go_at_call 25; refine (rnum_any m.fk _ hf.fk).mono ?_; rintro e w1 ⟨rfl, hb1⟩; have hc1 : w1.cell? ⟨w.heap.size, 11, none⟩ = some (.int .i64 m.fc) := (hb1.cell (by exact hsz0)).trans (by go_simp); have hc2 : w1.cell? ⟨w.heap.size, 12, none⟩ = some (.int .i64 m.fs) := (hb1.cell (by exact hsz0)).trans (by go_simp))
          | (go_at_call 26; refine (rver_any m.fc m.fs _ hf.fc hf.fs).mono ?_; rintro e w2 ⟨rfl, hb2⟩))
        all_goals go_wp2
        all_goals
          go_roundw
          case rel => exact ⟨k + 1, cur ++ (numsB [m.fk] ++ numsB [m.fc, m.fs]), by omega, by go_num, by simp, hst, by simp; omega, hb.drew.trans ((hb1.trans (hb2.mono hb1.size)).mono (by simp; omega))⟩
          case measure => simp [intOf]; omega
      · have hst := HST 112 (by omega)
        have hlb := HLB 112
        rw [show letB m 112 = numsB [(m.past.length : Int)] ++ depsB m.past by simp [letB]] at hst hlb
        have h6 := hf.six
        have hpl : Hid (0 ≤ (m.past.length : Int) ∧ (m.past.length : Int) < 9223372036854775808) := by show _ ∧ _; omega
        have hl1 := numsB_len [(m.past.length : Int)]
        simp only [List.length_cons, List.length_nil] at hl1
        clear HST HLB
        go_wp2_with (go_at_call 25; refine (rnum_any (m.past.length : Int) _ hpl).mono ?_; rintro e w1 ⟨rfl, hb1⟩)
        have hbw1 : Below (w.heap.size + 1) (w.alloc (.cells #[.int .i64 m.kind, .int .i64 m.src, .int .i64 m.dst, .int .i64 m.clock, .int .i64 m.op, .int .i64 m.index, .int .i64 m.key, .int .i64 m.vc, .int .i64 m.vs, .int .i64 m.value, .int .i64 m.fk, .int .i64 m.fc, .int .i64 m.fs, .slice m.ao m.past.length m.c, .bool m.settled] 28)) w1 := hb.trans (hb1.mono (by omega))
        obtain ⟨cur1, hcur1⟩ : ∃ cur1, cur1 = cur ++ numsB [(m.past.length : Int)] := ⟨_, rfl⟩
        rw [← hcur1]
        have hcl1 : cur1.length ≤ 1410 := by rw [hcur1]; simp; omega
        have HC1 : Hid (cur1 = cur ++ numsB [(m.past.length : Int)]) := hcur1
        clear hcur1 hr
        go_loopw [6, 3] (fun i2 t3 wr2 => ∃ (j : Nat) (cur2 : List Int), j ≤ m.past.length ∧ i2 = .int .i64 j ∧ t3 = .string (sB cur2) ∧ Hid (cur2 = cur1 ++ depsB (m.past.take j)) ∧ Below (w.heap.size + 1) (w.alloc (.cells #[.int .i64 m.kind, .int .i64 m.src, .int .i64 m.dst, .int .i64 m.clock, .int .i64 m.op, .int .i64 m.index, .int .i64 m.key, .int .i64 m.vc, .int .i64 m.vs, .int .i64 m.value, .int .i64 m.fk, .int .i64 m.fc, .int .i64 m.fs, .slice m.ao m.past.length m.c, .bool m.settled] 28)) wr2) (fun i2 _ _ => m.past.length - (intOf i2).toNat)
        case atStart => exact ⟨0, cur1, Nat.zero_le _, rfl, rfl, by show _ = _; simp [depsB], hbw1⟩
        case round =>
          obtain ⟨j, cur2, hj, rfl, rfl, hcur2, hb2⟩ := hrel
          clear hbw1 hb1
          have hsz2 := hb2.size
          simp at hsz2
          have hbw : Below w.heap.size w wr := hB0.trans (hb2.mono (by omega))
          have hcl2 : cur2.length ≤ 1600 := by
            have := depsB_len (m.past.take j)
            rw [hcur2.out]; simp at this ⊢; omega
          by_cases hjl : j < m.past.length
          · obtain ⟨b, o, hao, hbl, hc⟩ := hd (by omega)
            have cB : wr.cell? ⟨w.heap.size, 13, none⟩ = some (.slice (some ⟨b, o, none⟩) m.past.length m.c) := (hb2.cell (by simp)).trans (by simp [hao])
            have c1 : wr.cell? ⟨b, o + j * 3, none⟩ = some (.int .i64 (dKey m.past j)) := (hbw.cell (by exact hbl)).trans (hc j hjl).1
            have c2 : wr.cell? ⟨b, o + j * 3 + 1, none⟩ = some (.int .i64 (dClk m.past j)) := (hbw.cell (by exact hbl)).trans (hc j hjl).2.1
            have c3 : wr.cell? ⟨b, o + j * 3 + 2, none⟩ = some (.int .i64 (dSrv m.past j)) := (hbw.cell (by exact hbl)).trans (hc j hjl).2.2
            have s1 : w.heap.size < wr.heap.size := by omega
            have s2 : b < wr.heap.size := by omega
            have hjl' : (j : Int) < (m.past.length : Int) := by omega
            have hj0' : (0 : Int) ≤ (j : Int) := by omega
            have hfj := hf.past.out j hjl
            have n1 := numsB_len [dKey m.past j]
            have n2 := numsB_len [dClk m.past j, dSrv m.past j]
            simp only [List.length_cons, List.length_nil] at n1 n2
            have F1 : Hid (0 ≤ dKey m.past j ∧ dKey m.past j < 9223372036854775808) := hfj.1
            have F2 : Hid (0 ≤ dClk m.past j ∧ dClk m.past j < 9223372036854775808) := hfj.2.1
            have F3 : Hid (0 ≤ dSrv m.past j ∧ dSrv m.past j < 9223372036854775808) := hfj.2.2
            have q5 : ¬ 9223372036854775807 < cur2.length + (numsB [dKey m.past j]).length := by omega
            have q6 : ¬ 9223372036854775807 < cur2.length + (numsB [dKey m.past j]).length + (numsB [dClk m.past j, dSrv m.past j]).length := by omega
            have q7 : ¬ 9223372036854775807 < cur2.length + ((numsB [dKey m.past j]).length + (numsB [dClk m.past j, dSrv m.past j]).length) := by omega
            clear hc hao hfj
            go_wp2_with fail
            go_region_held3 (fun w' => w'.cell? ⟨w.heap.size, 13, none⟩ = some (.slice (some ⟨b, o, none⟩) m.past.length m.c) ∧ w'.cell? ⟨b, o + j * 3, none⟩ = some (.int .i64 (dKey m.past j)) ∧ w'.cell? ⟨b, o + j * 3 + 1, none⟩ = some (.int .i64 (dClk m.past j)) ∧ w'.cell? ⟨b, o + j * 3 + 2, none⟩ = some (.int .i64 (dSrv m.past j)) ∧ w.heap.size < w'.heap.size ∧ b < w'.heap.size)
              (first | exact ⟨cB, c1, c2, c3, s1, s2⟩ | exact keepD ‹_› ‹_›)
              (first
                | (go_at_call 25; refine (rnum_any (dKey m.past j) _ F1).mono ?_; rintro e w3 ⟨rfl, hb3⟩)
                | (go_at_call 26; refine (rver_any (dClk m.past j) (dSrv m.past j) _ F2 F3).mono ?_; rintro e w4 ⟨rfl, hb4⟩))
            go_wp2
            go_roundw
            case rel =>
              refine ⟨j + 1, cur2 ++ numsB [dKey m.past j] ++ numsB [dClk m.past j, dSrv m.past j], by omega, by go_num, by simp, ?_, hb2.drew.trans ((hb3.trans (hb4.mono hb3.size)).mono (by simp; omega))⟩
              show _ = _
              have e1 : m.past.take (j + 1) = m.past.take j ++ [m.past[j]] := List.take_succ_eq_append_getElem hjl
              have e2 : numsB [dKey m.past j] ++ numsB [dClk m.past j, dSrv m.past j] = numsB [m.past[j].1, m.past[j].2.1, m.past[j].2.2] := by simp [dKey, dClk, dSrv, hjl, numsB]
              rw [e1, depsB_snoc, ← e2, hcur2.out]; simp
            case measure => simp [intOf]; omega
          · have cB : wr.cell? ⟨w.heap.size, 13, none⟩ = some (.slice m.ao m.past.length m.c) := (hb2.cell (by simp)).trans (by simp)
            go_wp2
            go_roundw
            case rel =>
              refine ⟨k + 1, cur2, by omega, by go_num, rfl, ?_, ?_, hb2⟩
              · show _ = _
                rw [← hst.out, hcur2.out, HC1.out, List.take_of_length_le (by omega)]; simp
              · have := hlb.out
                rw [hcur2.out, HC1.out, List.take_of_length_le (by omega)]; simp at this ⊢; omega
            case measure => simp [intOf]; omega
      · have hst := HST 115 (by omega)
        rw [show letB m 115 = [flagB m.settled] by simp [letB]] at hst
        clear HST HLB
        cases hse : m.settled
        · go_wp2
          go_roundw
          case rel => exact ⟨k + 1, cur ++ [flagB m.settled], by omega, by go_num, by rw [← sB_append, hse]; rfl, hst, by simp; omega, by have h := hb; rw [hse] at h; exact h⟩
          case measure => simp [intOf]; omega
        · go_wp2
          go_roundw
          case rel => exact ⟨k + 1, cur ++ [flagB m.settled], by omega, by go_num, by rw [← sB_append, hse]; rfl, hst, by simp; omega, by have h := hb; rw [hse] at h; exact h⟩
          case measure => simp [intOf]; omega
    · go_wp2
      go_ret
      refine ⟨ret_str ?_, hB0.trans (hb.mono (by omega))⟩
      rw [hcur.out, List.take_of_length_le (by have := HSL.out; rw [this, str_size] at hlt; omega), HC0.out]
      rfl

end Go.Proofs.YtdpnmpfkbeommaaDoor
