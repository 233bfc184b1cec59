/-
  appendMessage and Encode.
-/
import Derived.Test.YtdpnmpfkbeommaaDoorF
import Derived.Test.YtdpnmpfkbeommaaDoorM
namespace Go.Proofs.YtdpnmpfkbeommaaDoor
open Go.RowKit

/-- All numbers of the message are ints, and but for the value none is below 0. -/
structure Fit (m : Msg) : Prop where
  src : Hid (0 ≤ m.src ∧ m.src < 9223372036854775808)
  dst : Hid (0 ≤ m.dst ∧ m.dst < 9223372036854775808)
  clock : Hid (0 ≤ m.clock ∧ m.clock < 9223372036854775808)
  op : Hid (0 ≤ m.op ∧ m.op < 9223372036854775808)
  index : Hid (0 ≤ m.index ∧ m.index < 9223372036854775808)
  key : Hid (0 ≤ m.key ∧ m.key < 9223372036854775808)
  vc : Hid (0 ≤ m.vc ∧ m.vc < 9223372036854775808)
  vs : Hid (0 ≤ m.vs ∧ m.vs < 9223372036854775808)
  fk : Hid (0 ≤ m.fk ∧ m.fk < 9223372036854775808)
  fc : Hid (0 ≤ m.fc ∧ m.fc < 9223372036854775808)
  fs : Hid (0 ≤ m.fs ∧ m.fs < 9223372036854775808)
  value : Hid (-9223372036854775808 ≤ m.value ∧ m.value < 9223372036854775808)
  past : Hid (DepsFit m.past)
  six : m.past.length ≤ 6

def flagB (f : Bool) : Int := if f then 1 else 0
def St (W0 w : World) (v : Value) (bs : List Int) (L : Nat) : Prop := Grew W0 w W0.heap.size (.slice none 0 0) v 0 [] bs ∧ bs.length ≤ L

theorem St.rule {W0 w : World} {v : Value} {bs : List Int} {L : Nat} (h : St W0 w v bs L) : ∀ b o, b < W0.heap.size → w.cell? ⟨b, o, none⟩ = W0.cell? ⟨b, o, none⟩ := fun b o hb => h.1.cell hb (by simp [Value.ownBlock])
theorem St.own {W0 w : World} {v : Value} {bs : List Int} {L : Nat} (h : St W0 w v bs L) : w.ownsRow W0.heap.size 5 1 v bs.length (bytesV bs) := by simpa using h.1.1
theorem St.size {W0 w : World} {v : Value} {bs : List Int} {L : Nat} (h : St W0 w v bs L) : W0.heap.size ≤ w.heap.size := h.1.2.1.size
theorem St.far {W0 w : World} {v : Value} {bs : List Int} {L : Nat} (h : St W0 w v bs L) {b : Nat} (hb : b < W0.heap.size) : v.ownBlock ≠ some b := by
  intro e; have := (h.own.lt b e).1; omega
theorem St.next {W0 w w' : World} {v v' : Value} {bs zs : List Int} {L K : Nat} (h : St W0 w v bs L) (hg : Grew w w' W0.heap.size v v' bs.length bs zs) (hz : zs.length ≤ K) : St W0 w' v' (bs ++ zs) (L + K) :=
  ⟨h.1.trans (K := bs.length) (by simp) (by simpa using hg), by have := h.2; simp; omega⟩
theorem St.below {W0 w : World} {v : Value} {bs : List Int} {L : Nat} (h : St W0 w v bs L) : Below W0.heap.size W0 w :=
  ⟨h.1.2.1.os, h.1.2.1.tape, h.1.2.1.output, h.1.2.1.size, fun k hk => h.1.2.1.block k hk (by simp [Value.ownBlock])⟩

theorem st_num1 {W0 W : World} {v : Value} {bs : List Int} {L : Nat} {x : Int} (h : St W0 W v bs L) (hx : Hid (0 ≤ x ∧ x < 9223372036854775808)) (hL : L ≤ 300) :
    Calls Tryd.prog 32 #[v, .slice (some ⟨W.heap.size, 0, none⟩) 1 1] (W.alloc (.cells #[.int .i64 x] 3)) fun e w' => ∃ v', e = .returned v' ∧ St W0 w' v' (bs ++ numsB [x]) (L + 10) := by
  refine (numbers_any v bs.length bs [x] W.heap.size W0.heap.size _ (h.own.alloc _) (by have := h.2; omega) (by simp) (hid1 hx) (by have := h.size; simp; omega) (by simp) (own_ne h.own (by omega)) (by intro i hi; match i, hi with | 0, _ => simp)).mono ?_
  rintro e w1 ⟨v1, rfl, hg⟩
  exact ⟨v1, rfl, h.next (hg.before ((Below.refl _ _).alloc (Nat.le_refl _) _)) (numsB_len [x])⟩

theorem st_num3 {W0 W : World} {v : Value} {bs : List Int} {L : Nat} {x y z : Int} (h : St W0 W v bs L) (hx : Hid (0 ≤ x ∧ x < 9223372036854775808)) (hy : Hid (0 ≤ y ∧ y < 9223372036854775808)) (hz : Hid (0 ≤ z ∧ z < 9223372036854775808)) (hL : L ≤ 300) :
    Calls Tryd.prog 32 #[v, .slice (some ⟨W.heap.size, 0, none⟩) 3 3] (W.alloc (.cells #[.int .i64 x, .int .i64 y, .int .i64 z] 3)) fun e w' => ∃ v', e = .returned v' ∧ St W0 w' v' (bs ++ numsB [x, y, z]) (L + 30) := by
  refine (numbers_any v bs.length bs [x, y, z] W.heap.size W0.heap.size _ (h.own.alloc _) (by have := h.2; omega) (by simp) ?_ (by have := h.size; simp; omega) (by simp) (own_ne h.own (by omega)) (by intro i hi; match i, hi with | 0, _ => simp | 1, _ => simp | 2, _ => simp)).mono ?_
  · intro i hi
    match i, hi with
    | 0, _ => exact hx
    | 1, _ => exact hy
    | 2, _ => exact hz
  rintro e w1 ⟨v1, rfl, hg⟩
  exact ⟨v1, rfl, h.next (hg.before ((Below.refl _ _).alloc (Nat.le_refl _) _)) (numsB_len [x, y, z])⟩

theorem st_ver {W0 W : World} {v : Value} {bs : List Int} {L : Nat} {a b : Int} (h : St W0 W v bs L) (ha : Hid (0 ≤ a ∧ a < 9223372036854775808)) (hb : Hid (0 ≤ b ∧ b < 9223372036854775808)) (hL : L ≤ 300) :
    Calls Tryd.prog 34 #[v, .agg #[.int .i64 a, .int .i64 b]] W fun e w' => ∃ v', e = .returned v' ∧ St W0 w' v' (bs ++ numsB [a, b]) (L + 20) := by
  refine (version_any v bs.length bs a b W0.heap.size W h.own (by have := h.2; omega) ha hb h.size).mono ?_
  rintro e w1 ⟨v1, rfl, hg⟩
  exact ⟨v1, rfl, h.next hg (numsB_len [a, b])⟩
theorem st_dep {W0 W : World} {v : Value} {bs : List Int} {L : Nat} {d a b : Int} (h : St W0 W v bs L) (hd : Hid (0 ≤ d ∧ d < 9223372036854775808)) (ha : Hid (0 ≤ a ∧ a < 9223372036854775808)) (hb : Hid (0 ≤ b ∧ b < 9223372036854775808)) (hL : L ≤ 300) :
    Calls Tryd.prog 35 #[v, .agg #[.int .i64 d, .int .i64 a, .int .i64 b]] W fun e w' => ∃ v', e = .returned v' ∧ St W0 w' v' (bs ++ numsB [d, a, b]) (L + 30) := by
  refine (dep_any v bs.length bs d a b W0.heap.size W h.own (by have := h.2; omega) hd ha hb h.size).mono ?_
  rintro e w1 ⟨v1, rfl, hg⟩
  exact ⟨v1, rfl, h.next hg (numsB_len [d, a, b])⟩
theorem st_val {W0 W : World} {v : Value} {bs : List Int} {L : Nat} {a : Int} (h : St W0 W v bs L) (ha : Hid (-9223372036854775808 ≤ a ∧ a < 9223372036854775808)) (hL : L ≤ 300) :
    Calls Tryd.prog 36 #[v, .int .i64 a] W fun e w' => ∃ v', e = .returned v' ∧ St W0 w' v' (bs ++ vint 9 (zz a)) (L + 10) := by
  refine (value_any v bs.length bs a W0.heap.size W h.own (by have := h.2; omega) ha h.size).mono ?_
  rintro e w1 ⟨v1, rfl, hg⟩
  exact ⟨v1, rfl, h.next hg (vint_len 9 _)⟩
theorem st_past {W0 W : World} {v : Value} {bs : List Int} {L : Nat} {ao : Option Addr} {ds : List (Int × Int × Int)} {c : Nat} (h : St W0 W v bs L) (hd : DepsAt W0 ao ds) (hf : Hid (DepsFit ds)) (h6 : ds.length ≤ 6) (hL : L ≤ 150) :
    Calls Tryd.prog 37 #[v, .slice ao ds.length c] W fun e w' => ∃ v', e = .returned v' ∧ St W0 w' v' (bs ++ (numsB [(ds.length : Int)] ++ depsB ds)) (L + 190) := by
  refine (past_any v bs.length bs ao ds c W0.heap.size W h.own (by have := h.2; omega) h6 (hd.below h.below (Nat.le_refl _)) hf ?_ h.size).mono ?_
  · intro hp b o e
    obtain ⟨b', o', e', hlt, _⟩ := hd hp
    rw [e] at e'
    cases e'
    exact h.far hlt
  rintro e w1 ⟨v1, rfl, hg⟩
  refine ⟨v1, rfl, h.next hg ?_⟩
  have h1 := numsB_len [(ds.length : Int)]
  have h2 := depsB_len ds
  simp at h1 ⊢
  omega
theorem st_flag {W0 W : World} {v : Value} {bs : List Int} {L : Nat} {f : Bool} (h : St W0 W v bs L) (hL : L ≤ 400) :
    Calls Tryd.prog 38 #[v, .bool f] W fun e w' => ∃ v', e = .returned v' ∧ St W0 w' v' (bs ++ [flagB f]) (L + 1) := by
  refine (flag_any v bs.length bs f W0.heap.size W h.own (by have := h.2; omega) h.size).mono ?_
  rintro e w1 ⟨v1, rfl, hg⟩
  exact ⟨v1, rfl, h.next hg (by simp)⟩

set_option maxRecDepth 100000 in
set_option maxHeartbeats 4000000 in
theorem appendMessage_1 (m : Msg) (w : World) (hd : DepsAt w m.ao m.past) (hG : GTab w) (hf : Fit m) :
    Calls Tryd.prog 17 #[.slice none 0 0, .agg #[.int .i64 1, .int .i64 m.src, .int .i64 m.dst, .int .i64 m.clock, .int .i64 m.op, .int .i64 m.index, .int .i64 m.key, .int .i64 m.vc, .int .i64 m.vs, .int .i64 m.value, .int .i64 m.fk, .int .i64 m.fc, .int .i64 m.fs, .slice m.ao m.past.length m.c, .bool m.settled]] w fun e w' => ∃ v' L, e = .returned v' ∧ St (w.alloc (.cells #[.int .i64 1, .int .i64 m.src, .int .i64 m.dst, .int .i64 m.clock, .int .i64 m.op, .int .i64 m.index, .int .i64 m.key, .int .i64 m.vc, .int .i64 m.vs, .int .i64 m.value, .int .i64 m.fk, .int .i64 m.fc, .int .i64 m.fs, .slice m.ao m.past.length m.c, .bool m.settled] 28)) w' v' ([(1 : Int)] ++ numsB [m.src, m.dst, m.clock] ++ numsB [m.op] ++ numsB [m.key] ++ vint 9 (zz m.value) ++ (numsB [(m.past.length : Int)] ++ depsB m.past)) L := by
  obtain ⟨i0, hi, hz0, hz1, hz2⟩ := info_parts info5
  have hB0 := ((Below.refl w.heap.size w).alloc (Nat.le_refl _) (.cells #[.int .i64 1, .int .i64 m.src, .int .i64 m.dst, .int .i64 m.clock, .int .i64 m.op, .int .i64 m.index, .int .i64 m.key, .int .i64 m.vc, .int .i64 m.vs, .int .i64 m.value, .int .i64 m.fk, .int .i64 m.fc, .int .i64 m.fs, .slice m.ao m.past.length m.c, .bool m.settled] 28))
  have g1 : (w.alloc (.cells #[.int .i64 1, .int .i64 m.src, .int .i64 m.dst, .int .i64 m.clock, .int .i64 m.op, .int .i64 m.index, .int .i64 m.key, .int .i64 m.vc, .int .i64 m.vs, .int .i64 m.value, .int .i64 m.fk, .int .i64 m.fc, .int .i64 m.fs, .slice m.ao m.past.length m.c, .bool m.settled] 28)).cell? ⟨0, 1, none⟩ = some (.int .u8 101) := (hB0.cell (by exact hG.1)).trans (hG.2 1 (by decide))
  have b1 : (bits BinOp.and IntKind.u8 101 1 != 0) = true := by decide
  have b2 : (bits BinOp.and IntKind.u8 101 2 != 0) = false := by decide
  have b4 : (bits BinOp.and IntKind.u8 101 4 != 0) = true := by decide
  have b8 : (bits BinOp.and IntKind.u8 101 8 != 0) = false := by decide
  have b16 : (bits BinOp.and IntKind.u8 101 16 != 0) = false := by decide
  have b32 : (bits BinOp.and IntKind.u8 101 32 != 0) = true := by decide
  have b64 : (bits BinOp.and IntKind.u8 101 64 != 0) = true := by decide
  have b128 : (bits BinOp.and IntKind.u8 101 128 != 0) = false := by decide
  have hg0 : Grew (w.alloc (.cells #[.int .i64 1, .int .i64 m.src, .int .i64 m.dst, .int .i64 m.clock, .int .i64 m.op, .int .i64 m.index, .int .i64 m.key, .int .i64 m.vc, .int .i64 m.vs, .int .i64 m.value, .int .i64 m.fk, .int .i64 m.fc, .int .i64 m.fs, .slice m.ao m.past.length m.c, .bool m.settled] 28)) (w.alloc (.cells #[.int .i64 1, .int .i64 m.src, .int .i64 m.dst, .int .i64 m.clock, .int .i64 m.op, .int .i64 m.index, .int .i64 m.key, .int .i64 m.vc, .int .i64 m.vs, .int .i64 m.value, .int .i64 m.fk, .int .i64 m.fc, .int .i64 m.fs, .slice m.ao m.past.length m.c, .bool m.settled] 28)) (w.heap.size + 1) (.slice none 0 0) (.slice none 0 0) 0 [] [] := Grew.refl (World.ownsRow_nil _ _ _ _)
  have hd0 : DepsAt (w.alloc (.cells #[.int .i64 1, .int .i64 m.src, .int .i64 m.dst, .int .i64 m.clock, .int .i64 m.op, .int .i64 m.index, .int .i64 m.key, .int .i64 m.vc, .int .i64 m.vs, .int .i64 m.value, .int .i64 m.fk, .int .i64 m.fc, .int .i64 m.fs, .slice m.ao m.past.length m.c, .bool m.settled] 28)) m.ao m.past := hd.below hB0 (Nat.le_refl _)
  go_enter Tryd.func17, Tryd.ntmps17
  go_wp2_with (at_builtin; go_must (refine wpList_append_lies _ rfl _ _ 41 rfl (w.heap.size + 1) 5 i0 (.int .u8 0) 1 1 Tryd.underlying41 hi hz0 hz1 hz2 rfl (by decide) _ _ _ rfl (World.ownsRow_nil _ _ _ _) ⟨w.heap.size + 1, 0, none⟩ 1 1 [.int .u8 1] rfl rfl ?c1 ?c2 (by decide) ?c4 ?c5 ?c6 (w.heap.size + 2) (by simp) ?_))
  case c1 => intro j u hj; match j, hj with | 0, hj => (simp at hj; subst hj; simp [Addr.add])
  case c2 => intro u hu; simp at hu; subst hu; rfl
  case c4 => unfold maxLen; omega
  case c5 => omega
  case c6 => simp
  intro g cap w1 hown1 hgrow hat hlt1
  have hst : St (w.alloc (.cells #[.int .i64 1, .int .i64 m.src, .int .i64 m.dst, .int .i64 m.clock, .int .i64 m.op, .int .i64 m.index, .int .i64 m.key, .int .i64 m.vc, .int .i64 m.vs, .int .i64 m.value, .int .i64 m.fk, .int .i64 m.fc, .int .i64 m.fs, .slice m.ao m.past.length m.c, .bool m.settled] 28)) w1 (.slice (some ⟨g, 0, none⟩) (0 + 1) cap) [(1 : Int)] 1 := ⟨by have := hg0.step (x := 1) rfl hown1 hgrow (by simpa using hat); simpa using this, by simp⟩
  have hr := hst.rule
  simp only [World.size_alloc] at hr
  clear hown1 hgrow hat hlt1 hg0
  go_wp2_with (first | (go_at_call 33; refine (has_any _ _ _).mono ?_; rintro e w' ⟨rfl, rfl⟩) | fail)
  refine (st_num3 hst hf.src hf.dst hf.clock (by decide)).mono ?_
  clear hst hr
  rintro e w' ⟨v', rfl, hst⟩; have hr := hst.rule; simp only [World.size_alloc] at hr
  go_wp2_with (first | (go_at_call 33; refine (has_any _ _ _).mono ?_; rintro e w' ⟨rfl, rfl⟩) | fail)
  refine (st_num1 hst hf.op (by decide)).mono ?_
  clear hst hr
  rintro e w' ⟨v', rfl, hst⟩; have hr := hst.rule; simp only [World.size_alloc] at hr
  go_wp2_with (first | (go_at_call 33; refine (has_any _ _ _).mono ?_; rintro e w' ⟨rfl, rfl⟩) | fail)
  refine (st_num1 hst hf.key (by decide)).mono ?_
  clear hst hr
  rintro e w' ⟨v', rfl, hst⟩; have hr := hst.rule; simp only [World.size_alloc] at hr
  go_wp2_with (first | (go_at_call 33; refine (has_any _ _ _).mono ?_; rintro e w' ⟨rfl, rfl⟩) | fail)
  refine (st_val hst hf.value (by decide)).mono ?_
  clear hst hr
  rintro e w' ⟨v', rfl, hst⟩; have hr := hst.rule; simp only [World.size_alloc] at hr
  go_wp2_with (first | (go_at_call 33; refine (has_any _ _ _).mono ?_; rintro e w' ⟨rfl, rfl⟩) | fail)
  refine (st_past hst hd0 hf.past hf.six (by decide)).mono ?_
  clear hst hr
  rintro e w' ⟨v', rfl, hst⟩; have hr := hst.rule; simp only [World.size_alloc] at hr
  go_wp2_with (first | (go_at_call 33; refine (has_any _ _ _).mono ?_; rintro e w' ⟨rfl, rfl⟩) | fail)
  go_ret
  exact ⟨_, _, rfl, hst⟩

set_option maxRecDepth 100000 in
set_option maxHeartbeats 4000000 in
theorem appendMessage_2 (m : Msg) (w : World) (hd : DepsAt w m.ao m.past) (hG : GTab w) (hf : Fit m) :
    Calls Tryd.prog 17 #[.slice none 0 0, .agg #[.int .i64 2, .int .i64 m.src, .int .i64 m.dst, .int .i64 m.clock, .int .i64 m.op, .int .i64 m.index, .int .i64 m.key, .int .i64 m.vc, .int .i64 m.vs, .int .i64 m.value, .int .i64 m.fk, .int .i64 m.fc, .int .i64 m.fs, .slice m.ao m.past.length m.c, .bool m.settled]] w fun e w' => ∃ v' L, e = .returned v' ∧ St (w.alloc (.cells #[.int .i64 2, .int .i64 m.src, .int .i64 m.dst, .int .i64 m.clock, .int .i64 m.op, .int .i64 m.index, .int .i64 m.key, .int .i64 m.vc, .int .i64 m.vs, .int .i64 m.value, .int .i64 m.fk, .int .i64 m.fc, .int .i64 m.fs, .slice m.ao m.past.length m.c, .bool m.settled] 28)) w' v' ([(2 : Int)] ++ numsB [m.src, m.dst, m.clock] ++ numsB [m.op] ++ numsB [m.key] ++ numsB [m.vc, m.vs]) L := by
  obtain ⟨i0, hi, hz0, hz1, hz2⟩ := info_parts info5
  have hB0 := ((Below.refl w.heap.size w).alloc (Nat.le_refl _) (.cells #[.int .i64 2, .int .i64 m.src, .int .i64 m.dst, .int .i64 m.clock, .int .i64 m.op, .int .i64 m.index, .int .i64 m.key, .int .i64 m.vc, .int .i64 m.vs, .int .i64 m.value, .int .i64 m.fk, .int .i64 m.fc, .int .i64 m.fs, .slice m.ao m.past.length m.c, .bool m.settled] 28))
  have g1 : (w.alloc (.cells #[.int .i64 2, .int .i64 m.src, .int .i64 m.dst, .int .i64 m.clock, .int .i64 m.op, .int .i64 m.index, .int .i64 m.key, .int .i64 m.vc, .int .i64 m.vs, .int .i64 m.value, .int .i64 m.fk, .int .i64 m.fc, .int .i64 m.fs, .slice m.ao m.past.length m.c, .bool m.settled] 28)).cell? ⟨0, 2, none⟩ = some (.int .u8 13) := (hB0.cell (by exact hG.1)).trans (hG.2 2 (by decide))
  have b1 : (bits BinOp.and IntKind.u8 13 1 != 0) = true := by decide
  have b2 : (bits BinOp.and IntKind.u8 13 2 != 0) = false := by decide
  have b4 : (bits BinOp.and IntKind.u8 13 4 != 0) = true := by decide
  have b8 : (bits BinOp.and IntKind.u8 13 8 != 0) = true := by decide
  have b16 : (bits BinOp.and IntKind.u8 13 16 != 0) = false := by decide
  have b32 : (bits BinOp.and IntKind.u8 13 32 != 0) = false := by decide
  have b64 : (bits BinOp.and IntKind.u8 13 64 != 0) = false := by decide
  have b128 : (bits BinOp.and IntKind.u8 13 128 != 0) = false := by decide
  have hg0 : Grew (w.alloc (.cells #[.int .i64 2, .int .i64 m.src, .int .i64 m.dst, .int .i64 m.clock, .int .i64 m.op, .int .i64 m.index, .int .i64 m.key, .int .i64 m.vc, .int .i64 m.vs, .int .i64 m.value, .int .i64 m.fk, .int .i64 m.fc, .int .i64 m.fs, .slice m.ao m.past.length m.c, .bool m.settled] 28)) (w.alloc (.cells #[.int .i64 2, .int .i64 m.src, .int .i64 m.dst, .int .i64 m.clock, .int .i64 m.op, .int .i64 m.index, .int .i64 m.key, .int .i64 m.vc, .int .i64 m.vs, .int .i64 m.value, .int .i64 m.fk, .int .i64 m.fc, .int .i64 m.fs, .slice m.ao m.past.length m.c, .bool m.settled] 28)) (w.heap.size + 1) (.slice none 0 0) (.slice none 0 0) 0 [] [] := Grew.refl (World.ownsRow_nil _ _ _ _)
  have hd0 : DepsAt (w.alloc (.cells #[.int .i64 2, .int .i64 m.src, .int .i64 m.dst, .int .i64 m.clock, .int .i64 m.op, .int .i64 m.index, .int .i64 m.key, .int .i64 m.vc, .int .i64 m.vs, .int .i64 m.value, .int .i64 m.fk, .int .i64 m.fc, .int .i64 m.fs, .slice m.ao m.past.length m.c, .bool m.settled] 28)) m.ao m.past := hd.below hB0 (Nat.le_refl _)
  go_enter Tryd.func17, Tryd.ntmps17
  go_wp2_with (at_builtin; go_must (refine wpList_append_lies _ rfl _ _ 41 rfl (w.heap.size + 1) 5 i0 (.int .u8 0) 1 1 Tryd.underlying41 hi hz0 hz1 hz2 rfl (by decide) _ _ _ rfl (World.ownsRow_nil _ _ _ _) ⟨w.heap.size + 1, 0, none⟩ 1 1 [.int .u8 2] rfl rfl ?c1 ?c2 (by decide) ?c4 ?c5 ?c6 (w.heap.size + 2) (by simp) ?_))
  case c1 => intro j u hj; match j, hj with | 0, hj => (simp at hj; subst hj; simp [Addr.add])
  case c2 => intro u hu; simp at hu; subst hu; rfl
  case c4 => unfold maxLen; omega
  case c5 => omega
  case c6 => simp
  intro g cap w1 hown1 hgrow hat hlt1
  have hst : St (w.alloc (.cells #[.int .i64 2, .int .i64 m.src, .int .i64 m.dst, .int .i64 m.clock, .int .i64 m.op, .int .i64 m.index, .int .i64 m.key, .int .i64 m.vc, .int .i64 m.vs, .int .i64 m.value, .int .i64 m.fk, .int .i64 m.fc, .int .i64 m.fs, .slice m.ao m.past.length m.c, .bool m.settled] 28)) w1 (.slice (some ⟨g, 0, none⟩) (0 + 1) cap) [(2 : Int)] 1 := ⟨by have := hg0.step (x := 2) rfl hown1 hgrow (by simpa using hat); simpa using this, by simp⟩
  have hr := hst.rule
  simp only [World.size_alloc] at hr
  clear hown1 hgrow hat hlt1 hg0
  go_wp2_with (first | (go_at_call 33; refine (has_any _ _ _).mono ?_; rintro e w' ⟨rfl, rfl⟩) | fail)
  refine (st_num3 hst hf.src hf.dst hf.clock (by decide)).mono ?_
  clear hst hr
  rintro e w' ⟨v', rfl, hst⟩; have hr := hst.rule; simp only [World.size_alloc] at hr
  go_wp2_with (first | (go_at_call 33; refine (has_any _ _ _).mono ?_; rintro e w' ⟨rfl, rfl⟩) | fail)
  refine (st_num1 hst hf.op (by decide)).mono ?_
  clear hst hr
  rintro e w' ⟨v', rfl, hst⟩; have hr := hst.rule; simp only [World.size_alloc] at hr
  go_wp2_with (first | (go_at_call 33; refine (has_any _ _ _).mono ?_; rintro e w' ⟨rfl, rfl⟩) | fail)
  refine (st_num1 hst hf.key (by decide)).mono ?_
  clear hst hr
  rintro e w' ⟨v', rfl, hst⟩; have hr := hst.rule; simp only [World.size_alloc] at hr
  go_wp2_with (first | (go_at_call 33; refine (has_any _ _ _).mono ?_; rintro e w' ⟨rfl, rfl⟩) | fail)
  refine (st_ver hst hf.vc hf.vs (by decide)).mono ?_
  clear hst hr
  rintro e w' ⟨v', rfl, hst⟩; have hr := hst.rule; simp only [World.size_alloc] at hr
  go_wp2_with (first | (go_at_call 33; refine (has_any _ _ _).mono ?_; rintro e w' ⟨rfl, rfl⟩) | fail)
  go_ret
  exact ⟨_, _, rfl, hst⟩

set_option maxRecDepth 100000 in
set_option maxHeartbeats 4000000 in
theorem appendMessage_3 (m : Msg) (w : World) (hd : DepsAt w m.ao m.past) (hG : GTab w) (hf : Fit m) :
    Calls Tryd.prog 17 #[.slice none 0 0, .agg #[.int .i64 3, .int .i64 m.src, .int .i64 m.dst, .int .i64 m.clock, .int .i64 m.op, .int .i64 m.index, .int .i64 m.key, .int .i64 m.vc, .int .i64 m.vs, .int .i64 m.value, .int .i64 m.fk, .int .i64 m.fc, .int .i64 m.fs, .slice m.ao m.past.length m.c, .bool m.settled]] w fun e w' => ∃ v' L, e = .returned v' ∧ St (w.alloc (.cells #[.int .i64 3, .int .i64 m.src, .int .i64 m.dst, .int .i64 m.clock, .int .i64 m.op, .int .i64 m.index, .int .i64 m.key, .int .i64 m.vc, .int .i64 m.vs, .int .i64 m.value, .int .i64 m.fk, .int .i64 m.fc, .int .i64 m.fs, .slice m.ao m.past.length m.c, .bool m.settled] 28)) w' v' ([(3 : Int)] ++ numsB [m.src, m.dst, m.clock] ++ numsB [m.op] ++ numsB [m.index] ++ numsB [m.key]) L := by
  obtain ⟨i0, hi, hz0, hz1, hz2⟩ := info_parts info5
  have hB0 := ((Below.refl w.heap.size w).alloc (Nat.le_refl _) (.cells #[.int .i64 3, .int .i64 m.src, .int .i64 m.dst, .int .i64 m.clock, .int .i64 m.op, .int .i64 m.index, .int .i64 m.key, .int .i64 m.vc, .int .i64 m.vs, .int .i64 m.value, .int .i64 m.fk, .int .i64 m.fc, .int .i64 m.fs, .slice m.ao m.past.length m.c, .bool m.settled] 28))
  have g1 : (w.alloc (.cells #[.int .i64 3, .int .i64 m.src, .int .i64 m.dst, .int .i64 m.clock, .int .i64 m.op, .int .i64 m.index, .int .i64 m.key, .int .i64 m.vc, .int .i64 m.vs, .int .i64 m.value, .int .i64 m.fk, .int .i64 m.fc, .int .i64 m.fs, .slice m.ao m.past.length m.c, .bool m.settled] 28)).cell? ⟨0, 3, none⟩ = some (.int .u8 7) := (hB0.cell (by exact hG.1)).trans (hG.2 3 (by decide))
  have b1 : (bits BinOp.and IntKind.u8 7 1 != 0) = true := by decide
  have b2 : (bits BinOp.and IntKind.u8 7 2 != 0) = true := by decide
  have b4 : (bits BinOp.and IntKind.u8 7 4 != 0) = true := by decide
  have b8 : (bits BinOp.and IntKind.u8 7 8 != 0) = false := by decide
  have b16 : (bits BinOp.and IntKind.u8 7 16 != 0) = false := by decide
  have b32 : (bits BinOp.and IntKind.u8 7 32 != 0) = false := by decide
  have b64 : (bits BinOp.and IntKind.u8 7 64 != 0) = false := by decide
  have b128 : (bits BinOp.and IntKind.u8 7 128 != 0) = false := by decide
  have hg0 : Grew (w.alloc (.cells #[.int .i64 3, .int .i64 m.src, .int .i64 m.dst, .int .i64 m.clock, .int .i64 m.op, .int .i64 m.index, .int .i64 m.key, .int .i64 m.vc, .int .i64 m.vs, .int .i64 m.value, .int .i64 m.fk, .int .i64 m.fc, .int .i64 m.fs, .slice m.ao m.past.length m.c, .bool m.settled] 28)) (w.alloc (.cells #[.int .i64 3, .int .i64 m.src, .int .i64 m.dst, .int .i64 m.clock, .int .i64 m.op, .int .i64 m.index, .int .i64 m.key, .int .i64 m.vc, .int .i64 m.vs, .int .i64 m.value, .int .i64 m.fk, .int .i64 m.fc, .int .i64 m.fs, .slice m.ao m.past.length m.c, .bool m.settled] 28)) (w.heap.size + 1) (.slice none 0 0) (.slice none 0 0) 0 [] [] := Grew.refl (World.ownsRow_nil _ _ _ _)
  have hd0 : DepsAt (w.alloc (.cells #[.int .i64 3, .int .i64 m.src, .int .i64 m.dst, .int .i64 m.clock, .int .i64 m.op, .int .i64 m.index, .int .i64 m.key, .int .i64 m.vc, .int .i64 m.vs, .int .i64 m.value, .int .i64 m.fk, .int .i64 m.fc, .int .i64 m.fs, .slice m.ao m.past.length m.c, .bool m.settled] 28)) m.ao m.past := hd.below hB0 (Nat.le_refl _)
  go_enter Tryd.func17, Tryd.ntmps17
  go_wp2_with (at_builtin; go_must (refine wpList_append_lies _ rfl _ _ 41 rfl (w.heap.size + 1) 5 i0 (.int .u8 0) 1 1 Tryd.underlying41 hi hz0 hz1 hz2 rfl (by decide) _ _ _ rfl (World.ownsRow_nil _ _ _ _) ⟨w.heap.size + 1, 0, none⟩ 1 1 [.int .u8 3] rfl rfl ?c1 ?c2 (by decide) ?c4 ?c5 ?c6 (w.heap.size + 2) (by simp) ?_))
  case c1 => intro j u hj; match j, hj with | 0, hj => (simp at hj; subst hj; simp [Addr.add])
  case c2 => intro u hu; simp at hu; subst hu; rfl
  case c4 => unfold maxLen; omega
  case c5 => omega
  case c6 => simp
  intro g cap w1 hown1 hgrow hat hlt1
  have hst : St (w.alloc (.cells #[.int .i64 3, .int .i64 m.src, .int .i64 m.dst, .int .i64 m.clock, .int .i64 m.op, .int .i64 m.index, .int .i64 m.key, .int .i64 m.vc, .int .i64 m.vs, .int .i64 m.value, .int .i64 m.fk, .int .i64 m.fc, .int .i64 m.fs, .slice m.ao m.past.length m.c, .bool m.settled] 28)) w1 (.slice (some ⟨g, 0, none⟩) (0 + 1) cap) [(3 : Int)] 1 := ⟨by have := hg0.step (x := 3) rfl hown1 hgrow (by simpa using hat); simpa using this, by simp⟩
  have hr := hst.rule
  simp only [World.size_alloc] at hr
  clear hown1 hgrow hat hlt1 hg0
  go_wp2_with (first | (go_at_call 33; refine (has_any _ _ _).mono ?_; rintro e w' ⟨rfl, rfl⟩) | fail)
  refine (st_num3 hst hf.src hf.dst hf.clock (by decide)).mono ?_
  clear hst hr
  rintro e w' ⟨v', rfl, hst⟩; have hr := hst.rule; simp only [World.size_alloc] at hr
  go_wp2_with (first | (go_at_call 33; refine (has_any _ _ _).mono ?_; rintro e w' ⟨rfl, rfl⟩) | fail)
  refine (st_num1 hst hf.op (by decide)).mono ?_
  clear hst hr
  rintro e w' ⟨v', rfl, hst⟩; have hr := hst.rule; simp only [World.size_alloc] at hr
  go_wp2_with (first | (go_at_call 33; refine (has_any _ _ _).mono ?_; rintro e w' ⟨rfl, rfl⟩) | fail)
  refine (st_num1 hst hf.index (by decide)).mono ?_
  clear hst hr
  rintro e w' ⟨v', rfl, hst⟩; have hr := hst.rule; simp only [World.size_alloc] at hr
  go_wp2_with (first | (go_at_call 33; refine (has_any _ _ _).mono ?_; rintro e w' ⟨rfl, rfl⟩) | fail)
  refine (st_num1 hst hf.key (by decide)).mono ?_
  clear hst hr
  rintro e w' ⟨v', rfl, hst⟩; have hr := hst.rule; simp only [World.size_alloc] at hr
  go_wp2_with (first | (go_at_call 33; refine (has_any _ _ _).mono ?_; rintro e w' ⟨rfl, rfl⟩) | fail)
  go_ret
  exact ⟨_, _, rfl, hst⟩

set_option maxRecDepth 100000 in
set_option maxHeartbeats 4000000 in
theorem appendMessage_4 (m : Msg) (w : World) (hd : DepsAt w m.ao m.past) (hG : GTab w) (hf : Fit m) :
    Calls Tryd.prog 17 #[.slice none 0 0, .agg #[.int .i64 4, .int .i64 m.src, .int .i64 m.dst, .int .i64 m.clock, .int .i64 m.op, .int .i64 m.index, .int .i64 m.key, .int .i64 m.vc, .int .i64 m.vs, .int .i64 m.value, .int .i64 m.fk, .int .i64 m.fc, .int .i64 m.fs, .slice m.ao m.past.length m.c, .bool m.settled]] w fun e w' => ∃ v' L, e = .returned v' ∧ St (w.alloc (.cells #[.int .i64 4, .int .i64 m.src, .int .i64 m.dst, .int .i64 m.clock, .int .i64 m.op, .int .i64 m.index, .int .i64 m.key, .int .i64 m.vc, .int .i64 m.vs, .int .i64 m.value, .int .i64 m.fk, .int .i64 m.fc, .int .i64 m.fs, .slice m.ao m.past.length m.c, .bool m.settled] 28)) w' v' ([(4 : Int)] ++ numsB [m.src, m.dst, m.clock] ++ numsB [m.op] ++ numsB [m.index] ++ numsB [m.key] ++ numsB [m.vc, m.vs] ++ vint 9 (zz m.value) ++ (numsB [(m.past.length : Int)] ++ depsB m.past) ++ [flagB m.settled]) L := by
  obtain ⟨i0, hi, hz0, hz1, hz2⟩ := info_parts info5
  have hB0 := ((Below.refl w.heap.size w).alloc (Nat.le_refl _) (.cells #[.int .i64 4, .int .i64 m.src, .int .i64 m.dst, .int .i64 m.clock, .int .i64 m.op, .int .i64 m.index, .int .i64 m.key, .int .i64 m.vc, .int .i64 m.vs, .int .i64 m.value, .int .i64 m.fk, .int .i64 m.fc, .int .i64 m.fs, .slice m.ao m.past.length m.c, .bool m.settled] 28))
  have g1 : (w.alloc (.cells #[.int .i64 4, .int .i64 m.src, .int .i64 m.dst, .int .i64 m.clock, .int .i64 m.op, .int .i64 m.index, .int .i64 m.key, .int .i64 m.vc, .int .i64 m.vs, .int .i64 m.value, .int .i64 m.fk, .int .i64 m.fc, .int .i64 m.fs, .slice m.ao m.past.length m.c, .bool m.settled] 28)).cell? ⟨0, 4, none⟩ = some (.int .u8 239) := (hB0.cell (by exact hG.1)).trans (hG.2 4 (by decide))
  have b1 : (bits BinOp.and IntKind.u8 239 1 != 0) = true := by decide
  have b2 : (bits BinOp.and IntKind.u8 239 2 != 0) = true := by decide
  have b4 : (bits BinOp.and IntKind.u8 239 4 != 0) = true := by decide
  have b8 : (bits BinOp.and IntKind.u8 239 8 != 0) = true := by decide
  have b16 : (bits BinOp.and IntKind.u8 239 16 != 0) = false := by decide
  have b32 : (bits BinOp.and IntKind.u8 239 32 != 0) = true := by decide
  have b64 : (bits BinOp.and IntKind.u8 239 64 != 0) = true := by decide
  have b128 : (bits BinOp.and IntKind.u8 239 128 != 0) = true := by decide
  have hg0 : Grew (w.alloc (.cells #[.int .i64 4, .int .i64 m.src, .int .i64 m.dst, .int .i64 m.clock, .int .i64 m.op, .int .i64 m.index, .int .i64 m.key, .int .i64 m.vc, .int .i64 m.vs, .int .i64 m.value, .int .i64 m.fk, .int .i64 m.fc, .int .i64 m.fs, .slice m.ao m.past.length m.c, .bool m.settled] 28)) (w.alloc (.cells #[.int .i64 4, .int .i64 m.src, .int .i64 m.dst, .int .i64 m.clock, .int .i64 m.op, .int .i64 m.index, .int .i64 m.key, .int .i64 m.vc, .int .i64 m.vs, .int .i64 m.value, .int .i64 m.fk, .int .i64 m.fc, .int .i64 m.fs, .slice m.ao m.past.length m.c, .bool m.settled] 28)) (w.heap.size + 1) (.slice none 0 0) (.slice none 0 0) 0 [] [] := Grew.refl (World.ownsRow_nil _ _ _ _)
  have hd0 : DepsAt (w.alloc (.cells #[.int .i64 4, .int .i64 m.src, .int .i64 m.dst, .int .i64 m.clock, .int .i64 m.op, .int .i64 m.index, .int .i64 m.key, .int .i64 m.vc, .int .i64 m.vs, .int .i64 m.value, .int .i64 m.fk, .int .i64 m.fc, .int .i64 m.fs, .slice m.ao m.past.length m.c, .bool m.settled] 28)) m.ao m.past := hd.below hB0 (Nat.le_refl _)
  go_enter Tryd.func17, Tryd.ntmps17
  go_wp2_with (at_builtin; go_must (refine wpList_append_lies _ rfl _ _ 41 rfl (w.heap.size + 1) 5 i0 (.int .u8 0) 1 1 Tryd.underlying41 hi hz0 hz1 hz2 rfl (by decide) _ _ _ rfl (World.ownsRow_nil _ _ _ _) ⟨w.heap.size + 1, 0, none⟩ 1 1 [.int .u8 4] rfl rfl ?c1 ?c2 (by decide) ?c4 ?c5 ?c6 (w.heap.size + 2) (by simp) ?_))
  case c1 => intro j u hj; match j, hj with | 0, hj => (simp at hj; subst hj; simp [Addr.add])
  case c2 => intro u hu; simp at hu; subst hu; rfl
  case c4 => unfold maxLen; omega
  case c5 => omega
  case c6 => simp
  intro g cap w1 hown1 hgrow hat hlt1
  have hst : St (w.alloc (.cells #[.int .i64 4, .int .i64 m.src, .int .i64 m.dst, .int .i64 m.clock, .int .i64 m.op, .int .i64 m.index, .int .i64 m.key, .int .i64 m.vc, .int .i64 m.vs, .int .i64 m.value, .int .i64 m.fk, .int .i64 m.fc, .int .i64 m.fs, .slice m.ao m.past.length m.c, .bool m.settled] 28)) w1 (.slice (some ⟨g, 0, none⟩) (0 + 1) cap) [(4 : Int)] 1 := ⟨by have := hg0.step (x := 4) rfl hown1 hgrow (by simpa using hat); simpa using this, by simp⟩
  have hr := hst.rule
  simp only [World.size_alloc] at hr
  clear hown1 hgrow hat hlt1 hg0
  go_wp2_with (first | (go_at_call 33; refine (has_any _ _ _).mono ?_; rintro e w' ⟨rfl, rfl⟩) | fail)
  refine (st_num3 hst hf.src hf.dst hf.clock (by decide)).mono ?_
  clear hst hr
  rintro e w' ⟨v', rfl, hst⟩; have hr := hst.rule; simp only [World.size_alloc] at hr
  go_wp2_with (first | (go_at_call 33; refine (has_any _ _ _).mono ?_; rintro e w' ⟨rfl, rfl⟩) | fail)
  refine (st_num1 hst hf.op (by decide)).mono ?_
  clear hst hr
  rintro e w' ⟨v', rfl, hst⟩; have hr := hst.rule; simp only [World.size_alloc] at hr
  go_wp2_with (first | (go_at_call 33; refine (has_any _ _ _).mono ?_; rintro e w' ⟨rfl, rfl⟩) | fail)
  refine (st_num1 hst hf.index (by decide)).mono ?_
  clear hst hr
  rintro e w' ⟨v', rfl, hst⟩; have hr := hst.rule; simp only [World.size_alloc] at hr
  go_wp2_with (first | (go_at_call 33; refine (has_any _ _ _).mono ?_; rintro e w' ⟨rfl, rfl⟩) | fail)
  refine (st_num1 hst hf.key (by decide)).mono ?_
  clear hst hr
  rintro e w' ⟨v', rfl, hst⟩; have hr := hst.rule; simp only [World.size_alloc] at hr
  go_wp2_with (first | (go_at_call 33; refine (has_any _ _ _).mono ?_; rintro e w' ⟨rfl, rfl⟩) | fail)
  refine (st_ver hst hf.vc hf.vs (by decide)).mono ?_
  clear hst hr
  rintro e w' ⟨v', rfl, hst⟩; have hr := hst.rule; simp only [World.size_alloc] at hr
  go_wp2_with (first | (go_at_call 33; refine (has_any _ _ _).mono ?_; rintro e w' ⟨rfl, rfl⟩) | fail)
  refine (st_val hst hf.value (by decide)).mono ?_
  clear hst hr
  rintro e w' ⟨v', rfl, hst⟩; have hr := hst.rule; simp only [World.size_alloc] at hr
  go_wp2_with (first | (go_at_call 33; refine (has_any _ _ _).mono ?_; rintro e w' ⟨rfl, rfl⟩) | fail)
  refine (st_past hst hd0 hf.past hf.six (by decide)).mono ?_
  clear hst hr
  rintro e w' ⟨v', rfl, hst⟩; have hr := hst.rule; simp only [World.size_alloc] at hr
  go_wp2_with (first | (go_at_call 33; refine (has_any _ _ _).mono ?_; rintro e w' ⟨rfl, rfl⟩) | fail)
  refine (st_flag hst (by decide)).mono ?_
  clear hst hr
  rintro e w' ⟨v', rfl, hst⟩; have hr := hst.rule; simp only [World.size_alloc] at hr
  go_wp2_with (first | (go_at_call 33; refine (has_any _ _ _).mono ?_; rintro e w' ⟨rfl, rfl⟩) | fail)
  go_ret
  exact ⟨_, _, rfl, hst⟩

set_option maxRecDepth 100000 in
set_option maxHeartbeats 4000000 in
theorem appendMessage_5 (m : Msg) (w : World) (hd : DepsAt w m.ao m.past) (hG : GTab w) (hf : Fit m) :
    Calls Tryd.prog 17 #[.slice none 0 0, .agg #[.int .i64 5, .int .i64 m.src, .int .i64 m.dst, .int .i64 m.clock, .int .i64 m.op, .int .i64 m.index, .int .i64 m.key, .int .i64 m.vc, .int .i64 m.vs, .int .i64 m.value, .int .i64 m.fk, .int .i64 m.fc, .int .i64 m.fs, .slice m.ao m.past.length m.c, .bool m.settled]] w fun e w' => ∃ v' L, e = .returned v' ∧ St (w.alloc (.cells #[.int .i64 5, .int .i64 m.src, .int .i64 m.dst, .int .i64 m.clock, .int .i64 m.op, .int .i64 m.index, .int .i64 m.key, .int .i64 m.vc, .int .i64 m.vs, .int .i64 m.value, .int .i64 m.fk, .int .i64 m.fc, .int .i64 m.fs, .slice m.ao m.past.length m.c, .bool m.settled] 28)) w' v' ([(5 : Int)] ++ numsB [m.src, m.dst, m.clock] ++ numsB [m.op] ++ numsB [m.index] ++ numsB [m.key] ++ numsB [m.vc, m.vs]) L := by
  obtain ⟨i0, hi, hz0, hz1, hz2⟩ := info_parts info5
  have hB0 := ((Below.refl w.heap.size w).alloc (Nat.le_refl _) (.cells #[.int .i64 5, .int .i64 m.src, .int .i64 m.dst, .int .i64 m.clock, .int .i64 m.op, .int .i64 m.index, .int .i64 m.key, .int .i64 m.vc, .int .i64 m.vs, .int .i64 m.value, .int .i64 m.fk, .int .i64 m.fc, .int .i64 m.fs, .slice m.ao m.past.length m.c, .bool m.settled] 28))
  have g1 : (w.alloc (.cells #[.int .i64 5, .int .i64 m.src, .int .i64 m.dst, .int .i64 m.clock, .int .i64 m.op, .int .i64 m.index, .int .i64 m.key, .int .i64 m.vc, .int .i64 m.vs, .int .i64 m.value, .int .i64 m.fk, .int .i64 m.fc, .int .i64 m.fs, .slice m.ao m.past.length m.c, .bool m.settled] 28)).cell? ⟨0, 5, none⟩ = some (.int .u8 15) := (hB0.cell (by exact hG.1)).trans (hG.2 5 (by decide))
  have b1 : (bits BinOp.and IntKind.u8 15 1 != 0) = true := by decide
  have b2 : (bits BinOp.and IntKind.u8 15 2 != 0) = true := by decide
  have b4 : (bits BinOp.and IntKind.u8 15 4 != 0) = true := by decide
  have b8 : (bits BinOp.and IntKind.u8 15 8 != 0) = true := by decide
  have b16 : (bits BinOp.and IntKind.u8 15 16 != 0) = false := by decide
  have b32 : (bits BinOp.and IntKind.u8 15 32 != 0) = false := by decide
  have b64 : (bits BinOp.and IntKind.u8 15 64 != 0) = false := by decide
  have b128 : (bits BinOp.and IntKind.u8 15 128 != 0) = false := by decide
  have hg0 : Grew (w.alloc (.cells #[.int .i64 5, .int .i64 m.src, .int .i64 m.dst, .int .i64 m.clock, .int .i64 m.op, .int .i64 m.index, .int .i64 m.key, .int .i64 m.vc, .int .i64 m.vs, .int .i64 m.value, .int .i64 m.fk, .int .i64 m.fc, .int .i64 m.fs, .slice m.ao m.past.length m.c, .bool m.settled] 28)) (w.alloc (.cells #[.int .i64 5, .int .i64 m.src, .int .i64 m.dst, .int .i64 m.clock, .int .i64 m.op, .int .i64 m.index, .int .i64 m.key, .int .i64 m.vc, .int .i64 m.vs, .int .i64 m.value, .int .i64 m.fk, .int .i64 m.fc, .int .i64 m.fs, .slice m.ao m.past.length m.c, .bool m.settled] 28)) (w.heap.size + 1) (.slice none 0 0) (.slice none 0 0) 0 [] [] := Grew.refl (World.ownsRow_nil _ _ _ _)
  have hd0 : DepsAt (w.alloc (.cells #[.int .i64 5, .int .i64 m.src, .int .i64 m.dst, .int .i64 m.clock, .int .i64 m.op, .int .i64 m.index, .int .i64 m.key, .int .i64 m.vc, .int .i64 m.vs, .int .i64 m.value, .int .i64 m.fk, .int .i64 m.fc, .int .i64 m.fs, .slice m.ao m.past.length m.c, .bool m.settled] 28)) m.ao m.past := hd.below hB0 (Nat.le_refl _)
  go_enter Tryd.func17, Tryd.ntmps17
  go_wp2_with (at_builtin; go_must (refine wpList_append_lies _ rfl _ _ 41 rfl (w.heap.size + 1) 5 i0 (.int .u8 0) 1 1 Tryd.underlying41 hi hz0 hz1 hz2 rfl (by decide) _ _ _ rfl (World.ownsRow_nil _ _ _ _) ⟨w.heap.size + 1, 0, none⟩ 1 1 [.int .u8 5] rfl rfl ?c1 ?c2 (by decide) ?c4 ?c5 ?c6 (w.heap.size + 2) (by simp) ?_))
  case c1 => intro j u hj; match j, hj with | 0, hj => (simp at hj; subst hj; simp [Addr.add])
  case c2 => intro u hu; simp at hu; subst hu; rfl
  case c4 => unfold maxLen; omega
  case c5 => omega
  case c6 => simp
  intro g cap w1 hown1 hgrow hat hlt1
  have hst : St (w.alloc (.cells #[.int .i64 5, .int .i64 m.src, .int .i64 m.dst, .int .i64 m.clock, .int .i64 m.op, .int .i64 m.index, .int .i64 m.key, .int .i64 m.vc, .int .i64 m.vs, .int .i64 m.value, .int .i64 m.fk, .int .i64 m.fc, .int .i64 m.fs, .slice m.ao m.past.length m.c, .bool m.settled] 28)) w1 (.slice (some ⟨g, 0, none⟩) (0 + 1) cap) [(5 : Int)] 1 := ⟨by have := hg0.step (x := 5) rfl hown1 hgrow (by simpa using hat); simpa using this, by simp⟩
  have hr := hst.rule
  simp only [World.size_alloc] at hr
  clear hown1 hgrow hat hlt1 hg0
  go_wp2_with (first | (go_at_call 33; refine (has_any _ _ _).mono ?_; rintro e w' ⟨rfl, rfl⟩) | fail)
  refine (st_num3 hst hf.src hf.dst hf.clock (by decide)).mono ?_
  clear hst hr
  rintro e w' ⟨v', rfl, hst⟩; have hr := hst.rule; simp only [World.size_alloc] at hr
  go_wp2_with (first | (go_at_call 33; refine (has_any _ _ _).mono ?_; rintro e w' ⟨rfl, rfl⟩) | fail)
  refine (st_num1 hst hf.op (by decide)).mono ?_
  clear hst hr
  rintro e w' ⟨v', rfl, hst⟩; have hr := hst.rule; simp only [World.size_alloc] at hr
  go_wp2_with (first | (go_at_call 33; refine (has_any _ _ _).mono ?_; rintro e w' ⟨rfl, rfl⟩) | fail)
  refine (st_num1 hst hf.index (by decide)).mono ?_
  clear hst hr
  rintro e w' ⟨v', rfl, hst⟩; have hr := hst.rule; simp only [World.size_alloc] at hr
  go_wp2_with (first | (go_at_call 33; refine (has_any _ _ _).mono ?_; rintro e w' ⟨rfl, rfl⟩) | fail)
  refine (st_num1 hst hf.key (by decide)).mono ?_
  clear hst hr
  rintro e w' ⟨v', rfl, hst⟩; have hr := hst.rule; simp only [World.size_alloc] at hr
  go_wp2_with (first | (go_at_call 33; refine (has_any _ _ _).mono ?_; rintro e w' ⟨rfl, rfl⟩) | fail)
  refine (st_ver hst hf.vc hf.vs (by decide)).mono ?_
  clear hst hr
  rintro e w' ⟨v', rfl, hst⟩; have hr := hst.rule; simp only [World.size_alloc] at hr
  go_wp2_with (first | (go_at_call 33; refine (has_any _ _ _).mono ?_; rintro e w' ⟨rfl, rfl⟩) | fail)
  go_ret
  exact ⟨_, _, rfl, hst⟩

set_option maxRecDepth 100000 in
set_option maxHeartbeats 4000000 in
theorem appendMessage_6 (m : Msg) (w : World) (hd : DepsAt w m.ao m.past) (hG : GTab w) (hf : Fit m) :
    Calls Tryd.prog 17 #[.slice none 0 0, .agg #[.int .i64 6, .int .i64 m.src, .int .i64 m.dst, .int .i64 m.clock, .int .i64 m.op, .int .i64 m.index, .int .i64 m.key, .int .i64 m.vc, .int .i64 m.vs, .int .i64 m.value, .int .i64 m.fk, .int .i64 m.fc, .int .i64 m.fs, .slice m.ao m.past.length m.c, .bool m.settled]] w fun e w' => ∃ v' L, e = .returned v' ∧ St (w.alloc (.cells #[.int .i64 6, .int .i64 m.src, .int .i64 m.dst, .int .i64 m.clock, .int .i64 m.op, .int .i64 m.index, .int .i64 m.key, .int .i64 m.vc, .int .i64 m.vs, .int .i64 m.value, .int .i64 m.fk, .int .i64 m.fc, .int .i64 m.fs, .slice m.ao m.past.length m.c, .bool m.settled] 28)) w' v' ([(6 : Int)] ++ numsB [m.src, m.dst, m.clock] ++ numsB [m.op] ++ numsB [m.index] ++ numsB [m.key] ++ numsB [m.vc, m.vs] ++ vint 9 (zz m.value) ++ (numsB [(m.past.length : Int)] ++ depsB m.past) ++ [flagB m.settled]) L := by
  obtain ⟨i0, hi, hz0, hz1, hz2⟩ := info_parts info5
  have hB0 := ((Below.refl w.heap.size w).alloc (Nat.le_refl _) (.cells #[.int .i64 6, .int .i64 m.src, .int .i64 m.dst, .int .i64 m.clock, .int .i64 m.op, .int .i64 m.index, .int .i64 m.key, .int .i64 m.vc, .int .i64 m.vs, .int .i64 m.value, .int .i64 m.fk, .int .i64 m.fc, .int .i64 m.fs, .slice m.ao m.past.length m.c, .bool m.settled] 28))
  have g1 : (w.alloc (.cells #[.int .i64 6, .int .i64 m.src, .int .i64 m.dst, .int .i64 m.clock, .int .i64 m.op, .int .i64 m.index, .int .i64 m.key, .int .i64 m.vc, .int .i64 m.vs, .int .i64 m.value, .int .i64 m.fk, .int .i64 m.fc, .int .i64 m.fs, .slice m.ao m.past.length m.c, .bool m.settled] 28)).cell? ⟨0, 6, none⟩ = some (.int .u8 239) := (hB0.cell (by exact hG.1)).trans (hG.2 6 (by decide))
  have b1 : (bits BinOp.and IntKind.u8 239 1 != 0) = true := by decide
  have b2 : (bits BinOp.and IntKind.u8 239 2 != 0) = true := by decide
  have b4 : (bits BinOp.and IntKind.u8 239 4 != 0) = true := by decide
  have b8 : (bits BinOp.and IntKind.u8 239 8 != 0) = true := by decide
  have b16 : (bits BinOp.and IntKind.u8 239 16 != 0) = false := by decide
  have b32 : (bits BinOp.and IntKind.u8 239 32 != 0) = true := by decide
  have b64 : (bits BinOp.and IntKind.u8 239 64 != 0) = true := by decide
  have b128 : (bits BinOp.and IntKind.u8 239 128 != 0) = true := by decide
  have hg0 : Grew (w.alloc (.cells #[.int .i64 6, .int .i64 m.src, .int .i64 m.dst, .int .i64 m.clock, .int .i64 m.op, .int .i64 m.index, .int .i64 m.key, .int .i64 m.vc, .int .i64 m.vs, .int .i64 m.value, .int .i64 m.fk, .int .i64 m.fc, .int .i64 m.fs, .slice m.ao m.past.length m.c, .bool m.settled] 28)) (w.alloc (.cells #[.int .i64 6, .int .i64 m.src, .int .i64 m.dst, .int .i64 m.clock, .int .i64 m.op, .int .i64 m.index, .int .i64 m.key, .int .i64 m.vc, .int .i64 m.vs, .int .i64 m.value, .int .i64 m.fk, .int .i64 m.fc, .int .i64 m.fs, .slice m.ao m.past.length m.c, .bool m.settled] 28)) (w.heap.size + 1) (.slice none 0 0) (.slice none 0 0) 0 [] [] := Grew.refl (World.ownsRow_nil _ _ _ _)
  have hd0 : DepsAt (w.alloc (.cells #[.int .i64 6, .int .i64 m.src, .int .i64 m.dst, .int .i64 m.clock, .int .i64 m.op, .int .i64 m.index, .int .i64 m.key, .int .i64 m.vc, .int .i64 m.vs, .int .i64 m.value, .int .i64 m.fk, .int .i64 m.fc, .int .i64 m.fs, .slice m.ao m.past.length m.c, .bool m.settled] 28)) m.ao m.past := hd.below hB0 (Nat.le_refl _)
  go_enter Tryd.func17, Tryd.ntmps17
  go_wp2_with (at_builtin; go_must (refine wpList_append_lies _ rfl _ _ 41 rfl (w.heap.size + 1) 5 i0 (.int .u8 0) 1 1 Tryd.underlying41 hi hz0 hz1 hz2 rfl (by decide) _ _ _ rfl (World.ownsRow_nil _ _ _ _) ⟨w.heap.size + 1, 0, none⟩ 1 1 [.int .u8 6] rfl rfl ?c1 ?c2 (by decide) ?c4 ?c5 ?c6 (w.heap.size + 2) (by simp) ?_))
  case c1 => intro j u hj; match j, hj with | 0, hj => (simp at hj; subst hj; simp [Addr.add])
  case c2 => intro u hu; simp at hu; subst hu; rfl
  case c4 => unfold maxLen; omega
  case c5 => omega
  case c6 => simp
  intro g cap w1 hown1 hgrow hat hlt1
  have hst : St (w.alloc (.cells #[.int .i64 6, .int .i64 m.src, .int .i64 m.dst, .int .i64 m.clock, .int .i64 m.op, .int .i64 m.index, .int .i64 m.key, .int .i64 m.vc, .int .i64 m.vs, .int .i64 m.value, .int .i64 m.fk, .int .i64 m.fc, .int .i64 m.fs, .slice m.ao m.past.length m.c, .bool m.settled] 28)) w1 (.slice (some ⟨g, 0, none⟩) (0 + 1) cap) [(6 : Int)] 1 := ⟨by have := hg0.step (x := 6) rfl hown1 hgrow (by simpa using hat); simpa using this, by simp⟩
  have hr := hst.rule
  simp only [World.size_alloc] at hr
  clear hown1 hgrow hat hlt1 hg0
  go_wp2_with (first | (go_at_call 33; refine (has_any _ _ _).mono ?_; rintro e w' ⟨rfl, rfl⟩) | fail)
  refine (st_num3 hst hf.src hf.dst hf.clock (by decide)).mono ?_
  clear hst hr
  rintro e w' ⟨v', rfl, hst⟩; have hr := hst.rule; simp only [World.size_alloc] at hr
  go_wp2_with (first | (go_at_call 33; refine (has_any _ _ _).mono ?_; rintro e w' ⟨rfl, rfl⟩) | fail)
  refine (st_num1 hst hf.op (by decide)).mono ?_
  clear hst hr
  rintro e w' ⟨v', rfl, hst⟩; have hr := hst.rule; simp only [World.size_alloc] at hr
  go_wp2_with (first | (go_at_call 33; refine (has_any _ _ _).mono ?_; rintro e w' ⟨rfl, rfl⟩) | fail)
  refine (st_num1 hst hf.index (by decide)).mono ?_
  clear hst hr
  rintro e w' ⟨v', rfl, hst⟩; have hr := hst.rule; simp only [World.size_alloc] at hr
  go_wp2_with (first | (go_at_call 33; refine (has_any _ _ _).mono ?_; rintro e w' ⟨rfl, rfl⟩) | fail)
  refine (st_num1 hst hf.key (by decide)).mono ?_
  clear hst hr
  rintro e w' ⟨v', rfl, hst⟩; have hr := hst.rule; simp only [World.size_alloc] at hr
  go_wp2_with (first | (go_at_call 33; refine (has_any _ _ _).mono ?_; rintro e w' ⟨rfl, rfl⟩) | fail)
  refine (st_ver hst hf.vc hf.vs (by decide)).mono ?_
  clear hst hr
  rintro e w' ⟨v', rfl, hst⟩; have hr := hst.rule; simp only [World.size_alloc] at hr
  go_wp2_with (first | (go_at_call 33; refine (has_any _ _ _).mono ?_; rintro e w' ⟨rfl, rfl⟩) | fail)
  refine (st_val hst hf.value (by decide)).mono ?_
  clear hst hr
  rintro e w' ⟨v', rfl, hst⟩; have hr := hst.rule; simp only [World.size_alloc] at hr
  go_wp2_with (first | (go_at_call 33; refine (has_any _ _ _).mono ?_; rintro e w' ⟨rfl, rfl⟩) | fail)
  refine (st_past hst hd0 hf.past hf.six (by decide)).mono ?_
  clear hst hr
  rintro e w' ⟨v', rfl, hst⟩; have hr := hst.rule; simp only [World.size_alloc] at hr
  go_wp2_with (first | (go_at_call 33; refine (has_any _ _ _).mono ?_; rintro e w' ⟨rfl, rfl⟩) | fail)
  refine (st_flag hst (by decide)).mono ?_
  clear hst hr
  rintro e w' ⟨v', rfl, hst⟩; have hr := hst.rule; simp only [World.size_alloc] at hr
  go_wp2_with (first | (go_at_call 33; refine (has_any _ _ _).mono ?_; rintro e w' ⟨rfl, rfl⟩) | fail)
  go_ret
  exact ⟨_, _, rfl, hst⟩

set_option maxRecDepth 100000 in
set_option maxHeartbeats 4000000 in
theorem appendMessage_7 (m : Msg) (w : World) (hd : DepsAt w m.ao m.past) (hG : GTab w) (hf : Fit m) :
    Calls Tryd.prog 17 #[.slice none 0 0, .agg #[.int .i64 7, .int .i64 m.src, .int .i64 m.dst, .int .i64 m.clock, .int .i64 m.op, .int .i64 m.index, .int .i64 m.key, .int .i64 m.vc, .int .i64 m.vs, .int .i64 m.value, .int .i64 m.fk, .int .i64 m.fc, .int .i64 m.fs, .slice m.ao m.past.length m.c, .bool m.settled]] w fun e w' => ∃ v' L, e = .returned v' ∧ St (w.alloc (.cells #[.int .i64 7, .int .i64 m.src, .int .i64 m.dst, .int .i64 m.clock, .int .i64 m.op, .int .i64 m.index, .int .i64 m.key, .int .i64 m.vc, .int .i64 m.vs, .int .i64 m.value, .int .i64 m.fk, .int .i64 m.fc, .int .i64 m.fs, .slice m.ao m.past.length m.c, .bool m.settled] 28)) w' v' ([(7 : Int)] ++ numsB [m.src, m.dst, m.clock] ++ numsB [m.key] ++ numsB [m.vc, m.vs] ++ vint 9 (zz m.value) ++ (numsB [(m.past.length : Int)] ++ depsB m.past)) L := by
  obtain ⟨i0, hi, hz0, hz1, hz2⟩ := info_parts info5
  have hB0 := ((Below.refl w.heap.size w).alloc (Nat.le_refl _) (.cells #[.int .i64 7, .int .i64 m.src, .int .i64 m.dst, .int .i64 m.clock, .int .i64 m.op, .int .i64 m.index, .int .i64 m.key, .int .i64 m.vc, .int .i64 m.vs, .int .i64 m.value, .int .i64 m.fk, .int .i64 m.fc, .int .i64 m.fs, .slice m.ao m.past.length m.c, .bool m.settled] 28))
  have g1 : (w.alloc (.cells #[.int .i64 7, .int .i64 m.src, .int .i64 m.dst, .int .i64 m.clock, .int .i64 m.op, .int .i64 m.index, .int .i64 m.key, .int .i64 m.vc, .int .i64 m.vs, .int .i64 m.value, .int .i64 m.fk, .int .i64 m.fc, .int .i64 m.fs, .slice m.ao m.past.length m.c, .bool m.settled] 28)).cell? ⟨0, 7, none⟩ = some (.int .u8 108) := (hB0.cell (by exact hG.1)).trans (hG.2 7 (by decide))
  have b1 : (bits BinOp.and IntKind.u8 108 1 != 0) = false := by decide
  have b2 : (bits BinOp.and IntKind.u8 108 2 != 0) = false := by decide
  have b4 : (bits BinOp.and IntKind.u8 108 4 != 0) = true := by decide
  have b8 : (bits BinOp.and IntKind.u8 108 8 != 0) = true := by decide
  have b16 : (bits BinOp.and IntKind.u8 108 16 != 0) = false := by decide
  have b32 : (bits BinOp.and IntKind.u8 108 32 != 0) = true := by decide
  have b64 : (bits BinOp.and IntKind.u8 108 64 != 0) = true := by decide
  have b128 : (bits BinOp.and IntKind.u8 108 128 != 0) = false := by decide
  have hg0 : Grew (w.alloc (.cells #[.int .i64 7, .int .i64 m.src, .int .i64 m.dst, .int .i64 m.clock, .int .i64 m.op, .int .i64 m.index, .int .i64 m.key, .int .i64 m.vc, .int .i64 m.vs, .int .i64 m.value, .int .i64 m.fk, .int .i64 m.fc, .int .i64 m.fs, .slice m.ao m.past.length m.c, .bool m.settled] 28)) (w.alloc (.cells #[.int .i64 7, .int .i64 m.src, .int .i64 m.dst, .int .i64 m.clock, .int .i64 m.op, .int .i64 m.index, .int .i64 m.key, .int .i64 m.vc, .int .i64 m.vs, .int .i64 m.value, .int .i64 m.fk, .int .i64 m.fc, .int .i64 m.fs, .slice m.ao m.past.length m.c, .bool m.settled] 28)) (w.heap.size + 1) (.slice none 0 0) (.slice none 0 0) 0 [] [] := Grew.refl (World.ownsRow_nil _ _ _ _)
  have hd0 : DepsAt (w.alloc (.cells #[.int .i64 7, .int .i64 m.src, .int .i64 m.dst, .int .i64 m.clock, .int .i64 m.op, .int .i64 m.index, .int .i64 m.key, .int .i64 m.vc, .int .i64 m.vs, .int .i64 m.value, .int .i64 m.fk, .int .i64 m.fc, .int .i64 m.fs, .slice m.ao m.past.length m.c, .bool m.settled] 28)) m.ao m.past := hd.below hB0 (Nat.le_refl _)
  go_enter Tryd.func17, Tryd.ntmps17
  go_wp2_with (at_builtin; go_must (refine wpList_append_lies _ rfl _ _ 41 rfl (w.heap.size + 1) 5 i0 (.int .u8 0) 1 1 Tryd.underlying41 hi hz0 hz1 hz2 rfl (by decide) _ _ _ rfl (World.ownsRow_nil _ _ _ _) ⟨w.heap.size + 1, 0, none⟩ 1 1 [.int .u8 7] rfl rfl ?c1 ?c2 (by decide) ?c4 ?c5 ?c6 (w.heap.size + 2) (by simp) ?_))
  case c1 => intro j u hj; match j, hj with | 0, hj => (simp at hj; subst hj; simp [Addr.add])
  case c2 => intro u hu; simp at hu; subst hu; rfl
  case c4 => unfold maxLen; omega
  case c5 => omega
  case c6 => simp
  intro g cap w1 hown1 hgrow hat hlt1
  have hst : St (w.alloc (.cells #[.int .i64 7, .int .i64 m.src, .int .i64 m.dst, .int .i64 m.clock, .int .i64 m.op, .int .i64 m.index, .int .i64 m.key, .int .i64 m.vc, .int .i64 m.vs, .int .i64 m.value, .int .i64 m.fk, .int .i64 m.fc, .int .i64 m.fs, .slice m.ao m.past.length m.c, .bool m.settled] 28)) w1 (.slice (some ⟨g, 0, none⟩) (0 + 1) cap) [(7 : Int)] 1 := ⟨by have := hg0.step (x := 7) rfl hown1 hgrow (by simpa using hat); simpa using this, by simp⟩
  have hr := hst.rule
  simp only [World.size_alloc] at hr
  clear hown1 hgrow hat hlt1 hg0
  go_wp2_with (first | (go_at_call 33; refine (has_any _ _ _).mono ?_; rintro e w' ⟨rfl, rfl⟩) | fail)
  refine (st_num3 hst hf.src hf.dst hf.clock (by decide)).mono ?_
  clear hst hr
  rintro e w' ⟨v', rfl, hst⟩; have hr := hst.rule; simp only [World.size_alloc] at hr
  go_wp2_with (first | (go_at_call 33; refine (has_any _ _ _).mono ?_; rintro e w' ⟨rfl, rfl⟩) | fail)
  refine (st_num1 hst hf.key (by decide)).mono ?_
  clear hst hr
  rintro e w' ⟨v', rfl, hst⟩; have hr := hst.rule; simp only [World.size_alloc] at hr
  go_wp2_with (first | (go_at_call 33; refine (has_any _ _ _).mono ?_; rintro e w' ⟨rfl, rfl⟩) | fail)
  refine (st_ver hst hf.vc hf.vs (by decide)).mono ?_
  clear hst hr
  rintro e w' ⟨v', rfl, hst⟩; have hr := hst.rule; simp only [World.size_alloc] at hr
  go_wp2_with (first | (go_at_call 33; refine (has_any _ _ _).mono ?_; rintro e w' ⟨rfl, rfl⟩) | fail)
  refine (st_val hst hf.value (by decide)).mono ?_
  clear hst hr
  rintro e w' ⟨v', rfl, hst⟩; have hr := hst.rule; simp only [World.size_alloc] at hr
  go_wp2_with (first | (go_at_call 33; refine (has_any _ _ _).mono ?_; rintro e w' ⟨rfl, rfl⟩) | fail)
  refine (st_past hst hd0 hf.past hf.six (by decide)).mono ?_
  clear hst hr
  rintro e w' ⟨v', rfl, hst⟩; have hr := hst.rule; simp only [World.size_alloc] at hr
  go_wp2_with (first | (go_at_call 33; refine (has_any _ _ _).mono ?_; rintro e w' ⟨rfl, rfl⟩) | fail)
  go_ret
  exact ⟨_, _, rfl, hst⟩

set_option maxRecDepth 100000 in
set_option maxHeartbeats 4000000 in
theorem appendMessage_8 (m : Msg) (w : World) (hd : DepsAt w m.ao m.past) (hG : GTab w) (hf : Fit m) :
    Calls Tryd.prog 17 #[.slice none 0 0, .agg #[.int .i64 8, .int .i64 m.src, .int .i64 m.dst, .int .i64 m.clock, .int .i64 m.op, .int .i64 m.index, .int .i64 m.key, .int .i64 m.vc, .int .i64 m.vs, .int .i64 m.value, .int .i64 m.fk, .int .i64 m.fc, .int .i64 m.fs, .slice m.ao m.past.length m.c, .bool m.settled]] w fun e w' => ∃ v' L, e = .returned v' ∧ St (w.alloc (.cells #[.int .i64 8, .int .i64 m.src, .int .i64 m.dst, .int .i64 m.clock, .int .i64 m.op, .int .i64 m.index, .int .i64 m.key, .int .i64 m.vc, .int .i64 m.vs, .int .i64 m.value, .int .i64 m.fk, .int .i64 m.fc, .int .i64 m.fs, .slice m.ao m.past.length m.c, .bool m.settled] 28)) w' v' ([(8 : Int)] ++ numsB [m.src, m.dst, m.clock] ++ numsB [m.key] ++ numsB [m.vc, m.vs]) L := by
  obtain ⟨i0, hi, hz0, hz1, hz2⟩ := info_parts info5
  have hB0 := ((Below.refl w.heap.size w).alloc (Nat.le_refl _) (.cells #[.int .i64 8, .int .i64 m.src, .int .i64 m.dst, .int .i64 m.clock, .int .i64 m.op, .int .i64 m.index, .int .i64 m.key, .int .i64 m.vc, .int .i64 m.vs, .int .i64 m.value, .int .i64 m.fk, .int .i64 m.fc, .int .i64 m.fs, .slice m.ao m.past.length m.c, .bool m.settled] 28))
  have g1 : (w.alloc (.cells #[.int .i64 8, .int .i64 m.src, .int .i64 m.dst, .int .i64 m.clock, .int .i64 m.op, .int .i64 m.index, .int .i64 m.key, .int .i64 m.vc, .int .i64 m.vs, .int .i64 m.value, .int .i64 m.fk, .int .i64 m.fc, .int .i64 m.fs, .slice m.ao m.past.length m.c, .bool m.settled] 28)).cell? ⟨0, 8, none⟩ = some (.int .u8 12) := (hB0.cell (by exact hG.1)).trans (hG.2 8 (by decide))
  have b1 : (bits BinOp.and IntKind.u8 12 1 != 0) = false := by decide
  have b2 : (bits BinOp.and IntKind.u8 12 2 != 0) = false := by decide
  have b4 : (bits BinOp.and IntKind.u8 12 4 != 0) = true := by decide
  have b8 : (bits BinOp.and IntKind.u8 12 8 != 0) = true := by decide
  have b16 : (bits BinOp.and IntKind.u8 12 16 != 0) = false := by decide
  have b32 : (bits BinOp.and IntKind.u8 12 32 != 0) = false := by decide
  have b64 : (bits BinOp.and IntKind.u8 12 64 != 0) = false := by decide
  have b128 : (bits BinOp.and IntKind.u8 12 128 != 0) = false := by decide
  have hg0 : Grew (w.alloc (.cells #[.int .i64 8, .int .i64 m.src, .int .i64 m.dst, .int .i64 m.clock, .int .i64 m.op, .int .i64 m.index, .int .i64 m.key, .int .i64 m.vc, .int .i64 m.vs, .int .i64 m.value, .int .i64 m.fk, .int .i64 m.fc, .int .i64 m.fs, .slice m.ao m.past.length m.c, .bool m.settled] 28)) (w.alloc (.cells #[.int .i64 8, .int .i64 m.src, .int .i64 m.dst, .int .i64 m.clock, .int .i64 m.op, .int .i64 m.index, .int .i64 m.key, .int .i64 m.vc, .int .i64 m.vs, .int .i64 m.value, .int .i64 m.fk, .int .i64 m.fc, .int .i64 m.fs, .slice m.ao m.past.length m.c, .bool m.settled] 28)) (w.heap.size + 1) (.slice none 0 0) (.slice none 0 0) 0 [] [] := Grew.refl (World.ownsRow_nil _ _ _ _)
  have hd0 : DepsAt (w.alloc (.cells #[.int .i64 8, .int .i64 m.src, .int .i64 m.dst, .int .i64 m.clock, .int .i64 m.op, .int .i64 m.index, .int .i64 m.key, .int .i64 m.vc, .int .i64 m.vs, .int .i64 m.value, .int .i64 m.fk, .int .i64 m.fc, .int .i64 m.fs, .slice m.ao m.past.length m.c, .bool m.settled] 28)) m.ao m.past := hd.below hB0 (Nat.le_refl _)
  go_enter Tryd.func17, Tryd.ntmps17
  go_wp2_with (at_builtin; go_must (refine wpList_append_lies _ rfl _ _ 41 rfl (w.heap.size + 1) 5 i0 (.int .u8 0) 1 1 Tryd.underlying41 hi hz0 hz1 hz2 rfl (by decide) _ _ _ rfl (World.ownsRow_nil _ _ _ _) ⟨w.heap.size + 1, 0, none⟩ 1 1 [.int .u8 8] rfl rfl ?c1 ?c2 (by decide) ?c4 ?c5 ?c6 (w.heap.size + 2) (by simp) ?_))
  case c1 => intro j u hj; match j, hj with | 0, hj => (simp at hj; subst hj; simp [Addr.add])
  case c2 => intro u hu; simp at hu; subst hu; rfl
  case c4 => unfold maxLen; omega
  case c5 => omega
  case c6 => simp
  intro g cap w1 hown1 hgrow hat hlt1
  have hst : St (w.alloc (.cells #[.int .i64 8, .int .i64 m.src, .int .i64 m.dst, .int .i64 m.clock, .int .i64 m.op, .int .i64 m.index, .int .i64 m.key, .int .i64 m.vc, .int .i64 m.vs, .int .i64 m.value, .int .i64 m.fk, .int .i64 m.fc, .int .i64 m.fs, .slice m.ao m.past.length m.c, .bool m.settled] 28)) w1 (.slice (some ⟨g, 0, none⟩) (0 + 1) cap) [(8 : Int)] 1 := ⟨by have := hg0.step (x := 8) rfl hown1 hgrow (by simpa using hat); simpa using this, by simp⟩
  have hr := hst.rule
  simp only [World.size_alloc] at hr
  clear hown1 hgrow hat hlt1 hg0
  go_wp2_with (first | (go_at_call 33; refine (has_any _ _ _).mono ?_; rintro e w' ⟨rfl, rfl⟩) | fail)
  refine (st_num3 hst hf.src hf.dst hf.clock (by decide)).mono ?_
  clear hst hr
  rintro e w' ⟨v', rfl, hst⟩; have hr := hst.rule; simp only [World.size_alloc] at hr
  go_wp2_with (first | (go_at_call 33; refine (has_any _ _ _).mono ?_; rintro e w' ⟨rfl, rfl⟩) | fail)
  refine (st_num1 hst hf.key (by decide)).mono ?_
  clear hst hr
  rintro e w' ⟨v', rfl, hst⟩; have hr := hst.rule; simp only [World.size_alloc] at hr
  go_wp2_with (first | (go_at_call 33; refine (has_any _ _ _).mono ?_; rintro e w' ⟨rfl, rfl⟩) | fail)
  refine (st_ver hst hf.vc hf.vs (by decide)).mono ?_
  clear hst hr
  rintro e w' ⟨v', rfl, hst⟩; have hr := hst.rule; simp only [World.size_alloc] at hr
  go_wp2_with (first | (go_at_call 33; refine (has_any _ _ _).mono ?_; rintro e w' ⟨rfl, rfl⟩) | fail)
  go_ret
  exact ⟨_, _, rfl, hst⟩

set_option maxRecDepth 100000 in
set_option maxHeartbeats 4000000 in
theorem appendMessage_9 (m : Msg) (w : World) (hd : DepsAt w m.ao m.past) (hG : GTab w) (hf : Fit m) :
    Calls Tryd.prog 17 #[.slice none 0 0, .agg #[.int .i64 9, .int .i64 m.src, .int .i64 m.dst, .int .i64 m.clock, .int .i64 m.op, .int .i64 m.index, .int .i64 m.key, .int .i64 m.vc, .int .i64 m.vs, .int .i64 m.value, .int .i64 m.fk, .int .i64 m.fc, .int .i64 m.fs, .slice m.ao m.past.length m.c, .bool m.settled]] w fun e w' => ∃ v' L, e = .returned v' ∧ St (w.alloc (.cells #[.int .i64 9, .int .i64 m.src, .int .i64 m.dst, .int .i64 m.clock, .int .i64 m.op, .int .i64 m.index, .int .i64 m.key, .int .i64 m.vc, .int .i64 m.vs, .int .i64 m.value, .int .i64 m.fk, .int .i64 m.fc, .int .i64 m.fs, .slice m.ao m.past.length m.c, .bool m.settled] 28)) w' v' ([(9 : Int)] ++ numsB [m.src, m.dst, m.clock] ++ numsB [m.key] ++ numsB [m.vc, m.vs] ++ numsB [m.fk, m.fc, m.fs]) L := by
  obtain ⟨i0, hi, hz0, hz1, hz2⟩ := info_parts info5
  have hB0 := ((Below.refl w.heap.size w).alloc (Nat.le_refl _) (.cells #[.int .i64 9, .int .i64 m.src, .int .i64 m.dst, .int .i64 m.clock, .int .i64 m.op, .int .i64 m.index, .int .i64 m.key, .int .i64 m.vc, .int .i64 m.vs, .int .i64 m.value, .int .i64 m.fk, .int .i64 m.fc, .int .i64 m.fs, .slice m.ao m.past.length m.c, .bool m.settled] 28))
  have g1 : (w.alloc (.cells #[.int .i64 9, .int .i64 m.src, .int .i64 m.dst, .int .i64 m.clock, .int .i64 m.op, .int .i64 m.index, .int .i64 m.key, .int .i64 m.vc, .int .i64 m.vs, .int .i64 m.value, .int .i64 m.fk, .int .i64 m.fc, .int .i64 m.fs, .slice m.ao m.past.length m.c, .bool m.settled] 28)).cell? ⟨0, 9, none⟩ = some (.int .u8 28) := (hB0.cell (by exact hG.1)).trans (hG.2 9 (by decide))
  have b1 : (bits BinOp.and IntKind.u8 28 1 != 0) = false := by decide
  have b2 : (bits BinOp.and IntKind.u8 28 2 != 0) = false := by decide
  have b4 : (bits BinOp.and IntKind.u8 28 4 != 0) = true := by decide
  have b8 : (bits BinOp.and IntKind.u8 28 8 != 0) = true := by decide
  have b16 : (bits BinOp.and IntKind.u8 28 16 != 0) = true := by decide
  have b32 : (bits BinOp.and IntKind.u8 28 32 != 0) = false := by decide
  have b64 : (bits BinOp.and IntKind.u8 28 64 != 0) = false := by decide
  have b128 : (bits BinOp.and IntKind.u8 28 128 != 0) = false := by decide
  have hg0 : Grew (w.alloc (.cells #[.int .i64 9, .int .i64 m.src, .int .i64 m.dst, .int .i64 m.clock, .int .i64 m.op, .int .i64 m.index, .int .i64 m.key, .int .i64 m.vc, .int .i64 m.vs, .int .i64 m.value, .int .i64 m.fk, .int .i64 m.fc, .int .i64 m.fs, .slice m.ao m.past.length m.c, .bool m.settled] 28)) (w.alloc (.cells #[.int .i64 9, .int .i64 m.src, .int .i64 m.dst, .int .i64 m.clock, .int .i64 m.op, .int .i64 m.index, .int .i64 m.key, .int .i64 m.vc, .int .i64 m.vs, .int .i64 m.value, .int .i64 m.fk, .int .i64 m.fc, .int .i64 m.fs, .slice m.ao m.past.length m.c, .bool m.settled] 28)) (w.heap.size + 1) (.slice none 0 0) (.slice none 0 0) 0 [] [] := Grew.refl (World.ownsRow_nil _ _ _ _)
  have hd0 : DepsAt (w.alloc (.cells #[.int .i64 9, .int .i64 m.src, .int .i64 m.dst, .int .i64 m.clock, .int .i64 m.op, .int .i64 m.index, .int .i64 m.key, .int .i64 m.vc, .int .i64 m.vs, .int .i64 m.value, .int .i64 m.fk, .int .i64 m.fc, .int .i64 m.fs, .slice m.ao m.past.length m.c, .bool m.settled] 28)) m.ao m.past := hd.below hB0 (Nat.le_refl _)
  go_enter Tryd.func17, Tryd.ntmps17
  go_wp2_with (at_builtin; go_must (refine wpList_append_lies _ rfl _ _ 41 rfl (w.heap.size + 1) 5 i0 (.int .u8 0) 1 1 Tryd.underlying41 hi hz0 hz1 hz2 rfl (by decide) _ _ _ rfl (World.ownsRow_nil _ _ _ _) ⟨w.heap.size + 1, 0, none⟩ 1 1 [.int .u8 9] rfl rfl ?c1 ?c2 (by decide) ?c4 ?c5 ?c6 (w.heap.size + 2) (by simp) ?_))
  case c1 => intro j u hj; match j, hj with | 0, hj => (simp at hj; subst hj; simp [Addr.add])
  case c2 => intro u hu; simp at hu; subst hu; rfl
  case c4 => unfold maxLen; omega
  case c5 => omega
  case c6 => simp
  intro g cap w1 hown1 hgrow hat hlt1
  have hst : St (w.alloc (.cells #[.int .i64 9, .int .i64 m.src, .int .i64 m.dst, .int .i64 m.clock, .int .i64 m.op, .int .i64 m.index, .int .i64 m.key, .int .i64 m.vc, .int .i64 m.vs, .int .i64 m.value, .int .i64 m.fk, .int .i64 m.fc, .int .i64 m.fs, .slice m.ao m.past.length m.c, .bool m.settled] 28)) w1 (.slice (some ⟨g, 0, none⟩) (0 + 1) cap) [(9 : Int)] 1 := ⟨by have := hg0.step (x := 9) rfl hown1 hgrow (by simpa using hat); simpa using this, by simp⟩
  have hr := hst.rule
  simp only [World.size_alloc] at hr
  clear hown1 hgrow hat hlt1 hg0
  go_wp2_with (first | (go_at_call 33; refine (has_any _ _ _).mono ?_; rintro e w' ⟨rfl, rfl⟩) | fail)
  refine (st_num3 hst hf.src hf.dst hf.clock (by decide)).mono ?_
  clear hst hr
  rintro e w' ⟨v', rfl, hst⟩; have hr := hst.rule; simp only [World.size_alloc] at hr
  go_wp2_with (first | (go_at_call 33; refine (has_any _ _ _).mono ?_; rintro e w' ⟨rfl, rfl⟩) | fail)
  refine (st_num1 hst hf.key (by decide)).mono ?_
  clear hst hr
  rintro e w' ⟨v', rfl, hst⟩; have hr := hst.rule; simp only [World.size_alloc] at hr
  go_wp2_with (first | (go_at_call 33; refine (has_any _ _ _).mono ?_; rintro e w' ⟨rfl, rfl⟩) | fail)
  refine (st_ver hst hf.vc hf.vs (by decide)).mono ?_
  clear hst hr
  rintro e w' ⟨v', rfl, hst⟩; have hr := hst.rule; simp only [World.size_alloc] at hr
  go_wp2_with (first | (go_at_call 33; refine (has_any _ _ _).mono ?_; rintro e w' ⟨rfl, rfl⟩) | fail)
  refine (st_dep hst hf.fk hf.fc hf.fs (by decide)).mono ?_
  clear hst hr
  rintro e w' ⟨v', rfl, hst⟩; have hr := hst.rule; simp only [World.size_alloc] at hr
  go_wp2_with (first | (go_at_call 33; refine (has_any _ _ _).mono ?_; rintro e w' ⟨rfl, rfl⟩) | fail)
  go_ret
  exact ⟨_, _, rfl, hst⟩

set_option maxRecDepth 100000 in
set_option maxHeartbeats 4000000 in
theorem appendMessage_10 (m : Msg) (w : World) (hd : DepsAt w m.ao m.past) (hG : GTab w) (hf : Fit m) :
    Calls Tryd.prog 17 #[.slice none 0 0, .agg #[.int .i64 10, .int .i64 m.src, .int .i64 m.dst, .int .i64 m.clock, .int .i64 m.op, .int .i64 m.index, .int .i64 m.key, .int .i64 m.vc, .int .i64 m.vs, .int .i64 m.value, .int .i64 m.fk, .int .i64 m.fc, .int .i64 m.fs, .slice m.ao m.past.length m.c, .bool m.settled]] w fun e w' => ∃ v' L, e = .returned v' ∧ St (w.alloc (.cells #[.int .i64 10, .int .i64 m.src, .int .i64 m.dst, .int .i64 m.clock, .int .i64 m.op, .int .i64 m.index, .int .i64 m.key, .int .i64 m.vc, .int .i64 m.vs, .int .i64 m.value, .int .i64 m.fk, .int .i64 m.fc, .int .i64 m.fs, .slice m.ao m.past.length m.c, .bool m.settled] 28)) w' v' ([(10 : Int)] ++ numsB [m.src, m.dst, m.clock] ++ numsB [m.key] ++ numsB [m.vc, m.vs] ++ numsB [m.fk, m.fc, m.fs]) L := by
  obtain ⟨i0, hi, hz0, hz1, hz2⟩ := info_parts info5
  have hB0 := ((Below.refl w.heap.size w).alloc (Nat.le_refl _) (.cells #[.int .i64 10, .int .i64 m.src, .int .i64 m.dst, .int .i64 m.clock, .int .i64 m.op, .int .i64 m.index, .int .i64 m.key, .int .i64 m.vc, .int .i64 m.vs, .int .i64 m.value, .int .i64 m.fk, .int .i64 m.fc, .int .i64 m.fs, .slice m.ao m.past.length m.c, .bool m.settled] 28))
  have g1 : (w.alloc (.cells #[.int .i64 10, .int .i64 m.src, .int .i64 m.dst, .int .i64 m.clock, .int .i64 m.op, .int .i64 m.index, .int .i64 m.key, .int .i64 m.vc, .int .i64 m.vs, .int .i64 m.value, .int .i64 m.fk, .int .i64 m.fc, .int .i64 m.fs, .slice m.ao m.past.length m.c, .bool m.settled] 28)).cell? ⟨0, 10, none⟩ = some (.int .u8 28) := (hB0.cell (by exact hG.1)).trans (hG.2 10 (by decide))
  have b1 : (bits BinOp.and IntKind.u8 28 1 != 0) = false := by decide
  have b2 : (bits BinOp.and IntKind.u8 28 2 != 0) = false := by decide
  have b4 : (bits BinOp.and IntKind.u8 28 4 != 0) = true := by decide
  have b8 : (bits BinOp.and IntKind.u8 28 8 != 0) = true := by decide
  have b16 : (bits BinOp.and IntKind.u8 28 16 != 0) = true := by decide
  have b32 : (bits BinOp.and IntKind.u8 28 32 != 0) = false := by decide
  have b64 : (bits BinOp.and IntKind.u8 28 64 != 0) = false := by decide
  have b128 : (bits BinOp.and IntKind.u8 28 128 != 0) = false := by decide
  have hg0 : Grew (w.alloc (.cells #[.int .i64 10, .int .i64 m.src, .int .i64 m.dst, .int .i64 m.clock, .int .i64 m.op, .int .i64 m.index, .int .i64 m.key, .int .i64 m.vc, .int .i64 m.vs, .int .i64 m.value, .int .i64 m.fk, .int .i64 m.fc, .int .i64 m.fs, .slice m.ao m.past.length m.c, .bool m.settled] 28)) (w.alloc (.cells #[.int .i64 10, .int .i64 m.src, .int .i64 m.dst, .int .i64 m.clock, .int .i64 m.op, .int .i64 m.index, .int .i64 m.key, .int .i64 m.vc, .int .i64 m.vs, .int .i64 m.value, .int .i64 m.fk, .int .i64 m.fc, .int .i64 m.fs, .slice m.ao m.past.length m.c, .bool m.settled] 28)) (w.heap.size + 1) (.slice none 0 0) (.slice none 0 0) 0 [] [] := Grew.refl (World.ownsRow_nil _ _ _ _)
  have hd0 : DepsAt (w.alloc (.cells #[.int .i64 10, .int .i64 m.src, .int .i64 m.dst, .int .i64 m.clock, .int .i64 m.op, .int .i64 m.index, .int .i64 m.key, .int .i64 m.vc, .int .i64 m.vs, .int .i64 m.value, .int .i64 m.fk, .int .i64 m.fc, .int .i64 m.fs, .slice m.ao m.past.length m.c, .bool m.settled] 28)) m.ao m.past := hd.below hB0 (Nat.le_refl _)
  go_enter Tryd.func17, Tryd.ntmps17
  go_wp2_with (at_builtin; go_must (refine wpList_append_lies _ rfl _ _ 41 rfl (w.heap.size + 1) 5 i0 (.int .u8 0) 1 1 Tryd.underlying41 hi hz0 hz1 hz2 rfl (by decide) _ _ _ rfl (World.ownsRow_nil _ _ _ _) ⟨w.heap.size + 1, 0, none⟩ 1 1 [.int .u8 10] rfl rfl ?c1 ?c2 (by decide) ?c4 ?c5 ?c6 (w.heap.size + 2) (by simp) ?_))
  case c1 => intro j u hj; match j, hj with | 0, hj => (simp at hj; subst hj; simp [Addr.add])
  case c2 => intro u hu; simp at hu; subst hu; rfl
  case c4 => unfold maxLen; omega
  case c5 => omega
  case c6 => simp
  intro g cap w1 hown1 hgrow hat hlt1
  have hst : St (w.alloc (.cells #[.int .i64 10, .int .i64 m.src, .int .i64 m.dst, .int .i64 m.clock, .int .i64 m.op, .int .i64 m.index, .int .i64 m.key, .int .i64 m.vc, .int .i64 m.vs, .int .i64 m.value, .int .i64 m.fk, .int .i64 m.fc, .int .i64 m.fs, .slice m.ao m.past.length m.c, .bool m.settled] 28)) w1 (.slice (some ⟨g, 0, none⟩) (0 + 1) cap) [(10 : Int)] 1 := ⟨by have := hg0.step (x := 10) rfl hown1 hgrow (by simpa using hat); simpa using this, by simp⟩
  have hr := hst.rule
  simp only [World.size_alloc] at hr
  clear hown1 hgrow hat hlt1 hg0
  go_wp2_with (first | (go_at_call 33; refine (has_any _ _ _).mono ?_; rintro e w' ⟨rfl, rfl⟩) | fail)
  refine (st_num3 hst hf.src hf.dst hf.clock (by decide)).mono ?_
  clear hst hr
  rintro e w' ⟨v', rfl, hst⟩; have hr := hst.rule; simp only [World.size_alloc] at hr
  go_wp2_with (first | (go_at_call 33; refine (has_any _ _ _).mono ?_; rintro e w' ⟨rfl, rfl⟩) | fail)
  refine (st_num1 hst hf.key (by decide)).mono ?_
  clear hst hr
  rintro e w' ⟨v', rfl, hst⟩; have hr := hst.rule; simp only [World.size_alloc] at hr
  go_wp2_with (first | (go_at_call 33; refine (has_any _ _ _).mono ?_; rintro e w' ⟨rfl, rfl⟩) | fail)
  refine (st_ver hst hf.vc hf.vs (by decide)).mono ?_
  clear hst hr
  rintro e w' ⟨v', rfl, hst⟩; have hr := hst.rule; simp only [World.size_alloc] at hr
  go_wp2_with (first | (go_at_call 33; refine (has_any _ _ _).mono ?_; rintro e w' ⟨rfl, rfl⟩) | fail)
  refine (st_dep hst hf.fk hf.fc hf.fs (by decide)).mono ?_
  clear hst hr
  rintro e w' ⟨v', rfl, hst⟩; have hr := hst.rule; simp only [World.size_alloc] at hr
  go_wp2_with (first | (go_at_call 33; refine (has_any _ _ _).mono ?_; rintro e w' ⟨rfl, rfl⟩) | fail)
  go_ret
  exact ⟨_, _, rfl, hst⟩

set_option maxRecDepth 100000 in
set_option maxHeartbeats 4000000 in
theorem appendMessage_11 (m : Msg) (w : World) (hd : DepsAt w m.ao m.past) (hG : GTab w) (hf : Fit m) :
    Calls Tryd.prog 17 #[.slice none 0 0, .agg #[.int .i64 11, .int .i64 m.src, .int .i64 m.dst, .int .i64 m.clock, .int .i64 m.op, .int .i64 m.index, .int .i64 m.key, .int .i64 m.vc, .int .i64 m.vs, .int .i64 m.value, .int .i64 m.fk, .int .i64 m.fc, .int .i64 m.fs, .slice m.ao m.past.length m.c, .bool m.settled]] w fun e w' => ∃ v' L, e = .returned v' ∧ St (w.alloc (.cells #[.int .i64 11, .int .i64 m.src, .int .i64 m.dst, .int .i64 m.clock, .int .i64 m.op, .int .i64 m.index, .int .i64 m.key, .int .i64 m.vc, .int .i64 m.vs, .int .i64 m.value, .int .i64 m.fk, .int .i64 m.fc, .int .i64 m.fs, .slice m.ao m.past.length m.c, .bool m.settled] 28)) w' v' ([(11 : Int)] ++ numsB [m.src, m.dst, m.clock] ++ numsB [m.key] ++ numsB [m.vc, m.vs]) L := by
  obtain ⟨i0, hi, hz0, hz1, hz2⟩ := info_parts info5
  have hB0 := ((Below.refl w.heap.size w).alloc (Nat.le_refl _) (.cells #[.int .i64 11, .int .i64 m.src, .int .i64 m.dst, .int .i64 m.clock, .int .i64 m.op, .int .i64 m.index, .int .i64 m.key, .int .i64 m.vc, .int .i64 m.vs, .int .i64 m.value, .int .i64 m.fk, .int .i64 m.fc, .int .i64 m.fs, .slice m.ao m.past.length m.c, .bool m.settled] 28))
  have g1 : (w.alloc (.cells #[.int .i64 11, .int .i64 m.src, .int .i64 m.dst, .int .i64 m.clock, .int .i64 m.op, .int .i64 m.index, .int .i64 m.key, .int .i64 m.vc, .int .i64 m.vs, .int .i64 m.value, .int .i64 m.fk, .int .i64 m.fc, .int .i64 m.fs, .slice m.ao m.past.length m.c, .bool m.settled] 28)).cell? ⟨0, 11, none⟩ = some (.int .u8 12) := (hB0.cell (by exact hG.1)).trans (hG.2 11 (by decide))
  have b1 : (bits BinOp.and IntKind.u8 12 1 != 0) = false := by decide
  have b2 : (bits BinOp.and IntKind.u8 12 2 != 0) = false := by decide
  have b4 : (bits BinOp.and IntKind.u8 12 4 != 0) = true := by decide
  have b8 : (bits BinOp.and IntKind.u8 12 8 != 0) = true := by decide
  have b16 : (bits BinOp.and IntKind.u8 12 16 != 0) = false := by decide
  have b32 : (bits BinOp.and IntKind.u8 12 32 != 0) = false := by decide
  have b64 : (bits BinOp.and IntKind.u8 12 64 != 0) = false := by decide
  have b128 : (bits BinOp.and IntKind.u8 12 128 != 0) = false := by decide
  have hg0 : Grew (w.alloc (.cells #[.int .i64 11, .int .i64 m.src, .int .i64 m.dst, .int .i64 m.clock, .int .i64 m.op, .int .i64 m.index, .int .i64 m.key, .int .i64 m.vc, .int .i64 m.vs, .int .i64 m.value, .int .i64 m.fk, .int .i64 m.fc, .int .i64 m.fs, .slice m.ao m.past.length m.c, .bool m.settled] 28)) (w.alloc (.cells #[.int .i64 11, .int .i64 m.src, .int .i64 m.dst, .int .i64 m.clock, .int .i64 m.op, .int .i64 m.index, .int .i64 m.key, .int .i64 m.vc, .int .i64 m.vs, .int .i64 m.value, .int .i64 m.fk, .int .i64 m.fc, .int .i64 m.fs, .slice m.ao m.past.length m.c, .bool m.settled] 28)) (w.heap.size + 1) (.slice none 0 0) (.slice none 0 0) 0 [] [] := Grew.refl (World.ownsRow_nil _ _ _ _)
  have hd0 : DepsAt (w.alloc (.cells #[.int .i64 11, .int .i64 m.src, .int .i64 m.dst, .int .i64 m.clock, .int .i64 m.op, .int .i64 m.index, .int .i64 m.key, .int .i64 m.vc, .int .i64 m.vs, .int .i64 m.value, .int .i64 m.fk, .int .i64 m.fc, .int .i64 m.fs, .slice m.ao m.past.length m.c, .bool m.settled] 28)) m.ao m.past := hd.below hB0 (Nat.le_refl _)
  go_enter Tryd.func17, Tryd.ntmps17
  go_wp2_with (at_builtin; go_must (refine wpList_append_lies _ rfl _ _ 41 rfl (w.heap.size + 1) 5 i0 (.int .u8 0) 1 1 Tryd.underlying41 hi hz0 hz1 hz2 rfl (by decide) _ _ _ rfl (World.ownsRow_nil _ _ _ _) ⟨w.heap.size + 1, 0, none⟩ 1 1 [.int .u8 11] rfl rfl ?c1 ?c2 (by decide) ?c4 ?c5 ?c6 (w.heap.size + 2) (by simp) ?_))
  case c1 => intro j u hj; match j, hj with | 0, hj => (simp at hj; subst hj; simp [Addr.add])
  case c2 => intro u hu; simp at hu; subst hu; rfl
  case c4 => unfold maxLen; omega
  case c5 => omega
  case c6 => simp
  intro g cap w1 hown1 hgrow hat hlt1
  have hst : St (w.alloc (.cells #[.int .i64 11, .int .i64 m.src, .int .i64 m.dst, .int .i64 m.clock, .int .i64 m.op, .int .i64 m.index, .int .i64 m.key, .int .i64 m.vc, .int .i64 m.vs, .int .i64 m.value, .int .i64 m.fk, .int .i64 m.fc, .int .i64 m.fs, .slice m.ao m.past.length m.c, .bool m.settled] 28)) w1 (.slice (some ⟨g, 0, none⟩) (0 + 1) cap) [(11 : Int)] 1 := ⟨by have := hg0.step (x := 11) rfl hown1 hgrow (by simpa using hat); simpa using this, by simp⟩
  have hr := hst.rule
  simp only [World.size_alloc] at hr
  clear hown1 hgrow hat hlt1 hg0
  go_wp2_with (first | (go_at_call 33; refine (has_any _ _ _).mono ?_; rintro e w' ⟨rfl, rfl⟩) | fail)
  refine (st_num3 hst hf.src hf.dst hf.clock (by decide)).mono ?_
  clear hst hr
  rintro e w' ⟨v', rfl, hst⟩; have hr := hst.rule; simp only [World.size_alloc] at hr
  go_wp2_with (first | (go_at_call 33; refine (has_any _ _ _).mono ?_; rintro e w' ⟨rfl, rfl⟩) | fail)
  refine (st_num1 hst hf.key (by decide)).mono ?_
  clear hst hr
  rintro e w' ⟨v', rfl, hst⟩; have hr := hst.rule; simp only [World.size_alloc] at hr
  go_wp2_with (first | (go_at_call 33; refine (has_any _ _ _).mono ?_; rintro e w' ⟨rfl, rfl⟩) | fail)
  refine (st_ver hst hf.vc hf.vs (by decide)).mono ?_
  clear hst hr
  rintro e w' ⟨v', rfl, hst⟩; have hr := hst.rule; simp only [World.size_alloc] at hr
  go_wp2_with (first | (go_at_call 33; refine (has_any _ _ _).mono ?_; rintro e w' ⟨rfl, rfl⟩) | fail)
  go_ret
  exact ⟨_, _, rfl, hst⟩

set_option maxRecDepth 100000 in
set_option maxHeartbeats 4000000 in
theorem appendMessage_12 (m : Msg) (w : World) (hd : DepsAt w m.ao m.past) (hG : GTab w) (hf : Fit m) :
    Calls Tryd.prog 17 #[.slice none 0 0, .agg #[.int .i64 12, .int .i64 m.src, .int .i64 m.dst, .int .i64 m.clock, .int .i64 m.op, .int .i64 m.index, .int .i64 m.key, .int .i64 m.vc, .int .i64 m.vs, .int .i64 m.value, .int .i64 m.fk, .int .i64 m.fc, .int .i64 m.fs, .slice m.ao m.past.length m.c, .bool m.settled]] w fun e w' => ∃ v' L, e = .returned v' ∧ St (w.alloc (.cells #[.int .i64 12, .int .i64 m.src, .int .i64 m.dst, .int .i64 m.clock, .int .i64 m.op, .int .i64 m.index, .int .i64 m.key, .int .i64 m.vc, .int .i64 m.vs, .int .i64 m.value, .int .i64 m.fk, .int .i64 m.fc, .int .i64 m.fs, .slice m.ao m.past.length m.c, .bool m.settled] 28)) w' v' ([(12 : Int)] ++ numsB [m.src, m.dst, m.clock] ++ numsB [m.key] ++ numsB [m.vc, m.vs]) L := by
  obtain ⟨i0, hi, hz0, hz1, hz2⟩ := info_parts info5
  have hB0 := ((Below.refl w.heap.size w).alloc (Nat.le_refl _) (.cells #[.int .i64 12, .int .i64 m.src, .int .i64 m.dst, .int .i64 m.clock, .int .i64 m.op, .int .i64 m.index, .int .i64 m.key, .int .i64 m.vc, .int .i64 m.vs, .int .i64 m.value, .int .i64 m.fk, .int .i64 m.fc, .int .i64 m.fs, .slice m.ao m.past.length m.c, .bool m.settled] 28))
  have g1 : (w.alloc (.cells #[.int .i64 12, .int .i64 m.src, .int .i64 m.dst, .int .i64 m.clock, .int .i64 m.op, .int .i64 m.index, .int .i64 m.key, .int .i64 m.vc, .int .i64 m.vs, .int .i64 m.value, .int .i64 m.fk, .int .i64 m.fc, .int .i64 m.fs, .slice m.ao m.past.length m.c, .bool m.settled] 28)).cell? ⟨0, 12, none⟩ = some (.int .u8 12) := (hB0.cell (by exact hG.1)).trans (hG.2 12 (by decide))
  have b1 : (bits BinOp.and IntKind.u8 12 1 != 0) = false := by decide
  have b2 : (bits BinOp.and IntKind.u8 12 2 != 0) = false := by decide
  have b4 : (bits BinOp.and IntKind.u8 12 4 != 0) = true := by decide
  have b8 : (bits BinOp.and IntKind.u8 12 8 != 0) = true := by decide
  have b16 : (bits BinOp.and IntKind.u8 12 16 != 0) = false := by decide
  have b32 : (bits BinOp.and IntKind.u8 12 32 != 0) = false := by decide
  have b64 : (bits BinOp.and IntKind.u8 12 64 != 0) = false := by decide
  have b128 : (bits BinOp.and IntKind.u8 12 128 != 0) = false := by decide
  have hg0 : Grew (w.alloc (.cells #[.int .i64 12, .int .i64 m.src, .int .i64 m.dst, .int .i64 m.clock, .int .i64 m.op, .int .i64 m.index, .int .i64 m.key, .int .i64 m.vc, .int .i64 m.vs, .int .i64 m.value, .int .i64 m.fk, .int .i64 m.fc, .int .i64 m.fs, .slice m.ao m.past.length m.c, .bool m.settled] 28)) (w.alloc (.cells #[.int .i64 12, .int .i64 m.src, .int .i64 m.dst, .int .i64 m.clock, .int .i64 m.op, .int .i64 m.index, .int .i64 m.key, .int .i64 m.vc, .int .i64 m.vs, .int .i64 m.value, .int .i64 m.fk, .int .i64 m.fc, .int .i64 m.fs, .slice m.ao m.past.length m.c, .bool m.settled] 28)) (w.heap.size + 1) (.slice none 0 0) (.slice none 0 0) 0 [] [] := Grew.refl (World.ownsRow_nil _ _ _ _)
  have hd0 : DepsAt (w.alloc (.cells #[.int .i64 12, .int .i64 m.src, .int .i64 m.dst, .int .i64 m.clock, .int .i64 m.op, .int .i64 m.index, .int .i64 m.key, .int .i64 m.vc, .int .i64 m.vs, .int .i64 m.value, .int .i64 m.fk, .int .i64 m.fc, .int .i64 m.fs, .slice m.ao m.past.length m.c, .bool m.settled] 28)) m.ao m.past := hd.below hB0 (Nat.le_refl _)
  go_enter Tryd.func17, Tryd.ntmps17
  go_wp2_with (at_builtin; go_must (refine wpList_append_lies _ rfl _ _ 41 rfl (w.heap.size + 1) 5 i0 (.int .u8 0) 1 1 Tryd.underlying41 hi hz0 hz1 hz2 rfl (by decide) _ _ _ rfl (World.ownsRow_nil _ _ _ _) ⟨w.heap.size + 1, 0, none⟩ 1 1 [.int .u8 12] rfl rfl ?c1 ?c2 (by decide) ?c4 ?c5 ?c6 (w.heap.size + 2) (by simp) ?_))
  case c1 => intro j u hj; match j, hj with | 0, hj => (simp at hj; subst hj; simp [Addr.add])
  case c2 => intro u hu; simp at hu; subst hu; rfl
  case c4 => unfold maxLen; omega
  case c5 => omega
  case c6 => simp
  intro g cap w1 hown1 hgrow hat hlt1
  have hst : St (w.alloc (.cells #[.int .i64 12, .int .i64 m.src, .int .i64 m.dst, .int .i64 m.clock, .int .i64 m.op, .int .i64 m.index, .int .i64 m.key, .int .i64 m.vc, .int .i64 m.vs, .int .i64 m.value, .int .i64 m.fk, .int .i64 m.fc, .int .i64 m.fs, .slice m.ao m.past.length m.c, .bool m.settled] 28)) w1 (.slice (some ⟨g, 0, none⟩) (0 + 1) cap) [(12 : Int)] 1 := ⟨by have := hg0.step (x := 12) rfl hown1 hgrow (by simpa using hat); simpa using this, by simp⟩
  have hr := hst.rule
  simp only [World.size_alloc] at hr
  clear hown1 hgrow hat hlt1 hg0
  go_wp2_with (first | (go_at_call 33; refine (has_any _ _ _).mono ?_; rintro e w' ⟨rfl, rfl⟩) | fail)
  refine (st_num3 hst hf.src hf.dst hf.clock (by decide)).mono ?_
  clear hst hr
  rintro e w' ⟨v', rfl, hst⟩; have hr := hst.rule; simp only [World.size_alloc] at hr
  go_wp2_with (first | (go_at_call 33; refine (has_any _ _ _).mono ?_; rintro e w' ⟨rfl, rfl⟩) | fail)
  refine (st_num1 hst hf.key (by decide)).mono ?_
  clear hst hr
  rintro e w' ⟨v', rfl, hst⟩; have hr := hst.rule; simp only [World.size_alloc] at hr
  go_wp2_with (first | (go_at_call 33; refine (has_any _ _ _).mono ?_; rintro e w' ⟨rfl, rfl⟩) | fail)
  refine (st_ver hst hf.vc hf.vs (by decide)).mono ?_
  clear hst hr
  rintro e w' ⟨v', rfl, hst⟩; have hr := hst.rule; simp only [World.size_alloc] at hr
  go_wp2_with (first | (go_at_call 33; refine (has_any _ _ _).mono ?_; rintro e w' ⟨rfl, rfl⟩) | fail)
  go_ret
  exact ⟨_, _, rfl, hst⟩

end Go.Proofs.YtdpnmpfkbeommaaDoor
