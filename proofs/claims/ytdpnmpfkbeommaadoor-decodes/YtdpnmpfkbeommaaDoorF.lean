/-
  appendNumbers, appendVersion, appendDep, appendValue, appendPast, appendFlag.
-/
import Derived.Test.YtdpnmpfkbeommaaDoorE
namespace Go.Proofs.YtdpnmpfkbeommaaDoor
open Go.RowKit

theorem Grew.trans {a b c : World} {base k K : Nat} {v v1 v2 : Value} {xs ys zs : List Int} (h : Grew a b base v v1 k xs ys) (hK : K = k + ys.length) (h' : Grew b c base v1 v2 K (xs ++ ys) zs) : Grew a c base v v2 k xs (ys ++ zs) := by
  subst hK
  obtain ⟨h1, h2, h3⟩ := h
  obtain ⟨k1, k2, k3⟩ := h'
  have s1 := h2.size
  refine ⟨?_, ?_, ?_⟩
  · rw [← List.append_assoc, List.length_append, ← Nat.add_assoc]; exact k1
  · refine ⟨k2.os.trans h2.os, k2.tape.trans h2.tape, k2.output.trans h2.output, Nat.le_trans h2.size k2.size, fun j hj hne => ?_⟩
    rw [k2.block j (by omega) ?_, h2.block j hj hne]
    intro e
    rcases h3 with h3 | ⟨g', h3, hge⟩
    · exact hne (e.trans h3)
    · rw [h3] at e; cases e; omega
  · rcases k3 with k3 | ⟨g', k3, hge⟩
    · rw [k3]; exact h3
    · right; exact ⟨g', k3, by omega⟩

/-- Blocks laid ahead of the call. -/
theorem Grew.before {a b c : World} {base k : Nat} {v v2 : Value} {xs zs : List Int} (h : Below a.heap.size a b) (h' : Grew b c base v v2 k xs zs) : Grew a c base v v2 k xs zs := by
  obtain ⟨k1, k2, k3⟩ := h'
  have s1 := h.size
  refine ⟨k1, ⟨k2.os.trans h.os, k2.tape.trans h.tape, k2.output.trans h.output, Nat.le_trans h.size k2.size, fun j hj hne => ?_⟩, ?_⟩
  · rw [k2.block j (by omega) hne, h.block j hj]
  · rcases k3 with k3 | ⟨g', k3, hge⟩
    · exact .inl k3
    · exact .inr ⟨g', k3, by omega⟩

theorem ownsRow_below {a b : World} {base e size n : Nat} {v : Value} {xs : List Value} (h : a.ownsRow base e size v n xs) (hb : Below a.heap.size a b) : b.ownsRow base e size v n xs := by
  obtain ⟨h1, h2⟩ := h
  refine ⟨h1, ?_⟩
  rcases h2 with h2 | ⟨g, cap, cur, hv, hg, hh, r⟩
  · exact .inl h2
  · refine .inr ⟨g, cap, cur, hv, hg, ?_, r⟩
    rw [hb.block g (by exact (Array.getElem?_eq_some_iff.1 hh).1)]; exact hh

/-- A cell of a block that is not the list's own reads as it did. -/
theorem Grew.cell {w w' : World} {base k : Nat} {v v' : Value} {xs zs : List Int} (h : Grew w w' base v v' k xs zs) {b o : Nat} (hb : b < w.heap.size) (hne : v.ownBlock ≠ some b) : w'.cell? ⟨b, o, none⟩ = w.cell? ⟨b, o, none⟩ :=
  World.cell?_of_block (h.2.1.block b hb (fun e => hne e.symm))

/-- The bytes of numbers, one behind the other. -/
def numsB : List Int → List Int
  | [] => []
  | x :: r => vint 9 x.toNat ++ numsB r
theorem numsB_snoc (l : List Int) (x : Int) : numsB (l ++ [x]) = numsB l ++ vint 9 x.toNat := by
  induction l with
  | nil => simp [numsB]
  | cons y r ih => simp [numsB, ih]
theorem vint_len (f m : Nat) : (vint f m).length ≤ f + 1 := by
  induction f generalizing m with
  | zero => simp [vint]
  | succ f ih => simp only [vint]; split <;> simp <;> exact ih _
theorem numsB_len (l : List Int) : (numsB l).length ≤ 10 * l.length := by
  induction l with
  | nil => simp [numsB]
  | cons y r ih => have := vint_len 9 y.toNat; simp [numsB]; omega

theorem conv64 (x : Int) (h : 0 ≤ x) (h2 : x < 9223372036854775808) : IntKind.u64.wrap x = (x.toNat : Int) := by
  simp [IntKind.wrap, IntKind.bits, IntKind.signed]; omega

set_option maxRecDepth 100000 in
set_option maxHeartbeats 1000000 in
theorem numbers_any (v : Value) (k : Nat) (xs : List Int) (zs : List Int) (b : Nat) (base : Nat) (w : World) (hown : w.ownsRow base 5 1 v k (bytesV xs)) (hk : k ≤ 600) (hz : zs.length ≤ 4)
    (hzs : Hid (∀ i, i < zs.length → 0 ≤ zs.getD i 0 ∧ zs.getD i 0 < 9223372036854775808)) (hb : base ≤ w.heap.size) (hbl : b < w.heap.size) (hne : v.ownBlock ≠ some b) (hc : ∀ i, i < zs.length → w.cell? ⟨b, i, none⟩ = some (.int .i64 (zs.getD i 0))) :
    Calls Tryd.prog 32 #[v, .slice (some ⟨b, 0, none⟩) zs.length zs.length] w fun e w' => ∃ v', e = .returned v' ∧ Grew w w' base v v' k xs (numsB zs) := by
  go_enter Tryd.func32, Tryd.ntmps32
  go_wp2_with fail
  go_loopw [0, 9] (fun t0 i wr => ∃ j : Nat, j ≤ zs.length ∧ i = .int .i64 j ∧ Grew w wr base v t0 k xs (numsB (zs.take j))) (fun _ i _ => zs.length - (intOf i).toNat)
  case atStart => exact ⟨0, Nat.zero_le _, rfl, Grew.refl hown⟩
  case round =>
    obtain ⟨j, hj, rfl, hg⟩ := hrel
    by_cases hlt : j < zs.length
    · have hcj : wr.cell? ⟨b, j, none⟩ = some (.int .i64 (zs.getD j 0)) := (hg.cell hbl hne).trans (hc j hlt)
      have hx := hzs.out j hlt
      obtain ⟨x, hxe⟩ : ∃ x, x = zs.getD j 0 := ⟨_, rfl⟩
      rw [← hxe] at hcj hx
      obtain ⟨n, rfl⟩ := Int.eq_ofNat_of_zero_le hx.1
      have HX : Hid ((n : Int) = zs.getD j 0) := hxe
      have hn : Hid (n < 18446744073709551616) := by show _ < _; omega
      have hn2 : (n : Int) < 9223372036854775808 := hx.2
      clear hxe hc hx
      have hlen := numsB_len (zs.take j)
      have htk : (zs.take j).length ≤ 4 := by simp; omega
      have hsz := hg.2.1.size
      go_wp2_with fail
      refine (varint_any u0 _ _ n base wr hg.1 (by omega) hn (by omega)).mono ?_
      rintro e w1 ⟨v1, rfl, hg1⟩
      go_wp2
      go_roundw
      case rel =>
        refine ⟨j + 1, by omega, by go_num, ?_⟩
        have e1 : zs.take (j + 1) = zs.take j ++ [(n : Int)] := by
          rw [List.take_succ_eq_append_getElem hlt, HX.out]; simp [List.getD, hlt]
        rw [e1, numsB_snoc]
        exact hg.trans rfl hg1
      case measure => simp [intOf]; omega
    · go_wp2
      go_ret
      refine ⟨_, rfl, ?_⟩
      rw [List.take_of_length_le (by omega)] at hg
      exact hg

theorem hid2 {a b : Int} (ha : Hid (0 ≤ a ∧ a < 9223372036854775808)) (hb : Hid (0 ≤ b ∧ b < 9223372036854775808)) : Hid (∀ i, i < [a, b].length → 0 ≤ [a, b].getD i 0 ∧ [a, b].getD i 0 < 9223372036854775808) := by
  intro i hi
  match i, hi with
  | 0, _ => exact ha
  | 1, _ => exact hb
theorem hid1 {a : Int} (ha : Hid (0 ≤ a ∧ a < 9223372036854775808)) : Hid (∀ i, i < [a].length → 0 ≤ [a].getD i 0 ∧ [a].getD i 0 < 9223372036854775808) := by
  intro i hi
  match i, hi with
  | 0, _ => exact ha
theorem own_ne {w : World} {base e size n : Nat} {v : Value} {xs : List Value} (h : w.ownsRow base e size v n xs) {b : Nat} (hb : w.heap.size ≤ b) : v.ownBlock ≠ some b := by
  intro e; have := (h.lt b e).2; omega

set_option maxHeartbeats 1000000 in
theorem version_any (v : Value) (k : Nat) (xs : List Int) (a b : Int) (base : Nat) (w : World) (hown : w.ownsRow base 5 1 v k (bytesV xs)) (hk : k ≤ 500) (ha : Hid (0 ≤ a ∧ a < 9223372036854775808)) (hb : Hid (0 ≤ b ∧ b < 9223372036854775808)) (hbase : base ≤ w.heap.size) :
    Calls Tryd.prog 34 #[v, .agg #[.int .i64 a, .int .i64 b]] w fun e w' => ∃ v', e = .returned v' ∧ Grew w w' base v v' k xs (numsB [a, b]) := by
  go_enter Tryd.func34, Tryd.ntmps34
  go_wp2_with fail
  refine (numbers_any v k xs [a, b] (w.heap.size + 1) base _ ((hown.alloc _).alloc _) (by omega) (by simp) (hid2 ha hb) (by simp; omega) (by simp) (own_ne hown (by omega)) ?_).mono ?_
  · intro i hi
    match i, hi with
    | 0, _ => simp
    | 1, _ => simp
  rintro e w1 ⟨v1, rfl, hg⟩
  go_wp2
  go_ret
  exact ⟨_, rfl, hg.before (((Below.refl _ _).alloc (Nat.le_refl _) _).alloc (by simp) _)⟩

def zz (a : Int) : Nat := if a < 0 then (-a * 2 - 1).toNat else (a * 2).toNat
theorem not_neg (a : Int) (h0 : a < 0) (h1 : -9223372036854775808 ≤ a) : bits BinOp.xor IntKind.i64 (-1) a = -a - 1 := by
  show IntKind.i64.wrap ((BitVec.ofInt 64 (-1) ^^^ BitVec.ofInt 64 a).toNat : Int) = _
  have e1 : BitVec.ofInt 64 (-1) = BitVec.allOnes 64 := by decide
  rw [e1, BitVec.allOnes_xor, BitVec.toNat_not, BitVec.toNat_ofInt]
  simp [IntKind.wrap, IntKind.bits, IntKind.signed]
  omega
theorem wrapu (x : Int) (h0 : 0 ≤ x) (h1 : x < 18446744073709551616) : IntKind.u64.wrap x = x := by
  simp [IntKind.wrap, IntKind.bits, IntKind.signed]; omega
theorem or_one (x : Nat) : x * 2 ||| 1 = x * 2 + 1 := by
  have := Nat.shiftLeft_add_eq_or_of_lt (show 1 < 2 ^ 1 by decide) x
  rw [Nat.shiftLeft_eq] at this
  exact this.symm
theorem zz_neg (a : Int) (h0 : a < 0) (h1 : -9223372036854775808 ≤ a) : bits BinOp.or IntKind.u64 (IntKind.u64.wrap (IntKind.u64.wrap (bits BinOp.xor IntKind.i64 (-1) a) * 2)) 1 = ((zz a : Nat) : Int) := by
  rw [not_neg a h0 h1, wrapu (-a - 1) (by omega) (by omega), wrapu _ (by omega) (by omega)]
  obtain ⟨x, hx⟩ := Int.eq_ofNat_of_zero_le (show 0 ≤ -a - 1 by omega)
  rw [hx]
  have := bits_or_u64_nat (x * 2) 1 (by omega) (by omega)
  rw [or_one] at this
  rw [show ((x : Int) * 2) = ((x * 2 : Nat) : Int) by omega]
  rw [show (1 : Int) = ((1 : Nat) : Int) by omega, this]
  unfold zz
  rw [if_pos h0]
  omega
theorem zz_pos (a : Int) (h0 : ¬ a < 0) (h1 : a < 9223372036854775808) : IntKind.u64.wrap (IntKind.u64.wrap a * 2) = ((zz a : Nat) : Int) := by
  rw [wrapu a (by omega) (by omega), wrapu _ (by omega) (by omega)]
  unfold zz
  rw [if_neg h0]; omega
theorem zz_lt (a : Int) (h : -9223372036854775808 ≤ a ∧ a < 9223372036854775808) : zz a < 18446744073709551616 := by
  unfold zz; split <;> omega

set_option maxHeartbeats 1000000 in
theorem value_any (v : Value) (k : Nat) (xs : List Int) (a : Int) (base : Nat) (w : World) (hown : w.ownsRow base 5 1 v k (bytesV xs)) (hk : k ≤ 500) (ha : Hid (-9223372036854775808 ≤ a ∧ a < 9223372036854775808)) (hbase : base ≤ w.heap.size) :
    Calls Tryd.prog 36 #[v, .int .i64 a] w fun e w' => ∃ v', e = .returned v' ∧ Grew w w' base v v' k xs (vint 9 (zz a)) := by
  by_cases h0 : a < 0
  · go_enter Tryd.func36, Tryd.ntmps36
    go_wp2_with fail
    rw [zz_neg a h0 ha.out.1]
    refine (varint_any v k xs (zz a) base w hown (by omega) (zz_lt a ha.out) hbase).mono ?_
    rintro e w1 ⟨v1, rfl, hg⟩
    go_wp2
    go_ret
    exact ⟨_, rfl, hg⟩
  · go_enter Tryd.func36, Tryd.ntmps36
    go_wp2_with fail
    rw [zz_pos a (by omega) ha.out.2]
    refine (varint_any v k xs (zz a) base w hown (by omega) (zz_lt a ha.out) hbase).mono ?_
    rintro e w1 ⟨v1, rfl, hg⟩
    go_wp2
    go_ret
    exact ⟨_, rfl, hg⟩

set_option maxRecDepth 100000 in
set_option maxHeartbeats 1000000 in
theorem flag_any (v : Value) (k : Nat) (xs : List Int) (f : Bool) (base : Nat) (w : World) (hown : w.ownsRow base 5 1 v k (bytesV xs)) (hk : k ≤ 500) (hbase : base ≤ w.heap.size) :
    Calls Tryd.prog 38 #[v, .bool f] w fun e w' => ∃ v', e = .returned v' ∧ Grew w w' base v v' k xs [if f then 1 else 0] := by
  obtain ⟨i0, hi, hz0, hz1, hz2⟩ := info_parts info5
  have hg : Grew w w base v v k xs [] := Grew.refl hown
  cases f
  · go_enter Tryd.func38, Tryd.ntmps38
    go_wp2_with (at_builtin; refine wpList_append_lies _ rfl _ _ 41 rfl base 5 i0 (.int .u8 0) 1 1 Tryd.underlying41 hi hz0 hz1 hz2 rfl (by decide) _ _ _ rfl (hown.alloc _) ⟨w.heap.size, 0, none⟩ 1 1 [.int .u8 _] rfl rfl (cell_one_new _ _ _) ?c2 (by decide) ?c4 ?c5 ?c6 (w.heap.size + 1) (by simp) ?_)
    case c2 => intro u hu; simp at hu; subst hu; rfl
    case c4 => unfold maxLen; omega
    case c5 => omega
    case c6 => simp; omega
    intro g cap w1 hown1 hgrow hat hlt1
    go_wp2
    go_ret
    exact ⟨_, rfl, hg.step (by simp) (by simpa using hown1) hgrow hat⟩
  · go_enter Tryd.func38, Tryd.ntmps38
    go_wp2_with (at_builtin; refine wpList_append_lies _ rfl _ _ 41 rfl base 5 i0 (.int .u8 0) 1 1 Tryd.underlying41 hi hz0 hz1 hz2 rfl (by decide) _ _ _ rfl (hown.alloc _) ⟨w.heap.size, 0, none⟩ 1 1 [.int .u8 _] rfl rfl (cell_one_new _ _ _) ?d2 (by decide) ?d4 ?d5 ?d6 (w.heap.size + 1) (by simp) ?_)
    case d2 => intro u hu; simp at hu; subst hu; rfl
    case d4 => unfold maxLen; omega
    case d5 => omega
    case d6 => simp; omega
    intro g cap w1 hown1 hgrow hat hlt1
    go_wp2
    go_ret
    exact ⟨_, rfl, hg.step (by simp) (by simpa using hown1) hgrow hat⟩

set_option maxRecDepth 100000 in
set_option maxHeartbeats 1000000 in
theorem dep_any (v : Value) (k : Nat) (xs : List Int) (d a b : Int) (base : Nat) (w : World) (hown : w.ownsRow base 5 1 v k (bytesV xs)) (hk : k ≤ 400) (hd : Hid (0 ≤ d ∧ d < 9223372036854775808)) (ha : Hid (0 ≤ a ∧ a < 9223372036854775808)) (hb : Hid (0 ≤ b ∧ b < 9223372036854775808)) (hbase : base ≤ w.heap.size) :
    Calls Tryd.prog 35 #[v, .agg #[.int .i64 d, .int .i64 a, .int .i64 b]] w fun e w' => ∃ v', e = .returned v' ∧ Grew w w' base v v' k xs (numsB [d, a, b]) := by
  have hone := numsB_len [d]
  go_enter Tryd.func35, Tryd.ntmps35
  go_wp2_with fail
  go_region_with (first
    | (go_at_call 32; refine (numbers_any v k xs [d] (w.heap.size + 1) base _ (by exact ((hown.alloc _).alloc _).drew) (by omega) (by simp) (hid1 hd) (by simp; omega) (by simp) (own_ne hown (by omega)) (by intro i hi; match i, hi with | 0, _ => simp)).mono ?_; rintro e w1 ⟨v1, rfl, hg⟩; have hc1 : w1.cell? ⟨w.heap.size, 1, none⟩ = some (.int .i64 a) := (hg.cell (by simp; omega) (own_ne hown (by omega))).trans (by simp); have hc2 : w1.cell? ⟨w.heap.size, 2, none⟩ = some (.int .i64 b) := (hg.cell (by simp; omega) (own_ne hown (by omega))).trans (by simp); have hz := hg.2.1.size; simp at hz)
    | (go_at_call 34; refine (version_any _ _ _ a b base _ (by exact hg.1) (by simp at hone; omega) ha hb (by omega)).mono ?_; rintro e w2 ⟨v2, rfl, hg2⟩))
  all_goals go_wp2
  all_goals go_ret
  all_goals (refine ⟨v2, rfl, ?_⟩; rw [show numsB [d, a, b] = numsB [d] ++ numsB [a, b] by simp [numsB]]; exact (hg.trans rfl hg2).before ((((Below.refl _ _).alloc (Nat.le_refl _) _).alloc (by simp) _).drew))

/-- The bytes of the first j of a list. -/
def depsB (ds : List (Int × Int × Int)) : List Int := (ds.map fun d => numsB [d.1, d.2.1, d.2.2]).flatten
theorem depsB_snoc (l : List (Int × Int × Int)) (x : Int × Int × Int) : depsB (l ++ [x]) = depsB l ++ numsB [x.1, x.2.1, x.2.2] := by simp [depsB]
theorem depsB_len (l : List (Int × Int × Int)) : (depsB l).length ≤ 30 * l.length := by
  induction l with
  | nil => simp [depsB]
  | cons y r ih =>
    have := numsB_len [y.1, y.2.1, y.2.2]
    simp only [depsB, List.map_cons, List.flatten_cons, List.length_append, List.length_cons, List.length_nil] at *
    omega

/-- All numbers of the list are within an int that is not below 0. -/
def DepsFit (ds : List (Int × Int × Int)) : Prop := ∀ i, i < ds.length → (0 ≤ dKey ds i ∧ dKey ds i < 9223372036854775808) ∧ (0 ≤ dClk ds i ∧ dClk ds i < 9223372036854775808) ∧ (0 ≤ dSrv ds i ∧ dSrv ds i < 9223372036854775808)

set_option maxRecDepth 100000 in
set_option maxHeartbeats 1000000 in
theorem past_any (v : Value) (k : Nat) (xs : List Int) (ao : Option Addr) (ds : List (Int × Int × Int)) (c : Nat) (base : Nat) (w : World) (hown : w.ownsRow base 5 1 v k (bytesV xs)) (hk : k ≤ 150) (h6 : ds.length ≤ 6)
    (hd : DepsAt w ao ds) (hfit : Hid (DepsFit ds)) (hbelow : 0 < ds.length → ∀ b o, ao = some ⟨b, o, none⟩ → v.ownBlock ≠ some b) (hbase : base ≤ w.heap.size) :
    Calls Tryd.prog 37 #[v, .slice ao ds.length c] w fun e w' => ∃ v', e = .returned v' ∧ Grew w w' base v v' k xs (numsB [(ds.length : Int)] ++ depsB ds) := by
  have hone := numsB_len [(ds.length : Int)]
  simp at hone
  have hw := ((Below.refl w.heap.size w).alloc (Nat.le_refl _) (.cells #[.int .i64 (ds.length : Int)] 3))
  go_enter Tryd.func37, Tryd.ntmps37
  go_wp2_with fail
  refine (numbers_any v k xs [(ds.length : Int)] w.heap.size base _ (hown.alloc _) (by omega) (by simp) (hid1 (by show _ ∧ _; omega)) (by simp; omega) (by simp) (own_ne hown (by omega)) (by intro i hi; match i, hi with | 0, _ => simp)).mono ?_
  rintro e w1 ⟨v1, rfl, hg⟩
  have hg0 := Grew.before hw hg
  have hz1 := hg0.2.1.size
  go_wp2_with fail
  go_loopw [0, 14] (fun t0 i wr => ∃ j : Nat, j ≤ ds.length ∧ i = .int .i64 j ∧ Grew w wr base v t0 k xs (numsB [(ds.length : Int)] ++ depsB (ds.take j))) (fun _ i _ => ds.length - (intOf i).toNat)
  case atStart => exact ⟨0, Nat.zero_le _, rfl, by simpa [depsB] using hg0⟩
  case round =>
    obtain ⟨j, hj, rfl, hr⟩ := hrel
    have hzr := hr.2.1.size
    by_cases hlt : j < ds.length
    · obtain ⟨b, o, rfl, hbl, hc⟩ := hd (by omega)
      have hne := hbelow (by omega) b o rfl
      have c1 : wr.cell? ⟨b, o + j * 3, none⟩ = some (.int .i64 (dKey ds j)) := (hr.cell hbl hne).trans (hc j hlt).1
      have c2 : wr.cell? ⟨b, o + j * 3 + 1, none⟩ = some (.int .i64 (dClk ds j)) := (hr.cell hbl hne).trans (hc j hlt).2.1
      have c3 : wr.cell? ⟨b, o + j * 3 + 2, none⟩ = some (.int .i64 (dSrv ds j)) := (hr.cell hbl hne).trans (hc j hlt).2.2
      have hl := depsB_len (ds.take j)
      have hl2 : (ds.take j).length ≤ 5 := by simp; omega
      clear hc
      go_wp2_with fail
      refine (dep_any u0 _ _ (dKey ds j) (dClk ds j) (dSrv ds j) base _ (hr.1.alloc _) (by simp; omega) (hfit.out j hlt).1 (hfit.out j hlt).2.1 (hfit.out j hlt).2.2 (by simp; omega)).mono ?_
      rintro e w2 ⟨v2, rfl, hg2⟩
      have hg3 := Grew.before ((Below.refl wr.heap.size wr).alloc (Nat.le_refl _) _) hg2
      go_wp2
      go_roundw
      case rel =>
        refine ⟨j + 1, by omega, by go_num, ?_⟩
        have e1 : ds.take (j + 1) = ds.take j ++ [ds[j]] := List.take_succ_eq_append_getElem hlt
        have e2 : numsB [dKey ds j, dClk ds j, dSrv ds j] = numsB [ds[j].1, ds[j].2.1, ds[j].2.2] := by simp [dKey, dClk, dSrv, hlt]
        rw [e1, depsB_snoc, ← e2, ← List.append_assoc]
        exact hr.trans rfl hg3
      case measure => simp [intOf]; omega
    · go_wp2
      go_ret
      refine ⟨_, rfl, ?_⟩
      rw [List.take_of_length_le (by omega)] at hr
      exact hr

end Go.Proofs.YtdpnmpfkbeommaaDoor
