/-
  The reader of wire: a number of 64 bits.
-/
import Derived.Test.YtdpnmpfkbeommaaDoorDA
import Derived.Test.YtdpnmpfkbeommaaDoorB
import Derived.Laws.Bits64b
namespace Go.Proofs.YtdpnmpfkbeommaaDoor
open Go.RowKit

def pVar (bs : List Int) : Nat → Nat → Nat → Nat → Option (Nat × Nat)
  | 0, _, _, _ => none
  | f + 1, k, i, n =>
    if k < bs.length then
      if (bAt bs k = 0 ∧ 0 < i) ∨ (i = 9 ∧ 1 < bAt bs k) then none
      else if bAt bs k < 128 then some (n + (bAt bs k).toNat % 128 * 128 ^ i, k + 1)
      else pVar bs f (k + 1) (i + 1) (n + (bAt bs k).toNat % 128 * 128 ^ i)
    else none

theorem pVar_short {bs : List Int} {f q i n : Nat} (h : ¬ q < bs.length) : pVar bs f q i n = none := by
  cases f <;> simp [pVar, h]
theorem pVar_bad {bs : List Int} {f q i n : Nat} (h : (bAt bs q = 0 ∧ 0 < i) ∨ (i = 9 ∧ 1 < bAt bs q)) : pVar bs f q i n = none := by
  cases f <;> simp [pVar, h]
theorem pVar_last {bs : List Int} {f q i n : Nat} (hf : 0 < f) (hq : q < bs.length) (h : ¬ ((bAt bs q = 0 ∧ 0 < i) ∨ (i = 9 ∧ 1 < bAt bs q))) (hl : bAt bs q < 128) : pVar bs f q i n = some (n + (bAt bs q).toNat % 128 * 128 ^ i, q + 1) := by
  cases f with
  | zero => omega
  | succ f => rw [pVar, if_pos hq, if_neg h, if_pos hl]
theorem pVar_more {bs : List Int} {f q i n : Nat} (hf : 0 < f) (hq : q < bs.length) (h : ¬ ((bAt bs q = 0 ∧ 0 < i) ∨ (i = 9 ∧ 1 < bAt bs q))) (hl : ¬ bAt bs q < 128) : pVar bs f q i n = pVar bs (f - 1) (q + 1) (i + 1) (n + (bAt bs q).toNat % 128 * 128 ^ i) := by
  cases f with
  | zero => omega
  | succ f => rw [pVar, if_pos hq, if_neg h, if_neg hl]; rfl

def Bytes256 (bs : List Int) : Prop := ∀ i, 0 ≤ bAt bs i ∧ bAt bs i < 256

theorem BytesAt.grown {w w' : World} {b o B : Nat} {bs : List Int} (h : BytesAt w b o bs) (hg : w.grownBy w' (some B)) (hne : b ≠ B) : BytesAt w' b o bs :=
  fun i hi => hg.cell (h i hi) (fun e => hne (by simpa using e))

/-- What a reader's step leaves: it gave up, or it answered and went on. -/
def Took (w : World) (B b o : Nat) (bs : List Int) (r : Option (Value × Nat)) (e : Ending) (w' : World) : Prop :=
  w.grownBy w' (some B) ∧ match r with
    | none => e = .panicked [{ v := .iface 87 (.agg #[]), recovered := false }]
    | some r => e = .returned r.1 ∧ RestIs w' B b o bs r.2

theorem Took.no {w w' : World} {B b o : Nat} {bs : List Int} {r : Option (Value × Nat)} (hr : r = none) (hg : w.grownBy w' (some B)) : Took w B b o bs r (.panicked [{ v := .iface 87 (.agg #[]), recovered := false }]) w' := by
  subst hr; exact ⟨hg, rfl⟩
theorem Took.ok {w w' : World} {B b o q : Nat} {bs : List Int} {r : Option (Value × Nat)} {v : Value} (hr : r = some (v, q)) (hg : w.grownBy w' (some B)) (hR : RestIs w' B b o bs q) : Took w B b o bs r (.returned v) w' := by
  subst hr; exact ⟨hg, rfl, hR⟩

theorem isNeedless_t {b s : Int} {t : Bool} (w : World) (h : (decide (b = 0) && decide (0 < s)) = t) :
    Calls Tryd.prog 63 #[.int .u8 b, .int .i64 s] w fun e w' => e = .returned (.bool t) ∧ w' = w := h ▸ isNeedless_any b s w
theorem isTooGreat_t {b s : Int} {t : Bool} (w : World) (h : (decide (s = 63) && decide (1 < b)) = t) :
    Calls Tryd.prog 64 #[.int .u8 b, .int .i64 s] w fun e w' => e = .returned (.bool t) ∧ w' = w := h ▸ isTooGreat_any b s w

theorem orStep {n i : Nat} {c : Int} (hn : n < 128 ^ i) (hc : 0 ≤ c ∧ c < 256) (hi : i ≤ 9) (h9 : i = 9 → c ≤ 1) :
    bits BinOp.or IntKind.u64 (n : Int) (IntKind.u64.wrap (c % 128 * 2 ^ (7 * i))) = ((n + c.toNat % 128 * 128 ^ i : Nat) : Int) ∧ n + c.toNat % 128 * 128 ^ i < 18446744073709551616 ∧ (n + c.toNat % 128 * 128 ^ i < 128 ^ (i + 1)) := by
  have e7 : (2 : Nat) ^ (7 * i) = 128 ^ i := by rw [Nat.pow_mul]
  obtain ⟨x, hx⟩ : ∃ x, c.toNat % 128 = x := ⟨_, rfl⟩
  have hx' : c % 128 = (x : Int) := by omega
  have hx1 : x < 128 := by omega
  have hle : x * 128 ^ i + 128 ^ i ≤ 128 ^ (i + 1) := by
    have : (x + 1) * 128 ^ i ≤ 128 * 128 ^ i := Nat.mul_le_mul_right _ (by omega)
    rw [Nat.pow_succ]; rw [Nat.add_mul] at this; omega
  have hb : x * 128 ^ i + 128 ^ i ≤ 18446744073709551616 := by
    by_cases e : i = 9
    · subst e
      have := h9 rfl
      have : x ≤ 1 := by omega
      have : x = 0 ∨ x = 1 := by omega
      rcases this with rfl | rfl <;> decide
    · have : 128 ^ (i + 1) ≤ 128 ^ 9 := Nat.pow_le_pow_right (by decide) (by omega)
      have h9' : (128 : Nat) ^ 9 = 9223372036854775808 := by decide
      omega
  have hw : IntKind.u64.wrap (c % 128 * 2 ^ (7 * i)) = ((x * 128 ^ i : Nat) : Int) := by
    rw [hx', show ((2 : Int) ^ (7 * i)) = ((2 ^ (7 * i) : Nat) : Int) by push_cast; rfl, e7, IntKind.wrap_u64]
    rw [show ((x : Int) * ((128 ^ i : Nat) : Int)) = ((x * 128 ^ i : Nat) : Int) by push_cast; rfl]
    omega
  rw [hx]
  refine ⟨?_, by omega, by omega⟩
  rw [hw, bits_or_u64_nat _ _ (by omega) (by omega)]
  congr 1
  have := Nat.shiftLeft_add_eq_or_of_lt (b := n) (i := 7 * i) (by rw [e7]; exact hn) x
  rw [Nat.shiftLeft_eq, e7] at this
  rw [Nat.or_comm, ← this, Nat.add_comm]

set_option maxHeartbeats 1000000 in
theorem rdVar (B b o k : Nat) (bs : List Int) (w : World) (hb : BytesAt w b o bs) (hB : Bytes256 bs) (hne : b ≠ B) (hr : RestIs w B b o bs k) :
    Calls Tryd.prog 62 #[.pointer (some ⟨B, 0, none⟩)] w fun e w' => Took w B b o bs ((pVar bs 10 k 0 0).map fun r => (.int .u64 r.1, r.2)) e w' := by
  go_enter Tryd.func62, Tryd.ntmps62
  go_wp2_with fail
  go_loopw [3, 4] (fun t3 t4 wr => ∃ (i n q : Nat), i ≤ 9 ∧ t3 = .int .u64 n ∧ t4 = .int .i64 ((7 * i : Nat) : Int) ∧ Hid (n < 128 ^ i) ∧ RestIs wr B b o bs q ∧ Hid (pVar bs (10 - i) q i n = pVar bs 10 k 0 0) ∧ w.grownBy wr (some B)) (fun _ t4 _ => 70 - (intOf t4).toNat)
  case atStart => exact ⟨0, 0, k, by omega, rfl, rfl, (by show 0 < 1; omega), hr, rfl, World.grownBy.refl _ _⟩
  case round =>
    obtain ⟨i, n, q, hi, rfl, rfl, hn, hR, hp, hg⟩ := hrel
    have hb' := hb.grown hg hne
    by_cases hlt : q < bs.length
    · have hby := hB q
      by_cases hbad : (bAt bs q = 0 ∧ 0 < i) ∨ (i = 9 ∧ 1 < bAt bs q)
      · have hp0 : pVar bs 10 k 0 0 = none := hp.out.symm.trans (pVar_bad hbad)
        cases h1 : (decide (bAt bs q = 0) && decide ((0 : Int) < ((7 * i : Nat) : Int)))
        · have h2 : (decide (((7 * i : Nat) : Int) = 63) && decide (1 < bAt bs q)) = true := by
            simp only [Bool.and_eq_true, decide_eq_true_eq, Bool.and_eq_false_iff, decide_eq_false_iff_not] at h1 ⊢
            omega
          go_wp2_with (first | (go_at_call 60; refine (next_ok B b o q bs _ hb' hR hlt).mono ?_; rintro e w' ⟨rfl, hR', hg'⟩) | (go_at_call 63; refine (isNeedless_t _ h1).mono ?_; rintro e w'' ⟨rfl, rfl⟩) | (go_at_call 64; refine (isTooGreat_t _ h2).mono ?_; rintro e w'' ⟨rfl, rfl⟩) | (go_at_call 58; refine (giveUp_any _).mono ?_; rintro e w'' ⟨rfl, rfl⟩))
          exact ⟨rfl, Took.no (by rw [hp0]; rfl) (hg.trans hg')⟩
        · go_wp2_with (first | (go_at_call 60; refine (next_ok B b o q bs _ hb' hR hlt).mono ?_; rintro e w' ⟨rfl, hR', hg'⟩) | (go_at_call 63; refine (isNeedless_t _ h1).mono ?_; rintro e w'' ⟨rfl, rfl⟩) | (go_at_call 58; refine (giveUp_any _).mono ?_; rintro e w'' ⟨rfl, rfl⟩))
          exact ⟨rfl, Took.no (by rw [hp0]; rfl) (hg.trans hg')⟩
      · have h1 : (decide (bAt bs q = 0) && decide ((0 : Int) < ((7 * i : Nat) : Int))) = false := by
          simp only [Bool.and_eq_false_iff, decide_eq_false_iff_not]
          omega
        have h2 : (decide (((7 * i : Nat) : Int) = 63) && decide (1 < bAt bs q)) = false := by
          simp only [Bool.and_eq_false_iff, decide_eq_false_iff_not]
          omega
        by_cases hl : bAt bs q < 128
        · have hp0 := hp.out.symm.trans (pVar_last (n := n) (by omega) hlt hbad hl)
          go_wp2_with (first | (go_at_call 60; refine (next_ok B b o q bs _ hb' hR hlt).mono ?_; rintro e w' ⟨rfl, hR', hg'⟩) | (go_at_call 63; refine (isNeedless_t _ h1).mono ?_; rintro e w'' ⟨rfl, rfl⟩) | (go_at_call 64; refine (isTooGreat_t _ h2).mono ?_; rintro e w'' ⟨rfl, rfl⟩))
          go_ret
          have ho := orStep hn.out hby hi (by omega)
          refine Took.ok ?_ (hg.trans hg') hR'
          rw [hp0]
          show some (Value.int .u64 _, q + 1) = some (Value.int .u64 _, q + 1)
          rw [ho.1]
        · have hp0 := hp.out.symm.trans (pVar_more (n := n) (by omega) hlt hbad hl)
          go_wp2_with (first | (go_at_call 60; refine (next_ok B b o q bs _ hb' hR hlt).mono ?_; rintro e w' ⟨rfl, hR', hg'⟩) | (go_at_call 63; refine (isNeedless_t _ h1).mono ?_; rintro e w'' ⟨rfl, rfl⟩) | (go_at_call 64; refine (isTooGreat_t _ h2).mono ?_; rintro e w'' ⟨rfl, rfl⟩))
          have ho := orStep hn.out hby hi (by omega)
          refine ⟨⟨i + 1, _, q + 1, by omega, by rw [ho.1], by congr 1, ho.2.2, hR', ?_, hg.trans hg'⟩, ?_⟩
          · rw [show 10 - (i + 1) = 10 - i - 1 by omega]; exact hp0.symm
          · simp [intOf]; omega
    · have hp0 : pVar bs 10 k 0 0 = none := hp.out.symm.trans (pVar_short hlt)
      go_wp2_with (first | (go_at_call 60; refine (next_no B b o q bs _ hR hlt).mono ?_; rintro e w' ⟨rfl, rfl⟩))
      exact ⟨rfl, Took.no (by rw [hp0]; rfl) hg⟩

theorem pVar_lt {bs : List Int} (hB : Bytes256 bs) : ∀ (f q i n : Nat), i ≤ 9 → f = 10 - i → n < 128 ^ i → ∀ r, pVar bs f q i n = some r → r.1 < 18446744073709551616
  | 0, _, _, _, _, _, _, r, h => by simp [pVar] at h
  | f + 1, q, i, n, hi, hf, hn, r, h => by
    rw [pVar] at h
    by_cases h1 : q < bs.length
    · rw [if_pos h1] at h
      by_cases h2 : (bAt bs q = 0 ∧ 0 < i) ∨ (i = 9 ∧ 1 < bAt bs q)
      · rw [if_pos h2] at h; cases h
      · rw [if_neg h2] at h
        have ho := orStep hn (hB q) hi (by omega)
        by_cases h3 : bAt bs q < 128
        · rw [if_pos h3] at h
          cases h
          exact ho.2.1
        · rw [if_neg h3] at h
          exact pVar_lt hB f (q + 1) (i + 1) _ (by omega) (by omega) ho.2.2 r h
    · rw [if_neg h1] at h; cases h

theorem took_ok {f : FuncId} {args : Array Value} {w : World} {B b o q : Nat} {bs : List Int} {r : Option (Value × Nat)} {v : Value} (h : Calls Tryd.prog f args w fun e w' => Took w B b o bs r e w') (hr : r = some (v, q)) :
    Calls Tryd.prog f args w fun e w' => e = .returned v ∧ RestIs w' B b o bs q ∧ w.grownBy w' (some B) := by
  subst hr
  exact h.mono fun e w' ⟨h1, h2, h3⟩ => ⟨h2, h3, h1⟩
theorem took_no {f : FuncId} {args : Array Value} {w : World} {B b o : Nat} {bs : List Int} {r : Option (Value × Nat)} (h : Calls Tryd.prog f args w fun e w' => Took w B b o bs r e w') (hr : r = none) :
    Calls Tryd.prog f args w fun e w' => e = .panicked [{ v := .iface 87 (.agg #[]), recovered := false }] ∧ w.grownBy w' (some B) := by
  subst hr
  exact h.mono fun e w' ⟨h1, h2⟩ => ⟨h2, h1⟩

end Go.Proofs.YtdpnmpfkbeommaaDoor
