/-
  The reference's reader: numbers, values.
-/
import Derived.Test.YtdpnmpfkbeommaaDoorDR
namespace Go.Proofs.YtdpnmpfkbeommaaDoor
open Go.RowKit

/-- What num answers, where it stands then, and whether it was bad. -/
def sn (bs : List Int) (k : Nat) : Nat × Nat × Bool :=
  if (sl bs 10 k 0 0).1 < 9223372036854775808 then sl bs 10 k 0 0 else (0, (sl bs 10 k 0 0).2.1, true)

theorem sl_lt {bs : List Int} (hB : Bytes256 bs) : ∀ f k i v, i ≤ 9 → f = 10 - i → v < 128 ^ i → (sl bs f k i v).1 < 18446744073709551616
  | 0, k, i, v, _, _, _ => by simp [sl]
  | f + 1, k, i, v, hi, hf, hv => by
    rw [sl]
    have ho := fun h9 => orStep hv (hB k) hi h9
    split
    · split
      · simp
      · rename_i h2
        split
        · exact (ho (by omega)).2.1
        · exact sl_lt hB f (k + 1) (i + 1) _ (by omega) (by omega) (ho (by omega)).2.2
    · simp

set_option maxRecDepth 100000 in
set_option maxHeartbeats 4000000 in
theorem snum_any (R a : Nat) (s : ByteArray) (bad : Bool) (w : World) (hC : Cells w R #[.string s, .int .i64 a, .bool bad]) (hle : a ≤ s.size) (hsz : s.size ≤ 140737488351232) :
    Calls Tryd.prog 39 #[.pointer (some ⟨R, 0, none⟩)] w fun e w' => e = .returned (.int .i64 (sn (bsOf s) a).1) ∧ Cells w' R #[.string s, .int .i64 (sn (bsOf s) a).2.1, .bool (bad || (sn (bsOf s) a).2.2)] ∧ w.grownBy w' (some R) := by
  have hlt := sl_lt (bsOf_256 s) 10 a 0 0 (by omega) rfl (by omega)
  obtain ⟨v, q, t, hv⟩ : ∃ v q t, sl (bsOf s) 10 a 0 0 = (v, q, t) := ⟨_, _, _, rfl⟩
  have HS : Hid (sl (bsOf s) 10 a 0 0 = (v, q, t)) := hv
  rw [hv] at hlt
  have hlt' : (v : Int) < 18446744073709551616 := by simp only at hlt; omega
  clear hv hlt
  obtain ⟨z, hz⟩ : ∃ z : Int, (v : Int) = z := ⟨_, rfl⟩
  rw [hz] at hlt'
  have hz0 : 0 ≤ z := by omega
  have HZ : Hid ((v : Int) = z) := hz
  by_cases h : v < 9223372036854775808
  · have hn : Hid (sn (bsOf s) a = (v, q, t)) := by show sn (bsOf s) a = _; rw [sn, HS.out, if_pos h]
    have h' : ¬ (9223372036854775808 : Int) ≤ z := by omega
    have h'' : z < 9223372036854775808 := by omega
    clear h hz
    go_enter Tryd.func39, Tryd.ntmps39
    go_wp2_with (first | (go_at_call 50; refine (slong_any R a s bad _ hC hle hsz).mono ?_; rintro e w1 ⟨he, hC1, hg1⟩; rw [HS.out] at he hC1; replace he : e = .returned (.int .u64 z) := he.trans (by rw [← HZ.out]); subst he; have hc1 := hC1.1; have hf1 := hC1.2))
    go_ret
    rw [hn.out]
    refine ⟨?_, hC1, hg1⟩
    rw [show (((v, q, t).1 : Nat) : Int) = z from HZ.out]
    rfl
  · have hn : Hid (sn (bsOf s) a = (0, q, true)) := by show sn (bsOf s) a = _; rw [sn, HS.out, if_neg h]
    have h' : (9223372036854775808 : Int) ≤ z := by omega
    clear h hz
    go_enter Tryd.func39, Tryd.ntmps39
    go_wp2_with (first | (go_at_call 50; refine (slong_any R a s bad _ hC hle hsz).mono ?_; rintro e w1 ⟨he, hC1, hg1⟩; rw [HS.out] at he hC1; replace he : e = .returned (.int .u64 z) := he.trans (by rw [← HZ.out]); subst he; have hc1 := hC1.1; have hf1 := hC1.2))
    go_ret
    rw [hn.out]
    refine ⟨rfl, ?_, hg1.trans (Lib.grownBy_setCell _ _ _ _)⟩
    rw [show (bad || (0, q, true).2.2) = true by simp]
    simpa using hC1.set 2 (.bool true) (by simp)

end Go.Proofs.YtdpnmpfkbeommaaDoor
