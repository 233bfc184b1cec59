/-
  digit; lists that came out, written over; keepBytes.
-/
import Derived.Test.YtdpnmpfkbeommaaDoorF
import Derived.Laws.CopyOwn
namespace Go.Proofs.YtdpnmpfkbeommaaDoor
open Go.RowKit

/-- The byte that is written at place i all over the n-th list. -/
def dig (n i : Nat) : Int := 1 + ((n / 250 ^ (i % 3) : Nat) % 250 : Nat)
theorem dig_eq (n k i : Nat) (h : i % 3 = k) : dig n i = 1 + ((n / 250 ^ k % 250 : Nat) : Int) := by unfold dig; rw [h]

set_option maxHeartbeats 1000000 in
theorem digit_any (n i : Nat) (w : World) (hn : n ≤ 1000000) (hi : i ≤ 1000000) :
    Calls Tryd.prog 13 #[.int .i64 n, .int .i64 i] w fun e w' => e = .returned (.int .u8 (dig n i)) ∧ w' = w := by
  have hmod : i % 3 < 3 := Nat.mod_lt _ (by decide)
  go_enter Tryd.func13, Tryd.ntmps13
  go_wp2
  go_loop [0, 5] (fun t0 t5 => ∃ (k x : Nat), k ≤ 2 ∧ x ≤ 1000000 ∧ t5 = .int .i64 k ∧ t0 = .int .i64 x ∧ Hid (x / 250 ^ k = n / 250 ^ (i % 3))) (fun _ t5 => (intOf t5).toNat)
  case atStart => exact ⟨i % 3, n, by omega, hn, by go_num, rfl, rfl⟩
  case round =>
    obtain ⟨k, x, hk, hx, rfl, rfl, he⟩ := hrel
    by_cases h0 : 0 < k
    · go_wp2
      go_round
      case rel => 
        refine ⟨k - 1, x / 250, by omega, by omega, by go_num, by go_num, ?_⟩
        show _ = _
        rw [← he.out, Nat.div_div_eq_div_mul]
        obtain ⟨k', rfl⟩ : ∃ k', k = k' + 1 := ⟨k - 1, by omega⟩
        rw [Nat.add_sub_cancel, Nat.pow_succ, Nat.mul_comm]
      case measure => simp [intOf]; omega
    · obtain rfl : k = 0 := by omega
      go_wp2
      go_ret
      refine ⟨?_, rfl⟩
      have e1 : dig n i = 1 + ((x % 250 : Nat) : Int) := by
        rw [dig_eq n (i % 3) i rfl, ← he.out]; simp
      rw [e1]
      go_num
end Go.Proofs.YtdpnmpfkbeommaaDoor
