/-
  The document's bytes, as strings.
-/
import Derived.Test.YtdpnmpfkbeommaaDoorD
import Derived.Test.YtdpnmpfkbeommaaDoorF
import Derived.Laws.IdiomStrings
namespace Go.Proofs.YtdpnmpfkbeommaaDoor
open Go.RowKit

def u8s (l : List Int) : List UInt8 := l.map fun x => UInt8.ofNat x.toNat
def sB (l : List Int) : ByteArray := str (u8s l)
theorem sB_size (l : List Int) : (sB l).size = l.length := by simp [sB, str, u8s, ByteArray.size]
theorem sB_append (a b : List Int) : sB a ++ sB b = sB (a ++ b) := by
  apply ByteArray.ext
  simp [sB, str, u8s, ByteArray.data_append]
theorem conv1 (w : World) (x : Int) : (convert 41 9 (.slice (some ⟨w.heap.size, 0, none⟩) 1 1)).run Tryd.prog (w.alloc (.cells #[.int .u8 x] 5)) = .ok (.string (sB [x])) (w.alloc (.cells #[.int .u8 x] 5)) := by
  rw [run_convert_bytes_string _ 41 9 5 _ 1 1 Tryd.underlying41 Tryd.underlying5 Tryd.underlying9]
  have hl := run_loadCells_list (P := Tryd.prog) (w.alloc (.cells #[.int .u8 x] 5)) ⟨w.heap.size, 0, none⟩ (([x] : List Int).map (Value.int .u8)) (fun j v hj => by
    match j, hj with
    | 0, hj => simp at hj; subst hj; simp [Addr.add])
  simp only [List.length_map, List.length_cons, List.length_nil] at hl
  rw [run_bytesToString _ _ 1 1 [x] hl]
  rfl

set_option maxRecDepth 100000 in
set_option maxHeartbeats 1000000 in
theorem rvarint_any (n : Nat) (w : World) (hn : Hid (n < 18446744073709551616)) :
    Calls Tryd.prog 45 #[.int .u64 n] w fun e w' => e = .returned (.string (sB (vint 9 n))) ∧ Below w.heap.size w w' := by
  have hsz := sB_size
  have happ := sB_append
  have hcv := conv1
  go_enter Tryd.func45, Tryd.ntmps45
  go_wp2
  go_loopw [0, 3] (fun t0 t3 wr => ∃ (f : Nat) (m : Nat) (ys : List Int), f ≤ 9 ∧ t0 = .int .u64 m ∧ Hid (m < 2 ^ (7 * f + 1)) ∧ Hid (vint 9 n = ys ++ vint f m) ∧ t3 = .string (sB ys) ∧ Below w.heap.size w wr ∧ ys.length ≤ 9 - f) (fun t0 _ _ => (intOf t0).toNat)
  case atStart => exact ⟨9, n, [], by omega, rfl, by have := hn.out; exact (show n < 2 ^ 64 by simpa using this), rfl, rfl, Below.refl _ _, by simp⟩
  case round => 
    obtain ⟨f, m, ys, hf, rfl, hm, hv, rfl, hb, hl⟩ := hrel
    have hl9 : ys.length ≤ 9 := by omega
    have HW : Hid (IntKind.u64.wrap ((m : Int) / 128) = (m : Int) / 128) := by
      have h1 : m < 2 ^ 64 := Nat.lt_of_lt_of_le hm.out (Nat.pow_le_pow_right (by decide) (by omega))
      exact wrapu _ (by omega) (by omega)
    by_cases hlt : m < 128
    · go_wp2
      go_ret
      refine ⟨ret_str ?_, hb.alloc hb.size _⟩
      rw [hv.out, vint_small _ _ hlt]
    · go_wp2
      go_roundw
      case rel =>
        obtain ⟨f', rfl⟩ : ∃ f', f = f' + 1 := by
          cases f with
          | zero => have := hm.out; omega
          | succ f' => exact ⟨f', rfl⟩
        rw [HW.out]
        refine ⟨f', m / 128, ys ++ [((m % 128 + 128 : Nat) : Int)], by omega, by go_num, pow_step hm.out, ?_, ?_, hb.alloc hb.size _, by simp; omega⟩
        · show _ = _
          rw [hv.out, vint_big _ _ hlt]; simp
        · simp
      case measure => rw [HW.out]; simp [intOf]; omega

set_option maxHeartbeats 1000000 in
theorem rnum_any (x : Int) (w : World) (hx : Hid (0 ≤ x ∧ x < 9223372036854775808)) :
    Calls Tryd.prog 25 #[.int .i64 x] w fun e w' => e = .returned (.string (sB (numsB [x]))) ∧ Below w.heap.size w w' := by
  obtain ⟨n, rfl⟩ := Int.eq_ofNat_of_zero_le hx.out.1
  have hn : Hid (n < 18446744073709551616) := by have := hx.out.2; show _ < _; omega
  have hn2 : (n : Int) < 9223372036854775808 := hx.out.2
  go_enter Tryd.func25, Tryd.ntmps25
  go_wp2_with (go_at_call 45; refine (rvarint_any n _ hn).mono ?_; rintro e w' ⟨rfl, hb⟩)
  go_ret
  exact ⟨by simp [numsB], hb⟩

set_option maxHeartbeats 1000000 in
theorem rver_any (a b : Int) (w : World) (ha : Hid (0 ≤ a ∧ a < 9223372036854775808)) (hb : Hid (0 ≤ b ∧ b < 9223372036854775808)) :
    Calls Tryd.prog 26 #[.agg #[.int .i64 a, .int .i64 b]] w fun e w' => e = .returned (.string (sB (numsB [a, b]))) ∧ Below w.heap.size w w' := by
  have hsz := sB_size
  have happ := sB_append
  have l1 := numsB_len [a]
  have l2 := numsB_len [b]
  simp at l1 l2
  have hB0 := ((Below.refl w.heap.size w).alloc (Nat.le_refl _) (.cells #[.int .i64 a, .int .i64 b] 23))
  go_enter Tryd.func26, Tryd.ntmps26
  go_wp2_with fail
  go_region_with (first
    | (go_at_call_of 25 (Value.int IntKind.i64 a); refine (rnum_any a _ ha).mono ?_; rintro e w1 ⟨rfl, hb1⟩; have hc1 : w1.cell? ⟨w.heap.size, 1, none⟩ = some (.int .i64 b) := (hb1.cell (by simp)).trans (by simp))
    | (go_at_call_of 25 (Value.int IntKind.i64 b); refine (rnum_any b _ hb).mono ?_; rintro e w2 ⟨rfl, hb2⟩))
  all_goals go_wp2
  all_goals go_ret
  all_goals (refine ⟨ret_str (by simp [numsB]), ?_⟩; exact hB0.drew.trans ((hb1.trans (hb2.mono hb1.size)).mono (by simp)))
theorem wrap64_id (x : Int) (h0 : -9223372036854775808 ≤ x) (h1 : x < 9223372036854775808) : wrap64 x = x := by
  unfold wrap64; omega
theorem zz_neg2 (a : Int) (h0 : a < 0) (h1 : -9223372036854775808 ≤ a) : IntKind.u64.wrap (IntKind.u64.wrap (IntKind.u64.wrap (wrap64 (-wrap64 (a + 1))) * 2) + 1) = ((zz a : Nat) : Int) := by
  rw [wrap64_id (a + 1) (by omega) (by omega), wrap64_id (-(a + 1)) (by omega) (by omega), wrapu (-(a + 1)) (by omega) (by omega), wrapu (-(a + 1) * 2) (by omega) (by omega), wrapu (-(a + 1) * 2 + 1) (by omega) (by omega)]
  unfold zz
  rw [if_pos h0]; omega

set_option maxHeartbeats 1000000 in
theorem rval_any (a : Int) (w : World) (ha : Hid (-9223372036854775808 ≤ a ∧ a < 9223372036854775808)) :
    Calls Tryd.prog 27 #[.int .i64 a] w fun e w' => e = .returned (.string (sB (vint 9 (zz a)))) ∧ Below w.heap.size w w' := by
  by_cases h0 : 0 ≤ a
  · go_enter Tryd.func27, Tryd.ntmps27
    go_wp2_with fail
    rw [zz_pos a (by omega) ha.out.2]
    refine (rvarint_any (zz a) w (zz_lt a ha.out)).mono ?_
    rintro e w1 ⟨rfl, hb1⟩
    go_wp2
    go_ret
    exact ⟨rfl, hb1⟩
  · go_enter Tryd.func27, Tryd.ntmps27
    go_wp2_with fail
    rw [zz_neg2 a (by omega) ha.out.1]
    refine (rvarint_any (zz a) w (zz_lt a ha.out)).mono ?_
    rintro e w1 ⟨rfl, hb1⟩
    go_wp2
    go_ret
    exact ⟨rfl, hb1⟩

end Go.Proofs.YtdpnmpfkbeommaaDoor
