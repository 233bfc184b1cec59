/-
  The reader of wire: giving up; the next byte.
-/
import Derived.Test.YtdpnmpfkbeommaaDoorA
import Derived.Lib.BufferOwn
namespace Go.Proofs.YtdpnmpfkbeommaaDoor
open Go.RowKit

set_option maxHeartbeats 400000 in
theorem giveUp_any (w : World) :
    Calls Tryd.prog 58 #[] w fun e w' => e = .panicked [{ v := .iface 87 (.agg #[]), recovered := false }] ∧ w' = w := by
  go_enter Tryd.func58, Tryd.ntmps58
  go_wp2
  simp [bodyPost]

set_option maxHeartbeats 400000 in
theorem isNeedless_any (b s : Int) (w : World) :
    Calls Tryd.prog 63 #[.int .u8 b, .int .i64 s] w fun e w' => e = .returned (.bool (decide (b = 0) && decide (0 < s))) ∧ w' = w := by
  by_cases h : b = 0
  · subst h
    go_enter Tryd.func63, Tryd.ntmps63
    go_wp2
    go_ret
    simp
  · go_enter Tryd.func63, Tryd.ntmps63
    go_wp2
    go_ret
    simp [h]

set_option maxHeartbeats 400000 in
theorem isTooGreat_any (b s : Int) (w : World) :
    Calls Tryd.prog 64 #[.int .u8 b, .int .i64 s] w fun e w' => e = .returned (.bool (decide (s = 63) && decide (1 < b))) ∧ w' = w := by
  by_cases h : s = 63
  · subst h
    go_enter Tryd.func64, Tryd.ntmps64
    go_wp2
    go_ret
    simp
  · go_enter Tryd.func64, Tryd.ntmps64
    go_wp2
    go_ret
    simp [h]

def bAt (bs : List Int) (i : Nat) : Int := bs.getD i 0

/-- The bytes lie in block b at o. -/
def BytesAt (w : World) (b o : Nat) (bs : List Int) : Prop := ∀ i, i < bs.length → w.cell? ⟨b, o + i, none⟩ = some (.int .u8 (bAt bs i))

/-- What is left of the bytes behind the first k, as the reader holds it. -/
def RestIs (w : World) (B b o : Nat) (bs : List Int) (k : Nat) : Prop :=
  ∃ ao c, w.cell? ⟨B, 0, none⟩ = some (.slice ao (bs.length - k) c) ∧ w.frozen? ⟨B, 0, none⟩ = false ∧ k ≤ bs.length ∧ bs.length - k ≤ c ∧ (k < bs.length → ao = some ⟨b, o + k, none⟩)

theorem RestIs.step {w : World} {B b o k n c : Nat} {bs : List Int} {ao : Option Addr} {x : Value} (hc : w.cell? ⟨B, 0, none⟩ = some x) (hf : w.frozen? ⟨B, 0, none⟩ = false) (hn : bs.length - k = n + 1) (hcap : n ≤ c) (ha : 0 < n → ao = some ⟨b, o + k + 1, none⟩) :
    RestIs (w.setCell ⟨B, 0, none⟩ (.slice ao n c)) B b o bs (k + 1) := by
  have e : bs.length - (k + 1) = n := by omega
  refine ⟨ao, c, ?_, ?_, by omega, by omega, fun h => ha (by omega)⟩
  · rw [e]; exact World.cell?_setCell_same _ _ _ hc
  · simpa using hf

set_option maxHeartbeats 400000 in
theorem next_no (B b o k : Nat) (bs : List Int) (w : World) (hr : RestIs w B b o bs k) (hk : ¬ k < bs.length) :
    Calls Tryd.prog 60 #[.pointer (some ⟨B, 0, none⟩)] w fun e w' => e = .panicked [{ v := .iface 87 (.agg #[]), recovered := false }] ∧ w' = w := by
  obtain ⟨ao, c, hc, hf, hle, hcap, ha⟩ := hr
  have h0 : bs.length - k = 0 := by omega
  rw [h0] at hc
  go_enter Tryd.func60, Tryd.ntmps60
  go_wp2_with (first | (go_at_call 58; refine (giveUp_any _).mono ?_; rintro e w' ⟨rfl, rfl⟩))
  simp [bodyPost]

set_option maxHeartbeats 400000 in
theorem next_ok (B b o k : Nat) (bs : List Int) (w : World) (hb : BytesAt w b o bs) (hr : RestIs w B b o bs k) (hk : k < bs.length) :
    Calls Tryd.prog 60 #[.pointer (some ⟨B, 0, none⟩)] w fun e w' => e = .returned (.int .u8 (bAt bs k)) ∧ RestIs w' B b o bs (k + 1) ∧ w.grownBy w' (some B) := by
  obtain ⟨ao, c, hc, hf, hle, hcap, ha⟩ := hr
  obtain rfl := ha hk
  have h1 := hb k hk
  obtain ⟨n, hn⟩ : ∃ n, bs.length - k = n + 1 := ⟨bs.length - k - 1, by omega⟩
  rw [hn] at hc hcap
  go_enter Tryd.func60, Tryd.ntmps60
  go_wp2_with fail
  · go_ret
    exact ⟨rfl, RestIs.step hc hf hn (by omega) (by omega), Lib.grownBy_setCell _ _ _ _⟩
  · go_ret
    exact ⟨rfl, RestIs.step hc hf hn (by omega) (fun _ => rfl), Lib.grownBy_setCell _ _ _ _⟩

set_option maxHeartbeats 400000 in
theorem toInt_ok (n : Int) (w : World) (h0 : 0 ≤ n) (h : n < 9223372036854775808) :
    Calls Tryd.prog 61 #[.int .u64 n] w fun e w' => e = .returned (.int .i64 n) ∧ w' = w := by
  have h1 : ¬ 9223372036854775807 < n := by omega
  go_enter Tryd.func61, Tryd.ntmps61
  go_wp2_with fail
  go_ret
  exact ⟨rfl, rfl⟩

set_option maxHeartbeats 400000 in
theorem toInt_no (n : Int) (w : World) (h : 9223372036854775807 < n) :
    Calls Tryd.prog 61 #[.int .u64 n] w fun e w' => e = .panicked [{ v := .iface 87 (.agg #[]), recovered := false }] ∧ w' = w := by
  go_enter Tryd.func61, Tryd.ntmps61
  go_wp2_with (first | (go_at_call 58; refine (giveUp_any _).mono ?_; rintro e w' ⟨rfl, rfl⟩))
  simp [bodyPost]

end Go.Proofs.YtdpnmpfkbeommaaDoor
