/-
  sameDeps of two lists that hold the same.
-/
import Derived.Test.YtdpnmpfkbeommaaDoorB
namespace Go.Proofs.YtdpnmpfkbeommaaDoor
open Go.RowKit

set_option maxRecDepth 100000 in
set_option maxHeartbeats 1000000 in
theorem sameDeps_same (ao bo : Option Addr) (ds : List (Int × Int × Int)) (c c' : Nat) (w : World) (hd : DepsAt w ao ds) (hd2 : DepsAt w bo ds) (hr : ds.length ≤ 6) :
    Calls Tryd.prog 19 #[.slice ao ds.length c, .slice bo ds.length c'] w fun e w' => e = .returned (.bool true) ∧ Below w.heap.size w w' := by
  have n25 := neq25
  have hee : ∀ k x y : Int, eqD k x y k x y = true := fun k x y => by simp [eqD]
  go_enter Tryd.func19, Tryd.ntmps19
  go_wp2
  go_loopw [5] (fun i wr => ∃ k : Nat, k ≤ ds.length ∧ i = .int .i64 k ∧ Below w.heap.size w wr) (fun i _ => ds.length - (intOf i).toNat)
  case atStart => exact ⟨0, Nat.zero_le _, rfl, Below.refl _ _⟩
  case round =>
    obtain ⟨k, hk, rfl, hb⟩ := hrel
    by_cases hlt : k < ds.length
    · obtain ⟨b, o, rfl, hbl, hc⟩ := hd (by omega)
      obtain ⟨b', o', rfl, hbl', hc'⟩ := hd2 (by omega)
      have c1 : wr.cell? ⟨b, o + k * 3, none⟩ = some (.int .i64 (dKey ds k)) := (hb.cell (by exact hbl)).trans (hc k hlt).1
      have c2 : wr.cell? ⟨b, o + k * 3 + 1, none⟩ = some (.int .i64 (dClk ds k)) := (hb.cell (by exact hbl)).trans (hc k hlt).2.1
      have c3 : wr.cell? ⟨b, o + k * 3 + 2, none⟩ = some (.int .i64 (dSrv ds k)) := (hb.cell (by exact hbl)).trans (hc k hlt).2.2
      have d1 : wr.cell? ⟨b', o' + k * 3, none⟩ = some (.int .i64 (dKey ds k)) := (hb.cell (by exact hbl')).trans (hc' k hlt).1
      have d2 : wr.cell? ⟨b', o' + k * 3 + 1, none⟩ = some (.int .i64 (dClk ds k)) := (hb.cell (by exact hbl')).trans (hc' k hlt).2.1
      have d3 : wr.cell? ⟨b', o' + k * 3 + 2, none⟩ = some (.int .i64 (dSrv ds k)) := (hb.cell (by exact hbl')).trans (hc' k hlt).2.2
      have hlt' : (k : Int) < (ds.length : Int) := by omega
      have hk0' : (0 : Int) ≤ (k : Int) := by omega
      clear hc hc'
      go_wp2
      go_quiet (fail)
      go_wp2
      go_roundw
      case rel => exact ⟨k + 1, by omega, by go_num, below_drewN hb _⟩
      case measure => simp [intOf]; omega
    · go_wp2
      go_ret
      exact ⟨rfl, hb⟩

end Go.Proofs.YtdpnmpfkbeommaaDoor
