/-
  The deferred function of readMessage.
-/
import Derived.Test.YtdpnmpfkbeommaaDoorDF
import Derived.Defers
import Derived.Recover
namespace Go.Proofs.YtdpnmpfkbeommaaDoor
open Go.RowKit

theorem catch_idle (p q : Addr) (w : World) :
    CallsD Tryd.prog 42 #[.pointer (some p), .pointer (some q)] .returning w fun e u' w' => e = .returned (.tuple #[]) ∧ u' = .returning ∧ w' = w := by
  refine callsD_of_wpS Tryd.func42 rfl fun c₀ cs hu => ?_
  apply wpS_seq
  apply wpS_region
  simp [wpOpsS, go_sem, recoverD, hu, Tryd.ntmps42, Exit.thenS]
  apply wpS_seq
  apply wpS_seq
  apply wpS_region
  simp [wpOpsS, go_sem, Exit.thenS]
  refine wpS_cond (t := true) (by simp [Act.eval, Array.replicate]) ?_
  simp only [if_true]
  refine wpS_of_wp (wp_ret ?_)
  cases c₀
  simp_all [bodyPostS, results, Tryd.results42, Exit.thenS]

set_option maxRecDepth 100000 in
set_option maxHeartbeats 4000000 in
theorem catch_up (p q : Nat) (w : World) (x c0 c1 c2 c3 c4 c5 c6 c7 c8 c9 c10 c11 c12 c13 c14 : Value) (hz : Cells w p #[c0, c1, c2, c3, c4, c5, c6, c7, c8, c9, c10, c11, c12, c13, c14]) (hpl : p < w.heap.size) (hql : q < w.heap.size) (hq : w.cell? ⟨q, 0, none⟩ = some x) (hqf : w.frozen? ⟨q, 0, none⟩ = false) (hpq : p ≠ q) :
    CallsD Tryd.prog 42 #[.pointer (some ⟨p, 0, none⟩), .pointer (some ⟨q, 0, none⟩)] (.panicking [{ v := .iface 87 (.agg #[]), recovered := false }]) w fun e u' w' =>
      e = .returned (.tuple #[]) ∧ u' = .panicking [{ v := .iface 87 (.agg #[]), recovered := true }] ∧
      w' = ((put15 w p (.int .i64 0) (.int .i64 0) (.int .i64 0) (.int .i64 0) (.int .i64 0) (.int .i64 0) (.int .i64 0) (.int .i64 0) (.int .i64 0) (.int .i64 0) (.int .i64 0) (.int .i64 0) (.int .i64 0) (.slice none 0 0) (.bool false)).setCell ⟨q, 0, none⟩ (.int .i64 5)).alloc (.cells #[] 87) := by
  refine callsD_of_wpS Tryd.func42 rfl fun c₀ cs' hu => ?_
  apply wpS_seq
  apply wpS_region
  simp [wpOpsS, go_sem, recoverD, hu, Tryd.ntmps42, Exit.thenS]
  have hta : ∀ wz : World, (Instr.typeAssert (.iface 87 (.agg #[])) 20 87 true).run Tryd.prog wz = .ok (.tuple #[.agg #[], .bool true]) wz := fun wz => by kernel_rfl
  have hc := hz.1
  have hf := hz.2
  refine wpS_of_wp ?_
  simp only [Array.replicate, List.replicate]
  go_wp2_with fail
  simp [bodyPostS, results, Tryd.results42]

end Go.Proofs.YtdpnmpfkbeommaaDoor
