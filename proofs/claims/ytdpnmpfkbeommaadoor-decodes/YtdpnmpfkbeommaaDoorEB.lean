/-
  The reference's Read: of no bytes, of no kind.
-/
import Derived.Test.YtdpnmpfkbeommaaDoorEA
namespace Go.Proofs.YtdpnmpfkbeommaaDoor
open Go.RowKit
set_option linter.unusedSimpArgs false
set_option linter.unusedVariables false

set_option maxRecDepth 100000 in
set_option maxHeartbeats 4000000 in
theorem sread_empty (s : ByteArray) (w : World) (h0 : s.size = 0) :
    Calls Tryd.prog 18 #[.string s] w fun e w' => ReadIs w (sRead (bsOf s)) e w' := by
  have hr : Hid (sRead (bsOf s) = none) := by show sRead (bsOf s) = none; unfold sRead; rw [if_pos (by rw [bsOf_len]; exact h0)]
  go_enter Tryd.func18, Tryd.ntmps18
  go_wp2_with fail
  refine bodyPost_ret (res28t rfl _ _ w.heap.size _ _ _ _ _ _ _ _ _ _ _ _ _ _ _ _ rfl rfl (Cells.new w zcs 28)) rfl ?_
  refine ⟨World.grownBy_alloc _ _ _, ?_⟩
  rw [hr.out]
  rfl

set_option maxRecDepth 100000 in
set_option maxHeartbeats 4000000 in
theorem sread_none (s : ByteArray) (w : World) (h0 : 0 < s.size) (hl : letters (bAt (bsOf s) 0) = []) :
    Calls Tryd.prog 18 #[.string s] w fun e w' => ReadIs w (sRead (bsOf s)) e w' := by
  have hr : Hid (sRead (bsOf s) = none) := by show sRead (bsOf s) = none; unfold sRead; rw [if_neg (by rw [bsOf_len]; omega), if_pos hl]
  have hat := bsOf_at s 0 h0
  obtain ⟨x, hx⟩ : ∃ x : Int, bAt (bsOf s) 0 = x := ⟨_, rfl⟩
  have hx2 : 0 ≤ x ∧ x < 256 := by rw [← hx]; exact bsOf_256 s 0
  have hw : IntKind.i64.wrap x = x := by simp [IntKind.wrap, IntKind.bits, IntKind.signed]; omega
  rw [hx] at hat hl
  have hf : str (letters x) = ⟨#[]⟩ := strNil.2 hl
  have h0i : ¬ (s.size : Int) = 0 := by omega
  clear hx
  go_enter Tryd.func18, Tryd.ntmps18
  go_wp2_with (first | (go_at_call 22; refine (fields_any x _).mono ?_; rintro e w1 ⟨rfl, rfl⟩; rw [hf]))
  refine bodyPost_ret (res28t rfl _ _ w.heap.size _ _ _ _ _ _ _ _ _ _ _ _ _ _ _ _ rfl rfl ((Cells.new w zcs 28).far (World.grownBy_alloc _ _ (some (w.heap.size + 1))) (by simp) (by omega))) rfl ?_
  refine ⟨(World.grownBy_alloc _ _ none).trans (World.grownBy_alloc _ _ none), ?_⟩
  rw [hr.out]
  rfl

end Go.Proofs.YtdpnmpfkbeommaaDoor
