/-
  The reference's reader: values, versions.
-/
import Derived.Test.YtdpnmpfkbeommaaDoorDS
namespace Go.Proofs.YtdpnmpfkbeommaaDoor
open Go.RowKit

set_option maxRecDepth 100000 in
set_option maxHeartbeats 4000000 in
theorem sval_any (R a : Nat) (s : ByteArray) (bad : Bool) (w : World) (hC : Cells w R #[.string s, .int .i64 a, .bool bad]) (hle : a ≤ s.size) (hsz : s.size ≤ 140737488351232) :
    Calls Tryd.prog 41 #[.pointer (some ⟨R, 0, none⟩)] w fun e w' => e = .returned (.int .i64 (zag (sl (bsOf s) 10 a 0 0).1)) ∧ Cells w' R #[.string s, .int .i64 (sl (bsOf s) 10 a 0 0).2.1, .bool (bad || (sl (bsOf s) 10 a 0 0).2.2)] ∧ w.grownBy w' (some R) := by
  have hlt := sl_lt (bsOf_256 s) 10 a 0 0 (by omega) rfl (by omega)
  obtain ⟨v, q, t, hv⟩ : ∃ v q t, sl (bsOf s) 10 a 0 0 = (v, q, t) := ⟨_, _, _, rfl⟩
  have HS : Hid (sl (bsOf s) 10 a 0 0 = (v, q, t)) := hv
  rw [hv] at hlt
  have hlt' : (v : Int) < 18446744073709551616 := by simp only at hlt; omega
  clear hv hlt
  obtain ⟨z, hz⟩ : ∃ z : Int, (v : Int) = z := ⟨_, rfl⟩
  rw [hz] at hlt'
  have hz0 : 0 ≤ z := by omega
  have HZ : Hid ((v : Int) = z) := hz
  by_cases h : z % 2 = 0
  · have hr : Hid (zag v = z / 2) := by show zag v = _; unfold zag; rw [if_neg (by omega)]; omega
    clear hz
    go_enter Tryd.func41, Tryd.ntmps41
    go_wp2_with (first | (go_at_call 50; refine (slong_any R a s bad _ hC hle hsz).mono ?_; rintro e w1 ⟨he, hC1, hg1⟩; rw [HS.out] at he hC1; replace he : e = .returned (.int .u64 z) := he.trans (by rw [← HZ.out]); subst he))
    go_ret
    rw [HS.out]
    refine ⟨?_, hC1, hg1⟩
    rw [show zag (v, q, t).1 = _ from hr.out]
    rfl
  · have hr : Hid (zag v = -(z / 2) - 1) := by show zag v = _; unfold zag; rw [if_pos (by omega)]; omega
    clear hz
    go_enter Tryd.func41, Tryd.ntmps41
    go_wp2_with (first | (go_at_call 50; refine (slong_any R a s bad _ hC hle hsz).mono ?_; rintro e w1 ⟨he, hC1, hg1⟩; rw [HS.out] at he hC1; replace he : e = .returned (.int .u64 z) := he.trans (by rw [← HZ.out]); subst he))
    go_ret
    rw [HS.out]
    refine ⟨?_, hC1, hg1⟩
    rw [show zag (v, q, t).1 = _ from hr.out]
    rfl

theorem sn_le (s : ByteArray) (a : Nat) (h : a ≤ s.size) : (sn (bsOf s) a).2.1 ≤ s.size := by
  have := sl_le (bs := bsOf s) 10 a 0 0 (by rw [bsOf_len]; exact h)
  rw [bsOf_len] at this
  unfold sn
  split
  · exact this.2
  · exact this.2

set_option maxRecDepth 100000 in
set_option maxHeartbeats 4000000 in
theorem sver_any (R a : Nat) (s : ByteArray) (bad : Bool) (w : World) (hC : Cells w R #[.string s, .int .i64 a, .bool bad]) (hRw : R < w.heap.size) (hle : a ≤ s.size) (hsz : s.size ≤ 140737488351232) :
    Calls Tryd.prog 40 #[.pointer (some ⟨R, 0, none⟩)] w fun e w' => e = .returned (.agg #[.int .i64 (sn (bsOf s) a).1, .int .i64 (sn (bsOf s) (sn (bsOf s) a).2.1).1]) ∧
      Cells w' R #[.string s, .int .i64 (sn (bsOf s) (sn (bsOf s) a).2.1).2.1, .bool (bad || (sn (bsOf s) a).2.2 || (sn (bsOf s) (sn (bsOf s) a).2.1).2.2)] ∧ w.grownBy w' (some R) := by
  have hga : w.grownBy (w.alloc (.cells #[.int .i64 0, .int .i64 0] 23)) (some R) := World.grownBy_alloc _ _ _
  have hCa : Cells (w.alloc (.cells #[.int .i64 0, .int .i64 0] 23)) R #[.string s, .int .i64 a, .bool bad] := hC.far (World.grownBy_alloc _ _ (some w.heap.size)) hRw (by omega)
  have hCn := Cells.new w #[.int .i64 0, .int .i64 0] 23
  go_enter Tryd.func40, Tryd.ntmps40
  go_wp2_with (first
    | (go_at_call 39; refine (snum_any R a s bad _ hCa hle hsz).mono ?_; rintro e w1 ⟨rfl, hC1, hg1⟩)
    | (go_at_call 39; refine (snum_any R _ s _ _ hC1 (sn_le s a hle) hsz).mono ?_; rintro e w2 ⟨rfl, hC2, hg2⟩; have hN2 := hCn.far (hg1.trans hg2) (by simp) (by omega); have hn2 := hN2.1; have hnf := hN2.2))
  refine bodyPost_ret (res23 rfl _ _ w.heap.size (.int .i64 (sn (bsOf s) a).1) (.int .i64 (sn (bsOf s) (sn (bsOf s) a).2.1).1) rfl ?_ ?_) rfl ?_
  · rw [World.cell?_setCell_other _ _ _ _ (by simp)]
    exact World.cell?_setCell_same _ _ _ (hN2.1 0)
  · exact World.cell?_setCell_same _ _ _ ((World.cell?_setCell_other _ _ _ _ (by simp)).trans (hN2.1 1))
  · refine ⟨rfl, (hC2.other (by omega) _ _).other (by omega) _ _, newSet (newSet ((hga.trans hg1).trans hg2) (Nat.le_refl _) _ _) (Nat.le_refl _) _ _⟩

end Go.Proofs.YtdpnmpfkbeommaaDoor
