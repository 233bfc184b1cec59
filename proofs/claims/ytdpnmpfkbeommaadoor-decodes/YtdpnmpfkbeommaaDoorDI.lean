/-
  readMessage.
-/
import Derived.Test.YtdpnmpfkbeommaaDoorDH
import Derived.Test.YtdpnmpfkbeommaaDoorDGa
import Derived.Test.YtdpnmpfkbeommaaDoorDGb
import Derived.Test.YtdpnmpfkbeommaaDoorDGc
import Derived.Test.YtdpnmpfkbeommaaDoorDGd
import Derived.Test.YtdpnmpfkbeommaaDoorDGe
import Derived.Test.YtdpnmpfkbeommaaDoorDGf
import Derived.Test.YtdpnmpfkbeommaaDoorDGg
namespace Go.Proofs.YtdpnmpfkbeommaaDoor
open Go.RowKit

set_option maxRecDepth 100000 in
set_option maxHeartbeats 4000000 in
theorem rmsg_none (B b o k : Nat) (bs : List Int) (w : World) (hd : Rd w B b o bs) (hr : RestIs w B b o bs k) (hk1 : pKind bs k = none) :
    Calls Tryd.prog 43 #[.pointer (some ⟨B, 0, none⟩)] w fun e w' => TookMsg w B b o bs (pMsg bs k) e w' := by
  have hga : w.grownBy ((w.alloc (.cells #[(.int .i64 0), (.int .i64 0), (.int .i64 0), (.int .i64 0), (.int .i64 0), (.int .i64 0), (.int .i64 0), (.int .i64 0), (.int .i64 0), (.int .i64 0), (.int .i64 0), (.int .i64 0), (.int .i64 0), (.slice none 0 0), (.bool false)] 28)).alloc (.cells #[(.int .i64 0), (.int .i64 0), (.int .i64 0), (.int .i64 0), (.int .i64 0), (.int .i64 0), (.int .i64 0), (.int .i64 0), (.int .i64 0), (.int .i64 0), (.int .i64 0), (.int .i64 0), (.int .i64 0), (.slice none 0 0), (.bool false)] 28)) (some B) := (World.grownBy_alloc _ _ _).trans (World.grownBy_alloc _ _ _)
  go_enter Tryd.func43, Tryd.ntmps43
  go_wp2_with (first | (go_at_call 51; refine (took_no (rdKind B b o k bs _ ((hd.alloc _).alloc _) ((hr.alloc _).alloc _)) (by rw [hk1]; rfl)).mono ?_; rintro e w1 ⟨rfl, hg⟩))
  exact ⟨rfl, TookMsg.no (by simp [pMsg, hk1]) (hga.trans hg)⟩

theorem rmsg_all (B b o k : Nat) (bs : List Int) (w : World) (hd : Rd w B b o bs) (hr : RestIs w B b o bs k) (hG : GTab w) (hB0 : 0 < B) (hbw : b < w.heap.size) :
    Calls Tryd.prog 43 #[.pointer (some ⟨B, 0, none⟩)] w fun e w' => TookMsg w B b o bs (pMsg bs k) e w' := by
  cases hp : pKind bs k with
  | none => exact rmsg_none B b o k bs w hd hr hp
  | some x =>
    have hx : k < bs.length ∧ 0 < bAt bs k ∧ bAt bs k < 13 ∧ x = (bAt bs k, k + 1) := by
      unfold pKind at hp
      split at hp
      · rename_i h
        cases hp
        exact ⟨h.1, h.2.1, h.2.2, rfl⟩
      · cases hp
    obtain ⟨_, h1, h2, rfl⟩ := hx
    have h3 : bAt bs k = 1 ∨ bAt bs k = 2 ∨ bAt bs k = 3 ∨ bAt bs k = 4 ∨ bAt bs k = 5 ∨ bAt bs k = 6 ∨ bAt bs k = 7 ∨ bAt bs k = 8 ∨ bAt bs k = 9 ∨ bAt bs k = 10 ∨ bAt bs k = 11 ∨ bAt bs k = 12 := by omega
    rcases h3 with e | e | e | e | e | e | e | e | e | e | e | e <;> rw [e] at hp
    · exact rmsg_1 B b o k bs w hd hr hG hB0 hbw hp
    · exact rmsg_2 B b o k bs w hd hr hG hB0 hbw hp
    · exact rmsg_3 B b o k bs w hd hr hG hB0 hbw hp
    · exact rmsg_4 B b o k bs w hd hr hG hB0 hbw hp
    · exact rmsg_5 B b o k bs w hd hr hG hB0 hbw hp
    · exact rmsg_6 B b o k bs w hd hr hG hB0 hbw hp
    · exact rmsg_7 B b o k bs w hd hr hG hB0 hbw hp
    · exact rmsg_8 B b o k bs w hd hr hG hB0 hbw hp
    · exact rmsg_9 B b o k bs w hd hr hG hB0 hbw hp
    · exact rmsg_10 B b o k bs w hd hr hG hB0 hbw hp
    · exact rmsg_11 B b o k bs w hd hr hG hB0 hbw hp
    · exact rmsg_12 B b o k bs w hd hr hG hB0 hbw hp

end Go.Proofs.YtdpnmpfkbeommaaDoor
