/-
  isMessage.
-/
import Derived.Test.YtdpnmpfkbeommaaDoorC
import Derived.Deep.RegionHeld3
import Derived.Deep.DrawnRows
namespace Go.Proofs.YtdpnmpfkbeommaaDoor
open Go.RowKit
attribute [local go_sem ↓] Go.wp_at_zero Go.wp_at_succ

def isKindB (k : Int) : Bool := decide (0 < k) && decide (k < 13)
theorem isKind_any' (k : Int) (w : World) : Calls Tryd.prog 28 #[.int .i64 k] w fun e w' => e = .returned (.bool (isKindB k)) ∧ w' = w := isKind_any k w

def tab : List Int := [0, 101, 13, 7, 239, 15, 239, 108, 12, 28, 28, 12, 12]
def tabAt (k : Int) : Int := tab.getD k.toNat 0
/-- The table of what kinds have, in memory. -/
def GTab (w : World) : Prop := 0 < w.heap.size ∧ ∀ i, i < 13 → w.cell? ⟨0, i, none⟩ = some (.int .u8 (tab.getD i 0))

def saysB (m : Msg) : Bool := bits BinOp.andNot .u8 (saidV m) (tabAt m.kind) == 0
def msgB (m : Msg) : Bool := isKindB m.kind && (noNeg m && (saysB m && pastOk m.past))

theorem bcell {W w1 : World} (hb : Below W.heap.size W w1) : (∀ b o, b < W.heap.size → w1.cell? ⟨b, o, none⟩ = W.cell? ⟨b, o, none⟩) ∧ W.heap.size ≤ w1.heap.size :=
  ⟨fun b o h => hb.cell (p := ⟨b, o, none⟩) h, hb.size⟩

set_option maxHeartbeats 2000000 in
theorem isMessage_any (m : Msg) (w : World) (hd : DepsAt w m.ao m.past) (hr : m.past.length * 24 ≤ 140737488351232) (hG : GTab w) :
    Calls Tryd.prog 16 #[.agg #[.int .i64 m.kind, .int .i64 m.src, .int .i64 m.dst, .int .i64 m.clock, .int .i64 m.op, .int .i64 m.index, .int .i64 m.key, .int .i64 m.vc, .int .i64 m.vs, .int .i64 m.value, .int .i64 m.fk, .int .i64 m.fc, .int .i64 m.fs, .slice m.ao m.past.length m.c, .bool m.settled]] w
      fun e w' => e = .returned (.bool (msgB m)) ∧ Below w.heap.size w w' := by
  have hB0 := ((Below.refl w.heap.size w).alloc (Nat.le_refl _) (.cells #[.int .i64 m.kind, .int .i64 m.src, .int .i64 m.dst, .int .i64 m.clock, .int .i64 m.op, .int .i64 m.index, .int .i64 m.key, .int .i64 m.vc, .int .i64 m.vs, .int .i64 m.value, .int .i64 m.fk, .int .i64 m.fc, .int .i64 m.fs, .slice m.ao m.past.length m.c, .bool m.settled] 28))
  cases hk : isKindB m.kind
  · go_enter Tryd.func16, Tryd.ntmps16
    go_wp2
    go_quiet ((go_at_call 28; exact Calls.quiet_of_same (isKind_any' _ _)))
    go_wp2
    go_ret
    exact ⟨ret_bool (by simp [msgB, hk]), below_drewN hB0 _⟩
  · have hkind : 0 < m.kind ∧ m.kind < 13 := by simpa [isKindB] using hk
    have g1 : (w.alloc (.cells #[.int .i64 m.kind, .int .i64 m.src, .int .i64 m.dst, .int .i64 m.clock, .int .i64 m.op, .int .i64 m.index, .int .i64 m.key, .int .i64 m.vc, .int .i64 m.vs, .int .i64 m.value, .int .i64 m.fk, .int .i64 m.fc, .int .i64 m.fs, .slice m.ao m.past.length m.c, .bool m.settled] 28)).cell? ⟨0, m.kind.toNat, none⟩ = some (.int .u8 (tabAt m.kind)) := (hB0.cell (by exact hG.1)).trans (hG.2 _ (by omega))
    obtain ⟨hk1, hk2⟩ := hkind
    have hk0 : 0 ≤ m.kind := by omega
    cases hn : noNeg m
    · go_enter Tryd.func16, Tryd.ntmps16
      go_wp2
      first | (go_region_with (first | (go_at_call 28; refine (isKind_any' _ _).mono ?_; rintro e w' ⟨rfl, rfl⟩) | (go_at_call 29; refine (noNeg_any m _ (by exact hd.below hB0.drew (Nat.le_refl _)) hr).mono ?_; rintro e w2 ⟨rfl, hb2⟩; have hc2 := (bcell hb2).1; have hz2 := (bcell hb2).2; simp at hz2; have hz2' : w.heap.size < w2.heap.size := by omega))) | fail "region"
      all_goals (go_wp2; go_ret)
      all_goals exact ⟨ret_bool (by simp [msgB, hn]), hB0.drew.trans (hb2.mono (by simp))⟩
    · cases hs : (bits BinOp.andNot .u8 (saidV m) (tabAt m.kind) == 0)
      · go_enter Tryd.func16, Tryd.ntmps16
        go_wp2
        first | (go_region_with (first | (go_at_call 28; refine (isKind_any' _ _).mono ?_; rintro e w' ⟨rfl, rfl⟩) | (go_at_call 29; refine (noNeg_any m _ (by exact hd.below hB0.drew (Nat.le_refl _)) hr).mono ?_; rintro e w2 ⟨rfl, hb2⟩; have hc2 := (bcell hb2).1; have hz2 := (bcell hb2).2; simp at hz2; have hz2' : w.heap.size < w2.heap.size := by omega) | (go_at_call 30; refine (saysOnly_any m (tabAt m.kind) _).mono ?_; rintro e w3 ⟨rfl, hb3⟩; have hc3 := (bcell hb3).1; have hz3 := (bcell hb3).2))) | fail "region"
        all_goals (go_wp2; go_ret)
        all_goals exact ⟨ret_bool (by simp [msgB, saysB, hs]), hB0.drew.trans ((hb2.trans (hb3.mono hb2.size)).mono (by simp))⟩
      · go_enter Tryd.func16, Tryd.ntmps16
        go_wp2
        go_region_with (first | (go_at_call 28; refine (isKind_any' _ _).mono ?_; rintro e w' ⟨rfl, rfl⟩) | (go_at_call 29; refine (noNeg_any m _ (by exact hd.below hB0.drew (Nat.le_refl _)) hr).mono ?_; rintro e w2 ⟨rfl, hb2⟩; have hc2 := (bcell hb2).1; have hz2 := (bcell hb2).2; simp at hz2; have hz2' : w.heap.size < w2.heap.size := by omega) | (go_at_call 30; refine (saysOnly_any m (tabAt m.kind) _).mono ?_; rintro e w3 ⟨rfl, hb3⟩; have hc3 := (bcell hb3).1; have hz3 := (bcell hb3).2) | (go_at_call 31; refine (isPast_any m.ao m.past m.c _ (by exact (hd.below hB0.drew (Nat.le_refl _)).below (hb2.trans (hb3.mono hb2.size)) (Nat.le_refl _)) hr).mono ?_; rintro e w4 ⟨rfl, hb4⟩))
        all_goals (go_wp2; go_ret)
        all_goals exact ⟨ret_bool (by simp [msgB, hk, hn, saysB, hs]), hB0.drew.trans ((hb2.trans ((hb3.trans (hb4.mono hb3.size)).mono hb2.size)).mono (by simp))⟩
end Go.Proofs.YtdpnmpfkbeommaaDoor
