/-
  The reader of wire: pairs, the kind, the end.
-/
import Derived.Test.YtdpnmpfkbeommaaDoorDC
namespace Go.Proofs.YtdpnmpfkbeommaaDoor
open Go.RowKit

set_option maxHeartbeats 1000000 in
theorem rdDep (B b o k : Nat) (bs : List Int) (w : World) (hd : Rd w B b o bs) (hr : RestIs w B b o bs k) :
    Calls Tryd.prog 54 #[.pointer (some ⟨B, 0, none⟩)] w fun e w' => Took w B b o bs ((pDep bs k).map fun r => (.agg #[.int .i64 r.1.1, .int .i64 r.1.2.1, .int .i64 r.1.2.2], r.2)) e w' := by
  have hBw := hr.lt
  have hga : w.grownBy (w.alloc (.cells #[.int .i64 0, .int .i64 0, .int .i64 0] 25)) (some B) := World.grownBy_alloc _ _ _
  cases hp : pNum bs k with
  | none =>
    have hpn : Hid (pDep bs k = none) := by show pDep bs k = none; simp [pDep, hp]
    go_enter Tryd.func54, Tryd.ntmps54
    go_wp2_with (first | (go_at_call 52; refine (took_no (rdNum B b o k bs _ (hd.alloc _) (hr.alloc _)) (by rw [hp]; rfl)).mono ?_; rintro e w' ⟨rfl, hg⟩))
    exact ⟨rfl, Took.no (by rw [hpn.out]; rfl) (hga.trans hg)⟩
  | some r =>
    cases hp2 : pVer bs r.2 with
    | none =>
      have hpn : Hid (pDep bs k = none) := by show pDep bs k = none; simp [pDep, hp, hp2]
      go_enter Tryd.func54, Tryd.ntmps54
      go_wp2_with (first | (go_at_call 52; refine (took_ok (rdNum B b o k bs _ (hd.alloc _) (hr.alloc _)) (by rw [hp]; rfl)).mono ?_; rintro e w1 ⟨rfl, hR, hg⟩) | (go_at_call 53; refine (took_no (rdVer B b o r.2 bs _ ((hd.alloc _).grown hg) hR) (by rw [hp2]; rfl)).mono ?_; rintro e w2 ⟨rfl, hg2⟩))
      exact ⟨rfl, Took.no (by rw [hpn.out]; rfl) ((hga.trans hg).trans hg2)⟩
    | some s =>
      have hpn : Hid (pDep bs k = some ((r.1, s.1.1, s.1.2), s.2)) := by show pDep bs k = some ((r.1, s.1.1, s.1.2), s.2); simp [pDep, hp, hp2]
      go_enter Tryd.func54, Tryd.ntmps54
      go_wp2_with (first | (go_at_call 52; refine (took_ok (rdNum B b o k bs _ (hd.alloc _) (hr.alloc _)) (by rw [hp]; rfl)).mono ?_; rintro e w1 ⟨rfl, hR, hg⟩) | (go_at_call 53; refine (took_ok (rdVer B b o r.2 bs _ ((hd.alloc _).grown hg) hR) (by rw [hp2]; rfl)).mono ?_; rintro e w2 ⟨rfl, hR2, hg2⟩; have hc : ∀ o, w2.cell? ⟨w.heap.size, o, none⟩ = (w.alloc (.cells #[.int .i64 0, .int .i64 0, .int .i64 0] 25)).cell? ⟨w.heap.size, o, none⟩ := (fun o => (hg.trans hg2).cell_far _ (by simp) (by simp; omega)); have hf : ∀ o, w2.frozen? ⟨w.heap.size, o, none⟩ = (w.alloc (.cells #[.int .i64 0, .int .i64 0, .int .i64 0] 25)).frozen? ⟨w.heap.size, o, none⟩ := (fun o => (hg.trans hg2).frozen_far _ (by simp) (by simp; omega)); have hs2 : w.heap.size < w2.heap.size := (by have := (hg.trans hg2).size; simp at this; omega)))
      have h0 : ∀ i, i < 3 → (w.alloc (.cells #[.int .i64 0, .int .i64 0, .int .i64 0] 25)).cell? ⟨w.heap.size, i, none⟩ = some (.int .i64 0) := fun i hi => by
        rcases (by omega : i = 0 ∨ i = 1 ∨ i = 2) with rfl | rfl | rfl <;> simp [go_sem]
      refine bodyPost_ret (res25 rfl _ _ w.heap.size (.int .i64 r.1) (.int .i64 s.1.1) (.int .i64 s.1.2) rfl ?_ ?_ ?_) rfl ?_
      · rw [World.cell?_alloc_lt _ _ _ (by simpa [World.setCell] using hs2), World.cell?_setCell_other _ _ _ _ (by simp), World.cell?_setCell_other _ _ _ _ (by simp)]
        exact World.cell?_setCell_same _ _ _ ((hc 0).trans (h0 0 (by omega)))
      · rw [World.cell?_alloc_lt _ _ _ (by simpa [World.setCell] using hs2), World.cell?_setCell_other _ _ _ _ (by simp)]
        exact World.cell?_setCell_same _ _ _ ((World.cell?_setCell_other _ _ _ _ (by simp)).trans ((hc 1).trans (h0 1 (by omega))))
      · rw [World.cell?_alloc_lt _ _ _ (by simpa [World.setCell] using hs2)]
        exact World.cell?_setCell_same _ _ _ ((World.cell?_setCell_other _ _ _ _ (by simp)).trans ((World.cell?_setCell_other _ _ _ _ (by simp)).trans ((hc 2).trans (h0 2 (by omega)))))
      · exact Took.ok (by rw [hpn.out]; rfl) ((newSet (newSet (newSet ((hga.trans hg).trans hg2) (Nat.le_refl _) _ _) (Nat.le_refl _) _ _) (Nat.le_refl _) _ _).trans (World.grownBy_alloc _ _ _)) ((((hR2.set (by omega) _ _).set (by omega) _ _).set (by omega) _ _).alloc _)

theorem isKind_t {k : Int} {t : Bool} (w : World) (h : (decide (0 < k) && decide (k < 13)) = t) :
    Calls Tryd.prog 28 #[.int .i64 k] w fun e w' => e = .returned (.bool t) ∧ w' = w := h ▸ isKind_any k w

def pKind (bs : List Int) (k : Nat) : Option (Int × Nat) :=
  if k < bs.length ∧ 0 < bAt bs k ∧ bAt bs k < 13 then some (bAt bs k, k + 1) else none

set_option maxHeartbeats 1000000 in
theorem rdKind (B b o k : Nat) (bs : List Int) (w : World) (hd : Rd w B b o bs) (hr : RestIs w B b o bs k) :
    Calls Tryd.prog 51 #[.pointer (some ⟨B, 0, none⟩)] w fun e w' => Took w B b o bs ((pKind bs k).map fun r => (.int .i64 r.1, r.2)) e w' := by
  have hby := hd.by_ k
  by_cases hlt : k < bs.length
  · by_cases h : 0 < bAt bs k ∧ bAt bs k < 13
    · have hpn : Hid (pKind bs k = some (bAt bs k, k + 1)) := by show pKind bs k = _; rw [pKind, if_pos ⟨hlt, h⟩]
      have ht : (decide (0 < bAt bs k) && decide (bAt bs k < 13)) = true := by simp [h]
      go_enter Tryd.func51, Tryd.ntmps51
      go_wp2_with (first | (go_at_call 60; refine (next_ok B b o k bs _ hd.at_ hr hlt).mono ?_; rintro e w' ⟨rfl, hR', hg'⟩) | (go_at_call 28; refine (isKind_t _ ht).mono ?_; rintro e w'' ⟨rfl, rfl⟩))
      go_ret
      exact Took.ok (by rw [hpn.out]; rfl) hg' hR'
    · have hpn : Hid (pKind bs k = none) := by show pKind bs k = _; rw [pKind, if_neg (fun x => h x.2)]
      have ht : (decide (0 < bAt bs k) && decide (bAt bs k < 13)) = false := by simpa using h
      go_enter Tryd.func51, Tryd.ntmps51
      go_wp2_with (first | (go_at_call 60; refine (next_ok B b o k bs _ hd.at_ hr hlt).mono ?_; rintro e w' ⟨rfl, hR', hg'⟩) | (go_at_call 28; refine (isKind_t _ ht).mono ?_; rintro e w'' ⟨rfl, rfl⟩) | (go_at_call 58; refine (giveUp_any _).mono ?_; rintro e w'' ⟨rfl, rfl⟩))
      exact ⟨rfl, Took.no (by rw [hpn.out]; rfl) hg'⟩
  · have hpn : Hid (pKind bs k = none) := by show pKind bs k = _; rw [pKind, if_neg (fun x => hlt x.1)]
    go_enter Tryd.func51, Tryd.ntmps51
    go_wp2_with (first | (go_at_call 60; refine (next_no B b o k bs _ hr hlt).mono ?_; rintro e w' ⟨rfl, rfl⟩))
    exact ⟨rfl, Took.no (by rw [hpn.out]; rfl) (World.grownBy.refl _ _)⟩

set_option maxHeartbeats 1000000 in
theorem rdEnd (B b o k : Nat) (bs : List Int) (w : World) (hr : RestIs w B b o bs k) :
    Calls Tryd.prog 44 #[.pointer (some ⟨B, 0, none⟩)] w fun e w' => (e = if k < bs.length then .panicked [{ v := .iface 87 (.agg #[]), recovered := false }] else .returned (.tuple #[])) ∧ w' = w := by
  obtain ⟨ao, c, hc, hf, hle, hcap, ha⟩ := hr
  by_cases hlt : k < bs.length
  · rw [if_pos hlt]
    obtain ⟨n, hn⟩ : ∃ n, bs.length - k = n + 1 := ⟨bs.length - k - 1, by omega⟩
    rw [hn] at hc
    go_enter Tryd.func44, Tryd.ntmps44
    go_wp2_with (first | (go_at_call 58; refine (giveUp_any _).mono ?_; rintro e w'' ⟨rfl, rfl⟩))
    simp [bodyPost]
  · rw [if_neg hlt]
    have h0 : bs.length - k = 0 := by omega
    rw [h0] at hc
    go_enter Tryd.func44, Tryd.ntmps44
    go_wp2_with fail
    go_end0
    exact ⟨rfl, rfl⟩

end Go.Proofs.YtdpnmpfkbeommaaDoor
