/-
  hasNoNegative, isMessage.
-/
import Derived.Test.YtdpnmpfkbeommaaDoorB
import Derived.Deep.RegionHeld3
namespace Go.Proofs.YtdpnmpfkbeommaaDoor
open Go.RowKit

def negAt (ds : List (Int × Int × Int)) (i : Nat) : Bool := negD (dKey ds i) (dClk ds i) (dSrv ds i)
def headNeg (m : Msg) : Bool := decide (m.src < 0) || decide (m.dst < 0) || decide (m.clock < 0) || decide (m.op < 0) || decide (m.index < 0) || decide (m.key < 0)
def noNeg (m : Msg) : Bool := !headNeg m && ((List.range m.past.length).all (fun i => !negAt m.past i) && (!negV m.vc m.vs && !negD m.fk m.fc m.fs))

def mn2 (x y : Int) : Int := if y < x then y else x
def mn6 (a b c d e f : Int) : Int := mn2 (mn2 (mn2 (mn2 (mn2 a b) c) d) e) f
theorem run_min6 (ts : Array TypeId) (t : TypeId) (a b c d e f : Int) (w : World) :
    (Builtin.min_ ts t #[.int .i64 a, .int .i64 b, .int .i64 c, .int .i64 d, .int .i64 e, .int .i64 f]).run Tryd.prog w = .ok (.int .i64 (mn6 a b c d e f)) w := by
  simp [Builtin.min_, Builtin.min2, mn6, mn2]; rfl
theorem mn2_neg (x y : Int) : mn2 x y < 0 ↔ (x < 0 ∨ y < 0) := by unfold mn2; split <;> omega
theorem mn6_neg (a b c d e f : Int) : mn6 a b c d e f < 0 ↔ (a < 0 ∨ b < 0 ∨ c < 0 ∨ d < 0 ∨ e < 0 ∨ f < 0) := by
  simp only [mn6, mn2_neg]; omega
theorem headNeg_iff (m : Msg) : headNeg m = decide (mn6 m.src m.dst m.clock m.op m.index m.key < 0) := by
  rw [Bool.eq_iff_iff]; simp only [decide_eq_true_eq, mn6_neg, headNeg, Bool.or_eq_true]; omega

theorem all_neg_false {ds : List (Int × Int × Int)} {k : Nat} (hk : k < ds.length) (h : negAt ds k = true) : (List.range ds.length).all (fun i => !negAt ds i) = false := by
  rw [List.all_eq_false]; exact ⟨k, by simpa using hk, by simp [h]⟩
theorem all_neg_true {ds : List (Int × Int × Int)} (h : ∀ j, j < ds.length → negAt ds j = false) : (List.range ds.length).all (fun i => !negAt ds i) = true := by
  simp; exact h
theorem neg_step {ds : List (Int × Int × Int)} {k : Nat} (h : ∀ j, j < k → negAt ds j = false) (hk : negAt ds k = false) : ∀ j, j < k + 1 → negAt ds j = false := by
  intro j hj
  by_cases e : j = k
  · rw [e]; exact hk
  · exact h j (by omega)

set_option maxHeartbeats 1000000 in
theorem noNeg_any (m : Msg) (w : World) (hd : DepsAt w m.ao m.past) (hr : m.past.length * 24 ≤ 140737488351232) :
    Calls Tryd.prog 29 #[.agg #[.int .i64 m.kind, .int .i64 m.src, .int .i64 m.dst, .int .i64 m.clock, .int .i64 m.op, .int .i64 m.index, .int .i64 m.key, .int .i64 m.vc, .int .i64 m.vs, .int .i64 m.value, .int .i64 m.fk, .int .i64 m.fc, .int .i64 m.fs, .slice m.ao m.past.length m.c, .bool m.settled]] w
      fun e w' => e = .returned (.bool (noNeg m)) ∧ Below w.heap.size w w' := by
  obtain ⟨ki, s, d, cl, op, ix, ke, vc, vs, va, fk, fc, fs, ao, ds, c, se⟩ := m
  simp only at hd hr ⊢
  have hm6 := run_min6
  have hB0 := ((Below.refl w.heap.size w).alloc (Nat.le_refl _) (.cells #[.int .i64 ki, .int .i64 s, .int .i64 d, .int .i64 cl, .int .i64 op, .int .i64 ix, .int .i64 ke, .int .i64 vc, .int .i64 vs, .int .i64 va, .int .i64 fk, .int .i64 fc, .int .i64 fs, .slice ao ds.length c, .bool se] 28))
  by_cases hneg : mn6 s d cl op ix ke < 0
  · go_enter Tryd.func29, Tryd.ntmps29
    go_wp2_with fail
    go_ret
    exact ⟨ret_bool (by simp [noNeg, headNeg_iff, hneg]), hB0⟩
  · have hneg' : decide (mn6 s d cl op ix ke < 0) = false := by simpa using hneg
    go_enter Tryd.func29, Tryd.ntmps29
    go_wp2_with fail
    go_loopw [22] (fun i wr => ∃ k : Nat, k ≤ ds.length ∧ i = .int .i64 k ∧ Hid (∀ j, j < k → negAt ds j = false) ∧ Below (w.heap.size + 1) (w.alloc (.cells #[.int .i64 ki, .int .i64 s, .int .i64 d, .int .i64 cl, .int .i64 op, .int .i64 ix, .int .i64 ke, .int .i64 vc, .int .i64 vs, .int .i64 va, .int .i64 fk, .int .i64 fc, .int .i64 fs, .slice ao ds.length c, .bool se] 28)) wr) (fun i _ => ds.length - (intOf i).toNat)
    case atStart => exact ⟨0, Nat.zero_le _, rfl, fun j hj => absurd hj (Nat.not_lt_zero _), Below.refl _ _⟩
    case round =>
      obtain ⟨k, hk, rfl, hok, hb⟩ := hrel
      have hsz := hb.size
      simp at hsz
      by_cases hlt : k < ds.length
      · obtain ⟨b, o, rfl, hbl, hc⟩ := hd (by omega)
        have hb1 : Below w.heap.size w wr := hB0.trans (hb.mono (by omega))
        have c1 : wr.cell? ⟨b, o + k * 3, none⟩ = some (.int .i64 (dKey ds k)) := (hb1.cell (by exact hbl)).trans (hc k hlt).1
        have c2 : wr.cell? ⟨b, o + k * 3 + 1, none⟩ = some (.int .i64 (dClk ds k)) := (hb1.cell (by exact hbl)).trans (hc k hlt).2.1
        have c3 : wr.cell? ⟨b, o + k * 3 + 2, none⟩ = some (.int .i64 (dSrv ds k)) := (hb1.cell (by exact hbl)).trans (hc k hlt).2.2
        have hfin := hb.alloc (by simpa using hb.size) (.cells #[.int .i64 (dKey ds k), .int .i64 (dClk ds k), .int .i64 (dSrv ds k)] 25)
        clear hc
        cases hz : negD (dKey ds k) (dClk ds k) (dSrv ds k)
        · go_wp2_with (go_at_call 46; refine (negDep_any _ _ _ _).mono ?_; rintro e w' ⟨rfl, hb2⟩)
          go_roundw
          case rel => exact ⟨k + 1, by omega, by go_num, neg_step hok.out hz, hfin.trans (hb2.mono (by simp; omega))⟩
          case measure => simp [intOf]; omega
        · go_wp2_with (go_at_call 46; refine (negDep_any _ _ _ _).mono ?_; rintro e w' ⟨rfl, hb2⟩)
          go_ret
          refine ⟨ret_bool ?_, hB0.trans ((hfin.trans (hb2.mono (by simp; omega))).mono (by omega))⟩
          simp only [noNeg]
          rw [all_neg_false hlt hz]; simp
      · have hc : ∀ o, wr.cell? ⟨w.heap.size, o, none⟩ = (w.alloc (.cells #[.int .i64 ki, .int .i64 s, .int .i64 d, .int .i64 cl, .int .i64 op, .int .i64 ix, .int .i64 ke, .int .i64 vc, .int .i64 vs, .int .i64 va, .int .i64 fk, .int .i64 fc, .int .i64 fs, .slice ao ds.length c, .bool se] 28)).cell? ⟨w.heap.size, o, none⟩ := fun o => hb.cell (by simp)
        have x7 : wr.cell? ⟨w.heap.size, 7, none⟩ = some (.int .i64 vc) := by rw [hc]; simp
        have x8 : wr.cell? ⟨w.heap.size, 8, none⟩ = some (.int .i64 vs) := by rw [hc]; simp
        have x10 : wr.cell? ⟨w.heap.size, 10, none⟩ = some (.int .i64 fk) := by rw [hc]; simp
        have x11 : wr.cell? ⟨w.heap.size, 11, none⟩ = some (.int .i64 fc) := by rw [hc]; simp
        have x12 : wr.cell? ⟨w.heap.size, 12, none⟩ = some (.int .i64 fs) := by rw [hc]; simp
        have hall : (List.range ds.length).all (fun i => !negAt ds i) = true := all_neg_true (fun j hj => hok.out j (by omega))
        have HA := hall
        clear hc
        have Hhd : Hid (headNeg ⟨ki, s, d, cl, op, ix, ke, vc, vs, va, fk, fc, fs, ao, ds, c, se⟩ = false) := by show _ = _; rw [headNeg_iff]; exact hneg'
        cases hz : negV vc vs
        · go_wp2_with (first | (go_at_call 47; refine (negVer_any _ _ _).mono ?_; rintro e w' ⟨rfl, hb2⟩; have y10 : w'.cell? ⟨w.heap.size, 10, none⟩ = some (.int .i64 fk) := (hb2.cell (by simp; omega)).trans x10; have y11 : w'.cell? ⟨w.heap.size, 11, none⟩ = some (.int .i64 fc) := (hb2.cell (by simp; omega)).trans x11; have y12 : w'.cell? ⟨w.heap.size, 12, none⟩ = some (.int .i64 fs) := (hb2.cell (by simp; omega)).trans x12) | (go_at_call 46; refine (negDep_any _ _ _ _).mono ?_; rintro e w'' ⟨rfl, hb3⟩))
          go_ret
          refine ⟨ret_bool ?_, ?_⟩
          · simp only [noNeg]; rw [hall, Hhd.out, hz]; simp
          · exact hB0.trans ((hb.mono (by omega)).trans ((hb2.mono (by omega)).trans (hb3.mono (by have := hb2.size; omega))))
        · go_wp2_with (first | (go_at_call 47; refine (negVer_any _ _ _).mono ?_; rintro e w' ⟨rfl, hb2⟩))
          go_ret
          refine ⟨ret_bool ?_, ?_⟩
          · simp only [noNeg]; rw [hall, Hhd.out, hz]; simp
          · exact hB0.trans ((hb.mono (by omega)).trans (hb2.mono (by omega)))
end Go.Proofs.YtdpnmpfkbeommaaDoor
