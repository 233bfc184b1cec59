/-
  Lists of key and version in memory; isPast, hasNoNegative, isMessage.
-/
import Derived.Test.YtdpnmpfkbeommaaDoorA
namespace Go.Proofs.YtdpnmpfkbeommaaDoor
open Go.RowKit

def dKey (ds : List (Int × Int × Int)) (i : Nat) : Int := (ds.getD i (0, 0, 0)).1
def dClk (ds : List (Int × Int × Int)) (i : Nat) : Int := (ds.getD i (0, 0, 0)).2.1
def dSrv (ds : List (Int × Int × Int)) (i : Nat) : Int := (ds.getD i (0, 0, 0)).2.2

/-- The slice at ao reads as ds. -/
def DepsAt (w : World) (ao : Option Addr) (ds : List (Int × Int × Int)) : Prop :=
  0 < ds.length → ∃ b o, ao = some ⟨b, o, none⟩ ∧ b < w.heap.size ∧ ∀ i, i < ds.length →
    w.cell? ⟨b, o + i * 3, none⟩ = some (.int .i64 (dKey ds i)) ∧ w.cell? ⟨b, o + i * 3 + 1, none⟩ = some (.int .i64 (dClk ds i)) ∧ w.cell? ⟨b, o + i * 3 + 2, none⟩ = some (.int .i64 (dSrv ds i))

theorem DepsAt.below {w w' : World} {ao : Option Addr} {ds : List (Int × Int × Int)} {B : Nat} (h : DepsAt w ao ds) (hb : Below B w w') (hB : w.heap.size ≤ B) : DepsAt w' ao ds := by
  intro hp
  obtain ⟨b, o, rfl, hlt, hc⟩ := h hp
  refine ⟨b, o, rfl, Nat.lt_of_lt_of_le hlt hb.size, fun i hi => ?_⟩
  obtain ⟨h1, h2, h3⟩ := hc i hi
  exact ⟨(hb.cell (by exact Nat.lt_of_lt_of_le hlt hB)).trans h1, (hb.cell (by exact Nat.lt_of_lt_of_le hlt hB)).trans h2, (hb.cell (by exact Nat.lt_of_lt_of_le hlt hB)).trans h3⟩

def okAt (ds : List (Int × Int × Int)) (i : Nat) : Bool := !(eqV (dClk ds i) (dSrv ds i) 0 0) && (decide (i = 0) || decide (dKey ds (i - 1) < dKey ds i))
def pastOk (ds : List (Int × Int × Int)) : Bool := decide (ds.length ≤ 6) && (List.range ds.length).all (okAt ds)

theorem pastOk_false {ds : List (Int × Int × Int)} {k : Nat} (hk : k < ds.length) (h : okAt ds k = false) : pastOk ds = false := by
  unfold pastOk
  rw [Bool.and_eq_false_iff]; right
  rw [List.all_eq_false]
  exact ⟨k, by simpa using hk, by simp [h]⟩
theorem pastOk_true {ds : List (Int × Int × Int)} (h6 : ds.length ≤ 6) (h : ∀ j, j < ds.length → okAt ds j = true) : pastOk ds = true := by
  unfold pastOk
  simp [h6]
  exact h
theorem pastOk_long {ds : List (Int × Int × Int)} (h6 : ¬ ds.length ≤ 6) : pastOk ds = false := by simp [pastOk, h6]
theorem ret_bool {a b : Bool} (h : a = b) : Ending.returned (.bool a) = .returned (.bool b) := by rw [h]
theorem ok_step {ds : List (Int × Int × Int)} {k : Nat} (h : ∀ j, j < k → okAt ds j = true) (hk : okAt ds k = true) : ∀ j, j < k + 1 → okAt ds j = true := by
  intro j hj
  by_cases e : j = k
  · rw [e]; exact hk
  · exact h j (by omega)

theorem wrap_sub_one {k : Nat} (h : 0 < k) (h2 : k ≤ 140737488351232) : IntKind.i64.wrap ((k : Int) - 1) = (k : Int) - 1 := by
  simp only [IntKind.wrap]
  show _ = _
  simp [IntKind.bits, IntKind.signed]
  omega

set_option maxHeartbeats 1000000 in
theorem isPast_any (ao : Option Addr) (ds : List (Int × Int × Int)) (c : Nat) (w : World) (hd : DepsAt w ao ds) (hr : ds.length * 24 ≤ 140737488351232) :
    Calls Tryd.prog 31 #[.slice ao ds.length c] w fun e w' => e = .returned (.bool (pastOk ds)) ∧ Below w.heap.size w w' := by
  have e23 := eql23
  by_cases h6 : ds.length ≤ 6
  · go_enter Tryd.func31, Tryd.ntmps31
    go_wp2
    go_loopw [10] (fun i wr => ∃ k : Nat, k ≤ ds.length ∧ i = .int .i64 k ∧ Hid (∀ j, j < k → okAt ds j = true) ∧ Below w.heap.size w wr) (fun i _ => ds.length - (intOf i).toNat)
    case atStart => exact ⟨0, Nat.zero_le _, rfl, fun j hj => absurd hj (Nat.not_lt_zero _), Below.refl _ _⟩
    case round =>
      obtain ⟨k, hk, rfl, hok, hb⟩ := hrel
      by_cases hlt : k < ds.length
      · obtain ⟨b, o, rfl, hbl, hc⟩ := hd (by omega)
        have c1 : wr.cell? ⟨b, o + k * 3, none⟩ = some (.int .i64 (dKey ds k)) := (hb.cell (by exact hbl)).trans (hc k hlt).1
        have c2 : wr.cell? ⟨b, o + k * 3 + 1, none⟩ = some (.int .i64 (dClk ds k)) := (hb.cell (by exact hbl)).trans (hc k hlt).2.1
        have c3 : wr.cell? ⟨b, o + k * 3 + 2, none⟩ = some (.int .i64 (dSrv ds k)) := (hb.cell (by exact hbl)).trans (hc k hlt).2.2
        have hfin := (hb.alloc hb.size (.cells #[.int .i64 (dKey ds k), .int .i64 (dClk ds k), .int .i64 (dSrv ds k)] 25))
        cases hz : eqV (dClk ds k) (dSrv ds k) 0 0
        · by_cases hk0 : k = 0
          · have hpos : decide (0 < k) = false := by simp [hk0]
            have H0 : Hid (k = 0) := hk0
            clear hc hk0
            go_wp2
            go_quiet (fail)
            go_wp2
            go_roundw
            case rel => exact ⟨k + 1, by omega, by go_num, ok_step hok.out (by unfold okAt; rw [hz]; simp [H0.out]), below_drewN hfin _⟩
            case measure => simp [intOf]; omega
          · obtain ⟨j, hj⟩ : ∃ j, j = k - 1 := ⟨_, rfl⟩
            have p1 : (wr.alloc (.cells #[.int .i64 (dKey ds k), .int .i64 (dClk ds k), .int .i64 (dSrv ds k)] 25)).cell? ⟨b, o + j * 3, none⟩ = some (.int .i64 (dKey ds j)) := (hfin.cell (by exact hbl)).trans (hc j (by omega)).1
            have hw : IntKind.i64.wrap ((k : Int) - 1) = (j : Int) := by rw [wrap_sub_one (by omega) (by omega)]; omega
            have hjl : j < ds.length := by omega
            have hjl' : (j : Int) < (ds.length : Int) := by omega
            have hposd : decide (0 < k) = true := by simp; omega
            have HJ : Hid (j = k - 1) := hj
            have HK : Hid (¬ k = 0) := hk0
            clear hc hj hk0
            by_cases hge : dKey ds k ≤ dKey ds j
            · go_wp2
              go_quiet (fail)
              go_wp2
              go_ret
              exact ⟨ret_bool (pastOk_false hlt (by unfold okAt; rw [HJ.out] at hge; simp [hge, HK.out])).symm, below_drewN hfin _⟩
            · have hge' : decide (dKey ds k ≤ dKey ds j) = false := by simpa using hge
              go_wp2
              go_quiet (fail)
              go_wp2
              go_roundw
              case rel => exact ⟨k + 1, by omega, by go_num, ok_step hok.out (by unfold okAt; rw [HJ.out] at hge; rw [hz]; simp; right; omega), below_drewN hfin _⟩
              case measure => simp [intOf]; omega
        · clear hc
          go_wp2
          go_quiet (fail)
          go_wp2
          go_ret
          exact ⟨ret_bool (pastOk_false hlt (by simp [okAt, hz])).symm, below_drewN hfin _⟩
      · go_wp2
        go_ret
        exact ⟨ret_bool (pastOk_true h6 (fun j hj => hok.out j (by omega))).symm, hb⟩
  · go_enter Tryd.func31, Tryd.ntmps31
    go_wp2
    go_ret
    exact ⟨ret_bool (pastOk_long h6).symm, Below.refl _ _⟩

end Go.Proofs.YtdpnmpfkbeommaaDoor
