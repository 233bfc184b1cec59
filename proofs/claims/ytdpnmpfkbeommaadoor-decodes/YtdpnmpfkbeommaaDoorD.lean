/-
  The document's answer: fields, has, past.
-/
import Derived.Test.YtdpnmpfkbeommaaDoorC
namespace Go.Proofs.YtdpnmpfkbeommaaDoor
open Go.RowKit

def str (l : List UInt8) : ByteArray := ⟨l.toArray⟩
/-- The letters of what a kind says. -/
def letters (k : Int) : List UInt8 :=
  if k = 1 then [111, 107, 120, 112] else if k = 2 then [111, 107, 118] else if k = 3 then [111, 105, 107] else if k = 4 then [111, 105, 107, 118, 120, 112, 115]
  else if k = 5 then [111, 105, 107, 118] else if k = 6 then [111, 105, 107, 118, 120, 112, 115] else if k = 7 then [107, 118, 120, 112] else if k = 8 then [107, 118]
  else if k = 9 then [107, 118, 102] else if k = 10 then [107, 118, 102] else if k = 11 then [107, 118] else if k = 12 then [107, 118] else []

theorem ret_str {a b : ByteArray} (h : a = b) : Ending.returned (.string a) = .returned (.string b) := by rw [h]

set_option maxHeartbeats 1000000 in
theorem fields_any (k : Int) (w : World) :
    Calls Tryd.prog 22 #[.int .i64 k] w fun e w' => e = .returned (.string (str (letters k))) ∧ w' = w := by
  go_enter Tryd.func22, Tryd.ntmps22
  go_wp2
  all_goals go_ret
  all_goals (refine ⟨ret_str ?_, rfl⟩)
  all_goals (simp only [beq_iff_eq, beq_eq_false_iff_ne, ne_eq] at *)
  all_goals (first | (subst_vars; rfl) | (unfold letters; simp_all; rfl))

/-- Does a text have a letter? -/
def anyB (s : ByteArray) (c : Int) : Bool := s.data.toList.any (fun x => (x.toNat : Int) == c)
theorem anyB_true {s : ByteArray} {c : Int} {k : Nat} (h : k < s.size) (hx : ((s[k].toNat : Int) == c) = true) : anyB s c = true := by
  unfold anyB
  rw [List.any_eq_true]
  exact ⟨s[k], by exact Array.getElem_mem_toList (by simpa using h), hx⟩
theorem anyB_false {s : ByteArray} {c : Int} (hx : ∀ j, ∀ h : j < s.size, ((s[j].toNat : Int) == c) = false) : anyB s c = false := by
  unfold anyB
  rw [List.any_eq_false]
  intro x hm
  obtain ⟨j, hj, rfl⟩ := List.getElem_of_mem hm
  have := hx j (by simpa using hj)
  simp only [beq_eq_false_iff_ne, ne_eq] at this
  simp only [beq_iff_eq]
  exact this

set_option maxHeartbeats 1000000 in
theorem rhas_any (s : ByteArray) (c : Int) (w : World) (hs : s.size ≤ 100) :
    Calls Tryd.prog 24 #[.string s, .int .u8 c] w fun e w' => e = .returned (.bool (anyB s c)) ∧ w' = w := by
  go_enter Tryd.func24, Tryd.ntmps24
  go_wp2
  go_loop [5] (fun i => ∃ k : Nat, k ≤ s.size ∧ i = .int .i64 k ∧ Hid (∀ j, j < k → ∀ h : j < s.size, ((s[j].toNat : Int) == c) = false)) (fun i => s.size - (intOf i).toNat)
  case atStart => exact ⟨0, Nat.zero_le _, rfl, fun j hj => absurd hj (Nat.not_lt_zero _)⟩
  case round =>
    obtain ⟨k, hk, rfl, hno⟩ := hrel
    by_cases hlt : k < s.size
    · cases hx : ((s[k].toNat : Int) == c)
      · go_wp2
        go_round
        case rel =>
          refine ⟨k + 1, by omega, by go_num, ?_⟩
          intro j hj h
          by_cases e : j = k
          · subst e; exact hx
          · exact hno.out j (by omega) h
        case measure => simp [intOf]; omega
      · go_wp2
        go_ret
        exact ⟨ret_bool (anyB_true hlt hx).symm, rfl⟩
    · go_wp2
      go_ret
      exact ⟨ret_bool (anyB_false (fun j h => hno.out j (by omega) h)).symm, rfl⟩

def rokAt (ds : List (Int × Int × Int)) (i : Nat) : Bool := !negAt ds i && okAt ds i
def rpast (ds : List (Int × Int × Int)) : Bool := (List.range ds.length).all (rokAt ds) && decide (ds.length ≤ 6)
theorem rpast_false {ds : List (Int × Int × Int)} {k : Nat} (hk : k < ds.length) (h : rokAt ds k = false) : rpast ds = false := by
  unfold rpast
  rw [Bool.and_eq_false_iff]; left
  rw [List.all_eq_false]
  exact ⟨k, by simpa using hk, by simp [h]⟩
theorem rpast_end {ds : List (Int × Int × Int)} (h : ∀ j, j < ds.length → rokAt ds j = true) : rpast ds = decide (ds.length ≤ 6) := by
  unfold rpast
  have : (List.range ds.length).all (rokAt ds) = true := by simp; exact h
  rw [this]; simp
theorem rok_step {ds : List (Int × Int × Int)} {k : Nat} (h : ∀ j, j < k → rokAt ds j = true) (hk : rokAt ds k = true) : ∀ j, j < k + 1 → rokAt ds j = true := by
  intro j hj
  by_cases e : j = k
  · rw [e]; exact hk
  · exact h j (by omega)

theorem rok_mk {ds : List (Int × Int × Int)} {k : Nat} (n1 : 0 ≤ dKey ds k) (n2 : 0 ≤ dClk ds k) (n3 : 0 ≤ dSrv ds k) (z : (dClk ds k == 0) = false ∨ (dSrv ds k == 0) = false) (h : k = 0 ∨ dKey ds (k - 1) < dKey ds k) : rokAt ds k = true := by
  unfold rokAt okAt negAt negD negV eqV
  simp at z
  simp [n1, n2, n3, h]
  omega

set_option maxRecDepth 100000 in
set_option maxHeartbeats 4000000 in
theorem rpast_any (ao : Option Addr) (ds : List (Int × Int × Int)) (c : Nat) (w : World) (hd : DepsAt w ao ds) (hr : ds.length * 24 ≤ 140737488351232) :
    Calls Tryd.prog 23 #[.slice ao ds.length c] w fun e w' => e = .returned (.bool (rpast ds)) ∧ Below w.heap.size w w' := by
  go_enter Tryd.func23, Tryd.ntmps23
  go_wp2
  go_loopw [3] (fun i wr => ∃ k : Nat, k ≤ ds.length ∧ i = .int .i64 k ∧ Hid (∀ j, j < k → rokAt ds j = true) ∧ Below w.heap.size w wr) (fun i _ => ds.length - (intOf i).toNat)
  case atStart => exact ⟨0, Nat.zero_le _, rfl, fun j hj => absurd hj (Nat.not_lt_zero _), Below.refl _ _⟩
  case round =>
    obtain ⟨k, hk, rfl, hok, hb⟩ := hrel
    by_cases hlt : k < ds.length
    · obtain ⟨b, o, rfl, hbl, hc⟩ := hd (by omega)
      have c1 : wr.cell? ⟨b, o + k * 3, none⟩ = some (.int .i64 (dKey ds k)) := (hb.cell (by exact hbl)).trans (hc k hlt).1
      have c2 : wr.cell? ⟨b, o + k * 3 + 1, none⟩ = some (.int .i64 (dClk ds k)) := (hb.cell (by exact hbl)).trans (hc k hlt).2.1
      have c3 : wr.cell? ⟨b, o + k * 3 + 2, none⟩ = some (.int .i64 (dSrv ds k)) := (hb.cell (by exact hbl)).trans (hc k hlt).2.2
      have hlt' : (k : Int) < (ds.length : Int) := by omega
      have hk0' : (0 : Int) ≤ (k : Int) := by omega
      by_cases n1 : dKey ds k < 0
      · clear hc
        go_wp2
        go_quiet (fail)
        go_wp2
        go_ret
        exact ⟨ret_bool (rpast_false hlt (by unfold rokAt okAt negAt negD negV eqV; simp [n1])).symm, below_drewN hb _⟩
      have n1' : decide (dKey ds k < 0) = false := by simpa using n1
      by_cases n2 : dClk ds k < 0
      · clear hc
        go_wp2
        go_quiet (fail)
        go_wp2
        go_ret
        exact ⟨ret_bool (rpast_false hlt (by unfold rokAt okAt negAt negD negV eqV; simp [n2])).symm, below_drewN hb _⟩
      have n2' : decide (dClk ds k < 0) = false := by simpa using n2
      by_cases n3 : dSrv ds k < 0
      · clear hc
        go_wp2
        go_quiet (fail)
        go_wp2
        go_ret
        exact ⟨ret_bool (rpast_false hlt (by unfold rokAt okAt negAt negD negV eqV; simp [n3])).symm, below_drewN hb _⟩
      have n3' : decide (dSrv ds k < 0) = false := by simpa using n3
      cases z1 : (dClk ds k == 0)
      · by_cases hk0 : k = 0
        · have hpos : decide (0 < k) = false := by simp [hk0]
          have H0 : Hid (k = 0) := hk0
          clear hc hk0
          go_wp2
          go_quiet (fail)
          go_wp2
          go_roundw
          case rel => exact ⟨k + 1, by omega, by go_num, rok_step hok.out (rok_mk (by omega) (by omega) (by omega) (.inl z1) (.inl H0.out)), below_drewN hb _⟩
          case measure => simp [intOf]; omega
        · obtain ⟨j, hj⟩ : ∃ j, j = k - 1 := ⟨_, rfl⟩
          have p1 : wr.cell? ⟨b, o + j * 3, none⟩ = some (.int .i64 (dKey ds j)) := (hb.cell (by exact hbl)).trans (hc j (by omega)).1
          have hw : IntKind.i64.wrap ((k : Int) - 1) = (j : Int) := by rw [wrap_sub_one (by omega) (by omega)]; omega
          have hjl : j < ds.length := by omega
          have hjl' : (j : Int) < (ds.length : Int) := by omega
          have hposd : decide (0 < k) = true := by simp; omega
          have HJ : Hid (j = k - 1) := hj
          have HK : Hid (¬ k = 0) := hk0
          clear hc hj hk0
          by_cases hge : dKey ds k ≤ dKey ds j
          · go_wp2
            go_quiet (fail)
            go_wp2
            go_ret
            exact ⟨ret_bool (rpast_false hlt (by unfold rokAt okAt negAt negD negV eqV; rw [HJ.out] at hge; simp [HK.out, hge])).symm, below_drewN hb _⟩
          · have hge' : decide (dKey ds k ≤ dKey ds j) = false := by simpa using hge
            go_wp2
            go_quiet (fail)
            go_wp2
            go_roundw
            case rel => exact ⟨k + 1, by omega, by go_num, rok_step hok.out (rok_mk (by omega) (by omega) (by omega) (.inl z1) (.inr (by rw [HJ.out] at hge; omega))), below_drewN hb _⟩
            case measure => simp [intOf]; omega
      · cases z2 : (dSrv ds k == 0)
        · by_cases hk0 : k = 0
          · have hpos : decide (0 < k) = false := by simp [hk0]
            have H0 : Hid (k = 0) := hk0
            clear hc hk0
            go_wp2
            go_quiet (fail)
            go_wp2
            go_roundw
            case rel => exact ⟨k + 1, by omega, by go_num, rok_step hok.out (rok_mk (by omega) (by omega) (by omega) (.inr z2) (.inl H0.out)), below_drewN hb _⟩
            case measure => simp [intOf]; omega
          · obtain ⟨j, hj⟩ : ∃ j, j = k - 1 := ⟨_, rfl⟩
            have p1 : wr.cell? ⟨b, o + j * 3, none⟩ = some (.int .i64 (dKey ds j)) := (hb.cell (by exact hbl)).trans (hc j (by omega)).1
            have hw : IntKind.i64.wrap ((k : Int) - 1) = (j : Int) := by rw [wrap_sub_one (by omega) (by omega)]; omega
            have hjl : j < ds.length := by omega
            have hjl' : (j : Int) < (ds.length : Int) := by omega
            have hposd : decide (0 < k) = true := by simp; omega
            have HJ : Hid (j = k - 1) := hj
            have HK : Hid (¬ k = 0) := hk0
            clear hc hj hk0
            by_cases hge : dKey ds k ≤ dKey ds j
            · go_wp2
              go_quiet (fail)
              go_wp2
              go_ret
              exact ⟨ret_bool (rpast_false hlt (by unfold rokAt okAt negAt negD negV eqV; rw [HJ.out] at hge; simp [HK.out, hge])).symm, below_drewN hb _⟩
            · have hge' : decide (dKey ds k ≤ dKey ds j) = false := by simpa using hge
              go_wp2
              go_quiet (fail)
              go_wp2
              go_roundw
              case rel => exact ⟨k + 1, by omega, by go_num, rok_step hok.out (rok_mk (by omega) (by omega) (by omega) (.inr z2) (.inr (by rw [HJ.out] at hge; omega))), below_drewN hb _⟩
              case measure => simp [intOf]; omega
        · clear hc
          go_wp2
          go_quiet (fail)
          go_wp2
          go_ret
          exact ⟨ret_bool (rpast_false hlt (by unfold rokAt okAt negAt negD negV eqV; simp [z1, z2])).symm, below_drewN hb _⟩
    · go_wp2
      go_ret
      exact ⟨ret_bool (by rw [rpast_end (fun j hj => hok.out j (by omega))]; simp; omega), hb⟩

end Go.Proofs.YtdpnmpfkbeommaaDoor
