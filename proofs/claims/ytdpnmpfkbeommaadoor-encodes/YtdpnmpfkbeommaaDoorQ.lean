/-
  kept, keptStructs, handed.
-/
import Derived.Test.YtdpnmpfkbeommaaDoorP
import Derived.BigQuiet
import Derived.Deep.QuietTactic
namespace Go.Proofs.YtdpnmpfkbeommaaDoor
open Go.RowKit

theorem digit_any' (n i : Nat) (x : Int) (hx : x = (n : Int)) (w : World) (hn : n ≤ 1000000) (hi : i ≤ 1000000) :
    Calls Tryd.prog 13 #[.int .i64 x, .int .i64 i] w fun e w' => e = .returned (.int .u8 (dig n i)) ∧ w' = w := by
  subst hx; exact digit_any n i w hn hi

theorem drewN2 (w : World) (a b : Nat) : (w.drewN a).drewN b = w.drewN (a + b) := by
  simp [World.drewN, Nat.add_assoc]
/-- The cells of the law's own block. -/
structure Own (w : World) (B nb np : Nat) (vb vp : Value) : Prop where
  c1 : w.cell? ⟨B, 1, none⟩ = some vb
  c2 : w.cell? ⟨B, 2, none⟩ = some (.slice none 0 0)
  c3 : w.cell? ⟨B, 3, none⟩ = some (.slice none 0 0)
  c4 : w.cell? ⟨B, 4, none⟩ = some (.slice none 0 0)
  c5 : w.cell? ⟨B, 5, none⟩ = some (.slice none 0 0)
  c6 : w.cell? ⟨B, 6, none⟩ = some (.slice none 0 0)
  c7 : w.cell? ⟨B, 7, none⟩ = some (.slice none 0 0)
  c8 : w.cell? ⟨B, 8, none⟩ = some (.slice none 0 0)
  c9 : w.cell? ⟨B, 9, none⟩ = some vp
theorem Law.own {w : World} {base B nb np n4 F M : Nat} {vb vp : Value} {bs ps : List Value} (h : Law w base B nb np n4 F M vb vp bs ps) : Own w B nb np vb vp := by
  constructor <;> (rw [cell_of_row _ _ _ _ _ _ h.blk]; rfl)

set_option maxRecDepth 100000 in
set_option maxHeartbeats 2000000 in
theorem keptStructs_any (w : World) (B nb np : Nat) (vb vp : Value) (ho : Own w B nb np vb vp) :
    Calls Tryd.prog 14 #[.pointer (some ⟨B, 0, none⟩)] w fun e w' => e = .returned (.bool true) ∧ w' = w := by
  have c5 := ho.c5
  have c6 := ho.c6
  go_enter Tryd.func14, Tryd.ntmps14
  go_wp2_with fail
  refine wp_loop_rounds 1 ?_
  rw [rounds_succ]
  go_wp2_with fail
  refine wp_loop_rounds 1 ?_
  rw [rounds_succ]
  go_wp2
  go_ret
  exact ⟨rfl, rfl⟩

set_option maxRecDepth 100000 in
set_option maxHeartbeats 2000000 in
theorem handed_any (w : World) (base B nb np n4 F M : Nat) (vb vp : Value) (bs ps : List Value) (hL : Law w base B nb np n4 F M vb vp bs ps) (hnp : np ≤ 100) :
    Calls Tryd.prog 15 #[.pointer (some ⟨B, 0, none⟩)] w fun e w' => e = .returned (.bool true) ∧ w' = w := by
  have c7 := hL.own.c7
  have c8 := hL.own.c8
  have c9 := hL.own.c9
  go_enter Tryd.func15, Tryd.ntmps15
  go_wp2_with fail
  refine wp_loop_rounds 1 ?_
  rw [rounds_succ]
  go_wp2_with fail
  refine wp_loop_rounds 1 ?_
  rw [rounds_succ]
  go_wp2_with fail
  obtain ⟨aop, cpp, hvp⟩ : ∃ aop cpp, vp = .slice aop np cpp := by
    rcases hL.rp.2 with ⟨h, h0⟩ | ⟨g, cap, cur, h, _⟩
    · exact ⟨none, 0, by rw [h, h0]⟩
    · exact ⟨_, cap, h⟩
  subst hvp
  go_loop [7] (fun i => ∃ a : Nat, a ≤ np ∧ i = .int .i64 a) (fun i => np - (intOf i).toNat)
  case atStart => exact ⟨0, Nat.zero_le _, rfl⟩
  case round =>
    obtain ⟨a, ha, rfl⟩ := hrel
    by_cases hlt : a < np
    · obtain ⟨gp, capp, hform, _, _⟩ := hL.rp.form (by omega)
      simp only [Value.slice.injEq] at hform
      obtain ⟨rfl, _, rfl⟩ := hform
      obtain ⟨v, hv, hPE⟩ := hL.ep a hlt
      obtain ⟨g, len, cap2, cur, rfl, hlen, hh, hdd⟩ := hPE
      have ca : w.cell? ⟨gp, a, none⟩ = some (.slice (some ⟨g, 0, none⟩) len cap2) := (hL.rp.cellAt a (by omega)).trans hv
      have HH : Hid (w.heap[g]? = some (.cells cur 25 (0, 0))) := hh
      have HD : Hid (∀ k, k < len → cur[k * 3]? = some (.int .i64 (-8))) := hdd
      clear hv hh hdd
      go_wp2_with fail
      go_loop [8] (fun i => ∃ c : Nat, c ≤ len ∧ i = .int .i64 c) (fun i => len - (intOf i).toNat)
      case atStart => exact ⟨0, Nat.zero_le _, rfl⟩
      case round =>
        obtain ⟨c, hc, rfl⟩ := hrel
        by_cases hlc : c < len
        · have cc : w.cell? ⟨g, c * 3, none⟩ = some (.int .i64 (-8)) := by rw [cell_of_row _ _ _ _ _ _ HH.out]; exact HD.out c hlc
          go_wp2
          go_round
          case rel => exact ⟨c + 1, by omega, by go_num⟩
          case measure => simp [intOf]; omega
        · go_wp2
          go_round
          case rel => exact ⟨a + 1, by omega, by go_num⟩
          case measure => simp [intOf]; omega
    · go_wp2
      go_ret
      exact ⟨rfl, rfl⟩

set_option maxRecDepth 100000 in
set_option maxHeartbeats 4000000 in
theorem kept_any (w : World) (base B nb np n4 F M : Nat) (vb vp : Value) (bs ps : List Value) (hL : Law w base B nb np n4 F M vb vp bs ps) (hnb : nb ≤ 100) (hnp : np ≤ 100) :
    Calls Tryd.prog 6 #[.pointer (some ⟨B, 0, none⟩)] w fun e w' => e = .returned (.bool true) ∧ ∃ n, w' = w.drewN n := by
  have c1 := hL.own.c1
  have c2 := hL.own.c2
  have c3 := hL.own.c3
  have c4 := hL.own.c4
  obtain ⟨aob, cpb, hvb⟩ : ∃ aob cpb, vb = .slice aob nb cpb := by
    rcases hL.rb.2 with ⟨h, h0⟩ | ⟨g, cap, cur, h, _⟩
    · exact ⟨none, 0, by rw [h, h0]⟩
    · exact ⟨_, cap, h⟩
  subst hvb
  go_enter Tryd.func6, Tryd.ntmps6
  go_wp2_with fail
  go_loopw [3] (fun i wr => ∃ a : Nat, a ≤ nb ∧ i = .int .i64 a ∧ Hid (∃ q, wr = w.drewN q)) (fun i _ => nb - (intOf i).toNat)
  case atStart => exact ⟨0, Nat.zero_le _, rfl, ⟨0, rfl⟩⟩
  case round =>
    obtain ⟨a, ha, rfl, HQ⟩ := hrel
    have hr1 : ∀ b o, wr.cell? ⟨b, o, none⟩ = w.cell? ⟨b, o, none⟩ := fun b o => by obtain ⟨q, e⟩ := HQ.out; rw [e]; rfl
    by_cases hlt : a < nb
    · obtain ⟨gb, capb, hform, _, _⟩ := hL.rb.form (by omega)
      simp only [Value.slice.injEq] at hform
      obtain ⟨rfl, _, rfl⟩ := hform
      obtain ⟨v, hv, hBE, _⟩ := hL.eb a hlt
      obtain ⟨ao, len, cap2, rfl, hlen, hp⟩ := hBE
      have ca : w.cell? ⟨gb, a, none⟩ = some (.slice ao len cap2) := (hL.rb.cellAt a (by omega)).trans hv
      have HP : Hid (0 < len → ∃ g cur, ao = some ⟨g, 0, none⟩ ∧ w.heap[g]? = some (.cells cur 5 (0, 0)) ∧ ∀ k, k < len → cur[k]? = some (.int .u8 (dig (a / 4 * 4) k))) := hp
      have ha1 : (a : Int) < (nb : Int) := by omega
      have ha0 : (0 : Int) ≤ (a : Int) := by omega
      clear hv hp
      go_wp2_with fail
      go_loopw [4] (fun i wr => ∃ c : Nat, c ≤ len ∧ i = .int .i64 c ∧ Hid (∃ q, wr = w.drewN q)) (fun i _ => len - (intOf i).toNat)
      case atStart => exact ⟨0, Nat.zero_le _, rfl, HQ⟩
      case round =>
        obtain ⟨c, hc, rfl, HQ2⟩ := hrel
        clear hr1
        have hr2 : ∀ b o, wr.cell? ⟨b, o, none⟩ = w.cell? ⟨b, o, none⟩ := fun b o => by obtain ⟨q, e⟩ := HQ2.out; rw [e]; rfl
        by_cases hlc : c < len
        · obtain ⟨g, cur, hao, hh, hdd⟩ := HP.out (by omega)
          subst hao
          have cc : w.cell? ⟨g, c, none⟩ = some (.int .u8 (dig (a / 4 * 4) c)) := by rw [cell_of_row _ _ _ _ _ _ hh]; exact hdd c hlc
          have hc1 : (c : Int) < (len : Int) := by omega
          have hc0 : (0 : Int) ≤ (c : Int) := by omega
          clear hh hdd
          have hw1 : IntKind.i64.wrap ((a : Int) / 4) = (a : Int) / 4 := by simp [IntKind.wrap, IntKind.bits, IntKind.signed]; omega
          have hw2 : IntKind.i64.wrap ((a : Int) / 4 * 4) = (a : Int) / 4 * 4 := by simp [IntKind.wrap, IntKind.bits, IntKind.signed]; omega
          go_wp2_with fail
          have hdg : ∀ w', Calls Tryd.prog 13 #[.int .i64 ((a : Int) / 4 * 4), .int .i64 (c : Int)] w' fun e w'' => e = .returned (.int .u8 (dig (a / 4 * 4) c)) ∧ w'' = w' := fun w' => digit_any' (a / 4 * 4) c _ (by omega) w' (by omega) (by omega)
          have HDG : Hid (∀ w', Calls Tryd.prog 13 #[.int .i64 ((a : Int) / 4 * 4), .int .i64 (c : Int)] w' fun e w'' => e = .returned (.int .u8 (dig (a / 4 * 4) c)) ∧ w'' = w') := hdg
          clear hdg
          go_quiet ((go_at_call 13; exact Calls.quiet_of_same (HDG.out _)))
          go_wp2_with fail
          go_roundw
          case rel => exact ⟨c + 1, by omega, by go_num, by obtain ⟨q, e⟩ := HQ2.out; exact ⟨q + nq, by rw [e]; exact drewN2 w q nq⟩⟩
          case measure => simp [intOf]; omega
        · go_wp2_with fail
          go_roundw
          case rel => exact ⟨a + 1, by omega, by go_num, HQ2⟩
          case measure => simp [intOf]; omega
    · have HLd : Hid (Law wr base B nb np n4 F M (.slice aob nb cpb) vp bs ps) := by
        obtain ⟨q, e⟩ := HQ.out
        rw [e]
        exact hL.same (fun b _ => rfl)
      go_wp2_with fail
      refine wp_loop_rounds 1 ?_
      rw [rounds_succ]
      go_wp2_with fail
      refine wp_loop_rounds 1 ?_
      rw [rounds_succ]
      go_wp2_with fail
      refine wp_loop_rounds 1 ?_
      rw [rounds_succ]
      go_wp2_with (first | (go_at_call 14; refine (keptStructs_any _ B nb np _ _ HLd.out.own).mono ?_; rintro e w' ⟨rfl, rfl⟩) | (go_at_call 15; refine (handed_any _ base B nb np n4 F M _ _ bs ps HLd.out hnp).mono ?_; rintro e w' ⟨rfl, rfl⟩))
      go_ret
      exact ⟨rfl, HQ.out⟩
end Go.Proofs.YtdpnmpfkbeommaaDoor
