/-
  The document's Message.
-/
import Derived.Test.YtdpnmpfkbeommaaDoorD
import Derived.Test.YtdpnmpfkbeommaaDoorM
namespace Go.Proofs.YtdpnmpfkbeommaaDoor
open Go.RowKit

def n11 (m : Msg) : List Int := [m.src, m.dst, m.clock, m.op, m.index, m.key, m.vc, m.vs, m.fk, m.fc, m.fs]
def nAt (m : Msg) (i : Nat) : Int := (n11 m).getD i 0
def allNN (m : Msg) : Bool := (List.range 11).all (fun i => decide (0 ≤ nAt m i))
theorem allNN_false {m : Msg} {k : Nat} (hk : k < 11) (h : nAt m k < 0) : allNN m = false := by
  unfold allNN; rw [List.all_eq_false]; exact ⟨k, by simpa using hk, by simp; omega⟩
theorem allNN_true {m : Msg} (h : ∀ j, j < 11 → 0 ≤ nAt m j) : allNN m = true := by
  unfold allNN; rw [List.all_eq_true]; intro j hj; have := h j (by simpa using hj); simpa using this
theorem wrapsum {a b : Int} (ha : 0 ≤ a ∧ a < 9223372036854775808) (hb : 0 ≤ b ∧ b < 9223372036854775808) : wrap64 (a + b) = 0 ↔ (a = 0 ∧ b = 0) := by
  unfold wrap64; omega
def sayR (sl : ByteArray) (m : Msg) : Bool :=
  (anyB sl 111 || m.op == 0) && (anyB sl 105 || m.index == 0) && (anyB sl 107 || m.key == 0) && (anyB sl 118 || (m.vc == 0 && m.vs == 0)) && (anyB sl 120 || m.value == 0)
    && (anyB sl 102 || (m.fk == 0 && m.fc == 0 && m.fs == 0)) && (anyB sl 112 || decide (m.past.length = 0)) && (anyB sl 115 || !m.settled)
def rmsgB (m : Msg) : Bool := isKindB m.kind && (rpast m.past && (allNN m && sayR (str (letters m.kind)) m))

theorem nn_step {m : Msg} {k : Nat} (h : ∀ j, j < k → 0 ≤ nAt m j) (hk : 0 ≤ nAt m k) : ∀ j, j < k + 1 → 0 ≤ nAt m j := by
  intro j hj
  by_cases e : j = k
  · rw [e]; exact hk
  · exact h j (by omega)
theorem n11_cells (m : Msg) (w : World) (k : Nat) (hk : k < 11) : (w.alloc (.cells #[.int .i64 m.src, .int .i64 m.dst, .int .i64 m.clock, .int .i64 m.op, .int .i64 m.index, .int .i64 m.key, .int .i64 m.vc, .int .i64 m.vs, .int .i64 m.fk, .int .i64 m.fc, .int .i64 m.fs] 3)).cell? ⟨w.heap.size, k, none⟩ = some (.int .i64 (nAt m k)) := by
  match k, hk with
  | 0, _ => simp [nAt, n11]
  | 1, _ => simp [nAt, n11]
  | 2, _ => simp [nAt, n11]
  | 3, _ => simp [nAt, n11]
  | 4, _ => simp [nAt, n11]
  | 5, _ => simp [nAt, n11]
  | 6, _ => simp [nAt, n11]
  | 7, _ => simp [nAt, n11]
  | 8, _ => simp [nAt, n11]
  | 9, _ => simp [nAt, n11]
  | 10, _ => simp [nAt, n11]

set_option maxRecDepth 100000 in
set_option maxHeartbeats 8000000 in
theorem rmsg_kv (m : Msg) (sl : ByteArray) (w : World) (hd : DepsAt w m.ao m.past) (hr : m.past.length * 24 ≤ 140737488351232) (hfd : Hid (∀ w', Calls Tryd.prog 22 #[.int .i64 m.kind] w' fun e w'' => e = .returned (.string sl) ∧ w'' = w')) (hss : sl.size ≤ 100) (hne : sl.toList.isEmpty = false) (hmax : Hid (∀ j, nAt m j < 9223372036854775808))
    (ho : anyB sl 111 = false) (hi : anyB sl 105 = false) (hk' : anyB sl 107 = true) (hv : anyB sl 118 = true) (hx : anyB sl 120 = false) (hf : anyB sl 102 = false) (hp' : anyB sl 112 = false) (hs : anyB sl 115 = false) :
    Calls Tryd.prog 10 #[.agg #[.int .i64 m.kind, .int .i64 m.src, .int .i64 m.dst, .int .i64 m.clock, .int .i64 m.op, .int .i64 m.index, .int .i64 m.key, .int .i64 m.vc, .int .i64 m.vs, .int .i64 m.value, .int .i64 m.fk, .int .i64 m.fc, .int .i64 m.fs, .slice m.ao m.past.length m.c, .bool m.settled]] w fun e w' => e = .returned (.bool (rpast m.past && (allNN m && sayR sl m))) ∧ Below w.heap.size w w' := by
  have hB0 := ((Below.refl w.heap.size w).alloc (Nat.le_refl _) (.cells #[.int .i64 m.kind, .int .i64 m.src, .int .i64 m.dst, .int .i64 m.clock, .int .i64 m.op, .int .i64 m.index, .int .i64 m.key, .int .i64 m.vc, .int .i64 m.vs, .int .i64 m.value, .int .i64 m.fk, .int .i64 m.fc, .int .i64 m.fs, .slice m.ao m.past.length m.c, .bool m.settled] 28))
  cases hp : rpast m.past
  · go_enter Tryd.func10, Tryd.ntmps10
    go_wp2_with (first | (go_at_call 22; refine (hfd.out _).mono ?_; rintro e w' ⟨rfl, rfl⟩) | (go_at_call 23; refine (rpast_any m.ao m.past m.c _ (hd.below hB0 (Nat.le_refl _)) hr).mono ?_; rintro e w1 ⟨rfl, hb1⟩))
    go_ret
    exact ⟨ret_bool (by simp), hB0.trans (hb1.mono (by simp))⟩
  · go_enter Tryd.func10, Tryd.ntmps10
    go_wp2_with (first | (go_at_call 22; refine (hfd.out _).mono ?_; rintro e w' ⟨rfl, rfl⟩) | (go_at_call 23; refine (rpast_any m.ao m.past m.c _ (hd.below hB0 (Nat.le_refl _)) hr).mono ?_; rintro e w1 ⟨rfl, hb1⟩; have hc1 := (bcell hb1).1; have hz1 := (bcell hb1).2; simp only [World.size_alloc] at hc1 hz1; have hz1' : w.heap.size < w1.heap.size := by omega))
    have hB2 : ∀ ob, Hid (Below w.heap.size w (w1.alloc ob)) := fun ob => (hB0.trans (hb1.mono (by simp))).alloc (by omega) ob
    go_loop [6] (fun i => ∃ k : Nat, k ≤ 11 ∧ i = .int .i64 k ∧ Hid (∀ j, j < k → 0 ≤ nAt m j)) (fun i => 11 - (intOf i).toNat)
    case atStart => exact ⟨0, Nat.zero_le _, rfl, fun j hj => absurd hj (Nat.not_lt_zero _)⟩
    case round =>
      obtain ⟨k, hk, rfl, hno⟩ := hrel
      by_cases hlt : k < 11
      · have ck := n11_cells m w1 k hlt
        by_cases hneg : nAt m k < 0
        · go_wp2
          go_ret
          exact ⟨ret_bool (by rw [allNN_false hlt hneg]; simp), (hB2 _).out⟩
        · go_wp2
          go_round
          case rel => exact ⟨k + 1, by omega, by go_num, nn_step hno.out (by omega)⟩
          case measure => simp [intOf]; omega
      · have hall : ∀ j, j < 11 → 0 ≤ nAt m j := fun j hj => hno.out j (by omega)
        have HN : Hid (allNN m = true) := allNN_true hall
        have HVC : Hid (0 ≤ m.vc ∧ m.vc < 9223372036854775808) := ⟨hall 6 (by decide), hmax.out 6⟩
        have HVS : Hid (0 ≤ m.vs ∧ m.vs < 9223372036854775808) := ⟨hall 7 (by decide), hmax.out 7⟩
        clear hall
        have hrh : ∀ c w', Calls Tryd.prog 24 #[.string sl, .int .u8 c] w' fun e w'' => e = .returned (.bool (anyB sl c)) ∧ w'' = w' := fun c w' => rhas_any sl c w' hss
        have HRH : Hid (∀ c w', Calls Tryd.prog 24 #[.string sl, .int .u8 c] w' fun e w'' => e = .returned (.bool (anyB sl c)) ∧ w'' = w') := hrh
        clear hrh
        go_wp2_with (go_at_call 24; refine (HRH.out _ _).mono ?_; rintro e w' ⟨rfl, rfl⟩)
        all_goals go_ret
        all_goals (refine ⟨ret_bool ?_, (hB2 _).out⟩)
        all_goals (rw [HN.out]; simp only [sayR, ho, hi, hk', hv, hx, hf, hp', hs])
        all_goals (have hws := wrapsum HVC.out HVS.out)
        all_goals (clear hd hfd hmax hB0 hb1 hc1 HRH hB2 HN HVC HVS)
        all_goals simp_all

set_option maxRecDepth 100000 in
set_option maxHeartbeats 8000000 in
theorem rmsg_oik (m : Msg) (sl : ByteArray) (w : World) (hd : DepsAt w m.ao m.past) (hr : m.past.length * 24 ≤ 140737488351232) (hfd : Hid (∀ w', Calls Tryd.prog 22 #[.int .i64 m.kind] w' fun e w'' => e = .returned (.string sl) ∧ w'' = w')) (hss : sl.size ≤ 100) (hne : sl.toList.isEmpty = false) (hmax : Hid (∀ j, nAt m j < 9223372036854775808))
    (ho : anyB sl 111 = true) (hi : anyB sl 105 = true) (hk' : anyB sl 107 = true) (hv : anyB sl 118 = false) (hx : anyB sl 120 = false) (hf : anyB sl 102 = false) (hp' : anyB sl 112 = false) (hs : anyB sl 115 = false) :
    Calls Tryd.prog 10 #[.agg #[.int .i64 m.kind, .int .i64 m.src, .int .i64 m.dst, .int .i64 m.clock, .int .i64 m.op, .int .i64 m.index, .int .i64 m.key, .int .i64 m.vc, .int .i64 m.vs, .int .i64 m.value, .int .i64 m.fk, .int .i64 m.fc, .int .i64 m.fs, .slice m.ao m.past.length m.c, .bool m.settled]] w fun e w' => e = .returned (.bool (rpast m.past && (allNN m && sayR sl m))) ∧ Below w.heap.size w w' := by
  have hB0 := ((Below.refl w.heap.size w).alloc (Nat.le_refl _) (.cells #[.int .i64 m.kind, .int .i64 m.src, .int .i64 m.dst, .int .i64 m.clock, .int .i64 m.op, .int .i64 m.index, .int .i64 m.key, .int .i64 m.vc, .int .i64 m.vs, .int .i64 m.value, .int .i64 m.fk, .int .i64 m.fc, .int .i64 m.fs, .slice m.ao m.past.length m.c, .bool m.settled] 28))
  cases hp : rpast m.past
  · go_enter Tryd.func10, Tryd.ntmps10
    go_wp2_with (first | (go_at_call 22; refine (hfd.out _).mono ?_; rintro e w' ⟨rfl, rfl⟩) | (go_at_call 23; refine (rpast_any m.ao m.past m.c _ (hd.below hB0 (Nat.le_refl _)) hr).mono ?_; rintro e w1 ⟨rfl, hb1⟩))
    go_ret
    exact ⟨ret_bool (by simp), hB0.trans (hb1.mono (by simp))⟩
  · go_enter Tryd.func10, Tryd.ntmps10
    go_wp2_with (first | (go_at_call 22; refine (hfd.out _).mono ?_; rintro e w' ⟨rfl, rfl⟩) | (go_at_call 23; refine (rpast_any m.ao m.past m.c _ (hd.below hB0 (Nat.le_refl _)) hr).mono ?_; rintro e w1 ⟨rfl, hb1⟩; have hc1 := (bcell hb1).1; have hz1 := (bcell hb1).2; simp only [World.size_alloc] at hc1 hz1; have hz1' : w.heap.size < w1.heap.size := by omega))
    have hB2 : ∀ ob, Hid (Below w.heap.size w (w1.alloc ob)) := fun ob => (hB0.trans (hb1.mono (by simp))).alloc (by omega) ob
    go_loop [6] (fun i => ∃ k : Nat, k ≤ 11 ∧ i = .int .i64 k ∧ Hid (∀ j, j < k → 0 ≤ nAt m j)) (fun i => 11 - (intOf i).toNat)
    case atStart => exact ⟨0, Nat.zero_le _, rfl, fun j hj => absurd hj (Nat.not_lt_zero _)⟩
    case round =>
      obtain ⟨k, hk, rfl, hno⟩ := hrel
      by_cases hlt : k < 11
      · have ck := n11_cells m w1 k hlt
        by_cases hneg : nAt m k < 0
        · go_wp2
          go_ret
          exact ⟨ret_bool (by rw [allNN_false hlt hneg]; simp), (hB2 _).out⟩
        · go_wp2
          go_round
          case rel => exact ⟨k + 1, by omega, by go_num, nn_step hno.out (by omega)⟩
          case measure => simp [intOf]; omega
      · have hall : ∀ j, j < 11 → 0 ≤ nAt m j := fun j hj => hno.out j (by omega)
        have HN : Hid (allNN m = true) := allNN_true hall
        have HVC : Hid (0 ≤ m.vc ∧ m.vc < 9223372036854775808) := ⟨hall 6 (by decide), hmax.out 6⟩
        have HVS : Hid (0 ≤ m.vs ∧ m.vs < 9223372036854775808) := ⟨hall 7 (by decide), hmax.out 7⟩
        clear hall
        have hrh : ∀ c w', Calls Tryd.prog 24 #[.string sl, .int .u8 c] w' fun e w'' => e = .returned (.bool (anyB sl c)) ∧ w'' = w' := fun c w' => rhas_any sl c w' hss
        have HRH : Hid (∀ c w', Calls Tryd.prog 24 #[.string sl, .int .u8 c] w' fun e w'' => e = .returned (.bool (anyB sl c)) ∧ w'' = w') := hrh
        clear hrh
        go_wp2_with (go_at_call 24; refine (HRH.out _ _).mono ?_; rintro e w' ⟨rfl, rfl⟩)
        all_goals go_ret
        all_goals (refine ⟨ret_bool ?_, (hB2 _).out⟩)
        all_goals (rw [HN.out]; simp only [sayR, ho, hi, hk', hv, hx, hf, hp', hs])
        all_goals (have hws := wrapsum HVC.out HVS.out)
        all_goals (clear hd hfd hmax hB0 hb1 hc1 HRH hB2 HN HVC HVS)
        all_goals simp_all

set_option maxRecDepth 100000 in
set_option maxHeartbeats 8000000 in
theorem rmsg_okv (m : Msg) (sl : ByteArray) (w : World) (hd : DepsAt w m.ao m.past) (hr : m.past.length * 24 ≤ 140737488351232) (hfd : Hid (∀ w', Calls Tryd.prog 22 #[.int .i64 m.kind] w' fun e w'' => e = .returned (.string sl) ∧ w'' = w')) (hss : sl.size ≤ 100) (hne : sl.toList.isEmpty = false) (hmax : Hid (∀ j, nAt m j < 9223372036854775808))
    (ho : anyB sl 111 = true) (hi : anyB sl 105 = false) (hk' : anyB sl 107 = true) (hv : anyB sl 118 = true) (hx : anyB sl 120 = false) (hf : anyB sl 102 = false) (hp' : anyB sl 112 = false) (hs : anyB sl 115 = false) :
    Calls Tryd.prog 10 #[.agg #[.int .i64 m.kind, .int .i64 m.src, .int .i64 m.dst, .int .i64 m.clock, .int .i64 m.op, .int .i64 m.index, .int .i64 m.key, .int .i64 m.vc, .int .i64 m.vs, .int .i64 m.value, .int .i64 m.fk, .int .i64 m.fc, .int .i64 m.fs, .slice m.ao m.past.length m.c, .bool m.settled]] w fun e w' => e = .returned (.bool (rpast m.past && (allNN m && sayR sl m))) ∧ Below w.heap.size w w' := by
  have hB0 := ((Below.refl w.heap.size w).alloc (Nat.le_refl _) (.cells #[.int .i64 m.kind, .int .i64 m.src, .int .i64 m.dst, .int .i64 m.clock, .int .i64 m.op, .int .i64 m.index, .int .i64 m.key, .int .i64 m.vc, .int .i64 m.vs, .int .i64 m.value, .int .i64 m.fk, .int .i64 m.fc, .int .i64 m.fs, .slice m.ao m.past.length m.c, .bool m.settled] 28))
  cases hp : rpast m.past
  · go_enter Tryd.func10, Tryd.ntmps10
    go_wp2_with (first | (go_at_call 22; refine (hfd.out _).mono ?_; rintro e w' ⟨rfl, rfl⟩) | (go_at_call 23; refine (rpast_any m.ao m.past m.c _ (hd.below hB0 (Nat.le_refl _)) hr).mono ?_; rintro e w1 ⟨rfl, hb1⟩))
    go_ret
    exact ⟨ret_bool (by simp), hB0.trans (hb1.mono (by simp))⟩
  · go_enter Tryd.func10, Tryd.ntmps10
    go_wp2_with (first | (go_at_call 22; refine (hfd.out _).mono ?_; rintro e w' ⟨rfl, rfl⟩) | (go_at_call 23; refine (rpast_any m.ao m.past m.c _ (hd.below hB0 (Nat.le_refl _)) hr).mono ?_; rintro e w1 ⟨rfl, hb1⟩; have hc1 := (bcell hb1).1; have hz1 := (bcell hb1).2; simp only [World.size_alloc] at hc1 hz1; have hz1' : w.heap.size < w1.heap.size := by omega))
    have hB2 : ∀ ob, Hid (Below w.heap.size w (w1.alloc ob)) := fun ob => (hB0.trans (hb1.mono (by simp))).alloc (by omega) ob
    go_loop [6] (fun i => ∃ k : Nat, k ≤ 11 ∧ i = .int .i64 k ∧ Hid (∀ j, j < k → 0 ≤ nAt m j)) (fun i => 11 - (intOf i).toNat)
    case atStart => exact ⟨0, Nat.zero_le _, rfl, fun j hj => absurd hj (Nat.not_lt_zero _)⟩
    case round =>
      obtain ⟨k, hk, rfl, hno⟩ := hrel
      by_cases hlt : k < 11
      · have ck := n11_cells m w1 k hlt
        by_cases hneg : nAt m k < 0
        · go_wp2
          go_ret
          exact ⟨ret_bool (by rw [allNN_false hlt hneg]; simp), (hB2 _).out⟩
        · go_wp2
          go_round
          case rel => exact ⟨k + 1, by omega, by go_num, nn_step hno.out (by omega)⟩
          case measure => simp [intOf]; omega
      · have hall : ∀ j, j < 11 → 0 ≤ nAt m j := fun j hj => hno.out j (by omega)
        have HN : Hid (allNN m = true) := allNN_true hall
        have HVC : Hid (0 ≤ m.vc ∧ m.vc < 9223372036854775808) := ⟨hall 6 (by decide), hmax.out 6⟩
        have HVS : Hid (0 ≤ m.vs ∧ m.vs < 9223372036854775808) := ⟨hall 7 (by decide), hmax.out 7⟩
        clear hall
        have hrh : ∀ c w', Calls Tryd.prog 24 #[.string sl, .int .u8 c] w' fun e w'' => e = .returned (.bool (anyB sl c)) ∧ w'' = w' := fun c w' => rhas_any sl c w' hss
        have HRH : Hid (∀ c w', Calls Tryd.prog 24 #[.string sl, .int .u8 c] w' fun e w'' => e = .returned (.bool (anyB sl c)) ∧ w'' = w') := hrh
        clear hrh
        go_wp2_with (go_at_call 24; refine (HRH.out _ _).mono ?_; rintro e w' ⟨rfl, rfl⟩)
        all_goals go_ret
        all_goals (refine ⟨ret_bool ?_, (hB2 _).out⟩)
        all_goals (rw [HN.out]; simp only [sayR, ho, hi, hk', hv, hx, hf, hp', hs])
        all_goals (have hws := wrapsum HVC.out HVS.out)
        all_goals (clear hd hfd hmax hB0 hb1 hc1 HRH hB2 HN HVC HVS)
        all_goals simp_all

set_option maxRecDepth 100000 in
set_option maxHeartbeats 8000000 in
theorem rmsg_oikv (m : Msg) (sl : ByteArray) (w : World) (hd : DepsAt w m.ao m.past) (hr : m.past.length * 24 ≤ 140737488351232) (hfd : Hid (∀ w', Calls Tryd.prog 22 #[.int .i64 m.kind] w' fun e w'' => e = .returned (.string sl) ∧ w'' = w')) (hss : sl.size ≤ 100) (hne : sl.toList.isEmpty = false) (hmax : Hid (∀ j, nAt m j < 9223372036854775808))
    (ho : anyB sl 111 = true) (hi : anyB sl 105 = true) (hk' : anyB sl 107 = true) (hv : anyB sl 118 = true) (hx : anyB sl 120 = false) (hf : anyB sl 102 = false) (hp' : anyB sl 112 = false) (hs : anyB sl 115 = false) :
    Calls Tryd.prog 10 #[.agg #[.int .i64 m.kind, .int .i64 m.src, .int .i64 m.dst, .int .i64 m.clock, .int .i64 m.op, .int .i64 m.index, .int .i64 m.key, .int .i64 m.vc, .int .i64 m.vs, .int .i64 m.value, .int .i64 m.fk, .int .i64 m.fc, .int .i64 m.fs, .slice m.ao m.past.length m.c, .bool m.settled]] w fun e w' => e = .returned (.bool (rpast m.past && (allNN m && sayR sl m))) ∧ Below w.heap.size w w' := by
  have hB0 := ((Below.refl w.heap.size w).alloc (Nat.le_refl _) (.cells #[.int .i64 m.kind, .int .i64 m.src, .int .i64 m.dst, .int .i64 m.clock, .int .i64 m.op, .int .i64 m.index, .int .i64 m.key, .int .i64 m.vc, .int .i64 m.vs, .int .i64 m.value, .int .i64 m.fk, .int .i64 m.fc, .int .i64 m.fs, .slice m.ao m.past.length m.c, .bool m.settled] 28))
  cases hp : rpast m.past
  · go_enter Tryd.func10, Tryd.ntmps10
    go_wp2_with (first | (go_at_call 22; refine (hfd.out _).mono ?_; rintro e w' ⟨rfl, rfl⟩) | (go_at_call 23; refine (rpast_any m.ao m.past m.c _ (hd.below hB0 (Nat.le_refl _)) hr).mono ?_; rintro e w1 ⟨rfl, hb1⟩))
    go_ret
    exact ⟨ret_bool (by simp), hB0.trans (hb1.mono (by simp))⟩
  · go_enter Tryd.func10, Tryd.ntmps10
    go_wp2_with (first | (go_at_call 22; refine (hfd.out _).mono ?_; rintro e w' ⟨rfl, rfl⟩) | (go_at_call 23; refine (rpast_any m.ao m.past m.c _ (hd.below hB0 (Nat.le_refl _)) hr).mono ?_; rintro e w1 ⟨rfl, hb1⟩; have hc1 := (bcell hb1).1; have hz1 := (bcell hb1).2; simp only [World.size_alloc] at hc1 hz1; have hz1' : w.heap.size < w1.heap.size := by omega))
    have hB2 : ∀ ob, Hid (Below w.heap.size w (w1.alloc ob)) := fun ob => (hB0.trans (hb1.mono (by simp))).alloc (by omega) ob
    go_loop [6] (fun i => ∃ k : Nat, k ≤ 11 ∧ i = .int .i64 k ∧ Hid (∀ j, j < k → 0 ≤ nAt m j)) (fun i => 11 - (intOf i).toNat)
    case atStart => exact ⟨0, Nat.zero_le _, rfl, fun j hj => absurd hj (Nat.not_lt_zero _)⟩
    case round =>
      obtain ⟨k, hk, rfl, hno⟩ := hrel
      by_cases hlt : k < 11
      · have ck := n11_cells m w1 k hlt
        by_cases hneg : nAt m k < 0
        · go_wp2
          go_ret
          exact ⟨ret_bool (by rw [allNN_false hlt hneg]; simp), (hB2 _).out⟩
        · go_wp2
          go_round
          case rel => exact ⟨k + 1, by omega, by go_num, nn_step hno.out (by omega)⟩
          case measure => simp [intOf]; omega
      · have hall : ∀ j, j < 11 → 0 ≤ nAt m j := fun j hj => hno.out j (by omega)
        have HN : Hid (allNN m = true) := allNN_true hall
        have HVC : Hid (0 ≤ m.vc ∧ m.vc < 9223372036854775808) := ⟨hall 6 (by decide), hmax.out 6⟩
        have HVS : Hid (0 ≤ m.vs ∧ m.vs < 9223372036854775808) := ⟨hall 7 (by decide), hmax.out 7⟩
        clear hall
        have hrh : ∀ c w', Calls Tryd.prog 24 #[.string sl, .int .u8 c] w' fun e w'' => e = .returned (.bool (anyB sl c)) ∧ w'' = w' := fun c w' => rhas_any sl c w' hss
        have HRH : Hid (∀ c w', Calls Tryd.prog 24 #[.string sl, .int .u8 c] w' fun e w'' => e = .returned (.bool (anyB sl c)) ∧ w'' = w') := hrh
        clear hrh
        go_wp2_with (go_at_call 24; refine (HRH.out _ _).mono ?_; rintro e w' ⟨rfl, rfl⟩)
        all_goals go_ret
        all_goals (refine ⟨ret_bool ?_, (hB2 _).out⟩)
        all_goals (rw [HN.out]; simp only [sayR, ho, hi, hk', hv, hx, hf, hp', hs])
        all_goals (have hws := wrapsum HVC.out HVS.out)
        all_goals (clear hd hfd hmax hB0 hb1 hc1 HRH hB2 HN HVC HVS)
        all_goals simp_all

set_option maxRecDepth 100000 in
set_option maxHeartbeats 8000000 in
theorem rmsg_okxp (m : Msg) (sl : ByteArray) (w : World) (hd : DepsAt w m.ao m.past) (hr : m.past.length * 24 ≤ 140737488351232) (hfd : Hid (∀ w', Calls Tryd.prog 22 #[.int .i64 m.kind] w' fun e w'' => e = .returned (.string sl) ∧ w'' = w')) (hss : sl.size ≤ 100) (hne : sl.toList.isEmpty = false) (hmax : Hid (∀ j, nAt m j < 9223372036854775808))
    (ho : anyB sl 111 = true) (hi : anyB sl 105 = false) (hk' : anyB sl 107 = true) (hv : anyB sl 118 = false) (hx : anyB sl 120 = true) (hf : anyB sl 102 = false) (hp' : anyB sl 112 = true) (hs : anyB sl 115 = false) :
    Calls Tryd.prog 10 #[.agg #[.int .i64 m.kind, .int .i64 m.src, .int .i64 m.dst, .int .i64 m.clock, .int .i64 m.op, .int .i64 m.index, .int .i64 m.key, .int .i64 m.vc, .int .i64 m.vs, .int .i64 m.value, .int .i64 m.fk, .int .i64 m.fc, .int .i64 m.fs, .slice m.ao m.past.length m.c, .bool m.settled]] w fun e w' => e = .returned (.bool (rpast m.past && (allNN m && sayR sl m))) ∧ Below w.heap.size w w' := by
  have hB0 := ((Below.refl w.heap.size w).alloc (Nat.le_refl _) (.cells #[.int .i64 m.kind, .int .i64 m.src, .int .i64 m.dst, .int .i64 m.clock, .int .i64 m.op, .int .i64 m.index, .int .i64 m.key, .int .i64 m.vc, .int .i64 m.vs, .int .i64 m.value, .int .i64 m.fk, .int .i64 m.fc, .int .i64 m.fs, .slice m.ao m.past.length m.c, .bool m.settled] 28))
  cases hp : rpast m.past
  · go_enter Tryd.func10, Tryd.ntmps10
    go_wp2_with (first | (go_at_call 22; refine (hfd.out _).mono ?_; rintro e w' ⟨rfl, rfl⟩) | (go_at_call 23; refine (rpast_any m.ao m.past m.c _ (hd.below hB0 (Nat.le_refl _)) hr).mono ?_; rintro e w1 ⟨rfl, hb1⟩))
    go_ret
    exact ⟨ret_bool (by simp), hB0.trans (hb1.mono (by simp))⟩
  · go_enter Tryd.func10, Tryd.ntmps10
    go_wp2_with (first | (go_at_call 22; refine (hfd.out _).mono ?_; rintro e w' ⟨rfl, rfl⟩) | (go_at_call 23; refine (rpast_any m.ao m.past m.c _ (hd.below hB0 (Nat.le_refl _)) hr).mono ?_; rintro e w1 ⟨rfl, hb1⟩; have hc1 := (bcell hb1).1; have hz1 := (bcell hb1).2; simp only [World.size_alloc] at hc1 hz1; have hz1' : w.heap.size < w1.heap.size := by omega))
    have hB2 : ∀ ob, Hid (Below w.heap.size w (w1.alloc ob)) := fun ob => (hB0.trans (hb1.mono (by simp))).alloc (by omega) ob
    go_loop [6] (fun i => ∃ k : Nat, k ≤ 11 ∧ i = .int .i64 k ∧ Hid (∀ j, j < k → 0 ≤ nAt m j)) (fun i => 11 - (intOf i).toNat)
    case atStart => exact ⟨0, Nat.zero_le _, rfl, fun j hj => absurd hj (Nat.not_lt_zero _)⟩
    case round =>
      obtain ⟨k, hk, rfl, hno⟩ := hrel
      by_cases hlt : k < 11
      · have ck := n11_cells m w1 k hlt
        by_cases hneg : nAt m k < 0
        · go_wp2
          go_ret
          exact ⟨ret_bool (by rw [allNN_false hlt hneg]; simp), (hB2 _).out⟩
        · go_wp2
          go_round
          case rel => exact ⟨k + 1, by omega, by go_num, nn_step hno.out (by omega)⟩
          case measure => simp [intOf]; omega
      · have hall : ∀ j, j < 11 → 0 ≤ nAt m j := fun j hj => hno.out j (by omega)
        have HN : Hid (allNN m = true) := allNN_true hall
        have HVC : Hid (0 ≤ m.vc ∧ m.vc < 9223372036854775808) := ⟨hall 6 (by decide), hmax.out 6⟩
        have HVS : Hid (0 ≤ m.vs ∧ m.vs < 9223372036854775808) := ⟨hall 7 (by decide), hmax.out 7⟩
        clear hall
        have hrh : ∀ c w', Calls Tryd.prog 24 #[.string sl, .int .u8 c] w' fun e w'' => e = .returned (.bool (anyB sl c)) ∧ w'' = w' := fun c w' => rhas_any sl c w' hss
        have HRH : Hid (∀ c w', Calls Tryd.prog 24 #[.string sl, .int .u8 c] w' fun e w'' => e = .returned (.bool (anyB sl c)) ∧ w'' = w') := hrh
        clear hrh
        go_wp2_with (go_at_call 24; refine (HRH.out _ _).mono ?_; rintro e w' ⟨rfl, rfl⟩)
        all_goals go_ret
        all_goals (refine ⟨ret_bool ?_, (hB2 _).out⟩)
        all_goals (rw [HN.out]; simp only [sayR, ho, hi, hk', hv, hx, hf, hp', hs])
        all_goals (have hws := wrapsum HVC.out HVS.out)
        all_goals (clear hd hfd hmax hB0 hb1 hc1 HRH hB2 HN HVC HVS)
        all_goals simp_all

set_option maxRecDepth 100000 in
set_option maxHeartbeats 8000000 in
theorem rmsg_kvxp (m : Msg) (sl : ByteArray) (w : World) (hd : DepsAt w m.ao m.past) (hr : m.past.length * 24 ≤ 140737488351232) (hfd : Hid (∀ w', Calls Tryd.prog 22 #[.int .i64 m.kind] w' fun e w'' => e = .returned (.string sl) ∧ w'' = w')) (hss : sl.size ≤ 100) (hne : sl.toList.isEmpty = false) (hmax : Hid (∀ j, nAt m j < 9223372036854775808))
    (ho : anyB sl 111 = false) (hi : anyB sl 105 = false) (hk' : anyB sl 107 = true) (hv : anyB sl 118 = true) (hx : anyB sl 120 = true) (hf : anyB sl 102 = false) (hp' : anyB sl 112 = true) (hs : anyB sl 115 = false) :
    Calls Tryd.prog 10 #[.agg #[.int .i64 m.kind, .int .i64 m.src, .int .i64 m.dst, .int .i64 m.clock, .int .i64 m.op, .int .i64 m.index, .int .i64 m.key, .int .i64 m.vc, .int .i64 m.vs, .int .i64 m.value, .int .i64 m.fk, .int .i64 m.fc, .int .i64 m.fs, .slice m.ao m.past.length m.c, .bool m.settled]] w fun e w' => e = .returned (.bool (rpast m.past && (allNN m && sayR sl m))) ∧ Below w.heap.size w w' := by
  have hB0 := ((Below.refl w.heap.size w).alloc (Nat.le_refl _) (.cells #[.int .i64 m.kind, .int .i64 m.src, .int .i64 m.dst, .int .i64 m.clock, .int .i64 m.op, .int .i64 m.index, .int .i64 m.key, .int .i64 m.vc, .int .i64 m.vs, .int .i64 m.value, .int .i64 m.fk, .int .i64 m.fc, .int .i64 m.fs, .slice m.ao m.past.length m.c, .bool m.settled] 28))
  cases hp : rpast m.past
  · go_enter Tryd.func10, Tryd.ntmps10
    go_wp2_with (first | (go_at_call 22; refine (hfd.out _).mono ?_; rintro e w' ⟨rfl, rfl⟩) | (go_at_call 23; refine (rpast_any m.ao m.past m.c _ (hd.below hB0 (Nat.le_refl _)) hr).mono ?_; rintro e w1 ⟨rfl, hb1⟩))
    go_ret
    exact ⟨ret_bool (by simp), hB0.trans (hb1.mono (by simp))⟩
  · go_enter Tryd.func10, Tryd.ntmps10
    go_wp2_with (first | (go_at_call 22; refine (hfd.out _).mono ?_; rintro e w' ⟨rfl, rfl⟩) | (go_at_call 23; refine (rpast_any m.ao m.past m.c _ (hd.below hB0 (Nat.le_refl _)) hr).mono ?_; rintro e w1 ⟨rfl, hb1⟩; have hc1 := (bcell hb1).1; have hz1 := (bcell hb1).2; simp only [World.size_alloc] at hc1 hz1; have hz1' : w.heap.size < w1.heap.size := by omega))
    have hB2 : ∀ ob, Hid (Below w.heap.size w (w1.alloc ob)) := fun ob => (hB0.trans (hb1.mono (by simp))).alloc (by omega) ob
    go_loop [6] (fun i => ∃ k : Nat, k ≤ 11 ∧ i = .int .i64 k ∧ Hid (∀ j, j < k → 0 ≤ nAt m j)) (fun i => 11 - (intOf i).toNat)
    case atStart => exact ⟨0, Nat.zero_le _, rfl, fun j hj => absurd hj (Nat.not_lt_zero _)⟩
    case round =>
      obtain ⟨k, hk, rfl, hno⟩ := hrel
      by_cases hlt : k < 11
      · have ck := n11_cells m w1 k hlt
        by_cases hneg : nAt m k < 0
        · go_wp2
          go_ret
          exact ⟨ret_bool (by rw [allNN_false hlt hneg]; simp), (hB2 _).out⟩
        · go_wp2
          go_round
          case rel => exact ⟨k + 1, by omega, by go_num, nn_step hno.out (by omega)⟩
          case measure => simp [intOf]; omega
      · have hall : ∀ j, j < 11 → 0 ≤ nAt m j := fun j hj => hno.out j (by omega)
        have HN : Hid (allNN m = true) := allNN_true hall
        have HVC : Hid (0 ≤ m.vc ∧ m.vc < 9223372036854775808) := ⟨hall 6 (by decide), hmax.out 6⟩
        have HVS : Hid (0 ≤ m.vs ∧ m.vs < 9223372036854775808) := ⟨hall 7 (by decide), hmax.out 7⟩
        clear hall
        have hrh : ∀ c w', Calls Tryd.prog 24 #[.string sl, .int .u8 c] w' fun e w'' => e = .returned (.bool (anyB sl c)) ∧ w'' = w' := fun c w' => rhas_any sl c w' hss
        have HRH : Hid (∀ c w', Calls Tryd.prog 24 #[.string sl, .int .u8 c] w' fun e w'' => e = .returned (.bool (anyB sl c)) ∧ w'' = w') := hrh
        clear hrh
        go_wp2_with (go_at_call 24; refine (HRH.out _ _).mono ?_; rintro e w' ⟨rfl, rfl⟩)
        all_goals go_ret
        all_goals (refine ⟨ret_bool ?_, (hB2 _).out⟩)
        all_goals (rw [HN.out]; simp only [sayR, ho, hi, hk', hv, hx, hf, hp', hs])
        all_goals (have hws := wrapsum HVC.out HVS.out)
        all_goals (clear hd hfd hmax hB0 hb1 hc1 HRH hB2 HN HVC HVS)
        all_goals simp_all

set_option maxRecDepth 100000 in
set_option maxHeartbeats 8000000 in
theorem rmsg_kvf (m : Msg) (sl : ByteArray) (w : World) (hd : DepsAt w m.ao m.past) (hr : m.past.length * 24 ≤ 140737488351232) (hfd : Hid (∀ w', Calls Tryd.prog 22 #[.int .i64 m.kind] w' fun e w'' => e = .returned (.string sl) ∧ w'' = w')) (hss : sl.size ≤ 100) (hne : sl.toList.isEmpty = false) (hmax : Hid (∀ j, nAt m j < 9223372036854775808))
    (ho : anyB sl 111 = false) (hi : anyB sl 105 = false) (hk' : anyB sl 107 = true) (hv : anyB sl 118 = true) (hx : anyB sl 120 = false) (hf : anyB sl 102 = true) (hp' : anyB sl 112 = false) (hs : anyB sl 115 = false) :
    Calls Tryd.prog 10 #[.agg #[.int .i64 m.kind, .int .i64 m.src, .int .i64 m.dst, .int .i64 m.clock, .int .i64 m.op, .int .i64 m.index, .int .i64 m.key, .int .i64 m.vc, .int .i64 m.vs, .int .i64 m.value, .int .i64 m.fk, .int .i64 m.fc, .int .i64 m.fs, .slice m.ao m.past.length m.c, .bool m.settled]] w fun e w' => e = .returned (.bool (rpast m.past && (allNN m && sayR sl m))) ∧ Below w.heap.size w w' := by
  have hB0 := ((Below.refl w.heap.size w).alloc (Nat.le_refl _) (.cells #[.int .i64 m.kind, .int .i64 m.src, .int .i64 m.dst, .int .i64 m.clock, .int .i64 m.op, .int .i64 m.index, .int .i64 m.key, .int .i64 m.vc, .int .i64 m.vs, .int .i64 m.value, .int .i64 m.fk, .int .i64 m.fc, .int .i64 m.fs, .slice m.ao m.past.length m.c, .bool m.settled] 28))
  cases hp : rpast m.past
  · go_enter Tryd.func10, Tryd.ntmps10
    go_wp2_with (first | (go_at_call 22; refine (hfd.out _).mono ?_; rintro e w' ⟨rfl, rfl⟩) | (go_at_call 23; refine (rpast_any m.ao m.past m.c _ (hd.below hB0 (Nat.le_refl _)) hr).mono ?_; rintro e w1 ⟨rfl, hb1⟩))
    go_ret
    exact ⟨ret_bool (by simp), hB0.trans (hb1.mono (by simp))⟩
  · go_enter Tryd.func10, Tryd.ntmps10
    go_wp2_with (first | (go_at_call 22; refine (hfd.out _).mono ?_; rintro e w' ⟨rfl, rfl⟩) | (go_at_call 23; refine (rpast_any m.ao m.past m.c _ (hd.below hB0 (Nat.le_refl _)) hr).mono ?_; rintro e w1 ⟨rfl, hb1⟩; have hc1 := (bcell hb1).1; have hz1 := (bcell hb1).2; simp only [World.size_alloc] at hc1 hz1; have hz1' : w.heap.size < w1.heap.size := by omega))
    have hB2 : ∀ ob, Hid (Below w.heap.size w (w1.alloc ob)) := fun ob => (hB0.trans (hb1.mono (by simp))).alloc (by omega) ob
    go_loop [6] (fun i => ∃ k : Nat, k ≤ 11 ∧ i = .int .i64 k ∧ Hid (∀ j, j < k → 0 ≤ nAt m j)) (fun i => 11 - (intOf i).toNat)
    case atStart => exact ⟨0, Nat.zero_le _, rfl, fun j hj => absurd hj (Nat.not_lt_zero _)⟩
    case round =>
      obtain ⟨k, hk, rfl, hno⟩ := hrel
      by_cases hlt : k < 11
      · have ck := n11_cells m w1 k hlt
        by_cases hneg : nAt m k < 0
        · go_wp2
          go_ret
          exact ⟨ret_bool (by rw [allNN_false hlt hneg]; simp), (hB2 _).out⟩
        · go_wp2
          go_round
          case rel => exact ⟨k + 1, by omega, by go_num, nn_step hno.out (by omega)⟩
          case measure => simp [intOf]; omega
      · have hall : ∀ j, j < 11 → 0 ≤ nAt m j := fun j hj => hno.out j (by omega)
        have HN : Hid (allNN m = true) := allNN_true hall
        have HVC : Hid (0 ≤ m.vc ∧ m.vc < 9223372036854775808) := ⟨hall 6 (by decide), hmax.out 6⟩
        have HVS : Hid (0 ≤ m.vs ∧ m.vs < 9223372036854775808) := ⟨hall 7 (by decide), hmax.out 7⟩
        clear hall
        have hrh : ∀ c w', Calls Tryd.prog 24 #[.string sl, .int .u8 c] w' fun e w'' => e = .returned (.bool (anyB sl c)) ∧ w'' = w' := fun c w' => rhas_any sl c w' hss
        have HRH : Hid (∀ c w', Calls Tryd.prog 24 #[.string sl, .int .u8 c] w' fun e w'' => e = .returned (.bool (anyB sl c)) ∧ w'' = w') := hrh
        clear hrh
        go_wp2_with (go_at_call 24; refine (HRH.out _ _).mono ?_; rintro e w' ⟨rfl, rfl⟩)
        all_goals go_ret
        all_goals (refine ⟨ret_bool ?_, (hB2 _).out⟩)
        all_goals (rw [HN.out]; simp only [sayR, ho, hi, hk', hv, hx, hf, hp', hs])
        all_goals (have hws := wrapsum HVC.out HVS.out)
        all_goals (clear hd hfd hmax hB0 hb1 hc1 HRH hB2 HN HVC HVS)
        all_goals simp_all

set_option maxRecDepth 100000 in
set_option maxHeartbeats 8000000 in
theorem rmsg_oikvxps (m : Msg) (sl : ByteArray) (w : World) (hd : DepsAt w m.ao m.past) (hr : m.past.length * 24 ≤ 140737488351232) (hfd : Hid (∀ w', Calls Tryd.prog 22 #[.int .i64 m.kind] w' fun e w'' => e = .returned (.string sl) ∧ w'' = w')) (hss : sl.size ≤ 100) (hne : sl.toList.isEmpty = false) (hmax : Hid (∀ j, nAt m j < 9223372036854775808))
    (ho : anyB sl 111 = true) (hi : anyB sl 105 = true) (hk' : anyB sl 107 = true) (hv : anyB sl 118 = true) (hx : anyB sl 120 = true) (hf : anyB sl 102 = false) (hp' : anyB sl 112 = true) (hs : anyB sl 115 = true) :
    Calls Tryd.prog 10 #[.agg #[.int .i64 m.kind, .int .i64 m.src, .int .i64 m.dst, .int .i64 m.clock, .int .i64 m.op, .int .i64 m.index, .int .i64 m.key, .int .i64 m.vc, .int .i64 m.vs, .int .i64 m.value, .int .i64 m.fk, .int .i64 m.fc, .int .i64 m.fs, .slice m.ao m.past.length m.c, .bool m.settled]] w fun e w' => e = .returned (.bool (rpast m.past && (allNN m && sayR sl m))) ∧ Below w.heap.size w w' := by
  have hB0 := ((Below.refl w.heap.size w).alloc (Nat.le_refl _) (.cells #[.int .i64 m.kind, .int .i64 m.src, .int .i64 m.dst, .int .i64 m.clock, .int .i64 m.op, .int .i64 m.index, .int .i64 m.key, .int .i64 m.vc, .int .i64 m.vs, .int .i64 m.value, .int .i64 m.fk, .int .i64 m.fc, .int .i64 m.fs, .slice m.ao m.past.length m.c, .bool m.settled] 28))
  cases hp : rpast m.past
  · go_enter Tryd.func10, Tryd.ntmps10
    go_wp2_with (first | (go_at_call 22; refine (hfd.out _).mono ?_; rintro e w' ⟨rfl, rfl⟩) | (go_at_call 23; refine (rpast_any m.ao m.past m.c _ (hd.below hB0 (Nat.le_refl _)) hr).mono ?_; rintro e w1 ⟨rfl, hb1⟩))
    go_ret
    exact ⟨ret_bool (by simp), hB0.trans (hb1.mono (by simp))⟩
  · go_enter Tryd.func10, Tryd.ntmps10
    go_wp2_with (first | (go_at_call 22; refine (hfd.out _).mono ?_; rintro e w' ⟨rfl, rfl⟩) | (go_at_call 23; refine (rpast_any m.ao m.past m.c _ (hd.below hB0 (Nat.le_refl _)) hr).mono ?_; rintro e w1 ⟨rfl, hb1⟩; have hc1 := (bcell hb1).1; have hz1 := (bcell hb1).2; simp only [World.size_alloc] at hc1 hz1; have hz1' : w.heap.size < w1.heap.size := by omega))
    have hB2 : ∀ ob, Hid (Below w.heap.size w (w1.alloc ob)) := fun ob => (hB0.trans (hb1.mono (by simp))).alloc (by omega) ob
    go_loop [6] (fun i => ∃ k : Nat, k ≤ 11 ∧ i = .int .i64 k ∧ Hid (∀ j, j < k → 0 ≤ nAt m j)) (fun i => 11 - (intOf i).toNat)
    case atStart => exact ⟨0, Nat.zero_le _, rfl, fun j hj => absurd hj (Nat.not_lt_zero _)⟩
    case round =>
      obtain ⟨k, hk, rfl, hno⟩ := hrel
      by_cases hlt : k < 11
      · have ck := n11_cells m w1 k hlt
        by_cases hneg : nAt m k < 0
        · go_wp2
          go_ret
          exact ⟨ret_bool (by rw [allNN_false hlt hneg]; simp), (hB2 _).out⟩
        · go_wp2
          go_round
          case rel => exact ⟨k + 1, by omega, by go_num, nn_step hno.out (by omega)⟩
          case measure => simp [intOf]; omega
      · have hall : ∀ j, j < 11 → 0 ≤ nAt m j := fun j hj => hno.out j (by omega)
        have HN : Hid (allNN m = true) := allNN_true hall
        have HVC : Hid (0 ≤ m.vc ∧ m.vc < 9223372036854775808) := ⟨hall 6 (by decide), hmax.out 6⟩
        have HVS : Hid (0 ≤ m.vs ∧ m.vs < 9223372036854775808) := ⟨hall 7 (by decide), hmax.out 7⟩
        clear hall
        have hrh : ∀ c w', Calls Tryd.prog 24 #[.string sl, .int .u8 c] w' fun e w'' => e = .returned (.bool (anyB sl c)) ∧ w'' = w' := fun c w' => rhas_any sl c w' hss
        have HRH : Hid (∀ c w', Calls Tryd.prog 24 #[.string sl, .int .u8 c] w' fun e w'' => e = .returned (.bool (anyB sl c)) ∧ w'' = w') := hrh
        clear hrh
        go_wp2_with (go_at_call 24; refine (HRH.out _ _).mono ?_; rintro e w' ⟨rfl, rfl⟩)
        all_goals go_ret
        all_goals (refine ⟨ret_bool ?_, (hB2 _).out⟩)
        all_goals (rw [HN.out]; simp only [sayR, ho, hi, hk', hv, hx, hf, hp', hs])
        all_goals (have hws := wrapsum HVC.out HVS.out)
        all_goals (clear hd hfd hmax hB0 hb1 hc1 HRH hB2 HN HVC HVS)
        all_goals simp_all

end Go.Proofs.YtdpnmpfkbeommaaDoor
