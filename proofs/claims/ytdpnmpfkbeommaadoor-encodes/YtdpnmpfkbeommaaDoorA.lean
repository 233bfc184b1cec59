/-
  Small functions of package wire that only compute.
-/
import Derived.Test.YtdpnmpfkbeommaaDoorRows
import Derived.WalkKit
import Derived.WalkSpells
import Derived.WalkLawsBesides
import Derived.BigQuiet
import Derived.Deep.QuietTactic
namespace Go.Proofs.YtdpnmpfkbeommaaDoor
open Go.RowKit

set_option maxHeartbeats 400000 in
theorem isKind_any (k : Int) (w : World) :
    Calls Tryd.prog 28 #[.int .i64 k] w fun e w' => e = .returned (.bool (decide (0 < k) && decide (k < 13))) ∧ w' = w := by
  by_cases h : 0 < k
  · go_enter Tryd.func28, Tryd.ntmps28
    go_wp2
    go_ret
    simp [h]
  · have hd : decide (0 < k) = false := by simpa using h
    go_enter Tryd.func28, Tryd.ntmps28
    go_wp2
    go_ret
    simp

set_option maxHeartbeats 400000 in
theorem has_any (a b : Int) (w : World) :
    Calls Tryd.prog 33 #[.int .u8 a, .int .u8 b] w fun e w' => e = .returned (.bool (bits BinOp.and IntKind.u8 a b != 0)) ∧ w' = w := by
  go_enter Tryd.func33, Tryd.ntmps33
  go_wp2
  go_ret
  exact ⟨rfl, rfl⟩

def fif (a : Int) (b : Bool) : Int := if b then a else 0
set_option maxHeartbeats 400000 in
theorem fieldIf_any (a : Int) (b : Bool) (w : World) :
    Calls Tryd.prog 59 #[.int .u8 a, .bool b] w fun e w' => e = .returned (.int .u8 (fif a b)) ∧ w' = w := by
  cases b
  · go_enter Tryd.func59, Tryd.ntmps59
    go_wp2
    go_ret
    exact ⟨rfl, rfl⟩
  · go_enter Tryd.func59, Tryd.ntmps59
    go_wp2
    go_ret
    exact ⟨rfl, rfl⟩

def negV (a b : Int) : Bool := decide (a < 0) || decide (b < 0)
def negD (k a b : Int) : Bool := decide (k < 0) || negV a b

set_option maxHeartbeats 400000 in
theorem negVer_any (a b : Int) (w : World) :
    Calls Tryd.prog 47 #[.agg #[.int .i64 a, .int .i64 b]] w fun e w' => e = .returned (.bool (negV a b)) ∧ Below w.heap.size w w' := by
  unfold negV
  go_enter Tryd.func47, Tryd.ntmps47
  go_wp2
  all_goals (go_ret; refine ⟨by simp_all, (Below.refl _ _).alloc (Nat.le_refl _) _⟩)

set_option maxHeartbeats 400000 in
theorem negDep_any (k a b : Int) (w : World) :
    Calls Tryd.prog 46 #[.agg #[.int .i64 k, .int .i64 a, .int .i64 b]] w fun e w' => e = .returned (.bool (negD k a b)) ∧ Below w.heap.size w w' := by
  unfold negD
  by_cases h : k < 0
  · go_enter Tryd.func46, Tryd.ntmps46
    go_wp2_with fail
    go_ret; refine ⟨by simp_all, (Below.refl _ _).alloc (Nat.le_refl _) _⟩
  · have hd : decide (k < 0) = false := by simpa using h
    go_enter Tryd.func46, Tryd.ntmps46
    go_wp2_with (go_at_call 47; refine (negVer_any _ _ _).mono ?_; rintro e w' ⟨rfl, hb⟩)
    go_ret
    refine ⟨by simp [hd], ?_⟩
    exact ((Below.refl _ _).alloc (Nat.le_refl _) _).trans (hb.mono (by simp))


theorem eq23d (d : Nat) (a b c e : Int) (w : World) : (Op.equalIn (d + 2) 23 (.agg #[.int .i64 a, .int .i64 b]) (.agg #[.int .i64 c, .int .i64 e])).run Tryd.prog w = .ok (a == c && b == e) w := by
  have u3 := Tryd.underlying3
  have a3 := Tryd.isAgg3
  have z3 := Tryd.sizeOf3
  have hS : Tryd.prog.underlying 23 = some (.struct (Tryd.prog.fieldsOf 23)) := by kernel_rfl
  rw [run_equalIn_struct w (d + 1) 23 _ _ hS (by kernel_rfl)]
  simp only [Program.fieldsOf, Tryd.underlying23]
  go_simp
  by_cases h1 : a = c <;> by_cases h2 : b = e <;> simp [h1, h2]
theorem eq25d (d : Nat) (k a b k' c e : Int) (w : World) : (Op.equalIn (d + 3) 25 (.agg #[.int .i64 k, .int .i64 a, .int .i64 b]) (.agg #[.int .i64 k', .int .i64 c, .int .i64 e])).run Tryd.prog w = .ok (k == k' && (a == c && b == e)) w := by
  have u3 := Tryd.underlying3
  have a3 := Tryd.isAgg3
  have z3 := Tryd.sizeOf3
  have a23 := Tryd.isAgg23
  have z23 := Tryd.sizeOf23
  have hS : Tryd.prog.underlying 25 = some (.struct (Tryd.prog.fieldsOf 25)) := by kernel_rfl
  have h23 := eq23d d
  rw [run_equalIn_struct w (d + 2) 25 _ _ hS (by kernel_rfl)]
  simp only [Program.fieldsOf, Tryd.underlying25]
  go_simp
  by_cases h1 : k = k' <;> by_cases h2 : a = c <;> by_cases h3 : b = e <;> simp [h1, h2, h3]
def eqV (a b c e : Int) : Bool := a == c && b == e
def eqD (k a b k' c e : Int) : Bool := k == k' && (a == c && b == e)
theorem eql23 (a b c e : Int) (w : World) : (binOp .eql 23 (.agg #[.int .i64 a, .int .i64 b]) (.agg #[.int .i64 c, .int .i64 e])).run Tryd.prog w = .ok (.bool (eqV a b c e)) w := by
  rw [run_eql_struct, show (10000 : Nat) = 9998 + 2 from rfl, eq23d]; rfl
theorem neq23 (a b c e : Int) (w : World) : (binOp .neq 23 (.agg #[.int .i64 a, .int .i64 b]) (.agg #[.int .i64 c, .int .i64 e])).run Tryd.prog w = .ok (.bool (!eqV a b c e)) w := by
  rw [run_neq_struct, show (10000 : Nat) = 9998 + 2 from rfl, eq23d]; rfl
theorem eql25 (k a b k' c e : Int) (w : World) : (binOp .eql 25 (.agg #[.int .i64 k, .int .i64 a, .int .i64 b]) (.agg #[.int .i64 k', .int .i64 c, .int .i64 e])).run Tryd.prog w = .ok (.bool (eqD k a b k' c e)) w := by
  rw [run_eql_struct, show (10000 : Nat) = 9997 + 3 from rfl, eq25d]; rfl
theorem neq25 (k a b k' c e : Int) (w : World) : (binOp .neq 25 (.agg #[.int .i64 k, .int .i64 a, .int .i64 b]) (.agg #[.int .i64 k', .int .i64 c, .int .i64 e])).run Tryd.prog w = .ok (.bool (!eqD k a b k' c e)) w := by
  rw [run_neq_struct, show (10000 : Nat) = 9997 + 3 from rfl, eq25d]; rfl

structure Msg where
  kind : Int
  src : Int
  dst : Int
  clock : Int
  op : Int
  index : Int
  key : Int
  vc : Int
  vs : Int
  value : Int
  fk : Int
  fc : Int
  fs : Int
  ao : Option Addr
  past : List (Int × Int × Int)
  c : Nat
  settled : Bool

def saidV (m : Msg) : Int :=
  bits BinOp.or .u8 (bits BinOp.or .u8 (bits BinOp.or .u8 (bits BinOp.or .u8 (bits BinOp.or .u8 (bits BinOp.or .u8 (bits BinOp.or .u8
    (fif 1 (m.op != 0)) (fif 2 (m.index != 0))) (fif 4 (m.key != 0))) (fif 8 (!eqV m.vc m.vs 0 0)))
    (fif 16 (!eqD m.fk m.fc m.fs 0 0 0))) (fif 32 (m.value != 0))) (fif 64 (decide (0 < m.past.length)))) (fif 128 m.settled)

set_option maxHeartbeats 1000000 in
theorem said_any (m : Msg) (w : World) :
    Calls Tryd.prog 48 #[.agg #[.int .i64 m.kind, .int .i64 m.src, .int .i64 m.dst, .int .i64 m.clock, .int .i64 m.op, .int .i64 m.index, .int .i64 m.key, .int .i64 m.vc, .int .i64 m.vs, .int .i64 m.value, .int .i64 m.fk, .int .i64 m.fc, .int .i64 m.fs, .slice m.ao m.past.length m.c, .bool m.settled]] w
      fun e w' => e = .returned (.int .u8 (saidV m)) ∧ Below w.heap.size w w' := by
  have n23 := neq23
  have n25 := neq25
  go_enter Tryd.func48, Tryd.ntmps48
  go_wp2
  go_quiet ((go_at_call 59; exact Calls.quiet_of_same (fieldIf_any _ _ _)))
  go_wp2
  go_ret
  refine ⟨?_, below_drewN ((Below.refl _ _).alloc (Nat.le_refl _) _) _⟩
  rfl

set_option maxHeartbeats 1000000 in
theorem saysOnly_any (m : Msg) (f : Int) (w : World) :
    Calls Tryd.prog 30 #[.agg #[.int .i64 m.kind, .int .i64 m.src, .int .i64 m.dst, .int .i64 m.clock, .int .i64 m.op, .int .i64 m.index, .int .i64 m.key, .int .i64 m.vc, .int .i64 m.vs, .int .i64 m.value, .int .i64 m.fk, .int .i64 m.fc, .int .i64 m.fs, .slice m.ao m.past.length m.c, .bool m.settled], .int .u8 f] w
      fun e w' => e = .returned (.bool (bits BinOp.andNot .u8 (saidV m) f == 0)) ∧ Below w.heap.size w w' := by
  go_enter Tryd.func30, Tryd.ntmps30
  go_wp2_with (go_at_call 48; refine (said_any m _).mono ?_; rintro e w' ⟨rfl, hb⟩)
  go_ret
  refine ⟨rfl, ?_⟩
  exact ((Below.refl _ _).alloc (Nat.le_refl _) _).trans (hb.mono (by simp))

end Go.Proofs.YtdpnmpfkbeommaaDoor
