/-
  Bytes appended to a list of the call's own: appendVarint and what stands on it.
-/
import Derived.Test.YtdpnmpfkbeommaaDoorB
import Derived.Deep.RegionHeld3
import Derived.Deep.AppendLies
namespace Go.Proofs.YtdpnmpfkbeommaaDoor
open Go.RowKit

/-- The varint of n, as the bytes' numbers. -/
def vint : Nat → Nat → List Int
  | 0, n => [(n : Int)]
  | f + 1, n => if n < 128 then [(n : Int)] else ((n % 128 + 128 : Nat) : Int) :: vint f (n / 128)

def bytesV (l : List Int) : List Value := l.map (Value.int .u8)

theorem info5 : (Tryd.prog.info? 5).map (fun i => (i.zero, i.size, i.bytes)) = some (some (.int .u8 0), 1, 1) := by kernel_rfl

/-- What a call that appends to a list of bytes leaves. -/
def Grew (w w' : World) (base : Nat) (v v' : Value) (n : Nat) (xs news : List Int) : Prop :=
  w'.ownsRow base 5 1 v' (n + news.length) (bytesV (xs ++ news)) ∧ w.grownBy w' v.ownBlock ∧ (v'.ownBlock = v.ownBlock ∨ ∃ g, v'.ownBlock = some g ∧ w.heap.size ≤ g)

theorem Grew.step {w wr w1 : World} {base : Nat} {v t0 : Value} {k g cap N : Nat} {xs ys : List Int} {x : Int} {o : Obj} (hg : Grew w wr base v t0 k xs ys) (hN : N = k + ys.length)
    (hown1 : w1.ownsRow base 5 1 (.slice (some ⟨g, 0, none⟩) (N + 1) cap) (N + 1) (bytesV (xs ++ ys) ++ [.int .u8 x]))
    (hgrow : (wr.alloc o).grownBy w1 t0.ownBlock) (hat : t0.ownBlock = some g ∨ g = wr.heap.size + 1) :
    Grew w w1 base v (.slice (some ⟨g, 0, none⟩) (N + 1) cap) k xs (ys ++ [x]) := by
  subst hN
  obtain ⟨h1, h2, h3⟩ := hg
  have hs1 := h2.size
  refine ⟨?_, ?_, ?_⟩
  · have e1 : k + (ys ++ [x]).length = k + ys.length + 1 := by simp; omega
    have e2 : bytesV (xs ++ (ys ++ [x])) = bytesV (xs ++ ys) ++ [.int .u8 x] := by simp [bytesV]
    rw [e1, e2]; exact hown1
  · have h4 := hgrow.size
    simp at h4
    refine ⟨hgrow.os.trans h2.os, hgrow.tape.trans h2.tape, hgrow.output.trans h2.output, by omega, fun j hj hne => ?_⟩
    rw [hgrow.block j (by simp; omega) ?_, Below.heap_alloc _ _ _ (by omega), h2.block j hj hne]
    intro e
    rcases h3 with h3 | ⟨g', h3, hge⟩
    · exact hne (e.trans h3)
    · rw [h3] at e; cases e; omega
  · rcases hat with hat | hat
    · rcases h3 with h3 | ⟨g', h3, hge⟩
      · left; rw [← h3, hat]; rfl
      · right; rw [hat] at h3; exact ⟨g, rfl, by cases h3; exact hge⟩
    · right; exact ⟨g, rfl, by omega⟩

theorem Grew.refl {w : World} {base : Nat} {v : Value} {k : Nat} {xs : List Int} (h : w.ownsRow base 5 1 v k (bytesV xs)) : Grew w w base v v k xs [] :=
  ⟨by simpa using h, World.grownBy.refl _ _, .inl rfl⟩

theorem vint_small (f m : Nat) (h : m < 128) : vint f m = [(m : Int)] := by cases f <;> simp [vint, h]
theorem vint_big (f m : Nat) (h : ¬ m < 128) : vint (f + 1) m = ((m % 128 + 128 : Nat) : Int) :: vint f (m / 128) := by simp [vint, h]

theorem or128_fin : ∀ x : Fin 256, bits BinOp.or IntKind.u8 (x.val : Int) 128 = ((x.val % 128 + 128 : Nat) : Int) := by decide +kernel
theorem or128 (m : Nat) : bits BinOp.or IntKind.u8 ((m : Int) % 256) 128 = ((m % 128 + 128 : Nat) : Int) := by
  have h := or128_fin ⟨m % 256, Nat.mod_lt _ (by decide)⟩
  simp only [] at h
  rw [show (m : Int) % 256 = ((m % 256 : Nat) : Int) by omega, h]
  congr 1; omega
theorem pow_step {m f : Nat} (h : m < 2 ^ (7 * (f + 1) + 1)) : m / 128 < 2 ^ (7 * f + 1) := by
  rw [Nat.div_lt_iff_lt_mul (by decide)]
  rw [show 7 * (f + 1) + 1 = (7 * f + 1) + 7 by omega, Nat.pow_add] at h
  exact h

set_option maxRecDepth 100000 in
set_option maxHeartbeats 1000000 in
theorem varint_any (v : Value) (k : Nat) (xs : List Int) (n : Nat) (base : Nat) (w : World) (hown : w.ownsRow base 5 1 v k (bytesV xs)) (hk : k ≤ 1000) (hn : Hid (n < 18446744073709551616)) (hb : base ≤ w.heap.size) :
    Calls Tryd.prog 49 #[v, .int .u64 n] w fun e w' => ∃ v', e = .returned v' ∧ Grew w w' base v v' k xs (vint 9 n) := by
  obtain ⟨i0, hi, hz0, hz1, hz2⟩ := info_parts info5
  go_enter Tryd.func49, Tryd.ntmps49
  go_wp2
  go_loopw [0, 1] (fun t0 t1 wr => ∃ (f : Nat) (m : Nat) (ys : List Int), f ≤ 9 ∧ t1 = .int .u64 m ∧ Hid (m < 2 ^ (7 * f + 1)) ∧ Hid (vint 9 n = ys ++ vint f m) ∧ Grew w wr base v t0 k xs ys ∧ ys.length ≤ 9 - f) (fun _ t1 _ => (intOf t1).toNat)
  case atStart => exact ⟨9, n, [], by omega, rfl, by have := hn.out; exact (show n < 2 ^ 64 by simpa using this), rfl, Grew.refl hown, by simp⟩
  case round => 
    obtain ⟨f, m, ys, hf, rfl, hm, hv, hg, hl⟩ := hrel
    have hsz := hg.2.1.size
    by_cases hlt : m < 128
    · go_wp2_with (at_builtin; refine wpList_append_lies _ rfl _ _ 41 rfl base 5 i0 (.int .u8 0) 1 1 Tryd.underlying41 hi hz0 hz1 hz2 rfl (by decide) _ _ _ rfl (hg.1.alloc _) ⟨wr.heap.size, 0, none⟩ 1 1 [.int .u8 _] rfl rfl (cell_one_new _ _ _) ?c2 (by decide) ?c4 ?c5 ?c6 (wr.heap.size + 1) (by simp) ?_)
      case c2 => intro u hu; simp at hu; subst hu; rfl
      case c4 => unfold maxLen; omega
      case c5 => omega
      case c6 => simp; omega
      intro g cap w1 hown1 hgrow hat hlt1
      go_wp2
      go_ret
      refine ⟨_, rfl, ?_⟩
      rw [hv.out, vint_small _ _ hlt]
      exact hg.step rfl hown1 hgrow hat
    · go_wp2_with (at_builtin; refine wpList_append_lies _ rfl _ _ 41 rfl base 5 i0 (.int .u8 0) 1 1 Tryd.underlying41 hi hz0 hz1 hz2 rfl (by decide) _ _ _ rfl (hg.1.alloc _) ⟨wr.heap.size, 0, none⟩ 1 1 [.int .u8 _] rfl rfl (cell_one_new _ _ _) ?d2 (by decide) ?d4 ?d5 ?d6 (wr.heap.size + 1) (by simp) ?_)
      case d2 => intro u hu; simp at hu; subst hu; rfl
      case d4 => unfold maxLen; omega
      case d5 => omega
      case d6 => simp; omega
      intro g cap w1 hown1 hgrow hat hlt1
      go_wp2
      go_roundw
      case rel =>
        obtain ⟨f', rfl⟩ : ∃ f', f = f' + 1 := by
          cases f with
          | zero => have := hm.out; omega
          | succ f' => exact ⟨f', rfl⟩
        refine ⟨f', m / 128, ys ++ [((m % 128 + 128 : Nat) : Int)], by omega, by go_num, pow_step hm.out, ?_, ?_, by simp; omega⟩
        · show _ = _
          rw [hv.out, vint_big _ _ hlt]; simp
        · rw [or128] at hown1
          exact hg.step rfl hown1 hgrow hat
      case measure => simp [intOf]; omega
end Go.Proofs.YtdpnmpfkbeommaaDoor
