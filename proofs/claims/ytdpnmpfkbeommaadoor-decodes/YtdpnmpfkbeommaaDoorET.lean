/-
  Decodes: the walk.
-/
import Derived.Test.YtdpnmpfkbeommaaDoorES
import Derived.Lib.SlBytesConst
namespace Go.Proofs.YtdpnmpfkbeommaaDoor
open Go.RowKit
set_option linter.unusedVariables false
set_option linter.unusedSimpArgs false

/-- The document's fourth example, and its bytes. -/
def exM : Msg := ⟨1, 2, 0, 0, 1, 0, 0, 0, 0, 7, 0, 0, 0, none, [], 0, false⟩
def exB : List Int := [1, 2, 0, 0, 1, 0, 14, 0]
theorem exB_dec : (pDec exB).getD errMsg = exM := by kernel_rfl
theorem exB_some : (pDec exB).isSome = true := by kernel_rfl
theorem exB_256 : Bytes256 exB := by
  intro i
  match i with
  | 0 => decide
  | 1 => decide
  | 2 => decide
  | 3 => decide
  | 4 => decide
  | 5 => decide
  | 6 => decide
  | 7 => decide
  | n + 8 => simp [bAt, exB]
theorem exB_at (w : World) : BytesAt (w.alloc (.cells #[.int .u8 1, .int .u8 2, .int .u8 0, .int .u8 0, .int .u8 1, .int .u8 0, .int .u8 14, .int .u8 0] 5 (8, 9))) w.heap.size 0 exB := by
  intro i hi
  rw [cell_of_row _ _ _ _ _ _ (heap_alloc_new w _)]
  have h8 : i < 8 := hi
  rcases (show i = 0 ∨ i = 1 ∨ i = 2 ∨ i = 3 ∨ i = 4 ∨ i = 5 ∨ i = 6 ∨ i = 7 by omega) with rfl | rfl | rfl | rfl | rfl | rfl | rfl | rfl <;> rfl

theorem law0D (w : World) : LawD (w.alloc (.cells (wcellsD (.slice none 0 0) (.slice none 0 0)) 38)) w.heap.size w.heap.size 0 0 0 (w.heap.size + 1) 0 (.slice none 0 0) (.slice none 0 0) [] [] where
  blk := heap_alloc_new w (.cells (wcellsD (.slice none 0 0) (.slice none 0 0)) 38)
  hB := Nat.le_refl _
  rb := World.ownsRow_nil _ _ _ _
  rp := World.ownsRow_nil _ _ _ _
  eb := fun i hi => by omega
  ep := fun i hi => by omega

set_option maxRecDepth 100000 in
set_option maxHeartbeats 4000000 in
theorem Decodes_any (s s2 : ByteArray) (w : World) (hG : GTab w) (hs : s.size ≤ 140737488351232) (hs2 : s2.size ≤ 140737488351232) :
    Calls Tryd.prog 4 #[.string s, .string s2] w fun e w' => e = .returned (.bool true) ∧ Below w.heap.size w w' := by
  have hB0 : Below w.heap.size w (w.alloc (.cells (wcellsD (.slice none 0 0) (.slice none 0 0)) 38)) := (Below.refl _ _).alloc (Nat.le_refl _) _
  have HL0 : Hid (LawD (w.alloc (.cells (wcellsD (.slice none 0 0) (.slice none 0 0)) 38)) w.heap.size w.heap.size 0 0 0 (w.heap.size + 1) 0 (.slice none 0 0) (.slice none 0 0) [] []) := law0D w
  have HW : Hid (∀ u, Below w.heap.size w u → GTab u) := fun u hu => hG.below hu hG.1
  go_enter Tryd.func4, Tryd.ntmps4
  go_wp2_with fail
  refine (decodes_any s _ w.heap.size w.heap.size 0 0 _ _ _ _ (by have h := HL0.out.close; exact h) (HW.out _ hB0) hs (by simp) (by omega) (by omega) rfl).mono ?_
  rintro e u1 ⟨rfl, ⟨vb1, vp1, bs1, ps1, hL1⟩, hb1⟩
  have hb1' := hB0.trans hb1
  have HL1 := (show Hid _ from hL1)
  clear hL1
  go_wp2_with fail
  refine (decodes_any ⟨#[1, 2, 0, 0, 1, 0, 14, 0]⟩ _ w.heap.size w.heap.size 4 1 _ _ _ _ HL1.out (HW.out _ hb1') (by decide) hb1'.size (by omega) (by omega) rfl).mono ?_
  rintro e u2 ⟨rfl, ⟨vb2, vp2, bs2, ps2, hL2⟩, hb2⟩
  have hb2' := hb1'.trans hb2
  have HL2 := (show Hid _ from hL2)
  clear hL2 HL1
  go_wp2_with fail
  refine (decodes_any s2 _ w.heap.size w.heap.size 8 2 _ _ _ _ HL2.out (HW.out _ hb2') hs2 hb2'.size (by omega) (by omega) rfl).mono ?_
  rintro e u3 ⟨rfl, ⟨vb3, vp3, bs3, ps3, hL3⟩, hb3⟩
  have hb3' := hb2'.trans hb3
  have HL3 := (show Hid _ from hL3)
  clear hL3 HL2
  go_wp2_with fail
  refine (decodes_any s _ w.heap.size w.heap.size 12 3 _ _ _ _ HL3.out (HW.out _ hb3') hs hb3'.size (by omega) (by omega) rfl).mono ?_
  rintro e u4 ⟨rfl, ⟨vb4, vp4, bs4, ps4, hL4⟩, hb4⟩
  have hb4' := hb3'.trans hb4
  have HL4 := (show Hid _ from hL4)
  clear hL4 HL3
  go_wp2_with fail
  refine (keptD_any u4 w.heap.size w.heap.size 16 4 _ _ _ _ _ _ _ HL4.out (by omega) (by omega)).mono ?_
  rintro e u5 ⟨rfl, nq, hu5⟩
  have hb5' : Below w.heap.size w u5 := by rw [hu5]; exact below_drewN hb4' _
  have hz5 := hb5'.size
  clear hu5 HL4
  have hbA : Below w.heap.size w (u5.alloc (.cells #[.int .u8 1, .int .u8 2, .int .u8 0, .int .u8 0, .int .u8 1, .int .u8 0, .int .u8 14, .int .u8 0] 5 (8, 9))) := hb5'.alloc hz5 _
  have hcv := Lib.run_convert_bytes_const (P := Tryd.prog) u5 41 5 #[.int .u8 1, .int .u8 2, .int .u8 0, .int .u8 0, .int .u8 1, .int .u8 0, .int .u8 14, .int .u8 0] 8 8 Tryd.underlying41 Tryd.underlying5
  simp only [List.size_toArray, List.length_cons, List.length_nil] at hcv
  go_wp2_with (go_at_call 9; refine (decode_any u5.heap.size 0 8 8 (some ⟨u5.heap.size, 0, none⟩) exB _ rfl (exB_at u5) exB_256 (fun _ => rfl) (by omega) (by simp) (HW.out _ hbA)).mono ?_; rintro e u6 hD; obtain ⟨ao, c, rfl, hO6, hg6⟩ := hD.form exB_dec exB_some rfl; clear hD; simp only [exM, List.length_nil] at hO6 ⊢)
  have hfin : Below w.heap.size w u6 := hbA.trans ((grown_below hg6).mono (by simp; omega))
  have hz6 := hfin.size
  go_ret
  exact ⟨rfl, hfin.alloc hz6 _⟩
end Go.Proofs.YtdpnmpfkbeommaaDoor
