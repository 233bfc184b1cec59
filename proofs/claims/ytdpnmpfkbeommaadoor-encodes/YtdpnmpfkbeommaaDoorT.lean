/-
  Encodes: the walk.
-/
import Derived.Test.YtdpnmpfkbeommaaDoorU
namespace Go.Proofs.YtdpnmpfkbeommaaDoor
open Go.RowKit

/-- The document's fourth example. -/
def ex4 : Msg := ⟨1, 2, 0, 0, 1, 0, 0, 0, 0, 7, 0, 0, 0, none, [], 0, false⟩
theorem ex4_rng : Rng ex4 := by
  constructor <;> (first | exact ⟨by decide, by decide⟩ | (intro i hi; simp [ex4] at hi))
theorem ex4_msg : msgB ex4 = true := by decide +kernel
theorem ex4_bytes : msgBytes ex4 = [1, 2, 0, 0, 1, 0, 14, 0] := by decide +kernel
theorem ex4_str : sB [1, 2, 0, 0, 1, 0, 14, 0] = ⟨#[1, 2, 0, 0, 1, 0, 14, 0]⟩ := by rfl

theorem law0 (w : World) (o1 o2 : Obj) : Law (((w.alloc o1).alloc o2).alloc (.cells (wcells (.slice none 0 0) (.slice none 0 0)) 38)) (w.heap.size + 2) (w.heap.size + 2) 0 0 0 (w.heap.size + 3) 0 (.slice none 0 0) (.slice none 0 0) [] [] where
  blk := by
    have := heap_alloc_new ((w.alloc o1).alloc o2) (.cells (wcells (.slice none 0 0) (.slice none 0 0)) 38)
    simpa using this
  hB := Nat.le_refl _
  rb := World.ownsRow_nil _ _ _ _
  rp := World.ownsRow_nil _ _ _ _
  eb := fun i hi => by omega
  ep := fun i hi => by omega

set_option maxRecDepth 100000 in
set_option maxHeartbeats 4000000 in
theorem Encodes_any (m m2 : Msg) (w : World) (hd : DepsAt w m.ao m.past) (hd2 : DepsAt w m2.ao m2.past) (hn : m.ao = none → m.past = [] ∧ m.c = 0) (hn2 : m2.ao = none → m2.past = [] ∧ m2.c = 0) (hr : m.past.length * 24 ≤ 140737488351232) (hr2 : m2.past.length * 24 ≤ 140737488351232) (hG : GTab w) (hg : Rng m) (hg2 : Rng m2) :
    Calls Tryd.prog 3 #[.agg #[.int .i64 m.kind, .int .i64 m.src, .int .i64 m.dst, .int .i64 m.clock, .int .i64 m.op, .int .i64 m.index, .int .i64 m.key, .int .i64 m.vc, .int .i64 m.vs, .int .i64 m.value, .int .i64 m.fk, .int .i64 m.fc, .int .i64 m.fs, .slice m.ao m.past.length m.c, .bool m.settled], .agg #[.int .i64 m2.kind, .int .i64 m2.src, .int .i64 m2.dst, .int .i64 m2.clock, .int .i64 m2.op, .int .i64 m2.index, .int .i64 m2.key, .int .i64 m2.vc, .int .i64 m2.vs, .int .i64 m2.value, .int .i64 m2.fk, .int .i64 m2.fc, .int .i64 m2.fs, .slice m2.ao m2.past.length m2.c, .bool m2.settled]] w fun e w' => e = .returned (.bool true) ∧ Below w.heap.size w w' := by
  have hB3 : Below w.heap.size w (((w.alloc (.cells #[.int .i64 m.kind, .int .i64 m.src, .int .i64 m.dst, .int .i64 m.clock, .int .i64 m.op, .int .i64 m.index, .int .i64 m.key, .int .i64 m.vc, .int .i64 m.vs, .int .i64 m.value, .int .i64 m.fk, .int .i64 m.fc, .int .i64 m.fs, .slice m.ao m.past.length m.c, .bool m.settled] 28)).alloc (.cells #[.int .i64 m2.kind, .int .i64 m2.src, .int .i64 m2.dst, .int .i64 m2.clock, .int .i64 m2.op, .int .i64 m2.index, .int .i64 m2.key, .int .i64 m2.vc, .int .i64 m2.vs, .int .i64 m2.value, .int .i64 m2.fk, .int .i64 m2.fc, .int .i64 m2.fs, .slice m2.ao m2.past.length m2.c, .bool m2.settled] 28)).alloc (.cells (wcells (.slice none 0 0) (.slice none 0 0)) 38)) := (((Below.refl _ _).alloc (Nat.le_refl _) _).alloc (by simp) _).alloc (by simp; omega) _
  have HL0 : Hid (Law (((w.alloc (.cells #[.int .i64 m.kind, .int .i64 m.src, .int .i64 m.dst, .int .i64 m.clock, .int .i64 m.op, .int .i64 m.index, .int .i64 m.key, .int .i64 m.vc, .int .i64 m.vs, .int .i64 m.value, .int .i64 m.fk, .int .i64 m.fc, .int .i64 m.fs, .slice m.ao m.past.length m.c, .bool m.settled] 28)).alloc (.cells #[.int .i64 m2.kind, .int .i64 m2.src, .int .i64 m2.dst, .int .i64 m2.clock, .int .i64 m2.op, .int .i64 m2.index, .int .i64 m2.key, .int .i64 m2.vc, .int .i64 m2.vs, .int .i64 m2.value, .int .i64 m2.fk, .int .i64 m2.fc, .int .i64 m2.fs, .slice m2.ao m2.past.length m2.c, .bool m2.settled] 28)).alloc (.cells (wcells (.slice none 0 0) (.slice none 0 0)) 38)) (w.heap.size + 2) (w.heap.size + 2) 0 0 0 (w.heap.size + 3) 0 (.slice none 0 0) (.slice none 0 0) [] []) := law0 w _ _
  have HG0 : Hid (GTab (((w.alloc (.cells #[.int .i64 m.kind, .int .i64 m.src, .int .i64 m.dst, .int .i64 m.clock, .int .i64 m.op, .int .i64 m.index, .int .i64 m.key, .int .i64 m.vc, .int .i64 m.vs, .int .i64 m.value, .int .i64 m.fk, .int .i64 m.fc, .int .i64 m.fs, .slice m.ao m.past.length m.c, .bool m.settled] 28)).alloc (.cells #[.int .i64 m2.kind, .int .i64 m2.src, .int .i64 m2.dst, .int .i64 m2.clock, .int .i64 m2.op, .int .i64 m2.index, .int .i64 m2.key, .int .i64 m2.vc, .int .i64 m2.vs, .int .i64 m2.value, .int .i64 m2.fk, .int .i64 m2.fc, .int .i64 m2.fs, .slice m2.ao m2.past.length m2.c, .bool m2.settled] 28)).alloc (.cells (wcells (.slice none 0 0) (.slice none 0 0)) 38))) := ⟨by simp, fun i hi => (hB3.cell (by exact hG.1)).trans (hG.2 i hi)⟩
  have HW : Hid (∀ u, Below (w.heap.size + 2) (((w.alloc (.cells #[.int .i64 m.kind, .int .i64 m.src, .int .i64 m.dst, .int .i64 m.clock, .int .i64 m.op, .int .i64 m.index, .int .i64 m.key, .int .i64 m.vc, .int .i64 m.vs, .int .i64 m.value, .int .i64 m.fk, .int .i64 m.fc, .int .i64 m.fs, .slice m.ao m.past.length m.c, .bool m.settled] 28)).alloc (.cells #[.int .i64 m2.kind, .int .i64 m2.src, .int .i64 m2.dst, .int .i64 m2.clock, .int .i64 m2.op, .int .i64 m2.index, .int .i64 m2.key, .int .i64 m2.vc, .int .i64 m2.vs, .int .i64 m2.value, .int .i64 m2.fk, .int .i64 m2.fc, .int .i64 m2.fs, .slice m2.ao m2.past.length m2.c, .bool m2.settled] 28)).alloc (.cells (wcells (.slice none 0 0) (.slice none 0 0)) 38)) u → DepsAt u m.ao m.past ∧ DepsAt u m2.ao m2.past ∧ GTab u ∧ (∀ o, u.cell? ⟨w.heap.size, o, none⟩ = (((w.alloc (.cells #[.int .i64 m.kind, .int .i64 m.src, .int .i64 m.dst, .int .i64 m.clock, .int .i64 m.op, .int .i64 m.index, .int .i64 m.key, .int .i64 m.vc, .int .i64 m.vs, .int .i64 m.value, .int .i64 m.fk, .int .i64 m.fc, .int .i64 m.fs, .slice m.ao m.past.length m.c, .bool m.settled] 28)).alloc (.cells #[.int .i64 m2.kind, .int .i64 m2.src, .int .i64 m2.dst, .int .i64 m2.clock, .int .i64 m2.op, .int .i64 m2.index, .int .i64 m2.key, .int .i64 m2.vc, .int .i64 m2.vs, .int .i64 m2.value, .int .i64 m2.fk, .int .i64 m2.fc, .int .i64 m2.fs, .slice m2.ao m2.past.length m2.c, .bool m2.settled] 28)).alloc (.cells (wcells (.slice none 0 0) (.slice none 0 0)) 38)).cell? ⟨w.heap.size, o, none⟩) ∧ (∀ o, u.cell? ⟨w.heap.size + 1, o, none⟩ = (((w.alloc (.cells #[.int .i64 m.kind, .int .i64 m.src, .int .i64 m.dst, .int .i64 m.clock, .int .i64 m.op, .int .i64 m.index, .int .i64 m.key, .int .i64 m.vc, .int .i64 m.vs, .int .i64 m.value, .int .i64 m.fk, .int .i64 m.fc, .int .i64 m.fs, .slice m.ao m.past.length m.c, .bool m.settled] 28)).alloc (.cells #[.int .i64 m2.kind, .int .i64 m2.src, .int .i64 m2.dst, .int .i64 m2.clock, .int .i64 m2.op, .int .i64 m2.index, .int .i64 m2.key, .int .i64 m2.vc, .int .i64 m2.vs, .int .i64 m2.value, .int .i64 m2.fk, .int .i64 m2.fc, .int .i64 m2.fs, .slice m2.ao m2.past.length m2.c, .bool m2.settled] 28)).alloc (.cells (wcells (.slice none 0 0) (.slice none 0 0)) 38)).cell? ⟨w.heap.size + 1, o, none⟩)) := fun u hu =>
    ⟨hd.below (hB3.trans (hu.mono (by omega))) (Nat.le_refl _), hd2.below (hB3.trans (hu.mono (by omega))) (Nat.le_refl _), ⟨by have := hu.size; simp at this; omega, fun i hi => (hu.cell (by show 0 < w.heap.size + 2; omega)).trans (HG0.out.2 i hi)⟩, fun o => hu.cell (by show w.heap.size < w.heap.size + 2; omega), fun o => hu.cell (by show w.heap.size + 1 < w.heap.size + 2; omega)⟩
  go_enter Tryd.func3, Tryd.ntmps3
  go_wp2_with fail
  refine (encodes_any m _ (w.heap.size + 2) (w.heap.size + 2) 0 0 _ _ _ _ (by have h := HL0.out.close; exact h) (HW.out _ (Below.refl _ _)).1 hn hr HG0.out hg (by simp) (by omega) (by omega) rfl).mono ?_
  rintro e u1 ⟨rfl, ⟨vb1, vp1, bs1, ps1, hL1⟩, hb1⟩
  have hc1 := (HW.out _ hb1).2.2.2.1
  have hc1' := (HW.out _ hb1).2.2.2.2
  have HL1 := (show Hid _ from hL1)
  clear hL1
  go_wp2_with fail
  refine (encodes_any ex4 _ (w.heap.size + 2) (w.heap.size + 2) 4 1 _ _ _ _ HL1.out (fun h => absurd h (by simp [ex4])) (fun _ => ⟨rfl, rfl⟩) (by simp [ex4]) (HW.out _ hb1).2.2.1 ex4_rng (by have := hb1.size; simp at this; omega) (by omega) (by omega) rfl).mono ?_
  rintro e u2 ⟨rfl, ⟨vb2, vp2, bs2, ps2, hL2⟩, hb2⟩
  have hb2' := hb1.trans hb2
  have hc2 := (HW.out _ hb2').2.2.2.1
  have hc2' := (HW.out _ hb2').2.2.2.2
  have HL2 := (show Hid _ from hL2)
  clear hL2 hc1 hc1' HL1
  go_wp2_with fail
  refine (encodes_any m2 _ (w.heap.size + 2) (w.heap.size + 2) 8 2 _ _ _ _ HL2.out (HW.out _ hb2').2.1 hn2 hr2 (HW.out _ hb2').2.2.1 hg2 (by have := hb2'.size; simp at this; omega) (by omega) (by omega) rfl).mono ?_
  rintro e u3 ⟨rfl, ⟨vb3, vp3, bs3, ps3, hL3⟩, hb3⟩
  have hb3' := hb2'.trans hb3
  have hc3 := (HW.out _ hb3').2.2.2.1
  have HL3 := (show Hid _ from hL3)
  clear hL3 hc2 hc2' HL2
  go_wp2_with fail
  refine (encodes_any m _ (w.heap.size + 2) (w.heap.size + 2) 12 3 _ _ _ _ HL3.out (HW.out _ hb3').1 hn hr (HW.out _ hb3').2.2.1 hg (by have := hb3'.size; simp at this; omega) (by omega) (by omega) rfl).mono ?_
  rintro e u4 ⟨rfl, ⟨vb4, vp4, bs4, ps4, hL4⟩, hb4⟩
  have hb4' := hb3'.trans hb4
  have HL4 := (show Hid _ from hL4)
  clear hL4 hc3 HL3
  go_wp2_with fail
  refine (kept_any u4 (w.heap.size + 2) (w.heap.size + 2) 16 4 _ _ _ _ _ _ _ HL4.out (by omega) (by omega)).mono ?_
  rintro e u5 ⟨rfl, nq, hu5⟩
  have hb5' : Below (w.heap.size + 2) (((w.alloc (.cells #[.int .i64 m.kind, .int .i64 m.src, .int .i64 m.dst, .int .i64 m.clock, .int .i64 m.op, .int .i64 m.index, .int .i64 m.key, .int .i64 m.vc, .int .i64 m.vs, .int .i64 m.value, .int .i64 m.fk, .int .i64 m.fc, .int .i64 m.fs, .slice m.ao m.past.length m.c, .bool m.settled] 28)).alloc (.cells #[.int .i64 m2.kind, .int .i64 m2.src, .int .i64 m2.dst, .int .i64 m2.clock, .int .i64 m2.op, .int .i64 m2.index, .int .i64 m2.key, .int .i64 m2.vc, .int .i64 m2.vs, .int .i64 m2.value, .int .i64 m2.fk, .int .i64 m2.fc, .int .i64 m2.fs, .slice m2.ao m2.past.length m2.c, .bool m2.settled] 28)).alloc (.cells (wcells (.slice none 0 0) (.slice none 0 0)) 38)) u5 := by rw [hu5]; exact below_drewN hb4' _
  clear hu5
  go_wp2_with fail
  refine (encode_yes ex4 u5 (fun h => absurd h (by simp [ex4])) (by simp [ex4]) (HW.out _ hb5').2.2.1 (fun _ => fit_of ex4_rng ex4_msg) ex4_msg).mono ?_
  rintro e u6 ⟨v, rfl, hown, hb6⟩
  have hcv : (convert 41 9 v).run Tryd.prog u6 = .ok (.string ⟨#[1, 2, 0, 0, 1, 0, 14, 0]⟩) u6 := by
    have h := conv_row hown (msgBytes_pos _)
    rw [ex4_bytes, ex4_str] at h
    exact h
  have hfin : Below w.heap.size w u6 := hB3.trans ((hb5'.trans (hb6.mono (by have := hb5'.size; simp at this; omega))).mono (by omega))
  clear hown HL4
  go_wp2
  go_ret
  exact ⟨rfl, hfin⟩
end Go.Proofs.YtdpnmpfkbeommaaDoor
