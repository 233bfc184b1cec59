/-
  The reference's Read.
-/
import Derived.Test.YtdpnmpfkbeommaaDoorEB
namespace Go.Proofs.YtdpnmpfkbeommaaDoor
open Go.RowKit
set_option linter.unusedVariables false
set_option linter.unusedSimpArgs false

theorem Cells.newAt {g : Nat} (w : World) (hg : g = w.heap.size) (cs : Array Value) (t : TypeId) : Cells (w.alloc (.cells cs t)) g cs := by
  subst hg; exact Cells.new w cs t

theorem strNe {x : Int} (h : letters x ≠ []) : (str (letters x)).toList.isEmpty = false := by
  by_cases hk : 0 < x ∧ x < 13
  · rcases letters12 hk with rfl | rfl | rfl | rfl | rfl | rfl | rfl | rfl | rfl | rfl | rfl | rfl <;> decide +kernel
  · exact absurd (letters_nil.2 hk) h
theorem sizeSet {w w' : World} {a : Addr} {v : Value} {row : Option Nat} (h : (w.setCell a v).grownBy w' row) : w.heap.size ≤ w'.heap.size := by
  have := h.size
  simpa using this
theorem RAt.start {w wr : World} {s : ByteArray} {l : List UInt8} (hl : letters (bAt (bsOf s) 0) = l) (h0 : 0 < s.size) (hA : Cells wr w.heap.size zcs) (hM : Cells wr (w.heap.size + 1) (mcs (sMsg (bsOf s)) (.slice none 0 0))) (hR : Cells wr (w.heap.size + 2) #[.string s, .int .i64 (s3 (bsOf s)).2.1, .bool (sBad (bsOf s))])
    (hb : w.heap.size + 3 ≤ wr.heap.size) (hg : w.grownBy wr none) : RAt w s l wr 0 (s3 (bsOf s)).2.1 (sMsg (bsOf s)) (sBad (bsOf s)) none 0 := by
  refine ⟨Nat.zero_le _, sn_le s _ (sn_le s _ (sn_le s _ h0)), hA, hM, hR, hb, ownNil _ _ _ _, by simp [sMsg, zMsg], fun _ => rfl, ?_, hg⟩
  rw [List.drop_zero, ← hl]; rfl

theorem Cells.drew {w : World} {g : Nat} {cs : Array Value} (h : Cells w g cs) : Cells w.drew g cs := h
theorem Cells.farOwn {w w' : World} {g base e size n : Nat} {v : Value} {xs : List Value} {cs : Array Value} (h : Cells w g cs) (ho : w.ownsRow base e size v n xs) (hg : w.grownBy w' v.ownBlock) (hlt : g < w.heap.size) (hb : g < base) : Cells w' g cs := by
  have hne : ∀ b, v.ownBlock = some b → g ≠ b := fun b hv => by have := own_ge ho hv; omega
  cases hv : v.ownBlock with
  | none => rw [hv] at hg; exact h.far (hg.but (some (g + 1))) hlt (by omega)
  | some b => rw [hv] at hg; exact h.far hg hlt (hne b hv)

/-- Where Read stands at a pair of a past: j pairs are read. -/
structure PAt (w wr : World) (s : ByteArray) (m : Msg) (n k0 j k : Nat) (ds : List (Int × Int × Int)) (bad : Bool) (ao : Option Addr) (c : Nat) : Prop where
  jn : j ≤ n
  six : ds.length ≤ 6
  dl : bad = false → ds.length = j ∧ n ≤ 6
  le : k ≤ s.size
  keep : RKeep w wr { m with past := ds } ao c
  msg : Cells wr (w.heap.size + 1) (mcs { m with past := ds } (.slice ao ds.length c))
  scan : Cells wr (w.heap.size + 2) #[.string s, .int .i64 k, .bool bad]
  go : (if bad = true then (ds, k, true) else sdeps (bsOf s) (n - j) k ds) = sPast (bsOf s) k0
theorem PAt.out {w wr : World} {s : ByteArray} {m : Msg} {n k0 j k c : Nat} {ds : List (Int × Int × Int)} {bad : Bool} {ao : Option Addr} (h : PAt w wr s m n k0 j k ds bad ao c) (hx : bad = true ∨ n ≤ j) : sPast (bsOf s) k0 = (ds, k, bad) := by
  rw [← h.go]
  rcases hx with rfl | hx
  · simp
  · cases bad
    · rw [if_neg (by simp), show n - j = 0 by omega, sdeps]
    · simp
theorem RAt.nextP {w wr w2 : World} {s : ByteArray} {l : List UInt8} {i k c n j k' c' : Nat} {m : Msg} {ao ao' : Option Addr} {bad' : Bool} {ds : List (Int × Int × Int)} (h : RAt w s l wr i k m false ao c) (hi : i < l.length) (hc : l[i] = 112) (hone : onePast l = true)
    (hP : PAt w w2 s m n k j k' ds bad' ao' c') (hx : bad' = true ∨ n ≤ j) : RAt w s l w2 (i + 1) k' { m with past := ds } bad' ao' c' := by
  have hs := hP.out hx
  have hr : rStep (bsOf s) 112 m k = ({ m with past := ds }, k', bad') := by
    have e : rStep (bsOf s) 112 m k = ({ m with past := (sPast (bsOf s) k).1 }, (sPast (bsOf s) k).2.1, (sPast (bsOf s) k).2.2) := by simp [rStep]
    rw [e, hs]
  exact ⟨by omega, hP.le, hP.keep.res, hP.msg, hP.scan, hP.keep.big, hP.keep.own, hP.six, fun hh => absurd hh (onePast_after l i hone hi hc), by rw [← h.go, rGo_at _ _ _ _ _ hi, hc, hr], hP.keep.grown⟩
theorem PAt.start {w wr w1 : World} {s : ByteArray} {l : List UInt8} {i k c n q : Nat} {m : Msg} {ao : Option Addr} {t b : Bool} (h : RAt w s l wr i k m false ao c) (hi : i < l.length) (hc : l[i] = 112) (hsn : sn (bsOf s) k = (n, q, t)) (hg : wr.grownBy w1 (some (w.heap.size + 2)))
    (hC : Cells w1 (w.heap.size + 2) #[.string s, .int .i64 q, .bool (false || t)]) (hb : b = (t || decide (6 < n))) : PAt w (w1.setCell ⟨w.heap.size + 2, 2, none⟩ (.bool b)) s m n k 0 q [] b ao c := by
  have hp : m.past = [] := h.first (by rw [List.drop_eq_getElem_cons hi, hc]; exact List.mem_cons_self)
  have hmm : ({ m with past := [] } : Msg) = m := by cases m; simp at hp; subst hp; rfl
  refine ⟨Nat.zero_le _, by simp, fun h0 => ⟨rfl, ?_⟩, ?_, ?_, ?_, ?_, ?_⟩
  · rw [hb] at h0; simp at h0; omega
  · have := sn_le s k h.le; rw [hsn] at this; exact this
  · rw [hmm]; exact (h.keep.call hg).set (w.heap.size + 2) (by omega) (by omega) 2 _
  · have := (h.msg.far hg (by have := h.big; omega) (by omega)).other (g' := w.heap.size + 2) (by omega) 2 (.bool b)
    rw [hp] at this
    simpa [mcs] using this
  · simpa using hC.set 2 (.bool b) (by simp)
  · unfold sPast; rw [hsn, hb]; rfl

theorem ownDrew {w : World} {base e size n : Nat} {v : Value} {xs : List Value} (h : w.ownsRow base e size v n xs) : w.drew.ownsRow base e size v n xs := h
theorem one3 (a b c : Int) : ∀ u ∈ [Value.int .i64 a, .int .i64 b, .int .i64 c], u.oneCell' = true := by
  intro u hu; simp at hu; rcases hu with rfl | rfl | rfl <;> rfl
theorem grownDrew {w w' : World} {row : Option Nat} (h : w.grownBy w' row) : w.grownBy w'.drew row := ⟨h.os, h.tape, h.output, h.size, h.block⟩
theorem RKeep.drew {w wr : World} {m : Msg} {ao : Option Addr} {c : Nat} (h : RKeep w wr m ao c) : RKeep w wr.drew m ao c := ⟨h.res, h.big, h.own, grownDrew h.grown⟩
theorem PAt.more {w wr w1 w2 w3 : World} {s : ByteArray} {m : Msg} {n k0 j k c g cap : Nat} {ds : List (Int × Int × Int)} {ao : Option Addr} {ob : Obj} (h : PAt w wr s m n k0 j k ds false ao c) (hj : j < n) (hg1 : wr.grownBy w1 (some (w.heap.size + 2))) (hg2 : w1.drew.grownBy w2 (some (w.heap.size + 2)))
    (hgrow : (w2.alloc ob).grownBy w3 (Value.slice ao ds.length c).ownBlock) {x y z : Int} (hx : x = (sd (bsOf s) k).1.1) (hy : y = (sd (bsOf s) k).1.2.1) (hz : z = (sd (bsOf s) k).1.2.2)
    (hown : w3.ownsRow (w.heap.size + 3) 25 3 (.slice (some ⟨g, 0, none⟩) (ds.length + 1) cap) (ds.length + 1) (depCells ds ++ [.int .i64 x, .int .i64 y, .int .i64 z]))
    (hC : Cells w2 (w.heap.size + 2) #[.string s, .int .i64 (sd (bsOf s) k).2.1, .bool (sd (bsOf s) k).2.2]) :
    PAt w (w3.setCell ⟨w.heap.size + 1, 13, none⟩ (.slice (some ⟨g, 0, none⟩) (ds.length + 1) cap)) s m n k0 (j + 1) (sd (bsOf s) k).2.1 (ds ++ [(x, y, z)]) (sd (bsOf s) k).2.2 (some ⟨g, 0, none⟩) cap := by
  have hK := (h.keep.call hg1).drew.call hg2
  obtain ⟨hdl, hn6⟩ := h.dl rfl
  have hb := hK.big
  have hO : (w2.alloc ob).ownsRow (w.heap.size + 3) 25 3 (.slice ao ds.length c) ds.length (depCells ds) := World.ownsRow.alloc hK.own _
  have hlen : (ds ++ [(x, y, z)]).length = ds.length + 1 := by simp
  have hs1 := hg1.size
  have hs2 := hg2.size
  have hs3 := hgrow.size
  have hb0 := h.keep.big
  have hs2' : w1.heap.size ≤ w2.heap.size := hs2
  simp at hs3
  have fA : ∀ g' cs, Cells w2 g' cs → g' < w.heap.size + 3 → Cells w3 g' cs := fun g' cs hh hlt => (hh.far (World.grownBy_alloc _ _ (some (g' + 1))) (by omega) (by omega)).farOwn hO hgrow (by simp; omega) hlt
  have hM2 : Cells w2 (w.heap.size + 1) (mcs { m with past := ds } (.slice ao ds.length c)) := (h.msg.far hg1 (by omega) (by omega)).drew.far hg2 (by show w.heap.size + 1 < w1.heap.size; omega) (by omega)
  refine ⟨by omega, by rw [hlen]; omega, fun _ => ⟨by rw [hlen]; omega, hn6⟩, sd_le s k h.le, ⟨?_, ?_, ?_, ?_⟩, ?_, ?_, ?_⟩
  · exact (fA _ _ hK.res (by omega)).other (by omega) _ _
  · simp; omega
  · show World.ownsRow _ _ _ _ (.slice (some ⟨g, 0, none⟩) (ds ++ [(x, y, z)]).length cap) (ds ++ [(x, y, z)]).length (depCells (ds ++ [(x, y, z)]))
    rw [hlen, depCells_add]
    exact ownSet hown (by omega) _ _
  · refine newSet ?_ (by omega) _ _
    refine World.grownBy.andThen (hK.grown.trans (World.grownBy_alloc _ _ none)) hgrow (fun g' hg' => Or.inl ?_)
    have := own_ge hO hg'; omega
  · have := (fA _ _ hM2 (by omega)).set 13 (.slice (some ⟨g, 0, none⟩) (ds.length + 1) cap) (by simp)
    rw [hlen]
    simpa [mcs] using this
  · exact (fA _ _ hC (by omega)).other (by omega) _ _
  · have hgo := h.go
    rw [if_neg (by simp), show n - j = (n - (j + 1)) + 1 by omega, sdeps] at hgo
    rw [← hgo, hx, hy, hz]


set_option maxRecDepth 100000 in
set_option maxHeartbeats 8000000 in
theorem sread_main (s : ByteArray) (w : World) (h0 : 0 < s.size) (hsz : s.size ≤ 140737488351232) (l : List UInt8) (x : Int) (hx : bAt (bsOf s) 0 = x) (hlx : letters x = l) (hl : l ≠ []) :
    Calls Tryd.prog 18 #[.string s] w fun e w' => ReadIs w (sRead (bsOf s)) e w' := by
  have hat := bsOf_at s 0 h0
  have hx2 : 0 ≤ x ∧ x < 256 := by rw [← hx]; exact bsOf_256 s 0
  have hw : IntKind.i64.wrap x = x := by simp [IntKind.wrap, IntKind.bits, IntKind.signed]; omega
  rw [hx] at hat
  have HX : Hid (bAt (bsOf s) 0 = x) := hx
  have HLX : Hid (letters x = l) := hlx
  have h0i : ¬ (s.size : Int) = 0 := by omega
  obtain ⟨f, hf⟩ : ∃ f, str l = f := ⟨_, rfl⟩
  have hfn : ¬ f = ⟨#[]⟩ := by rw [← hf]; exact fun h => hl (strNil.1 h)
  have hfb : f.toList.isEmpty = false := by rw [← hf, ← hlx]; exact strNe (fun h => hl (hlx.symm.trans h))
  have hfs : f.size = l.length := by rw [← hf]; exact strSize l
  have HF : Hid (str l = f) := hf
  have hlen : l.length ≤ 7 := by rw [← hlx]; exact lettersLen x
  have HONE : Hid (onePast l = true) := by show onePast l = true; rw [← hlx]; exact letters_one x
  have HLL : Hid (letters (bAt (bsOf s) 0) ≠ []) := by show letters (bAt (bsOf s) 0) ≠ []; rw [hx, hlx]; exact hl
  obtain ⟨i0, hi, hz0, hz1, hz2⟩ := info_parts info25r
  clear hx hlx hf
  have hR0 : Cells (((w.alloc (.cells zcs 28)).alloc (.cells #[.int .i64 x, .int .i64 0, .int .i64 0, .int .i64 0, .int .i64 0, .int .i64 0, .int .i64 0, .int .i64 0, .int .i64 0, .int .i64 0, .int .i64 0, .int .i64 0, .int .i64 0, .slice none 0 0, .bool false] 28)).alloc (.cells #[.string s, .int .i64 1, .bool false] 83)) (w.heap.size + 2) #[.string s, .int .i64 1, .bool false] := Cells.newAt ((w.alloc (.cells zcs 28)).alloc (.cells #[.int .i64 x, .int .i64 0, .int .i64 0, .int .i64 0, .int .i64 0, .int .i64 0, .int .i64 0, .int .i64 0, .int .i64 0, .int .i64 0, .int .i64 0, .int .i64 0, .int .i64 0, .slice none 0 0, .bool false] 28)) (by simp) _ _
  have hM0 : Cells (((w.alloc (.cells zcs 28)).alloc (.cells #[.int .i64 x, .int .i64 0, .int .i64 0, .int .i64 0, .int .i64 0, .int .i64 0, .int .i64 0, .int .i64 0, .int .i64 0, .int .i64 0, .int .i64 0, .int .i64 0, .int .i64 0, .slice none 0 0, .bool false] 28)).alloc (.cells #[.string s, .int .i64 1, .bool false] 83)) (w.heap.size + 1) #[.int .i64 x, .int .i64 0, .int .i64 0, .int .i64 0, .int .i64 0, .int .i64 0, .int .i64 0, .int .i64 0, .int .i64 0, .int .i64 0, .int .i64 0, .int .i64 0, .int .i64 0, .slice none 0 0, .bool false] := (Cells.newAt (w.alloc (.cells zcs 28)) (by simp) #[.int .i64 x, .int .i64 0, .int .i64 0, .int .i64 0, .int .i64 0, .int .i64 0, .int .i64 0, .int .i64 0, .int .i64 0, .int .i64 0, .int .i64 0, .int .i64 0, .int .i64 0, .slice none 0 0, .bool false] 28).far (World.grownBy_alloc _ _ (some (w.heap.size + 2))) (by simp) (by simp)
  have hA0 : Cells (((w.alloc (.cells zcs 28)).alloc (.cells #[.int .i64 x, .int .i64 0, .int .i64 0, .int .i64 0, .int .i64 0, .int .i64 0, .int .i64 0, .int .i64 0, .int .i64 0, .int .i64 0, .int .i64 0, .int .i64 0, .int .i64 0, .slice none 0 0, .bool false] 28)).alloc (.cells #[.string s, .int .i64 1, .bool false] 83)) w.heap.size zcs := ((Cells.new w zcs 28).far (World.grownBy_alloc _ _ (some (w.heap.size + 1))) (by simp) (by omega)).far (World.grownBy_alloc _ _ (some (w.heap.size + 2))) (by simp; omega) (by omega)
  have hg0 : w.grownBy (((w.alloc (.cells zcs 28)).alloc (.cells #[.int .i64 x, .int .i64 0, .int .i64 0, .int .i64 0, .int .i64 0, .int .i64 0, .int .i64 0, .int .i64 0, .int .i64 0, .int .i64 0, .int .i64 0, .int .i64 0, .int .i64 0, .slice none 0 0, .bool false] 28)).alloc (.cells #[.string s, .int .i64 1, .bool false] 83)) none := ((World.grownBy_alloc _ _ none).trans (World.grownBy_alloc _ _ none)).trans (World.grownBy_alloc _ _ none)
  have hs0 : (((w.alloc (.cells zcs 28)).alloc (.cells #[.int .i64 x, .int .i64 0, .int .i64 0, .int .i64 0, .int .i64 0, .int .i64 0, .int .i64 0, .int .i64 0, .int .i64 0, .int .i64 0, .int .i64 0, .int .i64 0, .int .i64 0, .slice none 0 0, .bool false] 28)).alloc (.cells #[.string s, .int .i64 1, .bool false] 83)).heap.size = w.heap.size + 3 := by simp
  go_enter Tryd.func18, Tryd.ntmps18
  go_wp2_with (first
    | (go_at_call 22; refine (fields_any x _).mono ?_; rintro e w1 ⟨rfl, rfl⟩; rw [HLX.out, HF.out])
    | (go_at_call 39; refine (snum_any (w.heap.size + 2) 1 s false _ hR0 h0 hsz).mono ?_; rintro e w1 ⟨rfl, hR1, hg1⟩; have hy1 := hg1.size; have hM1 := hM0.far hg1 (by omega) (by omega); have hm1 := hM1.1; have hmf1 := hM1.2)
    | (go_at_call 39; refine (snum_any (w.heap.size + 2) _ s _ _ (hR1.other (by omega) _ _) (sn_le s _ h0) hsz).mono ?_; rintro e w2 ⟨rfl, hR2, hg2⟩; have hy2 := sizeSet hg2; have hM2 := (hM1.set 1 _ (by simp)).far hg2 (by simp; omega) (by omega); clear hm1 hmf1; have hm2 := hM2.1; have hmf2 := hM2.2)
    | (go_at_call 39; refine (snum_any (w.heap.size + 2) _ s _ _ (hR2.other (by omega) _ _) (sn_le s _ (sn_le s _ h0)) hsz).mono ?_; rintro e w3 ⟨rfl, hR3, hg3⟩; have hy3 := sizeSet hg3; have hM3 := (hM2.set 2 _ (by simp)).far hg3 (by simp; omega) (by omega); clear hm2 hmf2; have hm3 := hM3.1; have hmf3 := hM3.2))
  have HS : Hid (RAt w s l (w3.setCell ⟨w.heap.size + 1, 3, none⟩ (.int .i64 (sn (bsOf s) (sn (bsOf s) (sn (bsOf s) 1).2.1).2.1).1)) 0 (s3 (bsOf s)).2.1 (sMsg (bsOf s)) (sBad (bsOf s)) none 0) := by
    show RAt _ _ _ _ _ _ _ _ _ _
    refine RAt.start (by rw [HX.out, HLX.out]) h0 ?_ ?_ ?_ ?_ ?_
    · exact (((hA0.far hg1 (by omega) (by omega)).other (by omega) _ _).far hg2 (by simp; omega) (by omega) |>.other (by omega) _ _).far hg3 (by simp; omega) (by omega) |>.other (by omega) _ _
    · have := hM3.set 3 (.int .i64 (sn (bsOf s) (sn (bsOf s) (sn (bsOf s) 1).2.1).2.1).1) (by simp)
      simpa [mcs, sMsg, zMsg, HX.out, s1, s2, s3] using this
    · have := hR3.other (g' := w.heap.size + 1) (by omega) 3 (.int .i64 (sn (bsOf s) (sn (bsOf s) (sn (bsOf s) 1).2.1).2.1).1)
      simpa [sBad, s1, s2, s3] using this
    · simp; omega
    · refine newSet ?_ (by omega) _ _
      refine World.grownBy.andThen (newSet (World.grownBy.andThen (newSet (World.grownBy.andThen hg0 hg1 (fun g hg' => Or.inl (by simp at hg'; omega))) (by omega) _ _) hg2 (fun g hg' => Or.inl (by simp at hg'; omega))) (by omega) _ _) hg3 (fun g hg' => Or.inl (by simp at hg'; omega))
  clear hR0 hM0 hA0 hg0 hs0 hR1 hM1 hg1 hR2 hM2 hg2 hR3 hM3 hg3 hm3 hmf3 hy1 hy2 hy3
  go_loopw [7] (fun t7 wr => ∃ (i k : Nat) (m : Msg) (bad : Bool) (ao : Option Addr) (c : Nat), t7 = .int .i64 i ∧ Hid (RAt w s l wr i k m bad ao c)) (fun t7 _ => l.length - (intOf t7).toNat)
  case atStart => exact ⟨0, _, _, _, none, 0, rfl, HS⟩
  case round =>
    clear HS
    obtain ⟨i, k, m, bad, ao, c, rfl, HR⟩ := hrel
    have hR := HR.out
    have hrc := hR.scan.1
    have hrf := hR.scan.2
    have hmc := hR.msg.1
    have hmf := hR.msg.2
    have hMl : w.heap.size + 1 < wr.heap.size := by have := hR.big; omega
    have hRl : w.heap.size + 2 < wr.heap.size := by have := hR.big; omega
    have hil := hR.len
    have HD : Hid (DepsAt wr ao m.past) := by
      obtain ⟨ao', c', e1, e2⟩ := own_deps hR.own
      simp only [Value.slice.injEq] at e1
      obtain ⟨rfl, _, rfl⟩ := e1
      exact e2
    clear hR
    by_cases hlt : i < l.length
    · have hlt' : (i : Int) < (f.size : Int) := by omega
      have hltf : i < f.size := by omega
      have hi0 : (0 : Int) ≤ (i : Int) := by omega
      cases bad
      · have hfi : f[i] = l[i] := by have e := HF.out; subst e; exact strAt l i hltf hlt
        have hin := lettersIn x l[i] (by rw [HLX.out]; exact List.getElem_mem _)
        rcases hin with e | e | e | e | e | e | e | e
        · have hb : f[i].toNat = 111 := by rw [hfi, e]; rfl
          have HE : Hid (l[i] = 111) := e
          clear e hfi
          go_wp2_with (first
            | (go_at_call 39; refine (snum_any (w.heap.size + 2) k s false _ HR.out.scan HR.out.le hsz).mono ?_; rintro e w1 ⟨rfl, hC1, hg1⟩; have hM1 := HR.out.msg.far hg1 hMl (by omega); clear hmc hmf; have hm1 := hM1.1; have hmf1 := hM1.2))
          go_roundw
          case rel =>
            exact ⟨i + 1, _, _, _, ao, c, by go_num, HR.out.next hlt HE.out (by decide) ((HR.out.keep.call hg1).set (w.heap.size + 1) (by omega) (by omega) 4 (.int .i64 (sn (bsOf s) k).1)) rfl (by simpa using hC1.other (g' := w.heap.size + 1) (by omega) 4 (.int .i64 (sn (bsOf s) k).1)) (by simpa [mcs] using hM1.set 4 (.int .i64 (sn (bsOf s) k).1) (by simp)) (sn_le s k HR.out.le)⟩
          case measure => simp [intOf]; omega
        · have hb : f[i].toNat = 105 := by rw [hfi, e]; rfl
          have HE : Hid (l[i] = 105) := e
          clear e hfi
          go_wp2_with (first
            | (go_at_call 39; refine (snum_any (w.heap.size + 2) k s false _ HR.out.scan HR.out.le hsz).mono ?_; rintro e w1 ⟨rfl, hC1, hg1⟩; have hM1 := HR.out.msg.far hg1 hMl (by omega); clear hmc hmf; have hm1 := hM1.1; have hmf1 := hM1.2))
          go_roundw
          case rel =>
            exact ⟨i + 1, _, _, _, ao, c, by go_num, HR.out.next hlt HE.out (by decide) ((HR.out.keep.call hg1).set (w.heap.size + 1) (by omega) (by omega) 5 (.int .i64 (sn (bsOf s) k).1)) rfl (by simpa using hC1.other (g' := w.heap.size + 1) (by omega) 5 (.int .i64 (sn (bsOf s) k).1)) (by simpa [mcs] using hM1.set 5 (.int .i64 (sn (bsOf s) k).1) (by simp)) (sn_le s k HR.out.le)⟩
          case measure => simp [intOf]; omega
        · have hb : f[i].toNat = 107 := by rw [hfi, e]; rfl
          have HE : Hid (l[i] = 107) := e
          clear e hfi
          go_wp2_with (first
            | (go_at_call 39; refine (snum_any (w.heap.size + 2) k s false _ HR.out.scan HR.out.le hsz).mono ?_; rintro e w1 ⟨rfl, hC1, hg1⟩; have hM1 := HR.out.msg.far hg1 hMl (by omega); clear hmc hmf; have hm1 := hM1.1; have hmf1 := hM1.2))
          go_roundw
          case rel =>
            exact ⟨i + 1, _, _, _, ao, c, by go_num, HR.out.next hlt HE.out (by decide) ((HR.out.keep.call hg1).set (w.heap.size + 1) (by omega) (by omega) 6 (.int .i64 (sn (bsOf s) k).1)) rfl (by simpa using hC1.other (g' := w.heap.size + 1) (by omega) 6 (.int .i64 (sn (bsOf s) k).1)) (by simpa [mcs] using hM1.set 6 (.int .i64 (sn (bsOf s) k).1) (by simp)) (sn_le s k HR.out.le)⟩
          case measure => simp [intOf]; omega
        · have hb : f[i].toNat = 118 := by rw [hfi, e]; rfl
          have HE : Hid (l[i] = 118) := e
          clear e hfi
          go_wp2_with (first
            | (go_at_call 40; refine (sver_any (w.heap.size + 2) k s false _ HR.out.scan hRl HR.out.le hsz).mono ?_; rintro e w1 ⟨rfl, hC1, hg1⟩; have hM1 := HR.out.msg.far hg1 hMl (by omega); clear hmc hmf; have hm1 := hM1.1; have hmf1 := hM1.2))
          go_roundw
          case rel =>
            exact ⟨i + 1, _, _, _, ao, c, by go_num, HR.out.next hlt HE.out (by decide) (((HR.out.keep.call hg1).set (w.heap.size + 1) (by omega) (by omega) 7 (.int .i64 (sn (bsOf s) k).1)).set (w.heap.size + 1) (by omega) (by omega) 8 (.int .i64 (sn (bsOf s) (sn (bsOf s) k).2.1).1)) rfl (by simpa [sv] using (hC1.other (g' := w.heap.size + 1) (by omega) 7 (.int .i64 (sn (bsOf s) k).1)).other (g' := w.heap.size + 1) (by omega) 8 (.int .i64 (sn (bsOf s) (sn (bsOf s) k).2.1).1)) (by simpa [mcs, sv] using (hM1.set 7 (.int .i64 (sn (bsOf s) k).1) (by simp)).set 8 (.int .i64 (sn (bsOf s) (sn (bsOf s) k).2.1).1) (by simp)) (sv_le s k HR.out.le)⟩
          case measure => simp [intOf]; omega
        · have hb : f[i].toNat = 120 := by rw [hfi, e]; rfl
          have HE : Hid (l[i] = 120) := e
          clear e hfi
          go_wp2_with (first
            | (go_at_call 41; refine (sval_any (w.heap.size + 2) k s false _ HR.out.scan HR.out.le hsz).mono ?_; rintro e w1 ⟨rfl, hC1, hg1⟩; have hM1 := HR.out.msg.far hg1 hMl (by omega); clear hmc hmf; have hm1 := hM1.1; have hmf1 := hM1.2))
          go_roundw
          case rel =>
            exact ⟨i + 1, _, _, _, ao, c, by go_num, HR.out.next hlt HE.out (by decide) ((HR.out.keep.call hg1).set (w.heap.size + 1) (by omega) (by omega) 9 (.int .i64 (zag (sl (bsOf s) 10 k 0 0).1))) rfl (by simpa using hC1.other (g' := w.heap.size + 1) (by omega) 9 (.int .i64 (zag (sl (bsOf s) 10 k 0 0).1))) (by simpa [mcs] using hM1.set 9 (.int .i64 (zag (sl (bsOf s) 10 k 0 0).1)) (by simp)) (sl10_le s k HR.out.le)⟩
          case measure => simp [intOf]; omega
        · have hb : f[i].toNat = 102 := by rw [hfi, e]; rfl
          have HE : Hid (l[i] = 102) := e
          clear e hfi
          go_wp2_with (first
            | (go_at_call 39; refine (snum_any (w.heap.size + 2) k s false _ HR.out.scan HR.out.le hsz).mono ?_; rintro e w1 ⟨rfl, hC1, hg1⟩; have hM1 := HR.out.msg.far hg1 hMl (by omega); clear hmc hmf; have hy1 := hg1.size; have hm1 := hM1.1; have hmf1 := hM1.2)
            | (go_at_call 40; refine (sver_any (w.heap.size + 2) _ s _ _ (hC1.other (by omega) _ _) (by simp; omega) (sn_le s k HR.out.le) hsz).mono ?_; rintro e w2 ⟨rfl, hC2, hg2⟩; have hM2 := (hM1.set 10 _ (by simp)).far hg2 (by simp; omega) (by omega); clear hm1 hmf1; have hm2 := hM2.1; have hmf2 := hM2.2))
          go_roundw
          case rel =>
            exact ⟨i + 1, _, _, _, ao, c, by go_num, HR.out.next hlt HE.out (by decide) ((((HR.out.keep.call hg1).set (w.heap.size + 1) (by omega) (by omega) 10 (.int .i64 (sn (bsOf s) k).1)).call hg2).set (w.heap.size + 1) (by omega) (by omega) 11 (.int .i64 (sn (bsOf s) (sn (bsOf s) k).2.1).1) |>.set (w.heap.size + 1) (by omega) (by omega) 12 (.int .i64 (sn (bsOf s) (sn (bsOf s) (sn (bsOf s) k).2.1).2.1).1)) rfl (by simpa [sd, sv, Bool.or_assoc] using (hC2.other (g' := w.heap.size + 1) (by omega) 11 (.int .i64 (sn (bsOf s) (sn (bsOf s) k).2.1).1)).other (g' := w.heap.size + 1) (by omega) 12 (.int .i64 (sn (bsOf s) (sn (bsOf s) (sn (bsOf s) k).2.1).2.1).1)) (by simpa [mcs, sd, sv] using (hM2.set 11 (.int .i64 (sn (bsOf s) (sn (bsOf s) k).2.1).1) (by simp)).set 12 (.int .i64 (sn (bsOf s) (sn (bsOf s) (sn (bsOf s) k).2.1).2.1).1) (by simp)) (sd_le s k HR.out.le)⟩
          case measure => simp [intOf]; omega
        · have hb : f[i].toNat = 112 := by rw [hfi, e]; rfl
          have HE : Hid (l[i] = 112) := e
          clear e hfi
          obtain ⟨n, q, t, hv⟩ : ∃ n q t, sn (bsOf s) k = (n, q, t) := ⟨_, _, _, rfl⟩
          have HSN : Hid (sn (bsOf s) k = (n, q, t)) := hv
          clear hv
          cases t
          · by_cases h6 : 6 < n
            · have h6' : (6 : Int) < (n : Int) := by omega
              have h6n : (0 : Int) < (n : Int) := by omega
              have HB : Hid (true = (false || decide (6 < n))) := by show true = (false || decide (6 < n)); simp [h6]
              go_wp2_with (first
                | (go_at_call 39; refine (snum_any (w.heap.size + 2) k s false _ HR.out.scan HR.out.le hsz).mono ?_; rintro e w1 ⟨he, hC1, hg1⟩; rw [HSN.out] at he hC1; subst he; have hM1 := HR.out.msg.far hg1 hMl (by omega); clear hmc hmf; have hm1 := hM1.1; have hmf1 := hM1.2; clear hrc hrf; have hrc := hC1.1; have hrf := hC1.2))
              refine wp_loop_rounds 1 ?_
              rw [rounds_succ]
              go_wp2_with fail
              go_roundw
              case rel => exact ⟨i + 1, _, _, _, ao, c, by go_num, HR.out.nextP hlt HE.out HONE.out (PAt.start HR.out hlt HE.out HSN.out hg1 hC1 HB.out) (Or.inl rfl)⟩
              case measure => simp [intOf]; omega
            · have h6' : decide ((6 : Int) < (n : Int)) = false := by simp; omega
              have HB : Hid (false = (false || decide (6 < n))) := by show false = (false || decide (6 < n)); simp; omega
              go_wp2_with (first
                | (go_at_call 39; refine (snum_any (w.heap.size + 2) k s false _ HR.out.scan HR.out.le hsz).mono ?_; rintro e w1 ⟨he, hC1, hg1⟩; rw [HSN.out] at he hC1; subst he; have hM1 := HR.out.msg.far hg1 hMl (by omega); clear hmc hmf; have hm1 := hM1.1; have hmf1 := hM1.2; clear hrc hrf; have hrc := hC1.1; have hrf := hC1.2))
              have HPS : Hid (PAt w (w1.setCell ⟨w.heap.size + 2, 2, none⟩ (.bool false)) s m n k 0 q [] false ao c) := PAt.start HR.out hlt HE.out HSN.out hg1 hC1 HB.out
              clear hC1 hg1 hM1 hm1 hmf1 hrc hrf hMl hRl HD
              go_loopw [9] (fun t9 wr2 => ∃ (j k2 : Nat) (ds : List (Int × Int × Int)) (bad2 : Bool) (ao2 : Option Addr) (c2 : Nat), t9 = .int .i64 j ∧ Hid (PAt w wr2 s m n k j k2 ds bad2 ao2 c2)) (fun t9 _ => n - (intOf t9).toNat)
              case atStart => exact ⟨0, q, [], false, ao, c, rfl, HPS⟩
              case round =>
                clear HPS
                obtain ⟨j, k2, ds, bad2, ao2, c2, rfl, HP⟩ := hrel
                have hrc := HP.out.scan.1
                have hrf := HP.out.scan.2
                have hMl : w.heap.size + 1 < wr.heap.size := by have := HP.out.keep.big; omega
                have hRl : w.heap.size + 2 < wr.heap.size := by have := HP.out.keep.big; omega
                have hjn := HP.out.jn
                by_cases hj : j < n
                · have hj' : (j : Int) < (n : Int) := by omega
                  cases bad2
                  · have hd6 : ds.length < 6 := by have := HP.out.dl rfl; omega
                    have hmc := HP.out.msg.1
                    go_wp2_with (first
                      | (go_at_call 39; refine (snum_any (w.heap.size + 2) k2 s false _ HP.out.scan HP.out.le hsz).mono ?_; rintro e w1 ⟨rfl, hC1, hg1⟩; have hM1 := HP.out.msg.far hg1 hMl (by omega); clear hmc; have hm1 := hM1.1; have hmf1 := hM1.2))
                    have hO1 : w1.ownsRow (w.heap.size + 3) 25 3 (.slice ao2 ds.length c2) ds.length (depCells ds) := (HP.out.keep.call hg1).own
                    have hy1 := hg1.size
                    have hy2 : w.heap.size + 1 < w1.heap.size := by omega
                    have hy3 : w.heap.size + 2 < w1.heap.size := by omega
                    clear hrc hrf
                    go_region_law (first
                      | (go_simp; go_at_call 40; refine (sver_any (w.heap.size + 2) _ s _ _ hC1.drew hy3 (sn_le s k2 HP.out.le) hsz).mono ?_; rintro e w2 ⟨rfl, hC2, hg2⟩; have hy4 := hg2.size; have hM2 := hM1.drew.far hg2 hy2 (by omega); have hm2 := hM2.1; have hmf2 := hM2.2; have hy5 : w.heap.size + 1 < w2.heap.size := Nat.lt_of_lt_of_le hy2 hy4)
                      | (refine step_append_lies _ rfl _ _ 26 rfl (w.heap.size + 3) 25 i0 (.agg #[.int .i64 0, .int .i64 0, .int .i64 0]) 3 24 Tryd.underlying26 hi hz0 hz1 hz2 rfl (by decide) _ _ _ rfl (World.ownsRow.alloc (ownsRow_far (ownDrew hO1) hg2 (by omega)) _) ⟨w2.heap.size, 0, none⟩ 1 1 [.int .i64 (sn (bsOf s) k2).1, .int .i64 (sn (bsOf s) (sn (bsOf s) k2).2.1).1, .int .i64 (sn (bsOf s) (sn (bsOf s) (sn (bsOf s) k2).2.1).2.1).1] rfl rfl (new3 _ _ _ _ _) (one3 _ _ _) (by decide) (by unfold maxLen; omega) (by omega) (by simp; omega) (w2.heap.size + 1) (by simp) ?_; intro g cap w3 hown3 hgrow hat hlt1; have hM3 := (hM2.far (World.grownBy_alloc _ _ (some (w.heap.size + 2))) hy5 (by omega)).farOwn (World.ownsRow.alloc (ownsRow_far (ownDrew hO1) hg2 (by omega)) _) hgrow (by simp; omega) (by omega); have hm3 := hM3.1; have hmf3 := hM3.2))
                    all_goals go_wp2_with fail
                    all_goals go_roundw
                    all_goals first
                      | (refine ⟨j + 1, _, _, _, _, _, by go_num, HP.out.more hj hg1 hg2 hgrow (x := (sn (bsOf s) k2).1) (y := (sn (bsOf s) (sn (bsOf s) k2).2.1).1) (z := (sn (bsOf s) (sn (bsOf s) (sn (bsOf s) k2).2.1).2.1).1) rfl rfl rfl hown3 ?_⟩
                         simpa [sd, sv, Bool.or_assoc] using hC2)
                      | (simp [intOf]; omega)
                  · have hjt := hj'
                    go_wp2_with fail
                    go_roundw
                    case rel => exact ⟨i + 1, _, _, _, ao2, c2, by go_num, HR.out.nextP hlt HE.out HONE.out HP.out (Or.inl rfl)⟩
                    case measure => simp [intOf]; omega
                · have hj' : ¬ (j : Int) < (n : Int) := by omega
                  go_wp2_with fail
                  go_roundw
                  case rel => exact ⟨i + 1, _, _, _, ao2, c2, by go_num, HR.out.nextP hlt HE.out HONE.out HP.out (Or.inr (by omega))⟩
                  case measure => simp [intOf]; omega
          · have HB : Hid (true = (true || decide (6 < n))) := by show true = (true || decide (6 < n)); simp
            by_cases hn0 : 0 < n
            · have hn0' : (0 : Int) < (n : Int) := by omega
              go_wp2_with (first
                | (go_at_call 39; refine (snum_any (w.heap.size + 2) k s false _ HR.out.scan HR.out.le hsz).mono ?_; rintro e w1 ⟨he, hC1, hg1⟩; rw [HSN.out] at he hC1; subst he; have hM1 := HR.out.msg.far hg1 hMl (by omega); clear hmc hmf; have hm1 := hM1.1; have hmf1 := hM1.2; clear hrc hrf; have hrc := hC1.1; have hrf := hC1.2))
              refine wp_loop_rounds 1 ?_
              rw [rounds_succ]
              go_wp2_with fail
              go_roundw
              case rel => exact ⟨i + 1, _, _, _, ao, c, by go_num, HR.out.nextP hlt HE.out HONE.out (PAt.start HR.out hlt HE.out HSN.out hg1 hC1 HB.out) (Or.inl rfl)⟩
              case measure => simp [intOf]; omega
            · have hn0' : ¬ (0 : Int) < (n : Int) := by omega
              go_wp2_with (first
                | (go_at_call 39; refine (snum_any (w.heap.size + 2) k s false _ HR.out.scan HR.out.le hsz).mono ?_; rintro e w1 ⟨he, hC1, hg1⟩; rw [HSN.out] at he hC1; subst he; have hM1 := HR.out.msg.far hg1 hMl (by omega); clear hmc hmf; have hm1 := hM1.1; have hmf1 := hM1.2; clear hrc hrf; have hrc := hC1.1; have hrf := hC1.2))
              refine wp_loop_rounds 1 ?_
              rw [rounds_succ]
              go_wp2_with fail
              go_roundw
              case rel => exact ⟨i + 1, _, _, _, ao, c, by go_num, HR.out.nextP hlt HE.out HONE.out (PAt.start HR.out hlt HE.out HSN.out hg1 hC1 HB.out) (Or.inl rfl)⟩
              case measure => simp [intOf]; omega
        · have hb : f[i].toNat = 115 := by rw [hfi, e]; rfl
          have HE : Hid (l[i] = 115) := e
          clear e hfi
          obtain ⟨n, q, t, hv⟩ : ∃ n q t, sn (bsOf s) k = (n, q, t) := ⟨_, _, _, rfl⟩
          have HSN : Hid (sn (bsOf s) k = (n, q, t)) := hv
          have H11 : Hid (((n : Int) == 1) = decide (n = 1)) := by
            show ((n : Int) == 1) = decide (n = 1)
            by_cases e1 : n = 1
            · simp [e1]
            · rw [decide_eq_false e1]; simp; omega
          clear hv
          cases t
          · by_cases h1 : 1 < n
            · have h1' : (1 : Int) < (n : Int) := by omega
              have HN : Hid (1 < n) := h1
              clear h1
              go_wp2_with (first
                | (go_at_call 39; refine (snum_any (w.heap.size + 2) k s false _ HR.out.scan HR.out.le hsz).mono ?_; rintro e w1 ⟨he, hC1, hg1⟩; rw [HSN.out] at he hC1; subst he; have hM1 := HR.out.msg.far hg1 hMl (by omega); clear hmc hmf; have hm1 := hM1.1; have hmf1 := hM1.2; clear hrc hrf; have hrc := hC1.1; have hrf := hC1.2))
              go_roundw
              case rel =>
                exact ⟨i + 1, _, _, _, ao, c, by go_num, HR.out.next hlt HE.out (by decide) (((HR.out.keep.call hg1).set (w.heap.size + 2) (by omega) (by omega) 2 (.bool true)).set (w.heap.size + 1) (by omega) (by omega) 14 (.bool ((n : Int) == 1))) (m' := { m with settled := decide (n = 1) }) (k' := q) (bad' := true) (by simp [rStep, HSN.out, HN.out]) (by simpa using (hC1.set 2 (.bool true) (by simp)).other (g' := w.heap.size + 1) (by omega) 14 (.bool ((n : Int) == 1))) (by simpa [mcs, H11.out] using (hM1.other (g' := w.heap.size + 2) (by omega) 2 (.bool true)).set 14 (.bool ((n : Int) == 1)) (by simp)) (by have := sn_le s k HR.out.le; rw [HSN.out] at this; exact this)⟩
              case measure => simp [intOf]; omega
            · have h1' : decide ((1 : Int) < (n : Int)) = false := by simp; omega
              have HN : Hid (¬ 1 < n) := h1
              clear h1
              go_wp2_with (first
                | (go_at_call 39; refine (snum_any (w.heap.size + 2) k s false _ HR.out.scan HR.out.le hsz).mono ?_; rintro e w1 ⟨he, hC1, hg1⟩; rw [HSN.out] at he hC1; subst he; have hM1 := HR.out.msg.far hg1 hMl (by omega); clear hmc hmf; have hm1 := hM1.1; have hmf1 := hM1.2; clear hrc hrf; have hrc := hC1.1; have hrf := hC1.2))
              go_roundw
              case rel =>
                exact ⟨i + 1, _, _, _, ao, c, by go_num, HR.out.next hlt HE.out (by decide) (((HR.out.keep.call hg1).set (w.heap.size + 2) (by omega) (by omega) 2 (.bool false)).set (w.heap.size + 1) (by omega) (by omega) 14 (.bool ((n : Int) == 1))) (m' := { m with settled := decide (n = 1) }) (k' := q) (bad' := false) (by simp [rStep, HSN.out, HN.out]) (by simpa using (hC1.set 2 (.bool false) (by simp)).other (g' := w.heap.size + 1) (by omega) 14 (.bool ((n : Int) == 1))) (by simpa [mcs, H11.out] using (hM1.other (g' := w.heap.size + 2) (by omega) 2 (.bool false)).set 14 (.bool ((n : Int) == 1)) (by simp)) (by have := sn_le s k HR.out.le; rw [HSN.out] at this; exact this)⟩
              case measure => simp [intOf]; omega
          · have HN : Hid (True) := trivial
            go_wp2_with (first
              | (go_at_call 39; refine (snum_any (w.heap.size + 2) k s false _ HR.out.scan HR.out.le hsz).mono ?_; rintro e w1 ⟨he, hC1, hg1⟩; rw [HSN.out] at he hC1; subst he; have hM1 := HR.out.msg.far hg1 hMl (by omega); clear hmc hmf; have hm1 := hM1.1; have hmf1 := hM1.2; clear hrc hrf; have hrc := hC1.1; have hrf := hC1.2))
            go_roundw
            case rel =>
              exact ⟨i + 1, _, _, _, ao, c, by go_num, HR.out.next hlt HE.out (by decide) (((HR.out.keep.call hg1).set (w.heap.size + 2) (by omega) (by omega) 2 (.bool true)).set (w.heap.size + 1) (by omega) (by omega) 14 (.bool ((n : Int) == 1))) (m' := { m with settled := decide (n = 1) }) (k' := q) (bad' := true) (by simp [rStep, HSN.out, HN.out]) (by simpa using (hC1.set 2 (.bool true) (by simp)).other (g' := w.heap.size + 1) (by omega) 14 (.bool ((n : Int) == 1))) (by simpa [mcs, H11.out] using (hM1.other (g' := w.heap.size + 2) (by omega) 2 (.bool true)).set 14 (.bool ((n : Int) == 1)) (by simp)) (by have := sn_le s k HR.out.le; rw [HSN.out] at this; exact this)⟩
            case measure => simp [intOf]; omega
      · have hE : sEnd (bsOf s) = (m, k, true) := HR.out.ended (Or.inl rfl)
        have hsr := sRead_end (by rw [bsOf_len]; exact h0) HLL.out hE
        have HSR : Hid (sRead (bsOf s) = none) := by show sRead (bsOf s) = none; rw [hsr]; simp
        obtain ⟨pv, hpv⟩ : ∃ pv, rpast m.past = pv := ⟨_, rfl⟩
        have HP : Hid (rpast m.past = pv) := hpv
        clear hsr hpv hE
        go_wp2_with (first
          | (go_at_call 23; refine (rpast_any ao m.past c _ HD.out (by have := HR.out.six; omega)).mono ?_; rintro e w1 ⟨rfl, hb1⟩; rw [HP.out]; have hgn : wr.grownBy w1 none := Lib.grownBy_below (World.grownBy.refl _ _) hb1; have hA1 := HR.out.res.far (hgn.but (some (w.heap.size + 1))) (by omega) (by omega); have hM1 := HR.out.msg.far (hgn.but (some w.heap.size)) hMl (by omega); have hR1 := HR.out.scan.far (hgn.but (some w.heap.size)) hRl (by omega); clear hmc hmf hrc hrf; have hmc := hM1.1; have hrc := hR1.1; have hac := hA1.1; have haf := hA1.2))
        refine bodyPost_ret (res28t rfl _ _ w.heap.size _ _ _ _ _ _ _ _ _ _ _ _ _ _ _ _ rfl rfl (put15_cells hA1 rfl _ _ _ _ _ _ _ _ _ _ _ _ _ _ _)) rfl ?_
        refine ⟨put15_grown (HR.out.grown.trans hgn) (Nat.le_refl _) _ _ _ _ _ _ _ _ _ _ _ _ _ _ _, ?_⟩
        rw [HSR.out]
        rfl
    · have hlt' : ¬ (i : Int) < (f.size : Int) := by omega
      have hE : sEnd (bsOf s) = (m, k, bad) := HR.out.ended (Or.inr (by omega))
      have hsr := sRead_end (by rw [bsOf_len]; exact h0) HLL.out hE
      rw [bsOf_len] at hsr
      clear hE
      cases bad
      · by_cases hk : k = s.size
        · have hk' : (k : Int) = (s.size : Int) := by omega
          cases hp : rpast m.past
          · have HSR : Hid (sRead (bsOf s) = none) := by show sRead (bsOf s) = none; rw [hsr, hp]; simp
            have HP : Hid (rpast m.past = false) := hp
            clear hsr hp hk
            go_wp2_with (first
              | (go_at_call 23; refine (rpast_any ao m.past c _ HD.out (by have := HR.out.six; omega)).mono ?_; rintro e w1 ⟨rfl, hb1⟩; rw [HP.out]; have hgn : wr.grownBy w1 none := Lib.grownBy_below (World.grownBy.refl _ _) hb1; have hA1 := HR.out.res.far (hgn.but (some (w.heap.size + 1))) (by omega) (by omega); have hM1 := HR.out.msg.far (hgn.but (some w.heap.size)) hMl (by omega); have hR1 := HR.out.scan.far (hgn.but (some w.heap.size)) hRl (by omega); clear hmc hmf hrc hrf; have hmc := hM1.1; have hrc := hR1.1; have hac := hA1.1; have haf := hA1.2))
            refine bodyPost_ret (res28t rfl _ _ w.heap.size _ _ _ _ _ _ _ _ _ _ _ _ _ _ _ _ rfl rfl (put15_cells hA1 rfl _ _ _ _ _ _ _ _ _ _ _ _ _ _ _)) rfl ?_
            refine ⟨put15_grown (HR.out.grown.trans hgn) (Nat.le_refl _) _ _ _ _ _ _ _ _ _ _ _ _ _ _ _, ?_⟩
            rw [HSR.out]
            rfl
          · have HSR : Hid (sRead (bsOf s) = some m) := by show sRead (bsOf s) = some m; rw [hsr, hp]; simp [hk]
            have HP : Hid (rpast m.past = true) := hp
            clear hsr hp hk
            go_wp2_with (first
              | (go_at_call 23; refine (rpast_any ao m.past c _ HD.out (by have := HR.out.six; omega)).mono ?_; rintro e w1 ⟨rfl, hb1⟩; rw [HP.out]; have hgn : wr.grownBy w1 none := Lib.grownBy_below (World.grownBy.refl _ _) hb1; have hA1 := HR.out.res.far (hgn.but (some (w.heap.size + 1))) (by omega) (by omega); have hM1 := HR.out.msg.far (hgn.but (some w.heap.size)) hMl (by omega); have hR1 := HR.out.scan.far (hgn.but (some w.heap.size)) hRl (by omega); clear hmc hmf hrc hrf; have hmc := hM1.1; have hrc := hR1.1; have hac := hA1.1; have haf := hA1.2))
            refine bodyPost_ret (res28t rfl _ _ w.heap.size _ _ _ _ _ _ _ _ _ _ _ _ _ _ _ _ rfl rfl (put15_cells hA1 rfl _ _ _ _ _ _ _ _ _ _ _ _ _ _ _)) rfl ?_
            refine ⟨put15_grown (HR.out.grown.trans hgn) (Nat.le_refl _) _ _ _ _ _ _ _ _ _ _ _ _ _ _ _, ?_⟩
            rw [HSR.out]
            exact ⟨ao, c, rfl, ownBase (put15_own (ownsRow_far HR.out.own (hgn.but (some w.heap.size)) (by omega)) (by omega) _ _ _ _ _ _ _ _ _ _ _ _ _ _ _) (by omega)⟩
        · have HSR : Hid (sRead (bsOf s) = none) := by show sRead (bsOf s) = none; rw [hsr]; simp [hk]
          have hk' : ¬ (k : Int) = (s.size : Int) := by omega
          obtain ⟨pv, hpv⟩ : ∃ pv, rpast m.past = pv := ⟨_, rfl⟩
          have HP : Hid (rpast m.past = pv) := hpv
          clear hsr hk hpv
          go_wp2_with (first
            | (go_at_call 23; refine (rpast_any ao m.past c _ HD.out (by have := HR.out.six; omega)).mono ?_; rintro e w1 ⟨rfl, hb1⟩; rw [HP.out]; have hgn : wr.grownBy w1 none := Lib.grownBy_below (World.grownBy.refl _ _) hb1; have hA1 := HR.out.res.far (hgn.but (some (w.heap.size + 1))) (by omega) (by omega); have hM1 := HR.out.msg.far (hgn.but (some w.heap.size)) hMl (by omega); have hR1 := HR.out.scan.far (hgn.but (some w.heap.size)) hRl (by omega); clear hmc hmf hrc hrf; have hmc := hM1.1; have hrc := hR1.1; have hac := hA1.1; have haf := hA1.2))
          refine bodyPost_ret (res28t rfl _ _ w.heap.size _ _ _ _ _ _ _ _ _ _ _ _ _ _ _ _ rfl rfl (put15_cells hA1 rfl _ _ _ _ _ _ _ _ _ _ _ _ _ _ _)) rfl ?_
          refine ⟨put15_grown (HR.out.grown.trans hgn) (Nat.le_refl _) _ _ _ _ _ _ _ _ _ _ _ _ _ _ _, ?_⟩
          rw [HSR.out]
          rfl
      · have HSR : Hid (sRead (bsOf s) = none) := by show sRead (bsOf s) = none; rw [hsr]; simp
        obtain ⟨pv, hpv⟩ : ∃ pv, rpast m.past = pv := ⟨_, rfl⟩
        have HP : Hid (rpast m.past = pv) := hpv
        clear hsr hpv
        go_wp2_with (first
          | (go_at_call 23; refine (rpast_any ao m.past c _ HD.out (by have := HR.out.six; omega)).mono ?_; rintro e w1 ⟨rfl, hb1⟩; rw [HP.out]; have hgn : wr.grownBy w1 none := Lib.grownBy_below (World.grownBy.refl _ _) hb1; have hA1 := HR.out.res.far (hgn.but (some (w.heap.size + 1))) (by omega) (by omega); have hM1 := HR.out.msg.far (hgn.but (some w.heap.size)) hMl (by omega); have hR1 := HR.out.scan.far (hgn.but (some w.heap.size)) hRl (by omega); clear hmc hmf hrc hrf; have hmc := hM1.1; have hrc := hR1.1; have hac := hA1.1; have haf := hA1.2))
        refine bodyPost_ret (res28t rfl _ _ w.heap.size _ _ _ _ _ _ _ _ _ _ _ _ _ _ _ _ rfl rfl (put15_cells hA1 rfl _ _ _ _ _ _ _ _ _ _ _ _ _ _ _)) rfl ?_
        refine ⟨put15_grown (HR.out.grown.trans hgn) (Nat.le_refl _) _ _ _ _ _ _ _ _ _ _ _ _ _ _ _, ?_⟩
        rw [HSR.out]
        rfl

/-- Read of whatever bytes: what wire's parser reads of them. -/
theorem sread_any (s : ByteArray) (w : World) (hsz : s.size ≤ 140737488351232) : Calls Tryd.prog 18 #[.string s] w fun e w' => ReadIs w (pDec (bsOf s)) e w' := by
  rw [← sRead_pDec (bsOf_256 s)]
  by_cases h0 : s.size = 0
  · exact sread_empty s w h0
  by_cases hl : letters (bAt (bsOf s) 0) = []
  · exact sread_none s w (by omega) hl
  · exact sread_main s w (by omega) hsz _ _ rfl rfl hl

end Go.Proofs.YtdpnmpfkbeommaaDoor
