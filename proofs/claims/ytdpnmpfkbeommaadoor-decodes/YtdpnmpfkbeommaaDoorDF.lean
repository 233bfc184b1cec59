/-
  The reader of wire: a message.
-/
import Derived.Test.YtdpnmpfkbeommaaDoorDE
import Derived.Test.YtdpnmpfkbeommaaDoorD
import Derived.Test.YtdpnmpfkbeommaaDoorM
namespace Go.Proofs.YtdpnmpfkbeommaaDoor
open Go.RowKit

def lStep (bs : List Int) (c : UInt8) (s : Msg × Nat) : Option (Msg × Nat) :=
  if c = 111 then (match pNum bs s.2 with | none => none | some r => some ({ s.1 with op := r.1 }, r.2))
  else if c = 105 then (match pNum bs s.2 with | none => none | some r => some ({ s.1 with index := r.1 }, r.2))
  else if c = 107 then (match pNum bs s.2 with | none => none | some r => some ({ s.1 with key := r.1 }, r.2))
  else if c = 118 then (match pVer bs s.2 with | none => none | some r => some ({ s.1 with vc := r.1.1, vs := r.1.2 }, r.2))
  else if c = 120 then (match pVal bs s.2 with | none => none | some r => some ({ s.1 with value := r.1 }, r.2))
  else if c = 102 then (match pDep bs s.2 with | none => none | some r => some ({ s.1 with fk := r.1.1, fc := r.1.2.1, fs := r.1.2.2 }, r.2))
  else if c = 112 then (match pPast bs s.2 with | none => none | some r => some ({ s.1 with past := r.1 }, r.2))
  else if c = 115 then (match pFlag bs s.2 with | none => none | some r => some ({ s.1 with settled := r.1 }, r.2))
  else some s
def lSteps (bs : List Int) : List UInt8 → Msg × Nat → Option (Msg × Nat)
  | [], s => some s
  | c :: l, s => match lStep bs c s with
    | none => none
    | some s' => lSteps bs l s'
def zMsg (k s d c : Int) : Msg := ⟨k, s, d, c, 0, 0, 0, 0, 0, 0, 0, 0, 0, none, [], 0, false⟩
def pMsg (bs : List Int) (k : Nat) : Option (Msg × Nat) :=
  match pKind bs k with
  | none => none
  | some x => match pNum bs x.2 with
    | none => none
    | some s => match pNum bs s.2 with
      | none => none
      | some d => match pNum bs d.2 with
        | none => none
        | some c => lSteps bs (letters x.1) (zMsg x.1 s.1 d.1 c.1, c.2)

def mval (m : Msg) (v : Value) : Value := .agg #[.int .i64 m.kind, .int .i64 m.src, .int .i64 m.dst, .int .i64 m.clock, .int .i64 m.op, .int .i64 m.index, .int .i64 m.key, .int .i64 m.vc, .int .i64 m.vs, .int .i64 m.value, .int .i64 m.fk, .int .i64 m.fc, .int .i64 m.fs, v, .bool m.settled]

def TookMsg (w : World) (B b o : Nat) (bs : List Int) (r : Option (Msg × Nat)) (e : Ending) (w' : World) : Prop :=
  w.grownBy w' (some B) ∧ match r with
    | none => e = .panicked [{ v := .iface 87 (.agg #[]), recovered := false }]
    | some r => ∃ v, e = .returned (mval r.1 v) ∧ w'.ownsRow w.heap.size 25 3 v r.1.past.length (depCells r.1.past) ∧ RestIs w' B b o bs r.2
theorem TookMsg.no {w w' : World} {B b o : Nat} {bs : List Int} {r : Option (Msg × Nat)} (hr : r = none) (hg : w.grownBy w' (some B)) : TookMsg w B b o bs r (.panicked [{ v := .iface 87 (.agg #[]), recovered := false }]) w' := by
  subst hr; exact ⟨hg, rfl⟩
theorem TookMsg.ok {w w' : World} {B b o q : Nat} {bs : List Int} {r : Option (Msg × Nat)} {m : Msg} {v x : Value} (hr : r = some (m, q)) (hx : x = mval m v) (hg : w.grownBy w' (some B)) (ho : w'.ownsRow w.heap.size 25 3 v m.past.length (depCells m.past)) (hR : RestIs w' B b o bs q) : TookMsg w B b o bs r (.returned x) w' := by
  subst hr hx; exact ⟨hg, v, rfl, ho, hR⟩

theorem tookCases {α : Type} {w w' : World} {B b o : Nat} {bs : List Int} {x : Option α} {f : α → Value × Nat} {e : Ending} (h : Took w B b o bs (x.map f) e w') :
    (x = none ∧ e = .panicked [{ v := .iface 87 (.agg #[]), recovered := false }] ∧ w.grownBy w' (some B)) ∨ (∃ r, x = some r ∧ e = .returned (f r).1 ∧ RestIs w' B b o bs (f r).2 ∧ w.grownBy w' (some B)) := by
  cases x with
  | none => exact Or.inl ⟨rfl, h.2, h.1⟩
  | some r => exact Or.inr ⟨r, rfl, h.2.1, h.2.2, h.1⟩
theorem pastCases {w w' : World} {B b o : Nat} {bs : List Int} {x : Option (List (Int × Int × Int) × Nat)} {e : Ending} (h : TookPast w B b o bs x e w') :
    (x = none ∧ e = .panicked [{ v := .iface 87 (.agg #[]), recovered := false }] ∧ w.grownBy w' (some B)) ∨ (∃ r ao c, x = some r ∧ e = .returned (.slice ao r.1.length c) ∧ RestIs w' B b o bs r.2 ∧ w.grownBy w' (some B) ∧ w'.ownsRow w.heap.size 25 3 (.slice ao r.1.length c) r.1.length (depCells r.1)) := by
  cases x with
  | none => exact Or.inl ⟨rfl, h.2, h.1⟩
  | some r =>
    obtain ⟨hg, v, h1, h2, h3⟩ := h
    obtain ⟨ao, c, rfl, _⟩ := own_deps h2
    exact Or.inr ⟨r, ao, c, rfl, h1, h3, hg, h2⟩

/-- Block g has these cells, and may be written. -/
def Cells (w : World) (g : Nat) (cs : Array Value) : Prop := (∀ o, w.cell? ⟨g, o, none⟩ = cs[o]?) ∧ ∀ o, w.frozen? ⟨g, o, none⟩ = false
theorem Cells.set {w : World} {g : Nat} {cs : Array Value} (h : Cells w g cs) (i : Nat) (v : Value) (hi : i < cs.size) : Cells (w.setCell ⟨g, i, none⟩ v) g (cs.setIfInBounds i v) := by
  refine ⟨fun o => ?_, fun o => by simpa using h.2 o⟩
  rw [Array.getElem?_setIfInBounds]
  by_cases e : i = o
  · subst e
    rw [if_pos rfl, if_pos hi]
    exact World.cell?_setCell_same _ _ _ ((h.1 i).trans (Array.getElem?_eq_getElem hi))
  · rw [if_neg e, World.cell?_setCell_other _ _ _ _ (by simp)]
    exact h.1 o
theorem Cells.far {w w' : World} {g B : Nat} {cs : Array Value} (h : Cells w g cs) (hg : w.grownBy w' (some B)) (hlt : g < w.heap.size) (hne : g ≠ B) : Cells w' g cs :=
  ⟨fun o => (hg.cell_far _ hlt (by simpa using hne)).trans (h.1 o), fun o => (hg.frozen_far _ hlt (by simpa using hne)).trans (h.2 o)⟩
theorem Cells.other {w : World} {g g' : Nat} {cs : Array Value} (h : Cells w g cs) (hne : g ≠ g') (i : Nat) (v : Value) : Cells (w.setCell ⟨g', i, none⟩ v) g cs :=
  ⟨fun o => (World.cell?_setCell_other _ _ _ _ (by simp only [ne_eq, Addr.mk.injEq, not_and]; intro e; omega)).trans (h.1 o), fun o => by simpa using h.2 o⟩
theorem Cells.new (w : World) (cs : Array Value) (t : TypeId) : Cells (w.alloc (.cells cs t)) w.heap.size cs :=
  ⟨fun o => by simp [go_sem], fun o => by simp [go_sem]⟩

theorem ownSet {w : World} {base e size g n : Nat} {v : Value} {xs : List Value} (h : w.ownsRow base e size v n xs) (hg : g < base) (i : Nat) (u : Value) : (w.setCell ⟨g, i, none⟩ u).ownsRow base e size v n xs := ownsRow_far h (Lib.grownBy_setCell w g i u) hg
theorem ownBase {w : World} {base base' e size n : Nat} {v : Value} {xs : List Value} (h : w.ownsRow base e size v n xs) (hb : base' ≤ base) : w.ownsRow base' e size v n xs := by
  obtain ⟨hl, h | ⟨g, cap, cur, rfl, hg, hr⟩⟩ := h
  · exact ⟨hl, Or.inl h⟩
  · exact ⟨hl, Or.inr ⟨g, cap, cur, rfl, by omega, hr⟩⟩
theorem ownNil (w : World) (base e size : Nat) : w.ownsRow base e size (.slice none 0 0) 0 [] := ⟨by simp, Or.inl ⟨rfl, rfl⟩⟩
abbrev put15 (w : World) (g : Nat) (v0 v1 v2 v3 v4 v5 v6 v7 v8 v9 v10 v11 v12 v13 v14 : Value) : World :=
  ((((((((((((((w.setCell ⟨g, 0, none⟩ v0).setCell ⟨g, 1, none⟩ v1).setCell ⟨g, 2, none⟩ v2).setCell ⟨g, 3, none⟩ v3).setCell ⟨g, 4, none⟩ v4).setCell ⟨g, 5, none⟩ v5).setCell ⟨g, 6, none⟩ v6).setCell ⟨g, 7, none⟩ v7).setCell ⟨g, 8, none⟩ v8).setCell ⟨g, 9, none⟩ v9).setCell ⟨g, 10, none⟩ v10).setCell ⟨g, 11, none⟩ v11).setCell ⟨g, 12, none⟩ v12).setCell ⟨g, 13, none⟩ v13).setCell ⟨g, 14, none⟩ v14
theorem res28 {fn : Func} {p : Tmp} (h : fn.results = #[.cell p 28]) (tmps : Array Value) (w : World) (g : Nat) (v0 v1 v2 v3 v4 v5 v6 v7 v8 v9 v10 v11 v12 v13 v14 : Value) (hp : tmps.getD p undef = .pointer (some ⟨g, 0, none⟩)) (hc : Cells w g #[v0, v1, v2, v3, v4, v5, v6, v7, v8, v9, v10, v11, v12, v13, v14]) :
    (results fn tmps).run Tryd.prog w = .ok (.agg #[v0, v1, v2, v3, v4, v5, v6, v7, v8, v9, v10, v11, v12, v13, v14]) w := by
  have hp' : tmps[p]?.getD undef = .pointer (some ⟨g, 0, none⟩) := by simpa using hp
  have h1 := hc.1
  simp [results, h, hp', go_sem, h1]
set_option maxRecDepth 100000 in
theorem put15_cells {w : World} {g : Nat} {cs : Array Value} (h : Cells w g cs) (hs : cs.size = 15) (v0 v1 v2 v3 v4 v5 v6 v7 v8 v9 v10 v11 v12 v13 v14 : Value) : Cells (put15 w g v0 v1 v2 v3 v4 v5 v6 v7 v8 v9 v10 v11 v12 v13 v14) g #[v0, v1, v2, v3, v4, v5, v6, v7, v8, v9, v10, v11, v12, v13, v14] := by
  obtain ⟨l⟩ := cs
  match l, hs with
  | [a0, a1, a2, a3, a4, a5, a6, a7, a8, a9, a10, a11, a12, a13, a14], _ =>
    have h0 : Cells _ g #[v0, a1, a2, a3, a4, a5, a6, a7, a8, a9, a10, a11, a12, a13, a14] := h.set 0 v0 (by simp)
    have h1 : Cells _ g #[v0, v1, a2, a3, a4, a5, a6, a7, a8, a9, a10, a11, a12, a13, a14] := h0.set 1 v1 (by simp)
    have h2 : Cells _ g #[v0, v1, v2, a3, a4, a5, a6, a7, a8, a9, a10, a11, a12, a13, a14] := h1.set 2 v2 (by simp)
    have h3 : Cells _ g #[v0, v1, v2, v3, a4, a5, a6, a7, a8, a9, a10, a11, a12, a13, a14] := h2.set 3 v3 (by simp)
    have h4 : Cells _ g #[v0, v1, v2, v3, v4, a5, a6, a7, a8, a9, a10, a11, a12, a13, a14] := h3.set 4 v4 (by simp)
    have h5 : Cells _ g #[v0, v1, v2, v3, v4, v5, a6, a7, a8, a9, a10, a11, a12, a13, a14] := h4.set 5 v5 (by simp)
    have h6 : Cells _ g #[v0, v1, v2, v3, v4, v5, v6, a7, a8, a9, a10, a11, a12, a13, a14] := h5.set 6 v6 (by simp)
    have h7 : Cells _ g #[v0, v1, v2, v3, v4, v5, v6, v7, a8, a9, a10, a11, a12, a13, a14] := h6.set 7 v7 (by simp)
    have h8 : Cells _ g #[v0, v1, v2, v3, v4, v5, v6, v7, v8, a9, a10, a11, a12, a13, a14] := h7.set 8 v8 (by simp)
    have h9 : Cells _ g #[v0, v1, v2, v3, v4, v5, v6, v7, v8, v9, a10, a11, a12, a13, a14] := h8.set 9 v9 (by simp)
    have h10 : Cells _ g #[v0, v1, v2, v3, v4, v5, v6, v7, v8, v9, v10, a11, a12, a13, a14] := h9.set 10 v10 (by simp)
    have h11 : Cells _ g #[v0, v1, v2, v3, v4, v5, v6, v7, v8, v9, v10, v11, a12, a13, a14] := h10.set 11 v11 (by simp)
    have h12 : Cells _ g #[v0, v1, v2, v3, v4, v5, v6, v7, v8, v9, v10, v11, v12, a13, a14] := h11.set 12 v12 (by simp)
    have h13 : Cells _ g #[v0, v1, v2, v3, v4, v5, v6, v7, v8, v9, v10, v11, v12, v13, a14] := h12.set 13 v13 (by simp)
    have h14 : Cells _ g #[v0, v1, v2, v3, v4, v5, v6, v7, v8, v9, v10, v11, v12, v13, v14] := h13.set 14 v14 (by simp)
    exact h14
theorem finMsg {fn : Func} {p : Tmp} (hf : fn.results = #[.cell p 28]) {tmps : Array Value} {w W : World} {B b o q : Nat} {bs : List Int} {cs : Array Value} {pm : Option (Msg × Nat)} (hp : tmps.getD p undef = .pointer (some ⟨w.heap.size, 0, none⟩)) (m : Msg) (v : Value)
    (HG : w.grownBy W (some B)) (hZ : Cells W w.heap.size cs) (hcs : cs.size = 15) (HR : RestIs W B b o bs q) (hBw : B < w.heap.size) (ho : W.ownsRow (w.heap.size + 1) 25 3 v m.past.length (depCells m.past)) (hm : pm = some (m, q)) :
    bodyPost Tryd.prog fn (fun e w' => TookMsg w B b o bs pm e w') Exit.ret { tmps := tmps, defers := [] }
      (put15 W w.heap.size (.int .i64 m.kind) (.int .i64 m.src) (.int .i64 m.dst) (.int .i64 m.clock) (.int .i64 m.op) (.int .i64 m.index) (.int .i64 m.key) (.int .i64 m.vc) (.int .i64 m.vs) (.int .i64 m.value) (.int .i64 m.fk) (.int .i64 m.fc) (.int .i64 m.fs) v (.bool m.settled)) := by
  refine bodyPost_ret (res28 hf _ _ w.heap.size _ _ _ _ _ _ _ _ _ _ _ _ _ _ _ hp (put15_cells hZ hcs _ _ _ _ _ _ _ _ _ _ _ _ _ _ _)) rfl ?_
  have hl := Nat.le_refl w.heap.size
  have hn : B ≠ w.heap.size := by omega
  have hb : w.heap.size < w.heap.size + 1 := by omega
  exact TookMsg.ok hm rfl (newSet (newSet (newSet (newSet (newSet (newSet (newSet (newSet (newSet (newSet (newSet (newSet (newSet (newSet (newSet HG hl _ _) hl _ _) hl _ _) hl _ _) hl _ _) hl _ _) hl _ _) hl _ _) hl _ _) hl _ _) hl _ _) hl _ _) hl _ _) hl _ _) hl _ _)
    (ownBase (ownSet (ownSet (ownSet (ownSet (ownSet (ownSet (ownSet (ownSet (ownSet (ownSet (ownSet (ownSet (ownSet (ownSet (ownSet ho hb _ _) hb _ _) hb _ _) hb _ _) hb _ _) hb _ _) hb _ _) hb _ _) hb _ _) hb _ _) hb _ _) hb _ _) hb _ _) hb _ _) hb _ _) (Nat.le_succ _))
    (((((((((((((((HR.set hn _ _).set hn _ _).set hn _ _).set hn _ _).set hn _ _).set hn _ _).set hn _ _).set hn _ _).set hn _ _).set hn _ _).set hn _ _).set hn _ _).set hn _ _).set hn _ _).set hn _ _)

end Go.Proofs.YtdpnmpfkbeommaaDoor
