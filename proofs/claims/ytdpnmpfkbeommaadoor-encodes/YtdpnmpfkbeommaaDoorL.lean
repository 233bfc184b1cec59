/-
  A message that was handed in is opened: its fifteen cells, its list, its bounds.
-/
import Derived.Test.YtdpnmpfkbeommaaDoorR
import Derived.ProofKit
import Derived.Lib.LaidTab
import Derived.MakeChecks
namespace Go.Proofs.YtdpnmpfkbeommaaDoor
open Go.ChangeShapes Go.WideShapes Go.ChangeAt Go.RowKit

theorem wf64 {n : Int} (h : (Lit.int .i64 n).wf = true) : -9223372036854775808 ≤ n ∧ n < 9223372036854775808 := by
  simp only [Lit.wf, Bool.and_eq_true, decide_eq_true_eq] at h
  have e1 : IntKind.i64.min = -9223372036854775808 := by decide
  have e2 : IntKind.i64.max = 9223372036854775807 := by decide
  omega

theorem c3 : Tryd.prog.cellsOf 3 = 1 := by kernel_rfl
theorem c4 : Tryd.prog.cellsOf 4 = 1 := by kernel_rfl
theorem c23 : Tryd.prog.cellsOf 23 = 2 := by kernel_rfl
theorem c25 : Tryd.prog.cellsOf 25 = 3 := by kernel_rfl
theorem c26 : Tryd.prog.cellsOf 26 = 1 := by kernel_rfl
theorem c28 : Tryd.prog.cellsOf 28 = 15 := by kernel_rfl
theorem by25 : Tryd.prog.bytesOf 25 = 24 := by kernel_rfl

section
variable {H : Type} {enc : TypeId × Value → H} {w : World} {base : Nat} {spare : Nat → Bool} {held : Bool}

theorem open_ver {n : Nat} {c0 c1 : Value} {x : DataW H × List MemPlace} (h : DataW.trod enc Tryd.prog w base spare held n 23 [c0, c1] = some x) :
    ∃ a b, c0 = .int .i64 a ∧ c1 = .int .i64 b ∧ (-9223372036854775808 ≤ a ∧ a < 9223372036854775808) ∧ (-9223372036854775808 ≤ b ∧ b < 9223372036854775808) := by
  obtain ⟨y0, y1, k, _, _, h0, h1⟩ := trod_struct2 Tryd.underlying23 h
  obtain ⟨a, ha, _, wa⟩ := DataW.trod_int Tryd.underlying3 h0
  obtain ⟨b, hb, _, wb⟩ := DataW.trod_int Tryd.underlying3 h1
  simp [c3] at ha hb
  exact ⟨a, b, ha, hb, wf64 wa, wf64 wb⟩

theorem open_dep {n : Nat} {c0 c1 c2 : Value} {x : DataW H × List MemPlace} (h : DataW.trod enc Tryd.prog w base spare held n 25 [c0, c1, c2] = some x) :
    ∃ k a b, c0 = .int .i64 k ∧ c1 = .int .i64 a ∧ c2 = .int .i64 b ∧ (-9223372036854775808 ≤ k ∧ k < 9223372036854775808) ∧ (-9223372036854775808 ≤ a ∧ a < 9223372036854775808) ∧ (-9223372036854775808 ≤ b ∧ b < 9223372036854775808) := by
  obtain ⟨y0, y1, m, _, _, h0, h1⟩ := trod_struct2 Tryd.underlying25 h
  obtain ⟨k, hk, _, wk⟩ := DataW.trod_int Tryd.underlying3 h0
  simp only [c23, List.drop, List.take] at h1
  obtain ⟨a, b, rfl, rfl, wa, wb⟩ := open_ver h1
  simp [c3] at hk
  exact ⟨k, a, b, hk, rfl, rfl, wf64 wk, wa, wb⟩

theorem cells3 {a : Addr} {cs : List Value} (h : w.cells? base a 3 = some cs) : ∃ c0 c1 c2, cs = [c0, c1, c2] ∧ w.cell? (a.add 0) = some c0 ∧ w.cell? (a.add 1) = some c1 ∧ w.cell? (a.add 2) = some c2 := by
  unfold World.cells? at h
  split at h
  · simp [List.range, List.range.loop, Option.bind_eq_some_iff] at h
    obtain ⟨c0, h0, l, ⟨c1, h1, l2, ⟨c2, h2, rfl⟩, rfl⟩, rfl⟩ := h
    exact ⟨c0, c1, c2, rfl, h0, h1, h2⟩
  · cases h

theorem listOf {α : Type} (z : α) (P : Nat → α → Prop) : ∀ n, (∀ i, i < n → ∃ t, P i t) → ∃ l : List α, l.length = n ∧ ∀ i, i < n → P i (l.getD i z)
  | 0, _ => ⟨[], rfl, fun i hi => absurd hi (Nat.not_lt_zero _)⟩
  | n + 1, h => by
    obtain ⟨l, hl, hP⟩ := listOf z P n (fun i hi => h i (by omega))
    obtain ⟨t, ht⟩ := h n (by omega)
    refine ⟨l ++ [t], by simp [hl], fun i hi => ?_⟩
    by_cases e : i = n
    · subst e
      simpa [List.getD, ← hl] using ht
    · have h1 : i < l.length := by omega
      have := hP i (by omega)
      simpa [List.getD, List.getElem?_append_left h1] using this

theorem open_past {n : Nat} {c : Value} {x : DataW H × List MemPlace} (h : DataW.trod enc Tryd.prog w 0 spare held n 26 [c] = some x) :
    ∃ (ao : Option Addr) (past : List (Int × Int × Int)) (cap : Nat), c = .slice ao past.length cap ∧ DepsAt w ao past ∧ (ao = none → past = [] ∧ cap = 0) ∧
      (∀ i, i < past.length → dKey past i < 9223372036854775808 ∧ dClk past i < 9223372036854775808 ∧ dSrv past i < 9223372036854775808) ∧
      (past = [] ∨ ∃ es sp, x.1 = .slice es sp ∧ es.length = past.length) := by
  rcases DataW.trod_slice Tryd.underlying26 h with ⟨hc, rfl⟩ | ⟨a, len, cap, elems, rest, k, _, hc, rfl, _, _, _, hlen, hel, _, _⟩
  · simp at hc
    subst hc
    exact ⟨none, [], 0, rfl, fun hp => absurd hp (by simp), fun _ => ⟨rfl, rfl⟩, fun i hi => absurd hi (by simp), Or.inl rfl⟩
  · simp at hc
    subst hc
    have key : ∀ i, i < len → ∃ k' a' b' : Int, w.cell? (a.add (i * 3)) = some (.int .i64 k') ∧ w.cell? (a.add (i * 3 + 1)) = some (.int .i64 a') ∧ w.cell? (a.add (i * 3 + 2)) = some (.int .i64 b') ∧ k' < 9223372036854775808 ∧ a' < 9223372036854775808 ∧ b' < 9223372036854775808 := by
      intro i hi
      have hi' := hel i hi
      rw [List.getElem?_eq_getElem (by omega), c25] at hi'
      obtain ⟨cs, hcs, ht⟩ := Option.bind_eq_some_iff.1 hi'
      obtain ⟨x0, x1, x2, rfl, g0, g1, g2⟩ := cells3 hcs
      obtain ⟨k', a', b', rfl, rfl, rfl, wk, wa, wb⟩ := open_dep ht
      rw [Addr.add_add] at g0 g1 g2
      exact ⟨k', a', b', g0, g1, g2, wk.2, wa.2, wb.2⟩
    by_cases h0 : len = 0
    · subst h0
      exact ⟨some a, [], cap, rfl, fun hp => absurd hp (by simp), fun e => (by cases e), fun i hi => absurd hi (by simp), Or.inl rfl⟩
    obtain ⟨_, _, _, g0, _⟩ := key 0 (by omega)
    have hsp : a.spot = none := by simpa [Addr.add] using World.cell?_spot g0
    have hbl : a.block < w.heap.size := by simpa [Addr.add] using World.block_lt_of_cell? _ _ g0
    obtain ⟨b, o, sp⟩ := a
    subst hsp
    simp only [Addr.add_lit] at key
    have hat : ∀ i, i < len → ∃ t : Int × Int × Int, (w.cell? ⟨b, o + i * 3, none⟩ = some (.int .i64 t.1) ∧ w.cell? ⟨b, o + i * 3 + 1, none⟩ = some (.int .i64 t.2.1) ∧ w.cell? ⟨b, o + i * 3 + 2, none⟩ = some (.int .i64 t.2.2)) ∧
        t.1 < 9223372036854775808 ∧ t.2.1 < 9223372036854775808 ∧ t.2.2 < 9223372036854775808 := by
      intro i hi
      obtain ⟨k', a', b', e0, e1, e2, hw⟩ := key i hi
      exact ⟨(k', a', b'), ⟨e0, e1, e2⟩, hw⟩
    obtain ⟨past, hpl, hP⟩ := listOf (0, 0, 0) _ len hat
    subst hpl
    exact ⟨_, past, cap, rfl, fun _ => ⟨b, o, rfl, hbl, fun i hi => (hP i hi).1⟩, fun e => (by cases e), fun i hi => (hP i hi).2, Or.inr ⟨_, _, rfl, by simpa using hlen⟩⟩

set_option maxRecDepth 100000 in
theorem len15 {α : Type} {l : List α} (h : l.length = 15) : ∃ a0 a1 a2 a3 a4 a5 a6 a7 a8 a9 a10 a11 a12 a13 a14, l = [a0, a1, a2, a3, a4, a5, a6, a7, a8, a9, a10, a11, a12, a13, a14] := by
  match l, h with
  | [a0, a1, a2, a3, a4, a5, a6, a7, a8, a9, a10, a11, a12, a13, a14], _ => exact ⟨a0, a1, a2, a3, a4, a5, a6, a7, a8, a9, a10, a11, a12, a13, a14, rfl⟩

set_option maxRecDepth 100000 in
theorem len12 {α : Type} {l : List α} (h : l.length = 12) : ∃ y0 y1 y2 y3 y4 y5 y6 y7 y8 y9 y10 y11, l = [y0, y1, y2, y3, y4, y5, y6, y7, y8, y9, y10, y11] := by
  match l, h with
  | [y0, y1, y2, y3, y4, y5, y6, y7, y8, y9, y10, y11], _ => exact ⟨y0, y1, y2, y3, y4, y5, y6, y7, y8, y9, y10, y11, rfl⟩

set_option maxRecDepth 100000 in
theorem open_msg {b0 : Nat} {v : Value} {d : DataW H} {p : List MemPlace} (hv : Value.okWide Tryd.prog w .any b0 28 v) (h : DataW.Trod enc Tryd.prog w 0 spare held 28 v d p) (hw : (d.weights Tryd.prog 28).all (· ≤ reachBytes) = true) :
    ∃ m : Msg, v = .agg #[.int .i64 m.kind, .int .i64 m.src, .int .i64 m.dst, .int .i64 m.clock, .int .i64 m.op, .int .i64 m.index, .int .i64 m.key, .int .i64 m.vc, .int .i64 m.vs, .int .i64 m.value, .int .i64 m.fk, .int .i64 m.fc, .int .i64 m.fs, .slice m.ao m.past.length m.c, .bool m.settled] ∧
      DepsAt w m.ao m.past ∧ (m.ao = none → m.past = [] ∧ m.c = 0) ∧ m.past.length * 24 ≤ 140737488351232 ∧ Rng m := by
  obtain ⟨cs, rfl, hsz⟩ := okWide_struct Tryd.underlying28 hv
  obtain ⟨fuel, hf⟩ := h
  have hf' : DataW.trod enc Tryd.prog w 0 spare held fuel 28 cs.toList = some (d, p) := by
    simpa [Tryd.underlying28, Value.cells] using hf
  obtain ⟨l⟩ := cs
  rw [c28] at hsz
  obtain ⟨xs, n, _, hx, hl, hlen, hfs⟩ := DataW.trod_struct Tryd.underlying28 hf'
  obtain ⟨a0, a1, a2, a3, a4, a5, a6, a7, a8, a9, a10, a11, a12, a13, a14, rfl⟩ := len15 hsz
  obtain ⟨y0, y1, y2, y3, y4, y5, y6, y7, y8, y9, y10, y11, rfl⟩ := len12 hlen
  have f0 : DataW.trod enc Tryd.prog w 0 spare held n 3 ((List.drop 0 [a0, a1, a2, a3, a4, a5, a6, a7, a8, a9, a10, a11, a12, a13, a14]).take (Tryd.prog.cellsOf 3)) = some y0 := hfs 0 _ rfl
  have f1 : DataW.trod enc Tryd.prog w 0 spare held n 3 ((List.drop 1 [a0, a1, a2, a3, a4, a5, a6, a7, a8, a9, a10, a11, a12, a13, a14]).take (Tryd.prog.cellsOf 3)) = some y1 := hfs 1 _ rfl
  have f2 : DataW.trod enc Tryd.prog w 0 spare held n 3 ((List.drop 2 [a0, a1, a2, a3, a4, a5, a6, a7, a8, a9, a10, a11, a12, a13, a14]).take (Tryd.prog.cellsOf 3)) = some y2 := hfs 2 _ rfl
  have f3 : DataW.trod enc Tryd.prog w 0 spare held n 3 ((List.drop 3 [a0, a1, a2, a3, a4, a5, a6, a7, a8, a9, a10, a11, a12, a13, a14]).take (Tryd.prog.cellsOf 3)) = some y3 := hfs 3 _ rfl
  have f4 : DataW.trod enc Tryd.prog w 0 spare held n 3 ((List.drop 4 [a0, a1, a2, a3, a4, a5, a6, a7, a8, a9, a10, a11, a12, a13, a14]).take (Tryd.prog.cellsOf 3)) = some y4 := hfs 4 _ rfl
  have f5 : DataW.trod enc Tryd.prog w 0 spare held n 3 ((List.drop 5 [a0, a1, a2, a3, a4, a5, a6, a7, a8, a9, a10, a11, a12, a13, a14]).take (Tryd.prog.cellsOf 3)) = some y5 := hfs 5 _ rfl
  have f6 : DataW.trod enc Tryd.prog w 0 spare held n 3 ((List.drop 6 [a0, a1, a2, a3, a4, a5, a6, a7, a8, a9, a10, a11, a12, a13, a14]).take (Tryd.prog.cellsOf 3)) = some y6 := hfs 6 _ rfl
  have f7 : DataW.trod enc Tryd.prog w 0 spare held n 23 ((List.drop 7 [a0, a1, a2, a3, a4, a5, a6, a7, a8, a9, a10, a11, a12, a13, a14]).take (Tryd.prog.cellsOf 23)) = some y7 := hfs 7 _ rfl
  have f8 : DataW.trod enc Tryd.prog w 0 spare held n 3 ((List.drop 9 [a0, a1, a2, a3, a4, a5, a6, a7, a8, a9, a10, a11, a12, a13, a14]).take (Tryd.prog.cellsOf 3)) = some y8 := hfs 8 _ rfl
  have f9 : DataW.trod enc Tryd.prog w 0 spare held n 25 ((List.drop 10 [a0, a1, a2, a3, a4, a5, a6, a7, a8, a9, a10, a11, a12, a13, a14]).take (Tryd.prog.cellsOf 25)) = some y9 := hfs 9 _ rfl
  have f10 : DataW.trod enc Tryd.prog w 0 spare held n 26 ((List.drop 13 [a0, a1, a2, a3, a4, a5, a6, a7, a8, a9, a10, a11, a12, a13, a14]).take (Tryd.prog.cellsOf 26)) = some y10 := hfs 10 _ rfl
  have f11 : DataW.trod enc Tryd.prog w 0 spare held n 4 ((List.drop 14 [a0, a1, a2, a3, a4, a5, a6, a7, a8, a9, a10, a11, a12, a13, a14]).take (Tryd.prog.cellsOf 4)) = some y11 := hfs 11 _ rfl
  simp only [c3, c4, c23, c25, c26, List.drop, List.take] at f0 f1 f2 f3 f4 f5 f6 f7 f8 f9 f10 f11
  clear hfs
  obtain ⟨x0, e, _, wx0⟩ := DataW.trod_int Tryd.underlying3 f0
  obtain rfl : a0 = _ := by simpa using e
  clear e
  obtain ⟨x1, e, _, wx1⟩ := DataW.trod_int Tryd.underlying3 f1
  obtain rfl : a1 = _ := by simpa using e
  clear e
  obtain ⟨x2, e, _, wx2⟩ := DataW.trod_int Tryd.underlying3 f2
  obtain rfl : a2 = _ := by simpa using e
  clear e
  obtain ⟨x3, e, _, wx3⟩ := DataW.trod_int Tryd.underlying3 f3
  obtain rfl : a3 = _ := by simpa using e
  clear e
  obtain ⟨x4, e, _, wx4⟩ := DataW.trod_int Tryd.underlying3 f4
  obtain rfl : a4 = _ := by simpa using e
  clear e
  obtain ⟨x5, e, _, wx5⟩ := DataW.trod_int Tryd.underlying3 f5
  obtain rfl : a5 = _ := by simpa using e
  clear e
  obtain ⟨x6, e, _, wx6⟩ := DataW.trod_int Tryd.underlying3 f6
  obtain rfl : a6 = _ := by simpa using e
  clear e
  obtain ⟨x7, x8, rfl, rfl, wx7, wx8⟩ := open_ver f7
  obtain ⟨x9, e, _, wx9⟩ := DataW.trod_int Tryd.underlying3 f8
  obtain rfl : a9 = _ := by simpa using e
  clear e
  obtain ⟨x10, x11, x12, rfl, rfl, rfl, wx10, wx11, wx12⟩ := open_dep f9
  obtain ⟨ao, past, cap, rfl, hD, hN, hB, hS⟩ := open_past f10
  obtain ⟨se, e, _⟩ := DataW.trod_bool Tryd.underlying4 f11
  obtain rfl : a14 = _ := by simpa using e
  clear e
  refine ⟨⟨x0, x1, x2, x3, x4, x5, x6, x7, x8, x9, x10, x11, x12, ao, past, cap, se⟩, rfl, hD, hN, ?_, ⟨wf64 wx1, wf64 wx2, wf64 wx3, wf64 wx4, wf64 wx5, wf64 wx6, wx7, wx8, wf64 wx9, wx10, wx11, wx12, hB⟩⟩
  rcases hS with rfl | ⟨es, sp, hy, he⟩
  · simp
  · simp only [Prod.mk.injEq] at hx
    rw [hx.1] at hw
    simp only [DataW.weights, Tryd.underlying28, List.map_cons, List.map_nil, DataW.weightsEach, hy, Tryd.underlying26, List.all_append, List.all_cons, Bool.and_eq_true, by25, he, reachBytes] at hw
    have := of_decide_eq_true hw.2.2.2.2.2.2.2.2.2.2.1.1
    show past.length * 24 ≤ 140737488351232
    omega

end

/-- The name of the table that the row lists. -/
def tabName : String := Rows.encodesRow.named.headD default

theorem gtab_of {W : World} (h : laidMetH Tryd.prog Rows.encodesRow.laid W) : GTab W := by
  have h' : laidMetH Tryd.prog [(tabName, Lib.tabData .u8 tab)] W := h
  rw [MakeChecks.laidMetH_plain _ _ _ (by kernel_rfl)] at h'
  have hg : Tryd.prog.globalNamed tabName = some 0 := by kernel_rfl
  have hty : (Tryd.prog.globals[0]?).map (·.type) = some 73 := by kernel_rfl
  have ht : Lib.TabIs Tryd.prog W tabName .u8 tab := Lib.tabIs_of_head (rest := []) hg hty Tryd.underlying73 Tryd.underlying72 (by kernel_rfl) (by kernel_rfl) h'
  have hc : ∀ i, i < 13 → W.cell? ⟨0, i, none⟩ = some (.int .u8 (tab.getD i 0)) := fun i hi => ht.cell hg i hi
  exact ⟨World.block_lt_of_cell? _ _ (hc 0 (by omega)), hc⟩
end Go.Proofs.YtdpnmpfkbeommaaDoor
