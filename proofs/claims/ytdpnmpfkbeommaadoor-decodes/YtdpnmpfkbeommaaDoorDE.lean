/-
  The reader of wire: the past.
-/
import Derived.Test.YtdpnmpfkbeommaaDoorDD
import Derived.Test.YtdpnmpfkbeommaaDoorF
import Derived.Maps.RangeWalk
namespace Go.Proofs.YtdpnmpfkbeommaaDoor
open Go.RowKit

def pDeps (bs : List Int) : Nat → Nat → List (Int × Int × Int) → Option (List (Int × Int × Int) × Nat)
  | 0, k, acc => some (acc, k)
  | n + 1, k, acc => match pDep bs k with
    | none => none
    | some r => pDeps bs n r.2 (acc ++ [((r.1.1 : Int), (r.1.2.1 : Int), (r.1.2.2 : Int))])
def pPast (bs : List Int) (k : Nat) : Option (List (Int × Int × Int) × Nat) :=
  match pNum bs k with
  | none => none
  | some c => if c.1 ≤ 6 then match pDeps bs c.1 c.2 [] with
      | none => none
      | some r => if pastOk r.1 = true then some r else none
    else none
def depCells (ds : List (Int × Int × Int)) : List Value := ds.flatMap fun d => [.int .i64 d.1, .int .i64 d.2.1, .int .i64 d.2.2]

def TookPast (w : World) (B b o : Nat) (bs : List Int) (r : Option (List (Int × Int × Int) × Nat)) (e : Ending) (w' : World) : Prop :=
  w.grownBy w' (some B) ∧ match r with
    | none => e = .panicked [{ v := .iface 87 (.agg #[]), recovered := false }]
    | some r => ∃ v, e = .returned v ∧ w'.ownsRow w.heap.size 25 3 v r.1.length (depCells r.1) ∧ RestIs w' B b o bs r.2

theorem info25r : (Tryd.prog.info? 25).map (fun i => (i.zero, i.size, i.bytes)) = some (some (.agg #[.int .i64 0, .int .i64 0, .int .i64 0]), 3, 24) := by kernel_rfl

theorem lt_of_heap' {w : World} {g : Nat} {ob : Obj} (h : w.heap[g]? = some ob) : g < w.heap.size := by
  rcases Nat.lt_or_ge g w.heap.size with h1 | h1
  · exact h1
  · rw [Array.getElem?_eq_none h1] at h; cases h

theorem ownsRow_far {w w' : World} {base e size B n : Nat} {v : Value} {xs : List Value} (h : w.ownsRow base e size v n xs) (hg : w.grownBy w' (some B)) (hB : B < base) : w'.ownsRow base e size v n xs := by
  obtain ⟨hl, h | ⟨g, cap, cur, rfl, hb, hh, hr⟩⟩ := h
  · exact ⟨hl, Or.inl h⟩
  · refine ⟨hl, Or.inr ⟨g, cap, cur, rfl, hb, ?_, hr⟩⟩
    have hlt : g < w.heap.size := lt_of_heap' hh
    rw [hg.block g hlt (by simp; omega)]
    exact hh

theorem depCells_add (ds : List (Int × Int × Int)) (x y z : Int) : depCells (ds ++ [(x, y, z)]) = depCells ds ++ [.int .i64 x, .int .i64 y, .int .i64 z] := by simp [depCells]

theorem own_ge {w : World} {base e size n : Nat} {v : Value} {xs : List Value} (h : w.ownsRow base e size v n xs) {g : Nat} (hg : v.ownBlock = some g) : base ≤ g := by
  obtain ⟨_, ⟨rfl, _⟩ | ⟨g', cap, cur, rfl, hb, _⟩⟩ := h
  · cases hg
  · cases hg; exact hb

theorem depCells_at (ds : List (Int × Int × Int)) : ∀ i, i < ds.length → (depCells ds)[i * 3]? = some (.int .i64 (dKey ds i)) ∧ (depCells ds)[i * 3 + 1]? = some (.int .i64 (dClk ds i)) ∧ (depCells ds)[i * 3 + 2]? = some (.int .i64 (dSrv ds i)) := by
  induction ds with
  | nil => intro i hi; simp at hi
  | cons d r ih =>
    intro i hi
    have e : depCells (d :: r) = .int .i64 d.1 :: .int .i64 d.2.1 :: .int .i64 d.2.2 :: depCells r := by simp [depCells]
    rw [e]
    cases i with
    | zero => simp [dKey, dClk, dSrv]
    | succ i =>
      have := ih i (by simpa using hi)
      rw [show (i + 1) * 3 = i * 3 + 3 by omega]
      simpa [dKey, dClk, dSrv] using this

theorem own_deps {w : World} {base : Nat} {v : Value} {ds : List (Int × Int × Int)} (h : w.ownsRow base 25 3 v ds.length (depCells ds)) : ∃ ao cap, v = .slice ao ds.length cap ∧ DepsAt w ao ds := by
  obtain ⟨_, ⟨rfl, h0⟩ | ⟨g, cap, cur, rfl, hb, hh, hc1, hc2, hc3, ht⟩⟩ := h
  · exact ⟨none, 0, by rw [h0], fun hp => by omega⟩
  · refine ⟨_, cap, rfl, fun _ => ⟨g, 0, rfl, lt_of_heap' hh, fun i hi => ?_⟩⟩
    have hx := depCells_at ds i hi
    have hcell : ∀ o, o < ds.length * 3 → w.cell? ⟨g, o, none⟩ = (depCells ds)[o]? := by
      intro o ho
      rw [← ht, List.getElem?_take, if_pos ho]
      simp [World.cell?, hh]
    simp only [Nat.zero_add]
    exact ⟨(hcell _ (by omega)).trans hx.1, (hcell _ (by omega)).trans hx.2.1, (hcell _ (by omega)).trans hx.2.2⟩

theorem new3 (w : World) (x y z : Value) (t : TypeId) : ∀ (j : Nat) (u : Value), [x, y, z][j]? = some u → (w.alloc (.cells #[x, y, z] t)).cell? (Addr.add ⟨w.heap.size, 0, none⟩ j) = some u := by
  intro j u hu
  rw [Addr.add_lit]
  match j, hu with
  | 0, hu => simp at hu; subst hu; simp [go_sem]
  | 1, hu => simp at hu; subst hu; simp [go_sem]
  | 2, hu => simp at hu; subst hu; simp [go_sem]

set_option maxRecDepth 100000 in
set_option maxHeartbeats 1000000 in
theorem rdPast (B b o k : Nat) (bs : List Int) (w : World) (hd : Rd w B b o bs) (hr : RestIs w B b o bs k) :
    Calls Tryd.prog 56 #[.pointer (some ⟨B, 0, none⟩)] w fun e w' => TookPast w B b o bs (pPast bs k) e w' := by
  obtain ⟨i0, hi, hz0, hz1, hz2⟩ := info_parts info25r
  have hBw := hr.lt
  cases hp : pNum bs k with
  | none =>
    have hpn : Hid (pPast bs k = none) := by show pPast bs k = none; simp [pPast, hp]
    go_enter Tryd.func56, Tryd.ntmps56
    go_wp2_with (first | (go_at_call 52; refine (took_no (rdNum B b o k bs _ hd hr) (by rw [hp]; rfl)).mono ?_; rintro e w1 ⟨rfl, hg⟩))
    refine ⟨rfl, hg, ?_⟩
    rw [hpn.out]
  | some c =>
    by_cases h6 : c.1 ≤ 6
    · have h6' : ¬ (6 : Int) < (c.1 : Int) := by omega
      have HP0 : Hid (pPast bs k = match pDeps bs c.1 c.2 [] with | none => none | some r => if pastOk r.1 = true then some r else none) := by
        show pPast bs k = _
        rw [pPast, hp]
        simp only [h6, if_true]
      go_enter Tryd.func56, Tryd.ntmps56
      go_wp2_with (first | (go_at_call 52; refine (took_ok (rdNum B b o k bs _ hd hr) (by rw [hp]; rfl)).mono ?_; rintro e w1 ⟨rfl, hR, hg⟩))
      go_loopw [4, 11] (fun t4 t11 wr => ∃ (j q : Nat) (ds : List (Int × Int × Int)), j ≤ c.1 ∧ ds.length = j ∧ t11 = .int .i64 j ∧ wr.ownsRow w.heap.size 25 3 t4 j (depCells ds) ∧ RestIs wr B b o bs q ∧ Hid (pDeps bs (c.1 - j) q ds = pDeps bs c.1 c.2 []) ∧ w.grownBy wr (some B)) (fun _ t11 _ => c.1 - (intOf t11).toNat)
      case atStart => exact ⟨0, c.2, [], by omega, rfl, rfl, ⟨rfl, Or.inl ⟨rfl, rfl⟩⟩, hR, rfl, hg⟩
      case round =>
        obtain ⟨j, q, ds, hj, hl, rfl, hown, hR1, HP, hg1⟩ := hrel
        by_cases hlt : j < c.1
        · have hlt' : (j : Int) < (c.1 : Int) := by omega
          cases hp2 : pDep bs q with
          | none =>
            go_wp2_with (first | (go_at_call 54; refine (took_no (rdDep B b o q bs _ (hd.grown hg1) hR1) (by rw [hp2]; rfl)).mono ?_; rintro e w2 ⟨rfl, hg2⟩))
            refine ⟨rfl, hg1.trans hg2, ?_⟩
            have e0 : pDeps bs c.1 c.2 [] = none := by
              rw [← HP.out, show c.1 - j = (c.1 - j - 1) + 1 by omega, pDeps, hp2]
            rw [HP0.out, e0]
          | some r =>
            go_wp2_with (first | (go_at_call 54; refine (took_ok (rdDep B b o q bs _ (hd.grown hg1) hR1) (by rw [hp2]; rfl)).mono ?_; rintro e w2 ⟨rfl, hR2, hg2⟩) | (at_builtin; refine wpList_append_lies _ rfl _ _ 26 rfl w.heap.size 25 i0 (.agg #[.int .i64 0, .int .i64 0, .int .i64 0]) 3 24 Tryd.underlying26 hi hz0 hz1 hz2 rfl (by decide) _ _ _ rfl ((ownsRow_far hown hg2 hBw).alloc _) ⟨w2.heap.size, 0, none⟩ 1 1 [.int .i64 r.1.1, .int .i64 r.1.2.1, .int .i64 r.1.2.2] rfl rfl ?c1 ?c2 (by decide) ?c4 ?c5 ?c6 (w2.heap.size + 1) (by simp) ?_))
            case c1 => exact new3 _ _ _ _ _
            case c2 => intro u hu; simp at hu; rcases hu with rfl | rfl | rfl <;> rfl
            case c4 => unfold maxLen; omega
            case c5 => omega
            case c6 => have := (hg1.trans hg2).size; simp; omega
            intro g cap w3 hown3 hgrow hat hlt1
            go_wp2_with fail
            have hgw : w.grownBy w3 (some B) := ((hg1.trans hg2).trans (World.grownBy_alloc _ _ _)).andThen hgrow (fun g' hg' => Or.inl (own_ge hown hg'))
            have hRw : RestIs w3 B b o bs r.2 := (hR2.alloc _).far hgrow (fun e => by have := own_ge hown e.symm; omega)
            refine ⟨⟨j + 1, r.2, ds ++ [((r.1.1 : Int), (r.1.2.1 : Int), (r.1.2.2 : Int))], by omega, by simp [hl], by simp, ?_, hRw, ?_, hgw⟩, ?_⟩
            · rw [depCells_add]; exact hown3
            · show _ = _
              rw [← HP.out, show c.1 - j = (c.1 - (j + 1)) + 1 by omega, pDeps, hp2]
            · simp [intOf]; omega
        · have hlt' : ¬ (j : Int) < (c.1 : Int) := by omega
          subst hl
          obtain ⟨ao, cap, rfl, hD⟩ := own_deps hown
          have e0 : pDeps bs c.1 c.2 [] = some (ds, q) := by
            rw [← HP.out, show c.1 - ds.length = 0 by omega, pDeps]
          cases hok : pastOk ds
          · have hpn : Hid (pPast bs k = none) := by show pPast bs k = _; rw [HP0.out, e0]; simp [hok]
            clear e0
            go_wp2_with (first | (go_at_call 31; refine (isPast_any ao ds cap _ hD (by omega)).mono ?_; rintro e w2 ⟨rfl, hb2⟩; rw [hok]) | (go_at_call 58; refine (giveUp_any _).mono ?_; rintro e w3 ⟨rfl, rfl⟩))
            refine ⟨rfl, Lib.grownBy_below hg1 hb2, ?_⟩
            rw [hpn.out]
          · have hpn : Hid (pPast bs k = some (ds, q)) := by show pPast bs k = _; rw [HP0.out, e0]; simp [hok]
            clear e0
            go_wp2_with (first | (go_at_call 31; refine (isPast_any ao ds cap _ hD (by omega)).mono ?_; rintro e w2 ⟨rfl, hb2⟩; rw [hok]) | (go_at_call 58; refine (giveUp_any _).mono ?_; rintro e w3 ⟨rfl, rfl⟩))
            go_ret
            have hgn : wr.grownBy w2 none := Lib.grownBy_below (World.grownBy.refl _ _) hb2
            refine ⟨Lib.grownBy_below hg1 hb2, ?_⟩
            rw [hpn.out]
            exact ⟨_, rfl, ownsRow_far hown (hgn.but _) hBw, hR1.far hgn (by simp)⟩
    · have h6' : (6 : Int) < (c.1 : Int) := by omega
      have hpn : Hid (pPast bs k = none) := by show pPast bs k = none; simp [pPast, hp, h6]
      go_enter Tryd.func56, Tryd.ntmps56
      go_wp2_with (first | (go_at_call 52; refine (took_ok (rdNum B b o k bs _ hd hr) (by rw [hp]; rfl)).mono ?_; rintro e w1 ⟨rfl, hR, hg⟩) | (go_at_call 58; refine (giveUp_any _).mono ?_; rintro e w2 ⟨rfl, rfl⟩))
      refine ⟨rfl, hg, ?_⟩
      rw [hpn.out]

end Go.Proofs.YtdpnmpfkbeommaaDoor
