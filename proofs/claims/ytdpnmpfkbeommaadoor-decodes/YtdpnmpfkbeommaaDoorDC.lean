/-
  The reader of wire: numbers, values, flags, versions, pairs, the kind, the end.
-/
import Derived.Test.YtdpnmpfkbeommaaDoorDB
import Derived.Deep.AppendLies
import Derived.Handy
namespace Go.Proofs.YtdpnmpfkbeommaaDoor
open Go.RowKit

def pNum (bs : List Int) (k : Nat) : Option (Nat × Nat) :=
  match pVar bs 10 k 0 0 with
  | none => none
  | some r => if r.1 < 9223372036854775808 then some r else none
def zag (n : Nat) : Int := if n % 2 = 1 then -((n / 2 : Nat) : Int) - 1 else ((n / 2 : Nat) : Int)
def pVal (bs : List Int) (k : Nat) : Option (Int × Nat) :=
  match pVar bs 10 k 0 0 with
  | none => none
  | some r => some (zag r.1, r.2)
def pFlag (bs : List Int) (k : Nat) : Option (Bool × Nat) :=
  match pVar bs 10 k 0 0 with
  | none => none
  | some r => if r.1 ≤ 1 then some (decide (r.1 = 1), r.2) else none
def pVer (bs : List Int) (k : Nat) : Option ((Nat × Nat) × Nat) :=
  match pNum bs k with
  | none => none
  | some c => match pNum bs c.2 with
    | none => none
    | some s => some ((c.1, s.1), s.2)
def pDep (bs : List Int) (k : Nat) : Option ((Nat × Nat × Nat) × Nat) :=
  match pNum bs k with
  | none => none
  | some c => match pVer bs c.2 with
    | none => none
    | some s => some ((c.1, s.1.1, s.1.2), s.2)

/-- What the reader leans on. -/
structure Rd (w : World) (B b o : Nat) (bs : List Int) : Prop where
  at_ : BytesAt w b o bs
  by_ : Bytes256 bs
  ne : b ≠ B
theorem Rd.grown {w w' : World} {B b o : Nat} {bs : List Int} (h : Rd w B b o bs) (hg : w.grownBy w' (some B)) : Rd w' B b o bs :=
  ⟨h.at_.grown hg h.ne, h.by_, h.ne⟩

theorem RestIs.lt {w : World} {B b o k : Nat} {bs : List Int} (h : RestIs w B b o bs k) : B < w.heap.size := by
  obtain ⟨ao, c, hc, _⟩ := h
  exact World.block_lt_of_cell? _ _ hc
theorem RestIs.far {w w' : World} {B b o k : Nat} {bs : List Int} {row : Option Nat} (h : RestIs w B b o bs k) (hg : w.grownBy w' row) (hne : some B ≠ row) : RestIs w' B b o bs k := by
  have hlt := h.lt
  obtain ⟨ao, c, hc, hf, hr⟩ := h
  exact ⟨ao, c, hg.cell hc hne, (hg.frozen_far _ hlt hne).trans hf, hr⟩
theorem RestIs.alloc {w : World} {B b o k : Nat} {bs : List Int} (h : RestIs w B b o bs k) (ob : Obj) : RestIs (w.alloc ob) B b o bs k := h.far (World.grownBy_alloc w ob none) (by simp)
theorem Rd.far {w w' : World} {B b o : Nat} {bs : List Int} {row : Option Nat} (h : Rd w B b o bs) (hg : w.grownBy w' row) (hne : some b ≠ row) : Rd w' B b o bs :=
  ⟨fun i hi => hg.cell (h.at_ i hi) hne, h.by_, h.ne⟩
theorem Rd.alloc {w : World} {B b o : Nat} {bs : List Int} (h : Rd w B b o bs) (ob : Obj) : Rd (w.alloc ob) B b o bs := h.far (World.grownBy_alloc w ob none) (by simp)

/-- Two, three cells written in a block that is new since w. -/
theorem newSet {w w2 : World} {row : Option Nat} {g : Nat} (h : w.grownBy w2 row) (hg : w.heap.size ≤ g) (i : Nat) (v : Value) : w.grownBy (w2.setCell ⟨g, i, none⟩ v) row :=
  h.andThen (Lib.grownBy_setCell w2 g i v) (fun j hj => Or.inl (by cases hj; exact hg))
theorem RestIs.set {w : World} {B b o k g : Nat} {bs : List Int} (h : RestIs w B b o bs k) (hg : B ≠ g) (i : Nat) (v : Value) : RestIs (w.setCell ⟨g, i, none⟩ v) B b o bs k :=
  h.far (Lib.grownBy_setCell w g i v) (by simpa using hg)
theorem Rd.set {w : World} {B b o g : Nat} {bs : List Int} (h : Rd w B b o bs) (hg : b ≠ g) (i : Nat) (v : Value) : Rd (w.setCell ⟨g, i, none⟩ v) B b o bs :=
  h.far (Lib.grownBy_setCell w g i v) (by simpa using hg)

set_option maxHeartbeats 1000000 in
theorem rdNum (B b o k : Nat) (bs : List Int) (w : World) (hd : Rd w B b o bs) (hr : RestIs w B b o bs k) :
    Calls Tryd.prog 52 #[.pointer (some ⟨B, 0, none⟩)] w fun e w' => Took w B b o bs ((pNum bs k).map fun r => (.int .i64 r.1, r.2)) e w' := by
  have hv := rdVar B b o k bs w hd.at_ hd.by_ hd.ne hr
  cases hp : pVar bs 10 k 0 0 with
  | none =>
    have hpn : Hid (pNum bs k = none) := by show pNum bs k = none; simp [pNum, hp]
    go_enter Tryd.func52, Tryd.ntmps52
    go_wp2_with (first | (go_at_call 62; refine (took_no hv (by rw [hp]; rfl)).mono ?_; rintro e w' ⟨rfl, hg⟩))
    exact ⟨rfl, Took.no (by rw [hpn.out]; rfl) hg⟩
  | some r =>
    have hlt := pVar_lt hd.by_ 10 k 0 0 (by omega) rfl (by omega) r hp
    by_cases h : r.1 < 9223372036854775808
    · have hpn : Hid (pNum bs k = some r) := by show pNum bs k = some r; simp [pNum, hp, h]
      go_enter Tryd.func52, Tryd.ntmps52
      go_wp2_with (first | (go_at_call 62; refine (took_ok hv (by rw [hp]; rfl)).mono ?_; rintro e w' ⟨rfl, hR, hg⟩) | (go_at_call 61; refine (toInt_ok _ _ (by omega) (by omega)).mono ?_; rintro e w'' ⟨rfl, rfl⟩))
      go_ret
      exact Took.ok (by rw [hpn.out]; rfl) hg hR
    · have hpn : Hid (pNum bs k = none) := by show pNum bs k = none; simp [pNum, hp, h]
      go_enter Tryd.func52, Tryd.ntmps52
      go_wp2_with (first | (go_at_call 62; refine (took_ok hv (by rw [hp]; rfl)).mono ?_; rintro e w' ⟨rfl, hR, hg⟩) | (go_at_call 61; refine (toInt_no _ _ (by omega)).mono ?_; rintro e w'' ⟨rfl, rfl⟩))
      exact ⟨rfl, Took.no (by rw [hpn.out]; rfl) hg⟩

theorem not_pos (a : Int) (h0 : 0 ≤ a) (h1 : a < 9223372036854775808) : bits BinOp.xor IntKind.i64 (-1) a = -a - 1 := by
  show IntKind.i64.wrap ((BitVec.ofInt 64 (-1) ^^^ BitVec.ofInt 64 a).toNat : Int) = _
  have e1 : BitVec.ofInt 64 (-1) = BitVec.allOnes 64 := by decide
  rw [e1, BitVec.allOnes_xor, BitVec.toNat_not, BitVec.toNat_ofInt]
  simp [IntKind.wrap, IntKind.bits, IntKind.signed]
  omega
theorem and_one {n : Nat} (h : n < 18446744073709551616) : bits BinOp.and IntKind.u64 (n : Int) 1 = ((n % 2 : Nat) : Int) := by
  have := bits_and_u64_nat n 1 h (by omega)
  rw [Nat.and_one_is_mod] at this
  exact this

set_option maxHeartbeats 1000000 in
theorem rdVal (B b o k : Nat) (bs : List Int) (w : World) (hd : Rd w B b o bs) (hr : RestIs w B b o bs k) :
    Calls Tryd.prog 55 #[.pointer (some ⟨B, 0, none⟩)] w fun e w' => Took w B b o bs ((pVal bs k).map fun r => (.int .i64 r.1, r.2)) e w' := by
  have hv := rdVar B b o k bs w hd.at_ hd.by_ hd.ne hr
  cases hp : pVar bs 10 k 0 0 with
  | none =>
    have hpn : Hid (pVal bs k = none) := by show pVal bs k = none; simp [pVal, hp]
    go_enter Tryd.func55, Tryd.ntmps55
    go_wp2_with (first | (go_at_call 62; refine (took_no hv (by rw [hp]; rfl)).mono ?_; rintro e w' ⟨rfl, hg⟩))
    exact ⟨rfl, Took.no (by rw [hpn.out]; rfl) hg⟩
  | some r =>
    have hlt := pVar_lt hd.by_ 10 k 0 0 (by omega) rfl (by omega) r hp
    have hpn : Hid (pVal bs k = some (zag r.1, r.2)) := by show pVal bs k = some (zag r.1, r.2); simp [pVal, hp]
    have ha := and_one hlt
    rcases Nat.mod_two_eq_zero_or_one r.1 with h2 | h2
    · rw [h2] at ha
      go_enter Tryd.func55, Tryd.ntmps55
      go_wp2_with (first | (go_at_call 62; refine (took_ok hv (by rw [hp]; rfl)).mono ?_; rintro e w' ⟨rfl, hR, hg⟩) | (go_at_call 61; refine (toInt_ok _ _ (by omega) (by omega)).mono ?_; rintro e w'' ⟨rfl, rfl⟩))
      go_ret
      refine Took.ok ?_ hg hR
      rw [hpn.out, zag, if_neg (by omega)]
      rfl
    · rw [h2] at ha
      have hx := not_pos ((r.1 : Int) / 2) (by omega) (by omega)
      go_enter Tryd.func55, Tryd.ntmps55
      go_wp2_with (first | (go_at_call 62; refine (took_ok hv (by rw [hp]; rfl)).mono ?_; rintro e w' ⟨rfl, hR, hg⟩) | (go_at_call 61; refine (toInt_ok _ _ (by omega) (by omega)).mono ?_; rintro e w'' ⟨rfl, rfl⟩))
      go_ret
      refine Took.ok ?_ hg hR
      rw [hpn.out, zag, if_pos h2]
      rfl

set_option maxHeartbeats 1000000 in
theorem rdFlag (B b o k : Nat) (bs : List Int) (w : World) (hd : Rd w B b o bs) (hr : RestIs w B b o bs k) :
    Calls Tryd.prog 57 #[.pointer (some ⟨B, 0, none⟩)] w fun e w' => Took w B b o bs ((pFlag bs k).map fun r => (.bool r.1, r.2)) e w' := by
  have hv := rdVar B b o k bs w hd.at_ hd.by_ hd.ne hr
  cases hp : pVar bs 10 k 0 0 with
  | none =>
    have hpn : Hid (pFlag bs k = none) := by show pFlag bs k = none; simp [pFlag, hp]
    go_enter Tryd.func57, Tryd.ntmps57
    go_wp2_with (first | (go_at_call 62; refine (took_no hv (by rw [hp]; rfl)).mono ?_; rintro e w' ⟨rfl, hg⟩))
    exact ⟨rfl, Took.no (by rw [hpn.out]; rfl) hg⟩
  | some r =>
    by_cases h : r.1 ≤ 1
    · have hpn : Hid (pFlag bs k = some (decide (r.1 = 1), r.2)) := by show pFlag bs k = some (decide (r.1 = 1), r.2); simp [pFlag, hp, h]
      have h1 : ¬ (1 : Int) < (r.1 : Int) := by omega
      go_enter Tryd.func57, Tryd.ntmps57
      go_wp2_with (first | (go_at_call 62; refine (took_ok hv (by rw [hp]; rfl)).mono ?_; rintro e w' ⟨rfl, hR, hg⟩))
      go_ret
      refine Took.ok ?_ hg hR
      rw [hpn.out]
      show some (Value.bool _, r.2) = some (Value.bool _, r.2)
      congr 3
      show decide (r.1 = 1) = ((r.1 : Int) == 1)
      by_cases e : r.1 = 1
      · simp [e]
      · have : ¬ (r.1 : Int) = 1 := by omega
        simp [e, this]
    · have hpn : Hid (pFlag bs k = none) := by show pFlag bs k = none; simp [pFlag, hp, h]
      have h1 : (1 : Int) < (r.1 : Int) := by omega
      go_enter Tryd.func57, Tryd.ntmps57
      go_wp2_with (first | (go_at_call 62; refine (took_ok hv (by rw [hp]; rfl)).mono ?_; rintro e w' ⟨rfl, hR, hg⟩) | (go_at_call 58; refine (giveUp_any _).mono ?_; rintro e w'' ⟨rfl, rfl⟩))
      exact ⟨rfl, Took.no (by rw [hpn.out]; rfl) hg⟩

theorem res23 {fn : Func} {p : Tmp} (h : fn.results = #[.cell p 23]) (tmps : Array Value) (w : World) (g : Nat) (x y : Value) (hp : tmps.getD p undef = .pointer (some ⟨g, 0, none⟩)) (h0 : w.cell? ⟨g, 0, none⟩ = some x) (h1 : w.cell? ⟨g, 1, none⟩ = some y) :
    (results fn tmps).run Tryd.prog w = .ok (.agg #[x, y]) w := by
  have hp' : tmps[p]?.getD undef = .pointer (some ⟨g, 0, none⟩) := by simpa using hp
  simp [results, h, hp', go_sem, h0, h1]
theorem res25 {fn : Func} {p : Tmp} (h : fn.results = #[.cell p 25]) (tmps : Array Value) (w : World) (g : Nat) (x y z : Value) (hp : tmps.getD p undef = .pointer (some ⟨g, 0, none⟩)) (h0 : w.cell? ⟨g, 0, none⟩ = some x) (h1 : w.cell? ⟨g, 1, none⟩ = some y) (h2 : w.cell? ⟨g, 2, none⟩ = some z) :
    (results fn tmps).run Tryd.prog w = .ok (.agg #[x, y, z]) w := by
  have hp' : tmps[p]?.getD undef = .pointer (some ⟨g, 0, none⟩) := by simpa using hp
  simp [results, h, hp', go_sem, h0, h1, h2]

set_option maxHeartbeats 1000000 in
theorem rdVer (B b o k : Nat) (bs : List Int) (w : World) (hd : Rd w B b o bs) (hr : RestIs w B b o bs k) :
    Calls Tryd.prog 53 #[.pointer (some ⟨B, 0, none⟩)] w fun e w' => Took w B b o bs ((pVer bs k).map fun r => (.agg #[.int .i64 r.1.1, .int .i64 r.1.2], r.2)) e w' := by
  have hBw := hr.lt
  have hga : w.grownBy (w.alloc (.cells #[.int .i64 0, .int .i64 0] 23)) (some B) := World.grownBy_alloc _ _ _
  cases hp : pNum bs k with
  | none =>
    have hpn : Hid (pVer bs k = none) := by show pVer bs k = none; simp [pVer, hp]
    go_enter Tryd.func53, Tryd.ntmps53
    go_wp2_with (first | (go_at_call 52; refine (took_no (rdNum B b o k bs _ (hd.alloc _) (hr.alloc _)) (by rw [hp]; rfl)).mono ?_; rintro e w' ⟨rfl, hg⟩))
    exact ⟨rfl, Took.no (by rw [hpn.out]; rfl) (hga.trans hg)⟩
  | some r =>
    cases hp2 : pNum bs r.2 with
    | none =>
      have hpn : Hid (pVer bs k = none) := by show pVer bs k = none; simp [pVer, hp, hp2]
      go_enter Tryd.func53, Tryd.ntmps53
      go_wp2_with (first | (go_at_call 52; refine (took_ok (rdNum B b o k bs _ (hd.alloc _) (hr.alloc _)) (by rw [hp]; rfl)).mono ?_; rintro e w1 ⟨rfl, hR, hg⟩) | (go_at_call 52; refine (took_no (rdNum B b o r.2 bs _ ((hd.alloc _).grown hg) hR) (by rw [hp2]; rfl)).mono ?_; rintro e w2 ⟨rfl, hg2⟩))
      exact ⟨rfl, Took.no (by rw [hpn.out]; rfl) ((hga.trans hg).trans hg2)⟩
    | some s =>
      have hpn : Hid (pVer bs k = some ((r.1, s.1), s.2)) := by show pVer bs k = some ((r.1, s.1), s.2); simp [pVer, hp, hp2]
      go_enter Tryd.func53, Tryd.ntmps53
      go_wp2_with (first | (go_at_call 52; refine (took_ok (rdNum B b o k bs _ (hd.alloc _) (hr.alloc _)) (by rw [hp]; rfl)).mono ?_; rintro e w1 ⟨rfl, hR, hg⟩) | (go_at_call 52; refine (took_ok (rdNum B b o r.2 bs _ ((hd.alloc _).grown hg) hR) (by rw [hp2]; rfl)).mono ?_; rintro e w2 ⟨rfl, hR2, hg2⟩; have hc : ∀ o, w2.cell? ⟨w.heap.size, o, none⟩ = (w.alloc (.cells #[.int .i64 0, .int .i64 0] 23)).cell? ⟨w.heap.size, o, none⟩ := (fun o => (hg.trans hg2).cell_far _ (by simp) (by simp; omega)); have hf : ∀ o, w2.frozen? ⟨w.heap.size, o, none⟩ = (w.alloc (.cells #[.int .i64 0, .int .i64 0] 23)).frozen? ⟨w.heap.size, o, none⟩ := (fun o => (hg.trans hg2).frozen_far _ (by simp) (by simp; omega))))
      have h0 : (w.alloc (.cells #[.int .i64 0, .int .i64 0] 23)).cell? ⟨w.heap.size, 0, none⟩ = some (.int .i64 0) := by simp [go_sem]
      have h1 : (w.alloc (.cells #[.int .i64 0, .int .i64 0] 23)).cell? ⟨w.heap.size, 1, none⟩ = some (.int .i64 0) := by simp [go_sem]
      refine bodyPost_ret (res23 rfl _ _ w.heap.size (.int .i64 r.1) (.int .i64 s.1) rfl ?_ ?_) rfl ?_
      · rw [World.cell?_setCell_other _ _ _ _ (by simp)]
        exact World.cell?_setCell_same _ _ _ ((hc 0).trans h0)
      · exact World.cell?_setCell_same _ _ _ ((World.cell?_setCell_other _ _ _ _ (by simp)).trans ((hc 1).trans h1))
      · refine Took.ok (by rw [hpn.out]; rfl) (newSet (newSet ((hga.trans hg).trans hg2) (Nat.le_refl _) _ _) (Nat.le_refl _) _ _) ((hR2.set (by omega) _ _).set (by omega) _ _)

end Go.Proofs.YtdpnmpfkbeommaaDoor
