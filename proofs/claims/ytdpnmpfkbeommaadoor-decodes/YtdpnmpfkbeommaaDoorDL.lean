/-
  Decode of whatever bytes.
-/
import Derived.Test.YtdpnmpfkbeommaaDoorDJ
import Derived.Test.YtdpnmpfkbeommaaDoorDK
namespace Go.Proofs.YtdpnmpfkbeommaaDoor
open Go.RowKit

def pDec (bs : List Int) : Option Msg :=
  match pMsg bs 0 with
  | none => none
  | some r => if r.2 = bs.length then some r.1 else none

def errMsg : Msg := zMsg 0 0 0 0

/-- What Decode answers: a message and 0, or the empty message and 5. -/
def Decoded (w : World) (r : Option Msg) (e : Ending) (w' : World) : Prop :=
  w.grownBy w' none ∧ match r with
    | none => e = .returned (.tuple #[mval errMsg (.slice none 0 0), .int .i64 5])
    | some m => ∃ ao c, e = .returned (.tuple #[mval m (.slice ao m.past.length c), .int .i64 0]) ∧ w'.ownsRow w.heap.size 25 3 (.slice ao m.past.length c) m.past.length (depCells m.past)

theorem read_any (b o n c : Nat) (ao : Option Addr) (bs : List Int) (w : World) (hbs : bs.length = n) (hb : BytesAt w b o bs) (hB : Bytes256 bs) (hao : 0 < n → ao = some ⟨b, o, none⟩) (hnc : n ≤ c) (hbw : b < w.heap.size) (hG : GTab w) :
    Calls Tryd.prog 21 #[.slice ao n c] w fun e w' => Decoded w (pDec bs) e w' := by
  cases hp : pMsg bs 0 with
  | none =>
    have hd : pDec bs = none := by simp [pDec, hp]
    rw [hd]
    exact (read_up b o n c ao bs w hbs hb hB hao hnc hbw hG hp).mono fun e w' h => ⟨h.2, h.1⟩
  | some r =>
    have hle := pMsg_le hp
    obtain ⟨m, q⟩ := r
    by_cases h : q = bs.length
    · have hd : pDec bs = some m := by simp [pDec, hp, h]
      rw [hd]
      subst h
      subst hbs
      exact (read_ok b o _ c ao bs w rfl hb hB hao hnc hbw hG m hp).mono fun e w' h => ⟨h.2, h.1⟩
    · have hd : pDec bs = none := by simp [pDec, hp, h]
      rw [hd]
      simp only at hle
      exact (read_more b o n c ao bs w hbs hb hB hao hnc hbw hG m q hp (by omega)).mono fun e w' h => ⟨h.2, h.1⟩

theorem res28t {fn : Func} {p q : Tmp} (h : fn.results = #[.cell p 28, .tmp q]) (tmps : Array Value) (w : World) (g : Nat) (v0 v1 v2 v3 v4 v5 v6 v7 v8 v9 v10 v11 v12 v13 v14 x : Value) (hp : tmps.getD p undef = .pointer (some ⟨g, 0, none⟩)) (hq : tmps.getD q undef = x) (hc : Cells w g #[v0, v1, v2, v3, v4, v5, v6, v7, v8, v9, v10, v11, v12, v13, v14]) :
    (results fn tmps).run Tryd.prog w = .ok (.tuple #[.agg #[v0, v1, v2, v3, v4, v5, v6, v7, v8, v9, v10, v11, v12, v13, v14], x]) w := by
  have hp' : tmps[p]?.getD undef = .pointer (some ⟨g, 0, none⟩) := by simpa using hp
  have hq' : tmps[q]?.getD undef = x := by simpa using hq
  have h1 := hc.1
  simp [results, h, hp', hq', go_sem, h1]

set_option maxRecDepth 100000 in
set_option maxHeartbeats 4000000 in
theorem decode_any (b o n c : Nat) (ao : Option Addr) (bs : List Int) (w : World) (hbs : bs.length = n) (hb : BytesAt w b o bs) (hB : Bytes256 bs) (hao : 0 < n → ao = some ⟨b, o, none⟩) (hnc : n ≤ c) (hbw : b < w.heap.size) (hG : GTab w) :
    Calls Tryd.prog 9 #[.slice ao n c] w fun e w' => Decoded w (pDec bs) e w' := by
  have hga : w.grownBy (w.alloc (.cells #[(.int .i64 0), (.int .i64 0), (.int .i64 0), (.int .i64 0), (.int .i64 0), (.int .i64 0), (.int .i64 0), (.int .i64 0), (.int .i64 0), (.int .i64 0), (.int .i64 0), (.int .i64 0), (.int .i64 0), (.slice none 0 0), (.bool false)] 28)) none := World.grownBy_alloc _ _ _
  have hZ0 := Cells.new w #[(.int .i64 0), (.int .i64 0), (.int .i64 0), (.int .i64 0), (.int .i64 0), (.int .i64 0), (.int .i64 0), (.int .i64 0), (.int .i64 0), (.int .i64 0), (.int .i64 0), (.int .i64 0), (.int .i64 0), (.slice none 0 0), (.bool false)] 28
  have hb0 : BytesAt (w.alloc (.cells #[(.int .i64 0), (.int .i64 0), (.int .i64 0), (.int .i64 0), (.int .i64 0), (.int .i64 0), (.int .i64 0), (.int .i64 0), (.int .i64 0), (.int .i64 0), (.int .i64 0), (.int .i64 0), (.int .i64 0), (.slice none 0 0), (.bool false)] 28)) b o bs := fun i hi => hga.cell (hb i hi) (by simp)
  have hG0 : GTab (w.alloc (.cells #[(.int .i64 0), (.int .i64 0), (.int .i64 0), (.int .i64 0), (.int .i64 0), (.int .i64 0), (.int .i64 0), (.int .i64 0), (.int .i64 0), (.int .i64 0), (.int .i64 0), (.int .i64 0), (.int .i64 0), (.slice none 0 0), (.bool false)] 28)) := ⟨by simp, fun i hi => hga.cell (hG.2 i hi) (by simp)⟩
  cases hp : pDec bs with
  | none =>
    have HP : Hid (pDec bs = none) := hp
    clear hp
    go_enter Tryd.func9, Tryd.ntmps9
    go_wp2_with (first | (go_at_call 21; refine (read_any b o n c ao bs _ hbs hb0 hB hao hnc (by simp; omega) hG0).mono ?_; rintro e w1 hD; rw [HP.out] at hD; obtain ⟨hg, rfl⟩ := hD; have hZ1 := hZ0.far (hg.but (some (w.heap.size + 1))) (by simp) (by omega); have hz := hZ1.1; have hzf := hZ1.2; unfold mval errMsg zMsg))
    refine bodyPost_ret (res28t rfl _ _ w.heap.size _ _ _ _ _ _ _ _ _ _ _ _ _ _ _ _ rfl rfl (put15_cells hZ1 rfl _ _ _ _ _ _ _ _ _ _ _ _ _ _ _)) rfl ?_
    exact ⟨put15_grown (hga.trans hg) (Nat.le_refl _) _ _ _ _ _ _ _ _ _ _ _ _ _ _ _, rfl⟩
  | some m =>
    have HP : Hid (pDec bs = some m) := hp
    clear hp
    go_enter Tryd.func9, Tryd.ntmps9
    go_wp2_with (first | (go_at_call 21; refine (read_any b o n c ao bs _ hbs hb0 hB hao hnc (by simp; omega) hG0).mono ?_; rintro e w1 hD; rw [HP.out] at hD; obtain ⟨hg, ao', c', rfl, hO⟩ := hD; have hZ1 := hZ0.far (hg.but (some (w.heap.size + 1))) (by simp) (by omega); have hz := hZ1.1; have hzf := hZ1.2; unfold mval))
    refine bodyPost_ret (res28t rfl _ _ w.heap.size _ _ _ _ _ _ _ _ _ _ _ _ _ _ _ _ rfl rfl (put15_cells hZ1 rfl _ _ _ _ _ _ _ _ _ _ _ _ _ _ _)) rfl ?_
    exact ⟨put15_grown (hga.trans hg) (Nat.le_refl _) _ _ _ _ _ _ _ _ _ _ _ _ _ _ _, ao', c', rfl, ownBase (put15_own hO (by simp) _ _ _ _ _ _ _ _ _ _ _ _ _ _ _) (by simp)⟩

end Go.Proofs.YtdpnmpfkbeommaaDoor
