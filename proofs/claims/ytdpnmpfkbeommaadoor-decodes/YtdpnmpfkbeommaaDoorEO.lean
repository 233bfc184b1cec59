/-
  What the law keeps of lists of keys and versions that came out, and of bytes that were handed in, as memory.
-/
import Derived.Test.YtdpnmpfkbeommaaDoorO
import Derived.Test.YtdpnmpfkbeommaaDoorDE
namespace Go.Proofs.YtdpnmpfkbeommaaDoor
open Go.RowKit
set_option linter.unusedSimpArgs false
set_option linter.unusedVariables false

def wcellsD (vb vp : Value) : Array Value := #[.slice none 0 0, .slice none 0 0, .slice none 0 0, .slice none 0 0, vb, .slice none 0 0, .slice none 0 0, .slice none 0 0, vp, .slice none 0 0]

/-- What the n-th lists are filled with: a key, and no version. -/
def fillD (n : Nat) (k : Nat) : Value := if k % 3 = 0 then .int .i64 (-1 - (n : Int)) else .int .i64 0
/-- A list of keys and versions that was written over with the n-th key. -/
def DepE (w : World) (n : Nat) (v : Value) : Prop := ∃ ao len cap, v = .slice ao len cap ∧ len ≤ 2000 ∧ (0 < len → ∃ g cur, ao = some ⟨g, 0, none⟩ ∧ w.heap[g]? = some (Obj.cells cur 25 (0, 0)) ∧ ∀ k, k < len * 3 → cur[k]? = some (fillD n k))
/-- A list of bytes that was turned over. -/
def TurnE (w : World) (v : Value) : Prop := ∃ g len cap cur, v = .slice (some ⟨g, 0, none⟩) len cap ∧ len ≤ 140737488355328 ∧ w.heap[g]? = some (Obj.cells cur 5 (0, 0)) ∧ ∀ k, k < len → cur[k]? = some (.int .u8 251)

structure LawD (w : World) (base B nb np n4 F M : Nat) (vb vp : Value) (bs ps : List Value) : Prop where
  blk : w.heap[B]? = some (Obj.cells (wcellsD vb vp) 38 (0, 0))
  hB : base ≤ B
  rb : w.ownsRow base 26 1 vb nb bs
  rp : w.ownsRow base 41 1 vp np ps
  eb : ∀ i, i < nb → ∃ v, bs[i]? = some v ∧ DepE w (i / 4 * 4) v ∧ (i < n4 → ∀ g len cap, v = .slice (some ⟨g, 0, none⟩) len cap → 0 < len → g < F) ∧ (n4 ≤ i → ∀ ao len cap, v = .slice ao len cap → len ≤ M)
  ep : ∀ i, i < np → ∃ v, ps[i]? = some v ∧ TurnE w v

theorem DepE.on {w w' : World} {n : Nat} {v : Value} (h : DepE w n v) (hk : ∀ (b : Nat) (cur : Array Value), w.heap[b]? = some (Obj.cells cur 25 (0, 0)) → w'.heap[b]? = w.heap[b]?) : DepE w' n v := by
  obtain ⟨ao, len, cap, rfl, hl, hp⟩ := h
  refine ⟨ao, len, cap, rfl, hl, fun h0 => ?_⟩
  obtain ⟨g, cur, e, hh, hd⟩ := hp h0
  exact ⟨g, cur, e, (hk g cur hh).trans hh, hd⟩
theorem TurnE.on {w w' : World} {v : Value} (h : TurnE w v) (hk : ∀ (b : Nat) (cur : Array Value), w.heap[b]? = some (Obj.cells cur 5 (0, 0)) → w'.heap[b]? = w.heap[b]?) : TurnE w' v := by
  obtain ⟨g, len, cap, cur, rfl, hl, hh, hd⟩ := h
  exact ⟨g, len, cap, cur, rfl, hl, (hk g cur hh).trans hh, hd⟩

theorem LawD.same {w w' : World} {base B nb np n4 F M : Nat} {vb vp : Value} {bs ps : List Value} (h : LawD w base B nb np n4 F M vb vp bs ps) (hk : ∀ b, b < w.heap.size → w'.heap[b]? = w.heap[b]?) : LawD w' base B nb np n4 F M vb vp bs ps where
  blk := (hk _ (lt_of_heap h.blk)).trans h.blk
  hB := h.hB
  rb := ownsRow_on h.rb fun b cur hh => hk b (lt_of_heap hh)
  rp := ownsRow_on h.rp fun b cur hh => hk b (lt_of_heap hh)
  eb := fun i hi => by
    obtain ⟨v, h1, h2, h3⟩ := h.eb i hi
    exact ⟨v, h1, h2.on fun b cur hh => hk b (lt_of_heap hh), h3⟩
  ep := fun i hi => by
    obtain ⟨v, h1, h2⟩ := h.ep i hi
    exact ⟨v, h1, h2.on fun b cur hh => hk b (lt_of_heap hh)⟩

/-- One block of bytes, none of the elder lists', is written. -/
theorem LawD.row25 {w w' : World} {base B nb np n4 F M G : Nat} {vb vp : Value} {bs ps : List Value} (h : LawD w base B nb np n4 F M vb vp bs ps) (hk : ∀ b, b < w.heap.size → b ≠ G → w'.heap[b]? = w.heap[b]?)
    (hG : ∃ cur, w.heap[G]? = some (Obj.cells cur 25 (0, 0))) (hF : F ≤ G) (h4 : n4 % 4 = 0) (hnb : nb ≤ n4 + 4)
    (hnew : n4 < nb → ∃ cur, w'.heap[G]? = some (Obj.cells cur 25 (0, 0)) ∧ ∀ k, k < M * 3 → cur[k]? = some (fillD n4 k)) : LawD w' base B nb np n4 F M vb vp bs ps := by
  obtain ⟨curG, hG⟩ := hG
  have hne : ∀ (b : Nat) (cur : Array Value) (e : Nat), w.heap[b]? = some (Obj.cells cur e (0, 0)) → e ≠ 25 → w'.heap[b]? = w.heap[b]? := by
    intro b cur e hh he
    refine hk b (lt_of_heap hh) ?_
    rintro rfl
    rw [hG] at hh; simp at hh; exact he hh.2.symm
  refine ⟨(hne _ _ _ h.blk (by decide)).trans h.blk, h.hB, ownsRow_on h.rb fun b cur hh => hne b cur 26 hh (by decide), ownsRow_on h.rp fun b cur hh => hne b cur 41 hh (by decide), fun i hi => ?_, fun i hi => ?_⟩
  · obtain ⟨v, h1, h2, h3, h5⟩ := h.eb i hi
    refine ⟨v, h1, ?_, h3, h5⟩
    obtain ⟨ao, len, cap, rfl, hl, hp⟩ := h2
    refine ⟨ao, len, cap, rfl, hl, fun h0 => ?_⟩
    obtain ⟨g, cur, rfl, hh, hd⟩ := hp h0
    by_cases e : g = G
    · subst e
      have hi4 : n4 ≤ i := by
        rcases Nat.lt_or_ge i n4 with hlt | hge
        · have := h3 hlt g len cap rfl h0; omega
        · exact hge
      have hM := h5 hi4 _ _ _ rfl
      obtain ⟨cur', hc', hd'⟩ := hnew (by omega)
      refine ⟨g, cur', rfl, hc', fun k hk' => ?_⟩
      rw [hd' k (by omega), show i / 4 * 4 = n4 by omega]
    · exact ⟨g, cur, rfl, (hk g (lt_of_heap hh) e).trans hh, hd⟩
  · obtain ⟨v, h1, h2⟩ := h.ep i hi
    exact ⟨v, h1, h2.on fun b cur hh => hne b cur 5 hh (by decide)⟩

theorem LawD.addD {w w1 : World} {o : Obj} {base B nb np n4 F M : Nat} {vb vp vb' l : Value} {bs ps : List Value} (h : LawD w base B nb np n4 F M vb vp bs ps) (hg : (w.alloc o).grownBy w1 vb.ownBlock)
    (hown : w1.ownsRow base 26 1 vb' (nb + 1) (bs ++ [l])) (h4 : n4 % 4 = 0) (hnb : nb < n4 + 4) (hn4 : n4 ≤ nb) (hl : DepE w n4 l) (hM : ∀ ao len cap, l = .slice ao len cap → len ≤ M) :
    LawD (w1.setCell ⟨B, 4, none⟩ vb') base B (nb + 1) np n4 F M vb' vp (bs ++ [l]) ps := by
  have hr := rest_of (j := 4) (u := vb') h.rb ⟨_, h.blk⟩ hg
  have hb := blk_of h.rb (by decide) h.blk hg
  refine ⟨?_, h.hB, ?_, ownsRow_on h.rp fun b cur hh => hr b cur 41 hh (by decide) (by decide), fun i hi => ?_, fun i hi => ?_⟩
  · rw [heap_setCell_same _ _ _ _ _ _ hb]; rfl
  · refine ownsRow_on hown fun b cur hh => Below.heap_setCell _ _ _ _ ?_
    rintro rfl
    (try simp at hb); rw [hb] at hh; simp at hh
  · have hlen : bs.length = nb := by have := h.rb.1; omega
    by_cases hi' : i < nb
    · obtain ⟨v, h1, h2, h3, h5⟩ := h.eb i hi'
      exact ⟨v, by rw [List.getElem?_append_left (by omega)]; exact h1, h2.on fun b cur hh => hr b cur 25 hh (by decide) (by decide), h3, h5⟩
    · obtain rfl : i = nb := by omega
      refine ⟨l, by rw [List.getElem?_append_right (by omega)]; simp [hlen], ?_, fun h' => by omega, fun _ => hM⟩
      rw [show i / 4 * 4 = n4 by omega]
      exact hl.on fun b cur hh => hr b cur 25 hh (by decide) (by decide)
  · obtain ⟨v, h1, h2⟩ := h.ep i hi
    exact ⟨v, h1, h2.on fun b cur hh => hr b cur 5 hh (by decide) (by decide)⟩

theorem LawD.addT {w w1 : World} {o : Obj} {base B nb np n4 F M : Nat} {vb vp vp' l : Value} {bs ps : List Value} (h : LawD w base B nb np n4 F M vb vp bs ps) (hg : (w.alloc o).grownBy w1 vp.ownBlock)
    (hown : w1.ownsRow base 41 1 vp' (np + 1) (ps ++ [l])) (hl : TurnE w l) :
    LawD (w1.setCell ⟨B, 8, none⟩ vp') base B nb (np + 1) n4 F M vb vp' bs (ps ++ [l]) := by
  have hr := rest_of (j := 8) (u := vp') h.rp ⟨_, h.blk⟩ hg
  have hb := blk_of h.rp (by decide) h.blk hg
  refine ⟨?_, h.hB, ownsRow_on h.rb fun b cur hh => hr b cur 26 hh (by decide) (by decide), ?_, fun i hi => ?_, fun i hi => ?_⟩
  · rw [heap_setCell_same _ _ _ _ _ _ hb]; rfl
  · refine ownsRow_on hown fun b cur hh => Below.heap_setCell _ _ _ _ ?_
    rintro rfl
    (try simp at hb); rw [hb] at hh; simp at hh
  · obtain ⟨v, h1, h2, h3, h5⟩ := h.eb i hi
    exact ⟨v, h1, h2.on fun b cur hh => hr b cur 25 hh (by decide) (by decide), h3, h5⟩
  · have hlen : ps.length = np := by have := h.rp.1; omega
    by_cases hi' : i < np
    · obtain ⟨v, h1, h2⟩ := h.ep i hi'
      exact ⟨v, by rw [List.getElem?_append_left (by omega)]; exact h1, h2.on fun b cur hh => hr b cur 5 hh (by decide) (by decide)⟩
    · obtain rfl : i = np := by omega
      exact ⟨l, by rw [List.getElem?_append_right (by omega)]; simp [hlen], hl.on fun b cur hh => hr b cur 5 hh (by decide) (by decide)⟩

end Go.Proofs.YtdpnmpfkbeommaaDoor
