/-
  What the law keeps of lists that came out and were handed in, as memory; keepBytes.
-/
import Derived.Test.YtdpnmpfkbeommaaDoorN
namespace Go.Proofs.YtdpnmpfkbeommaaDoor
open Go.RowKit

def wcells (vb vp : Value) : Array Value := #[.slice none 0 0, vb, .slice none 0 0, .slice none 0 0, .slice none 0 0, .slice none 0 0, .slice none 0 0, .slice none 0 0, .slice none 0 0, vp]

/-- A list of bytes that holds the n-th digits. -/
def ByteE (w : World) (n : Nat) (v : Value) : Prop := ∃ ao len cap, v = .slice ao len cap ∧ len ≤ 2000 ∧ (0 < len → ∃ g cur, ao = some ⟨g, 0, none⟩ ∧ w.heap[g]? = some (Obj.cells cur 5 (0, 0)) ∧ ∀ k, k < len → cur[k]? = some (.int .u8 (dig n k)))
/-- A list of keys and versions that was turned over. -/
def PastE (w : World) (v : Value) : Prop := ∃ g len cap cur, v = .slice (some ⟨g, 0, none⟩) len cap ∧ len * 24 ≤ 140737488355328 ∧ w.heap[g]? = some (Obj.cells cur 25 (0, 0)) ∧ ∀ k, k < len → cur[k * 3]? = some (.int .i64 (-8))

structure Law (w : World) (base B nb np n4 F M : Nat) (vb vp : Value) (bs ps : List Value) : Prop where
  blk : w.heap[B]? = some (Obj.cells (wcells vb vp) 38 (0, 0))
  hB : base ≤ B
  rb : w.ownsRow base 41 1 vb nb bs
  rp : w.ownsRow base 26 1 vp np ps
  eb : ∀ i, i < nb → ∃ v, bs[i]? = some v ∧ ByteE w (i / 4 * 4) v ∧ (i < n4 → ∀ g len cap, v = .slice (some ⟨g, 0, none⟩) len cap → 0 < len → g < F) ∧ (n4 ≤ i → ∀ ao len cap, v = .slice ao len cap → len ≤ M)
  ep : ∀ i, i < np → ∃ v, ps[i]? = some v ∧ PastE w v

theorem lt_of_heap {w : World} {b : Nat} {o : Obj} (h : w.heap[b]? = some o) : b < w.heap.size := (Array.getElem?_eq_some_iff.1 h).1

theorem own_elem {w : World} {base e size n g : Nat} {v : Value} {xs : List Value} (h : w.ownsRow base e size v n xs) (hv : v.ownBlock = some g) : ∃ cur, w.heap[g]? = some (Obj.cells cur e (0, 0)) := by
  rcases h.2 with ⟨rfl, _⟩ | ⟨g', cap, cur, rfl, _, hh, _⟩
  · simp [Value.ownBlock] at hv
  · simp [Value.ownBlock] at hv; subst hv; exact ⟨cur, hh⟩

theorem ownsRow_on {w w' : World} {base e size n : Nat} {v : Value} {xs : List Value} (h : w.ownsRow base e size v n xs) (hk : ∀ (b : Nat) (cur : Array Value), w.heap[b]? = some (Obj.cells cur e (0, 0)) → w'.heap[b]? = w.heap[b]?) : w'.ownsRow base e size v n xs := by
  refine ⟨h.1, ?_⟩
  rcases h.2 with h2 | ⟨g, cap, cur, hv, hb, hh, r⟩
  · exact .inl h2
  · exact .inr ⟨g, cap, cur, hv, hb, (hk g cur hh).trans hh, r⟩

theorem ByteE.on {w w' : World} {n : Nat} {v : Value} (h : ByteE w n v) (hk : ∀ (b : Nat) (cur : Array Value), w.heap[b]? = some (Obj.cells cur 5 (0, 0)) → w'.heap[b]? = w.heap[b]?) : ByteE w' n v := by
  obtain ⟨ao, len, cap, rfl, hl, hp⟩ := h
  refine ⟨ao, len, cap, rfl, hl, fun h0 => ?_⟩
  obtain ⟨g, cur, e, hh, hd⟩ := hp h0
  exact ⟨g, cur, e, (hk g cur hh).trans hh, hd⟩
theorem PastE.on {w w' : World} {v : Value} (h : PastE w v) (hk : ∀ (b : Nat) (cur : Array Value), w.heap[b]? = some (Obj.cells cur 25 (0, 0)) → w'.heap[b]? = w.heap[b]?) : PastE w' v := by
  obtain ⟨g, len, cap, cur, rfl, hl, hh, hd⟩ := h
  exact ⟨g, len, cap, cur, rfl, hl, (hk g cur hh).trans hh, hd⟩

theorem Law.same {w w' : World} {base B nb np n4 F M : Nat} {vb vp : Value} {bs ps : List Value} (h : Law w base B nb np n4 F M vb vp bs ps) (hk : ∀ b, b < w.heap.size → w'.heap[b]? = w.heap[b]?) : Law w' base B nb np n4 F M vb vp bs ps where
  blk := (hk _ (lt_of_heap h.blk)).trans h.blk
  hB := h.hB
  rb := ownsRow_on h.rb fun b cur hh => hk b (lt_of_heap hh)
  rp := ownsRow_on h.rp fun b cur hh => hk b (lt_of_heap hh)
  eb := fun i hi => by
    obtain ⟨v, h1, h2, h3⟩ := h.eb i hi
    exact ⟨v, h1, h2.on fun b cur hh => hk b (lt_of_heap hh), h3⟩
  ep := fun i hi => by
    obtain ⟨v, h1, h2⟩ := h.ep i hi
    exact ⟨v, h1, h2.on fun b cur hh => hk b (lt_of_heap hh)⟩

/-- One block of bytes, none of the elder lists', is written. -/
theorem Law.row5 {w w' : World} {base B nb np n4 F M G : Nat} {vb vp : Value} {bs ps : List Value} (h : Law w base B nb np n4 F M vb vp bs ps) (hk : ∀ b, b < w.heap.size → b ≠ G → w'.heap[b]? = w.heap[b]?)
    (hG : ∃ cur, w.heap[G]? = some (Obj.cells cur 5 (0, 0))) (hF : F ≤ G) (h4 : n4 % 4 = 0) (hnb : nb ≤ n4 + 4)
    (hnew : n4 < nb → ∃ cur, w'.heap[G]? = some (Obj.cells cur 5 (0, 0)) ∧ ∀ k, k < M → cur[k]? = some (.int .u8 (dig n4 k))) : Law w' base B nb np n4 F M vb vp bs ps := by
  obtain ⟨curG, hG⟩ := hG
  have hne : ∀ (b : Nat) (cur : Array Value) (e : Nat), w.heap[b]? = some (Obj.cells cur e (0, 0)) → e ≠ 5 → w'.heap[b]? = w.heap[b]? := by
    intro b cur e hh he
    refine hk b (lt_of_heap hh) ?_
    rintro rfl
    rw [hG] at hh; simp at hh; exact he hh.2.symm
  refine ⟨(hne _ _ _ h.blk (by decide)).trans h.blk, h.hB, ownsRow_on h.rb fun b cur hh => hne b cur 41 hh (by decide), ownsRow_on h.rp fun b cur hh => hne b cur 26 hh (by decide), fun i hi => ?_, fun i hi => ?_⟩
  · obtain ⟨v, h1, h2, h3, h5⟩ := h.eb i hi
    refine ⟨v, h1, ?_, h3, h5⟩
    obtain ⟨ao, len, cap, rfl, hl, hp⟩ := h2
    refine ⟨ao, len, cap, rfl, hl, fun h0 => ?_⟩
    obtain ⟨g, cur, rfl, hh, hd⟩ := hp h0
    by_cases e : g = G
    · subst e
      have hi4 : n4 ≤ i := by
        rcases Nat.lt_or_ge i n4 with hlt | hge
        · have := h3 hlt g len cap rfl h0; omega
        · exact hge
      have hM := h5 hi4 _ _ _ rfl
      obtain ⟨cur', hc', hd'⟩ := hnew (by omega)
      refine ⟨g, cur', rfl, hc', fun k hk' => ?_⟩
      rw [hd' k (by omega), show i / 4 * 4 = n4 by omega]
    · exact ⟨g, cur, rfl, (hk g (lt_of_heap hh) e).trans hh, hd⟩
  · obtain ⟨v, h1, h2⟩ := h.ep i hi
    exact ⟨v, h1, h2.on fun b cur hh => hne b cur 25 hh (by decide)⟩

/-- What an append to a row of element type e and a store into the law's own block leave of all else. -/
theorem rest_of {w w1 : World} {o : Obj} {base e size n B j : Nat} {v u : Value} {xs : List Value} (hr : w.ownsRow base e size v n xs) (hB : ∃ c, w.heap[B]? = some (Obj.cells c 38 (0, 0))) (hg : (w.alloc o).grownBy w1 v.ownBlock) :
    ∀ (b : Nat) (cur : Array Value) (e' : Nat), w.heap[b]? = some (Obj.cells cur e' (0, 0)) → e' ≠ e → e' ≠ 38 → (w1.setCell ⟨B, j, none⟩ u).heap[b]? = w.heap[b]? := by
  intro b cur e' hh h1 h2
  obtain ⟨c, hB⟩ := hB
  have hlt := lt_of_heap hh
  rw [Below.heap_setCell _ _ _ _ (by rintro rfl; (try simp at hB); rw [hB] at hh; simp at hh; exact h2 hh.2.symm)]
  rw [hg.block b (by simp; omega) ?_, Below.heap_alloc _ _ _ hlt]
  intro e0
  obtain ⟨cur', hc⟩ := own_elem hr e0.symm
  rw [hc] at hh; simp at hh; exact h1 hh.2.symm

theorem blk_of {w w1 : World} {o : Obj} {base e size n B : Nat} {v : Value} {xs : List Value} {c : Array Value} (hr : w.ownsRow base e size v n xs) (he : e ≠ 38) (hB : w.heap[B]? = some (Obj.cells c 38 (0, 0))) (hg : (w.alloc o).grownBy w1 v.ownBlock) :
    w1.heap[B]? = some (Obj.cells c 38 (0, 0)) := by
  have hlt := lt_of_heap hB
  rw [hg.block B (by simp; omega) ?_, Below.heap_alloc _ _ _ hlt]
  · exact hB
  intro e0
  obtain ⟨cur', hc⟩ := own_elem hr e0.symm
  rw [hc] at hB; simp at hB; exact he hB.2

theorem Law.addB {w w1 : World} {o : Obj} {base B nb np n4 F M : Nat} {vb vp vb' l : Value} {bs ps : List Value} (h : Law w base B nb np n4 F M vb vp bs ps) (hg : (w.alloc o).grownBy w1 vb.ownBlock)
    (hown : w1.ownsRow base 41 1 vb' (nb + 1) (bs ++ [l])) (h4 : n4 % 4 = 0) (hnb : nb < n4 + 4) (hn4 : n4 ≤ nb) (hl : ByteE w n4 l) (hM : ∀ ao len cap, l = .slice ao len cap → len ≤ M) :
    Law (w1.setCell ⟨B, 1, none⟩ vb') base B (nb + 1) np n4 F M vb' vp (bs ++ [l]) ps := by
  have hr := rest_of (j := 1) (u := vb') h.rb ⟨_, h.blk⟩ hg
  have hb := blk_of h.rb (by decide) h.blk hg
  refine ⟨?_, h.hB, ?_, ownsRow_on h.rp fun b cur hh => hr b cur 26 hh (by decide) (by decide), fun i hi => ?_, fun i hi => ?_⟩
  · rw [heap_setCell_same _ _ _ _ _ _ hb]; rfl
  · refine ownsRow_on hown fun b cur hh => Below.heap_setCell _ _ _ _ ?_
    rintro rfl
    (try simp at hb); rw [hb] at hh; simp at hh
  · have hlen : bs.length = nb := by have := h.rb.1; omega
    by_cases hi' : i < nb
    · obtain ⟨v, h1, h2, h3, h5⟩ := h.eb i hi'
      exact ⟨v, by rw [List.getElem?_append_left (by omega)]; exact h1, h2.on fun b cur hh => hr b cur 5 hh (by decide) (by decide), h3, h5⟩
    · obtain rfl : i = nb := by omega
      refine ⟨l, by rw [List.getElem?_append_right (by omega)]; simp [hlen], ?_, fun h' => by omega, fun _ => hM⟩
      rw [show i / 4 * 4 = n4 by omega]
      exact hl.on fun b cur hh => hr b cur 5 hh (by decide) (by decide)
  · obtain ⟨v, h1, h2⟩ := h.ep i hi
    exact ⟨v, h1, h2.on fun b cur hh => hr b cur 25 hh (by decide) (by decide)⟩

theorem Law.addP {w w1 : World} {o : Obj} {base B nb np n4 F M : Nat} {vb vp vp' l : Value} {bs ps : List Value} (h : Law w base B nb np n4 F M vb vp bs ps) (hg : (w.alloc o).grownBy w1 vp.ownBlock)
    (hown : w1.ownsRow base 26 1 vp' (np + 1) (ps ++ [l])) (hl : PastE w l) :
    Law (w1.setCell ⟨B, 9, none⟩ vp') base B nb (np + 1) n4 F M vb vp' bs (ps ++ [l]) := by
  have hr := rest_of (j := 9) (u := vp') h.rp ⟨_, h.blk⟩ hg
  have hb := blk_of h.rp (by decide) h.blk hg
  refine ⟨?_, h.hB, ownsRow_on h.rb fun b cur hh => hr b cur 41 hh (by decide) (by decide), ?_, fun i hi => ?_, fun i hi => ?_⟩
  · rw [heap_setCell_same _ _ _ _ _ _ hb]; rfl
  · refine ownsRow_on hown fun b cur hh => Below.heap_setCell _ _ _ _ ?_
    rintro rfl
    (try simp at hb); rw [hb] at hh; simp at hh
  · obtain ⟨v, h1, h2, h3, h5⟩ := h.eb i hi
    exact ⟨v, h1, h2.on fun b cur hh => hr b cur 5 hh (by decide) (by decide), h3, h5⟩
  · have hlen : ps.length = np := by have := h.rp.1; omega
    by_cases hi' : i < np
    · obtain ⟨v, h1, h2⟩ := h.ep i hi'
      exact ⟨v, by rw [List.getElem?_append_left (by omega)]; exact h1, h2.on fun b cur hh => hr b cur 25 hh (by decide) (by decide)⟩
    · obtain rfl : i = np := by omega
      exact ⟨l, by rw [List.getElem?_append_right (by omega)]; simp [hlen], hl.on fun b cur hh => hr b cur 25 hh (by decide) (by decide)⟩

end Go.Proofs.YtdpnmpfkbeommaaDoor
