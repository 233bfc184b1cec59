/-
  keepBytes.
-/
import Derived.Test.YtdpnmpfkbeommaaDoorO
import Derived.ArgAppend
import Derived.Deep.AppendLies
namespace Go.Proofs.YtdpnmpfkbeommaaDoor
open Go.RowKit

def digs (n k : Nat) : List Int := (List.range k).map (dig n)
theorem digs_succ (n k : Nat) : digs n (k + 1) = digs n k ++ [dig n k] := by simp [digs, List.range_succ]
theorem digs_len (n k : Nat) : (digs n k).length = k := by simp [digs]
theorem digs_at (n k j : Nat) (h : j < k) : (bytesV (digs n k))[j]? = some (.int .u8 (dig n j)) := by simp [bytesV, digs, h]

theorem info41 : (Tryd.prog.info? 41).map (fun i => (i.zero, i.size, i.bytes)) = some (some (.slice none 0 0), 1, 24) := by kernel_rfl

/-- The list that is written over, half done: k places. -/
def half (n k : Nat) (xs : List Int) : List Int := digs n k ++ xs.drop k
theorem half_zero (n : Nat) (xs : List Int) : half n 0 xs = xs := by simp [half, digs]
theorem half_len (n k : Nat) (xs : List Int) (h : k ≤ xs.length) : (half n k xs).length = xs.length := by simp [half, digs_len]; omega
theorem half_set (n k : Nat) (xs : List Int) (h : k < xs.length) : (bytesV (half n k xs)).set k (.int .u8 (dig n k)) = bytesV (half n (k + 1) xs) := by
  have e : xs.drop k = xs[k] :: xs.drop (k + 1) := by simp
  simp only [half, e, bytesV, List.map_append, List.map_cons, digs_succ]
  rw [List.set_append_right _ _ (by simp [digs_len])]
  simp [digs_len]
theorem half_full (n : Nat) (xs : List Int) : half n xs.length xs = digs n xs.length := by simp [half]

/-- An owned list of bytes that holds the digits is an entry. -/
theorem byteE_of {w : World} {F n m : Nat} {v : Value} (h : w.ownsRow F 5 1 v m (bytesV (digs n m))) (hm : m ≤ 2000) : ByteE w n v := by
  rcases h.2 with ⟨rfl, rfl⟩ | ⟨g, cap, cur, rfl, hb, hh, hn, hc, hs, ht⟩
  · exact ⟨none, 0, 0, rfl, by omega, fun h => by omega⟩
  · refine ⟨_, m, cap, rfl, hm, fun _ => ⟨g, cur, rfl, hh, fun k hk => ?_⟩⟩
    have := digs_at n m k hk
    rw [← ht, List.getElem?_take] at this
    simp [hk] at this
    simpa using this

theorem new_one (w : World) (b : Nat) (hb : b = w.heap.size) (x : Value) (t : TypeId) : ∀ j u, [x][j]? = some u → (w.alloc (.cells #[x] t)).cell? ((⟨b, 0, none⟩ : Addr).add j) = some u := by
  subst hb; exact cell_one_new w x t
theorem frozen_of_blk {w : World} {b j : Nat} {c : Array Value} {t : TypeId} (h : w.heap[b]? = some (Obj.cells c t (0, 0))) : w.frozen? ⟨b, j, none⟩ = false := by
  simp [World.frozen?, h]
theorem Law.setM {w : World} {base B nb np n4 F M M' : Nat} {vb vp : Value} {bs ps : List Value} (h : Law w base B nb np n4 F M vb vp bs ps) (hn : nb ≤ n4) : Law w base B nb np n4 F M' vb vp bs ps :=
  ⟨h.blk, h.hB, h.rb, h.rp, fun i hi => by
    obtain ⟨v, h1, h2, h3, _⟩ := h.eb i hi
    exact ⟨v, h1, h2, h3, fun h' => by omega⟩, h.ep⟩
theorem Law.mono {w : World} {base B nb np n4 F M M' : Nat} {vb vp : Value} {bs ps : List Value} (h : Law w base B nb np n4 F M vb vp bs ps) (hM : M ≤ M') : Law w base B nb np n4 F M' vb vp bs ps :=
  ⟨h.blk, h.hB, h.rb, h.rp, fun i hi => by
    obtain ⟨v, h1, h2, h3, h5⟩ := h.eb i hi
    exact ⟨v, h1, h2, h3, fun h' ao len cap e => Nat.le_trans (h5 h' ao len cap e) hM⟩, h.ep⟩
theorem Law.close {w : World} {base B nb np n4 F M : Nat} {vb vp : Value} {bs ps : List Value} (h : Law w base B nb np n4 F M vb vp bs ps) : Law w base B nb np nb w.heap.size 0 vb vp bs ps :=
  ⟨h.blk, h.hB, h.rb, h.rp, fun i hi => by
    obtain ⟨v, h1, h2, h3, h5⟩ := h.eb i hi
    refine ⟨v, h1, h2, fun _ g len cap e h0 => ?_, fun h' => by omega⟩
    obtain ⟨ao, len', cap', e', _, hp⟩ := h2
    rw [e] at e'
    simp only [Value.slice.injEq] at e'
    obtain ⟨rfl, rfl, rfl⟩ := e'
    obtain ⟨g', cur, e2, hh, _⟩ := hp h0
    simp at e2; subst e2
    exact lt_of_heap hh, h.ep⟩

set_option maxRecDepth 100000 in
set_option maxHeartbeats 2000000 in
theorem keepBytes_any (w : World) (base B nb np F n : Nat) (vb vp l : Value) (bs ps : List Value) (xs : List Int) (hL : Law w base B nb np nb F 0 vb vp bs ps) (hl : w.ownsRow F 5 1 l n (bytesV xs)) (hF : base ≤ F) (hFs : F ≤ w.heap.size) (hn : n ≤ 1000) (hnb : nb ≤ 100) (h4 : nb % 4 = 0) :
    Calls Tryd.prog 12 #[.pointer (some ⟨B, 0, none⟩), l] w fun e w' => e = .returned (.tuple #[]) ∧ (∃ vb' bs', Law w' base B (nb + 4) np (nb + 4) w'.heap.size 0 vb' vp bs' ps) ∧ Below base w w' := by
  obtain ⟨i0, hi, hz0, hz1, hz2⟩ := info_parts info5
  obtain ⟨i1, hi1, hy0, hy1, hy2⟩ := info_parts info41
  have hxl : xs.length = n := by have := hl.1; simp [bytesV] at this; exact this
  have hv1 : w.cell? ⟨B, 1, none⟩ = some vb := by rw [cell_of_row _ _ _ _ _ _ hL.blk]; rfl
  obtain ⟨aob, cpb, hvb⟩ : ∃ aob cpb, vb = .slice aob nb cpb := by
    rcases hL.rb.2 with ⟨h, h0⟩ | ⟨g, cap, cur, h, _⟩
    · exact ⟨none, 0, by rw [h, h0]⟩
    · exact ⟨_, cap, h⟩
  obtain ⟨aol, cpl, hvl⟩ : ∃ aol cpl, l = .slice aol n cpl := by
    rcases hl.2 with ⟨h, h0⟩ | ⟨g, cap, cur, h, _⟩
    · exact ⟨none, 0, by rw [h, h0]⟩
    · exact ⟨_, cap, h⟩
  rw [hvb] at hv1
  subst hvl
  go_enter Tryd.func12, Tryd.ntmps12
  go_wp2_with fail
  go_loopw [5] (fun t5 wr => ∃ k : Nat, k ≤ n ∧ t5 = .int .i64 k ∧ wr.ownsRow F 5 1 (.slice aol n cpl) n (bytesV (half nb k xs)) ∧ Law wr base B nb np nb F 0 vb vp bs ps ∧ Below base w wr ∧ w.heap.size ≤ wr.heap.size) (fun t5 _ => n - (intOf t5).toNat)
  case atStart => exact ⟨0, Nat.zero_le _, rfl, by rw [half_zero]; exact hl, hL, Below.refl _ _, Nat.le_refl _⟩
  case round =>
    obtain ⟨k, hk, rfl, hlr, hLr, hbr, hsr⟩ := hrel
    by_cases hlt : k < n
    · obtain ⟨g, cp, hform, hgF, hgl⟩ := hlr.form (by omega)
      simp only [Value.slice.injEq] at hform
      obtain ⟨rfl, _, rfl⟩ := hform
      have ck := hlr.cellAt k (by omega)
      have hkx : (bytesV (half nb k xs))[k]? = some (.int .u8 (xs.getD k 0)) := by simp [bytesV, half, digs_len, List.getElem?_append_right, show k < xs.length by omega, List.getD]
      rw [hkx] at ck
      have fk := hlr.frozenAt k
      have hst := hlr.stored k (.int .u8 (dig nb k))
      rw [half_set nb k xs (by omega)] at hst
      have HST := (show Hid _ from hst)
      clear hst hkx
      go_wp2_with (go_at_call 13; refine (digit_any nb k _ (by omega) (by omega)).mono ?_; rintro e w' ⟨rfl, rfl⟩)
      go_roundw
      case rel =>
        refine ⟨k + 1, by omega, by go_num, HST.out.1, ?_, ?_, ?_⟩
        · refine hLr.row5 (G := g) (fun b hb hne => HST.out.2.block b hb (by simpa using hne)) (own_elem hlr rfl) hgF h4 (by omega) (fun h => by omega)
        · exact hbr.grown HST.out.2 (by have := hbr.size; omega) (by intro k' h'; cases h'; omega)
        · have := HST.out.2.size; omega
      case measure => simp [intOf]; omega
    · have hkn : k = n := by omega
      subst hkn
      have hlr' : wr.ownsRow F 5 1 (.slice aol k cpl) k (bytesV (digs nb k)) := by
        have := hlr; rw [← hxl, half_full, hxl] at this; exact this
      clear hlr
      go_wp2_with fail
      go_loopw [1, 6] (fun t1 t6 wr => ∃ (i : Nat) (vb2 : Value) (bs2 : List Value), i ≤ 4 ∧ t6 = .int .i64 i ∧ wr.ownsRow F 5 1 t1 (k + i) (bytesV (digs nb (k + i))) ∧ Law wr base B (nb + i) np nb F (k + i) vb2 vp bs2 ps ∧ Below base w wr ∧ F ≤ wr.heap.size) (fun _ t6 _ => 4 - (intOf t6).toNat)
      case atStart => exact ⟨0, vb, bs, by omega, rfl, hlr', hLr.setM (Nat.le_refl _), hbr, by omega⟩
      case round =>
        clear hlr' hLr hbr hsr hv1 hvb
        obtain ⟨i, vb2, bs2, hi4, rfl, hl2, hL2, hb2, hF2⟩ := hrel
        have cB : wr.cell? ⟨B, 1, none⟩ = some vb2 := by rw [cell_of_row _ _ _ _ _ _ hL2.blk]; rfl
        by_cases hlt : i < 4
        · rcases hl2.2 with ⟨rfl, hk0⟩ | ⟨g, cap, cur, rfl, hgF, hgh, hnc, hcm, hcs, hct⟩
          · have hold : (bytesV (digs nb (k + i))).length = (k + i) * 1 := hl2.1
            have HK0 : Hid (k + i = 0) := hk0
            have hki : k + i ≤ 1004 := by omega
            clear hk0
            go_wp2_with (first | (at_builtin; (refine wpList_append_lies _ rfl (.tmp 33) (.tmp 35) 31 rfl base 41 i1 (.slice none 0 0) 1 24 Tryd.underlying31 hi1 hy0 hy1 hy2 rfl (by decide) _ _ _ rfl (hL2.rb.alloc _) ⟨wr.heap.size, 0, none⟩ 1 1 [.slice none 0 0] rfl rfl (cell_one_new _ _ _) (by intro u hu; simp at hu; subst hu; rfl) (by decide) (by unfold maxLen; omega) (by omega) (by have := hb2.size; simp; omega) (wr.heap.size + 1) (by simp) ?_); intro g1 cap1 w1 hown1 hgrow1 hat1 hlt1; have hblk1 := blk_of hL2.rb (by decide) hL2.blk hgrow1; have cB1 : w1.cell? ⟨B, 1, none⟩ = some vb2 := (by rw [cell_of_row _ _ _ _ _ _ hblk1]; rfl); have fB1 : w1.frozen? ⟨B, 1, none⟩ = false := frozen_of_blk hblk1; clear hblk1))
            have HL3 := (show Hid _ from hL2.addB hgrow1 hown1 h4 (by omega) (by omega) (byteE_of hl2 (by omega)) (by intro ao len cap h; cases h; omega))
            have HO3 := (show Hid _ from ownsRow_on hl2 fun b cur hh => rest_of (j := 1) (u := .slice (some ⟨g1, 0, none⟩) (nb + i + 1) cap1) hL2.rb ⟨_, hL2.blk⟩ hgrow1 b cur 5 hh (by decide) (by decide))
            have HB3 : Hid (Below base w (w1.setCell ⟨B, 1, none⟩ (.slice (some ⟨g1, 0, none⟩) (nb + i + 1) cap1))) := ((hb2.alloc (by have := hb2.size; omega) _).grown hgrow1 (by have := hb2.size; simp; omega) (fun k' h' => ((hL2.rb.lt k' h').1))).setCell hL2.hB _
            have hsz3 : wr.heap.size < w1.heap.size := by have := hgrow1.size; simp at this; omega
            go_wp2_with (first | (go_at_call 13; refine (digit_any nb 0 _ (by omega) (by omega)).mono ?_; rintro e w' ⟨rfl, rfl⟩) | (at_builtin; refine wpList_append_grows _ rfl (.tmp 39) (.tmp 44) 41 rfl 5 i0 (.int .u8 0) 1 1 Tryd.underlying41 hi hz0 hz1 hz2 rfl (by decide) none 0 0 [] rfl (fun _ => ⟨rfl, rfl⟩) rfl (by intro b h; cases h) ⟨w1.heap.size, 0, none⟩ 1 1 [.int .u8 (dig nb 0)] rfl rfl (new_one _ _ (by simp [World.setCell]) _ _) (by intro u hu; simp at hu; subst hu; rfl) (by decide) (by decide) (by decide) ?_; intro v4 w4 hown4 hgrow4))
            go_wp2
            go_roundw
            case rel =>
              have hz4 := hgrow4.size
              simp at hz4
              have hbk : ∀ b, b < (w1.setCell ⟨B, 1, none⟩ (.slice (some ⟨g1, 0, none⟩) (nb + i + 1) cap1)).heap.size → w4.heap[b]? = (w1.setCell ⟨B, 1, none⟩ (.slice (some ⟨g1, 0, none⟩) (nb + i + 1) cap1)).heap[b]? := fun b hb => (hgrow4.block b (by simp at hb ⊢; omega) (by simp)).trans (Below.heap_alloc _ _ _ hb)
              refine ⟨i + 1, _, _, by omega, by go_num, ?_, (HL3.out.same hbk).mono (by omega), (HB3.out.alloc (by have := hb2.size; simp; omega) _).grown hgrow4 (by have := hb2.size; simp; omega) (by intro k' h'; cases h'), by omega⟩
              have hkk := HK0.out
              obtain ⟨rfl, rfl⟩ : k = 0 ∧ i = 0 := by omega
              obtain ⟨a1, a2⟩ := hown4
              refine ⟨by simp [bytesV, digs], ?_⟩
              rcases a2 with ⟨_, h⟩ | ⟨g5, c5, cur5, e5, hb5, r5⟩
              · omega
              · refine .inr ⟨g5, c5, cur5, e5, by simp at hb5; omega, ?_⟩
                simpa [bytesV, digs] using r5
            case measure => simp [intOf]; omega
          · clear hcs hct hgh
            obtain ⟨q, hq⟩ : ∃ q, k + i = q := ⟨_, rfl⟩
            rw [hq] at hl2 hL2 hnc
            rw [hq]
            have hold : (bytesV (digs nb q)).length = q * 1 := hl2.1
            have hki : q ≤ 1004 := by omega
            have HQ : Hid (k + i = q) := hq
            clear hq
            by_cases hroom : q + 1 ≤ cap
            · have hge := own_elem hl2 rfl
              go_wp2_with (first | (at_builtin; (refine wpList_append_lies _ rfl (.tmp 33) (.tmp 35) 31 rfl base 41 i1 (.slice none 0 0) 1 24 Tryd.underlying31 hi1 hy0 hy1 hy2 rfl (by decide) _ _ _ rfl (hL2.rb.alloc _) ⟨wr.heap.size, 0, none⟩ 1 1 [.slice (some ⟨g, 0, none⟩) q cap] rfl rfl (cell_one_new _ _ _) (by intro u hu; simp at hu; subst hu; rfl) (by decide) (by unfold maxLen; omega) (by omega) (by have := hb2.size; simp; omega) (wr.heap.size + 1) (by simp) ?_); intro g1 cap1 w1 hown1 hgrow1 hat1 hlt1; have hblk1 := blk_of hL2.rb (by decide) hL2.blk hgrow1; have cB1 : w1.cell? ⟨B, 1, none⟩ = some vb2 := (by rw [cell_of_row _ _ _ _ _ _ hblk1]; rfl); have fB1 : w1.frozen? ⟨B, 1, none⟩ = false := frozen_of_blk hblk1; clear hblk1))
              have HL3 := (show Hid _ from hL2.addB hgrow1 hown1 h4 (by omega) (by omega) (byteE_of hl2 (by omega)) (by intro ao len cap h; cases h; omega))
              have HO3 := (show Hid _ from ownsRow_on hl2 fun b cur hh => rest_of (j := 1) (u := .slice (some ⟨g1, 0, none⟩) (nb + i + 1) cap1) hL2.rb ⟨_, hL2.blk⟩ hgrow1 b cur 5 hh (by decide) (by decide))
              have HB3 : Hid (Below base w (w1.setCell ⟨B, 1, none⟩ (.slice (some ⟨g1, 0, none⟩) (nb + i + 1) cap1))) := ((hb2.alloc (by have := hb2.size; omega) _).grown hgrow1 (by have := hb2.size; simp; omega) (fun k' h' => ((hL2.rb.lt k' h').1))).setCell hL2.hB _
              have hsz3 : wr.heap.size < w1.heap.size := by have := hgrow1.size; simp at this; omega
              go_wp2_with (first | (go_at_call 13; refine (digit_any nb q _ (by omega) (by omega)).mono ?_; rintro e w' ⟨rfl, rfl⟩) | (at_builtin; (refine wpList_append_fits _ rfl (.tmp 39) (.tmp 44) 41 rfl F 5 i0 1 Tryd.underlying41 hi hz1 g q cap (bytesV (digs nb q)) rfl (World.ownsRow.alloc HO3.out _) ⟨w1.heap.size, 0, none⟩ 1 1 [.int .u8 (dig nb q)] rfl rfl (new_one _ _ (by simp [World.setCell]) _ _) (by intro u hu; simp at hu; subst hu; rfl) (by omega) ?_); intro w4 hown4 hgrow4))
              go_wp2
              go_roundw
              case rel =>
                have hqq := HQ.out
                have e9 : k + (i + 1) = q + 1 := by omega
                have hz4 := hgrow4.size
                simp at hz4
                have hbk : ∀ b, b < (w1.setCell ⟨B, 1, none⟩ (.slice (some ⟨g1, 0, none⟩) (nb + i + 1) cap1)).heap.size → b ≠ g → w4.heap[b]? = (w1.setCell ⟨B, 1, none⟩ (.slice (some ⟨g1, 0, none⟩) (nb + i + 1) cap1)).heap[b]? := fun b hb hne => (hgrow4.block b (by simp at hb ⊢; omega) (by simpa using hne)).trans (Below.heap_alloc _ _ _ hb)
                have hown5 : w4.ownsRow F 5 1 (.slice (some ⟨g, 0, none⟩) (q + 1) cap) (q + 1) (bytesV (digs nb (q + 1))) := by
                  rw [digs_succ]; simpa [bytesV] using hown4
                refine ⟨i + 1, _, _, by omega, by go_num, by rw [e9]; exact hown5, ((HL3.out.row5 (G := g) hbk (own_elem HO3.out rfl) hgF h4 (by omega) (fun _ => ?_)).mono (by omega)), (HB3.out.alloc (by have := hb2.size; simp; omega) _).grown hgrow4 (by have := hb2.size; simp; omega) (by intro k' h'; cases h'; omega), by omega⟩
                rcases hown5.2 with ⟨h, _⟩ | ⟨g5, c5, cur5, e5, hb5, hh5, _, _, _, ht5⟩
                · cases h
                · simp only [Value.slice.injEq, Option.some.injEq, Addr.mk.injEq, and_true] at e5
                  obtain ⟨rfl, _⟩ := e5
                  refine ⟨cur5, hh5, fun k' hk' => ?_⟩
                  have := digs_at nb (q + 1) k' (by omega)
                  rw [← ht5, List.getElem?_take] at this
                  simp [show k' < q + 1 by omega] at this
                  simpa using this
              case measure => simp [intOf]; omega
            · have hcapeq : cap < q + 1 := by omega
              go_wp2_with (first | (at_builtin; (refine wpList_append_lies _ rfl (.tmp 33) (.tmp 35) 31 rfl base 41 i1 (.slice none 0 0) 1 24 Tryd.underlying31 hi1 hy0 hy1 hy2 rfl (by decide) _ _ _ rfl (hL2.rb.alloc _) ⟨wr.heap.size, 0, none⟩ 1 1 [.slice (some ⟨g, 0, none⟩) q cap] rfl rfl (cell_one_new _ _ _) (by intro u hu; simp at hu; subst hu; rfl) (by decide) (by unfold maxLen; omega) (by omega) (by have := hb2.size; simp; omega) (wr.heap.size + 1) (by simp) ?_); intro g1 cap1 w1 hown1 hgrow1 hat1 hlt1; have hblk1 := blk_of hL2.rb (by decide) hL2.blk hgrow1; have cB1 : w1.cell? ⟨B, 1, none⟩ = some vb2 := (by rw [cell_of_row _ _ _ _ _ _ hblk1]; rfl); have fB1 : w1.frozen? ⟨B, 1, none⟩ = false := frozen_of_blk hblk1; clear hblk1))
              have HL3 := (show Hid _ from hL2.addB hgrow1 hown1 h4 (by omega) (by omega) (byteE_of hl2 (by omega)) (by intro ao len cap h; cases h; omega))
              have HO3 := (show Hid _ from ownsRow_on hl2 fun b cur hh => rest_of (j := 1) (u := .slice (some ⟨g1, 0, none⟩) (nb + i + 1) cap1) hL2.rb ⟨_, hL2.blk⟩ hgrow1 b cur 5 hh (by decide) (by decide))
              have HB3 : Hid (Below base w (w1.setCell ⟨B, 1, none⟩ (.slice (some ⟨g1, 0, none⟩) (nb + i + 1) cap1))) := ((hb2.alloc (by have := hb2.size; omega) _).grown hgrow1 (by have := hb2.size; simp; omega) (fun k' h' => ((hL2.rb.lt k' h').1))).setCell hL2.hB _
              have hsz3 : wr.heap.size < w1.heap.size := by have := hgrow1.size; simp at this; omega
              go_wp2_with (first | (go_at_call 13; refine (digit_any nb q _ (by omega) (by omega)).mono ?_; rintro e w' ⟨rfl, rfl⟩) | (at_builtin; (refine wpList_append_grows _ rfl (.tmp 39) (.tmp 44) 41 rfl 5 i0 (.int .u8 0) 1 1 Tryd.underlying41 hi hz0 hz1 hz2 rfl (by decide) (some ⟨g, 0, none⟩) q cap (bytesV (digs nb q)) rfl (by intro h; cases h) hold (by intro b h; cases h; exact World.ownsRow.cells (World.ownsRow.alloc HO3.out _) rfl) ⟨w1.heap.size, 0, none⟩ 1 1 [.int .u8 (dig nb q)] rfl rfl (new_one _ _ (by simp [World.setCell]) _ _) (by intro u hu; simp at hu; subst hu; rfl) (by omega) (by unfold maxLen; omega) (by omega) ?_); intro v4 w4 hown4 hgrow4))
              go_wp2
              go_roundw
              case rel =>
                have hqq := HQ.out
                have e9 : k + (i + 1) = q + 1 := by omega
                have hz4 := hgrow4.size
                simp at hz4
                have hbk : ∀ b, b < (w1.setCell ⟨B, 1, none⟩ (.slice (some ⟨g1, 0, none⟩) (nb + i + 1) cap1)).heap.size → w4.heap[b]? = (w1.setCell ⟨B, 1, none⟩ (.slice (some ⟨g1, 0, none⟩) (nb + i + 1) cap1)).heap[b]? := fun b hb => (hgrow4.block b (by simp at hb ⊢; omega) (by simp)).trans (Below.heap_alloc _ _ _ hb)
                have hown6 : w4.ownsRow F 5 1 v4 (q + 1) (bytesV (digs nb (q + 1))) := by
                  obtain ⟨a1, a2⟩ := hown4
                  have e6 : bytesV (digs nb q) ++ [.int .u8 (dig nb q)] = bytesV (digs nb (q + 1)) := by
                    rw [digs_succ]; simp [bytesV]
                  rw [e6] at a1 a2
                  refine ⟨a1, ?_⟩
                  rcases a2 with ⟨_, h⟩ | ⟨g5, c5, cur5, e5, hb5, r5⟩
                  · omega
                  · exact .inr ⟨g5, c5, cur5, e5, by simp at hb5; omega, r5⟩
                exact ⟨i + 1, _, _, by omega, by go_num, by rw [e9]; exact hown6, (HL3.out.same hbk).mono (by omega), (HB3.out.alloc (by have := hb2.size; simp; omega) _).grown hgrow4 (by have := hb2.size; simp; omega) (by intro k' h'; cases h'), by omega⟩
              case measure => simp [intOf]; omega
        · go_wp2
          go_end0
          refine ⟨rfl, ⟨vb2, bs2, ?_⟩, hb2⟩
          obtain rfl : i = 4 := by omega
          exact hL2.close
end Go.Proofs.YtdpnmpfkbeommaaDoor
