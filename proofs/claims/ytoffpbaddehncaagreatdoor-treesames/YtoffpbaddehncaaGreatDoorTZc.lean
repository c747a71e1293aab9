/- shucklaw3.lent over a tree that has nodes. -/
import Derived.LoopN
import Derived.Deep.RegionHeld3
import Derived.Deep.RegionLaw
import Derived.Deep.AppendLies
import Derived.Deep.DrawnRows
import Derived.Test.YtoffpbaddehncaaGreatDoorTZn
namespace Go.Proofs.YtoffpbaddehncaaGreatDoor
set_option linter.unusedSimpArgs false
set_option linter.unusedVariables false
open Go.RowKit Go.Shelf
attribute [local go_sem ↓] Go.wp_at_zero Go.wp_at_succ

theorem hat_le {g1 n c g2 H N : Nat} (h : (Value.slice (some ⟨g1, 0, none⟩) n c).ownBlock = some g2 ∨ g2 = H) (h1 : N ≤ g1) (h2 : N ≤ H) : N ≤ g2 := by
  rcases h with h | h
  · have : g1 = g2 := by simpa [Value.ownBlock] using h
    omega
  · omega
set_option maxRecDepth 100000 in
set_option maxHeartbeats 16000000 in
theorem lent_cons (W : World) (M : Nat) (v : Value) (l : List Nd) (hN : Nodes W M v l) (hM : M ≤ W.heap.size) (hsz : szN l l.length ≤ 3000) (hne : l ≠ []) :
    Calls Tryz.prog 10 #[.agg #[v]] W (LentQ l W) := by
  obtain ⟨i0, hi, hz0, hz1, hz2⟩ := info_parts infoNode
  obtain ⟨j0, hj, hy0, hy1, hy2⟩ := info_parts infoInt
  obtain ⟨b, o, cap, rfl, hb, os, hos, hcells, hkids⟩ := nodes_rows hN hne
  have hll : l.length ≤ 3000 := Nat.le_trans (szN_len l l.length) hsz
  have hl0 : 0 < l.length := List.length_pos_iff.2 hne
  have hosl : os.length = l.length := by rw [← hos]; simp
  have hbW : b < W.heap.size := by omega
  have HCELLS := hide hcells
  have HOSL := hide hosl
  have HKIDS := hide hkids
  have HOS := hide hos
  clear hcells hosl hkids hos hN hne
  obtain ⟨W1, hW1⟩ : ∃ W1, (W.alloc (.cells #[.slice (some ⟨b, o, none⟩) l.length cap] 24)).alloc (.cells #[.slice none 0 0] 24) = W1 := ⟨_, rfl⟩
  have hB1 : Below W.heap.size W W1 := by rw [← hW1]; exact ((Below.refl _ W).alloc (Nat.le_refl _) _).alloc (by simp) _
  have hz1' : W1.heap.size = W.heap.size + 1 + 1 := by rw [← hW1]; simp
  have hbx : W1.cell? ⟨W.heap.size, 0, none⟩ = some (.slice (some ⟨b, o, none⟩) l.length cap) := by
    have := two_boxes (W := W) (.slice (some ⟨b, o, none⟩) l.length cap) (.slice none 0 0) 24 24 (C := W1) (by rw [hW1]; exact Below.refl _ _)
    exact this.1
  have hbr : W1.cell? ⟨W.heap.size + 1, 0, none⟩ = some (.slice none 0 0) := by
    have := two_boxes (W := W) (.slice (some ⟨b, o, none⟩) l.length cap) (.slice none 0 0) 24 24 (C := W1) (by rw [hW1]; exact Below.refl _ _)
    exact this.2
  have hbf : W1.frozen? ⟨W.heap.size + 1, 0, none⟩ = false := by rw [← hW1]; exact frozen_at (at_a3 W _ _) 0
  have HW1 := hide hW1
  clear hW1
  go_enter Tryz.func10, Tryz.ntmps10
  go_wp2_with (at_builtin; rw [unhide HW1]; refine wpList_append_lies _ rfl _ _ 22 rfl (W.heap.size + 1 + 1) 29 i0 _ 5 64 Tryz.underlying22 hi hz0 hz1 hz2 rfl (by decide) (.slice (some ⟨W.heap.size + 1 + 1, 0, none⟩) 0 0) 0 [] rfl (own_empty (by rw [← hz1']; exact World.alloc_heap_new W1 _) (Nat.le_refl _)) ⟨b, o, none⟩ l.length cap (flatN os) rfl ?c0 ?c1 (flatN_one os) hl0 ?c3 ?c4 ?c5 _ rfl ?_)
  case c0 => rw [flatN_len, unhide HOSL]
  case c1 =>
    intro j u hj
    rw [Addr.add_lit]
    refine (((hB1.alloc (by omega) _).cell (p := ⟨b, o + j, none⟩) hbW)).trans (unhide HCELLS j u hj)
  case c3 => unfold maxLen; omega
  case c4 => omega
  case c5 => simp; omega
  intro g cap3 w3 hown3 hg3 hat3 hlt3
  have hB3 : Below (W.heap.size + 1 + 1) W1 w3 := ((Below.refl _ W1).alloc (by omega) _).grown hg3 (by simp; omega) (fun k hk => by simp [Value.ownBlock] at hk; omega)
  have hgB : W.heap.size + 1 + 1 ≤ g := (hown3.lt g rfl).1
  have h0 : LJ W1 (W.heap.size + 1 + 1) (.slice (some ⟨g, 0, none⟩) l.length cap3) os 0 w3 os := ⟨rfl, by rw [unhide HOSL]; exact hown3, fun j e h => by omega, fun _ _ => rfl, hB3⟩
  have H0 := hide h0
  clear h0 hown3 hg3 hat3 hB3
  go_wp2
  go_loopw [4] (fun t wr => ∃ (i : Nat) (es : List NE), i ≤ l.length ∧ t = .int .i64 (i : Int) ∧ LJ W1 (W.heap.size + 1 + 1) (.slice (some ⟨g, 0, none⟩) l.length cap3) os i wr es) (fun t _ => l.length - (intOf t).toNat)
  case atStart => exact ⟨0, os, Nat.zero_le _, rfl, unhide H0⟩
  case round =>
    obtain ⟨i, es, hil, rfl, hmap, hown, hnew, hold, hBr⟩ := hrel
    have hwr := hBr.size
    have hgl := (hown.lt g rfl).2
    have HMAP := hide hmap
    have HOWN := hide hown
    have HNEW := hide hnew
    have HOLD := hide hold
    clear hmap hown hnew hold
    by_cases hlt : i < l.length
    · have hlt' : (i : Int) < l.length := by omega
      have hi0' : (0 : Int) ≤ (i : Int) := Int.natCast_nonneg _
      obtain ⟨e0, he0⟩ : ∃ e0, os[i]? = some e0 := ⟨_, List.getElem?_eq_getElem (by rw [unhide HOSL]; exact hlt)⟩
      have he1 : es[i]? = some e0 := (unhide HOLD i (Nat.le_refl _)).trans he0
      have hown := unhide HOWN
      rw [unhide HOSL] at hown
      have hkA := (unhide HKIDS e0 (List.mem_of_getElem? he0)).keep (hB1.trans (hBr.mono (by omega))) hM
      have hk3 : e0.x.kids.length ≤ 3000 := by
        have h1 : nd l i = e0.x := by rw [← unhide HOS]; simp [nd, List.getD_eq_getElem?_getD, he0]
        have := szN_at l hlt
        rw [h1] at this
        omega
      obtain ⟨x, ka, kc⟩ := e0
      have hc3 : wr.cell? ⟨g, i * 5 + 3, none⟩ = some (.slice ka x.kids.length kc) := by
        rw [hown.cellAt (i * 5 + 3) (by omega), flatN_get es i _ he1 3 (by omega)]; rfl
      have hf3 : wr.frozen? ⟨g, i * 5 + 3, none⟩ = false := hown.frozenAt _
      obtain ⟨ks, hks⟩ : ∃ ks, x.kids = ks := ⟨_, rfl⟩
      simp only at hkA hk3
      rw [hks] at hkA hk3 hc3
      have HKS := hide hks
      have HE0 := hide he0
      have HE1 := hide he1
      have HKA := hide hkA
      have hMwr : M ≤ wr.heap.size := by omega
      have hBwr : W.heap.size + 1 + 1 ≤ wr.heap.size := by omega
      clear hks he0 he1 hkA hown
      go_wp2
      have HLJ : Hid (LJ W1 (W.heap.size + 1 + 1) (.slice (some ⟨g, 0, none⟩) l.length cap3) os i wr es) := ⟨unhide HMAP, unhide HOWN, unhide HNEW, unhide HOLD, hBr⟩
      have hsk : ∀ w', Below wr.heap.size wr w' → Below wr.heap.size wr w' ∧ w'.cell? ⟨g, i * 5 + 3, none⟩ = some (.slice ka ks.length kc) ∧ w'.frozen? ⟨g, i * 5 + 3, none⟩ = false := fun w' h => sk hgl hc3 hf3 h
      have HSK := hide hsk
      clear hsk
      go_region_law (first
          | (refine step_kids (by rfl) _ _ (by rfl) (W.heap.size + 1 + 1) M _ ka ks kc (by rfl) (by rfl) (by first | exact at_d (at_a1 _ _) | exact at_d (at_a2 _ _ _) | exact at_d (at_a3 _ _ _)) (by omega) (by first | exact kids_d (kids_a1 (unhide HKA) hMwr _) | exact kids_d (kids_a2 (unhide HKA) hMwr _ _)) hk3 ?_; intro g1 cap1 w1 hown1 hgrow1 hat1 hlt1; have hg1 : wr.heap.size ≤ g1 := (by simp at hat1; omega); have hb1 : Below wr.heap.size wr w1 := (by first | exact below_gr (below_al (below_al (Below.refl _ _))).drew hgrow1 (by omega) | exact below_gr (below_al (Below.refl _ _)).drew hgrow1 (by omega)); have hcw1 := (unhide HSK w1 hb1).2.1; have hgw1 : g < w1.heap.size := Nat.lt_of_lt_of_le hgl hb1.size)
          | (refine step_append_lies _ (by rfl) _ _ _ (by rfl) (W.heap.size + 1 + 1) 3 j0 _ 1 8 Tryz.underlying27 hj hy0 hy1 hy2 rfl (by omega) _ ks.length (kvs ks) (by rfl) (by first | exact hown1 | exact hown1.alloc _) ⟨_, 0, none⟩ 1 1 [.int .i64 171] (by rfl) (by rfl) (World.news_of_block (cs := #[.int .i64 171]) (t := 3) (fr := (0, 0)) (by first | exact at_a1 _ _ | exact (hgrow1.block _ (by simp <;> omega) (by simp <;> omega)).trans (at_d (at_a3 _ _ _)) | exact (hgrow1.block _ (by simp <;> omega) (by simp <;> omega)).trans (at_d (at_a2 _ _ _)))) (by simp [Value.oneCell']) (by omega) (by unfold maxLen; omega) (by omega) (by have := hgrow1.size; simp at this ⊢; omega) _ rfl ?_; intro g2 cap2 w2 hown2 hgrow2 hat2 hlt2; have hcp2 := (own_cap hown2).1; have hcp3 : (ks.length : Int) ≤ (cap2 : Int) := (by omega); have hks0 : (0 : Int) ≤ (ks.length : Int) := Int.natCast_nonneg _; have hb2 : Below wr.heap.size wr w2 := below_gr (by first | exact hb1 | exact below_al hb1) hgrow2 hg1; have hcw2 := (unhide HSK w2 hb2).2.1; have hfw2 := (unhide HSK w2 hb2).2.2; have hgw2 : g < w2.heap.size := Nat.lt_of_lt_of_le hgl hb2.size; have hg2 : wr.heap.size ≤ g2 := hat_le hat2 hg1 (by first | exact hb1.size | exact (below_al hb1).size)))
      all_goals (
        go_wp2
        have hks := unhide HKS
        subst hks
        exact ⟨⟨i + 1, es.set i ⟨x, some ⟨g2, 0, none⟩, cap2⟩, by omega, by go_num, (unhide HLJ).next (unhide HOSL) (unhide HE1) hgl hBwr hb2 hown2 hg2⟩, by simp [intOf]; omega⟩)
    · have hlt' : ¬ (i : Int) < l.length := by omega
      obtain rfl : i = l.length := by omega
      have hl0' : (0 : Int) ≤ (l.length : Int) := Int.natCast_nonneg _
      have cb1 : wr.cell? ⟨W.heap.size, 0, none⟩ = some (.slice (some ⟨b, o, none⟩) l.length cap) := (hBr.cell (p := ⟨W.heap.size, 0, none⟩) (by show W.heap.size < _; omega)).trans hbx
      have cb2 : wr.cell? ⟨W.heap.size + 1, 0, none⟩ = some (.slice none 0 0) := (hBr.cell (p := ⟨W.heap.size + 1, 0, none⟩) (by show W.heap.size + 1 < _; omega)).trans hbr
      have fb2 : wr.frozen? ⟨W.heap.size + 1, 0, none⟩ = false := frozen_below hBr (by show W.heap.size + 1 < _; omega) hbf
      have hown := unhide HOWN
      rw [unhide HOSL] at hown
      have HOW := hide hown
      have hs1 : W.heap.size < wr.heap.size := by omega
      have hs2 : W.heap.size + 1 < wr.heap.size := by omega
      have hBwr : W.heap.size + 1 + 1 ≤ wr.heap.size := by omega
      have HLJ : Hid (LJ W1 (W.heap.size + 1 + 1) (.slice (some ⟨g, 0, none⟩) l.length cap3) os l.length wr es) := ⟨unhide HMAP, unhide HOWN, unhide HNEW, unhide HOLD, hBr⟩
      have hsk : ∀ w', Below (W.heap.size + 1 + 1) wr w' → Below (W.heap.size + 1 + 1) wr w' ∧ w'.cell? ⟨W.heap.size, 0, none⟩ = some (.slice (some ⟨b, o, none⟩) l.length cap) := fun w' h => ⟨h, (h.cell (p := ⟨W.heap.size, 0, none⟩) (by show W.heap.size < _; omega)).trans cb1⟩
      have HSK := hide hsk
      have hsf : ∀ w', Below (W.heap.size + 1 + 1) wr w' → w'.cell? ⟨W.heap.size + 1, 0, none⟩ = some (.slice none 0 0) ∧ w'.frozen? ⟨W.heap.size + 1, 0, none⟩ = false := fun w' h => ⟨(h.cell (p := ⟨W.heap.size + 1, 0, none⟩) (by show W.heap.size + 1 < _; omega)).trans cb2, frozen_below h (by show W.heap.size + 1 < _; omega) fb2⟩
      have HSF := hide hsf
      clear hsk hsf hown
      go_wp2
      go_region_held3 (fun w' => w'.cell? ⟨W.heap.size, 0, none⟩ = some (.slice (some ⟨b, o, none⟩) l.length cap))
        (first
          | assumption
          | exact (unhide HSK _ (Below.refl _ _)).2
          | exact (unhide HSK _ (Below.refl _ _).drew).2
          | exact (unhide HSK _ ((Below.refl _ wr).alloc hBwr _)).2
          | exact (unhide HSK _ ((Below.refl _ wr).alloc hBwr _).drew).2
          | exact (unhide HSK _ hb4).2
          | go_keep)
        ((refine step_append_lies _ (by rfl) _ _ _ (by rfl) (W.heap.size + 1 + 1) 29 i0 _ 5 64 Tryz.underlying22 hi hz0 hz1 hz2 rfl (by omega) _ l.length (flatN es) (by rfl) (((unhide HOW).alloc _).drew) ⟨wr.heap.size, 0, none⟩ 1 1 (cellN ⟨⟨171, ⟨#[]⟩, 0, [], 0⟩, none, 0⟩) (by rfl) (by rfl) (World.news_of_block (cs := #[.int .i64 171, .string ⟨#[]⟩, .int .i64 0, .slice none 0 0, .int .i64 0]) (t := 29) (fr := (0, 0)) (at_d (at_a1 _ _))) (by intro u hu; simp [cellN] at hu; rcases hu with rfl | rfl | rfl | rfl | rfl <;> rfl) (by omega) (by unfold maxLen; omega) (by omega) (by simp; omega) _ rfl ?_; intro g4 cap4 w4 hown4 hgrow4 hat4 hlt4; have hcp4 := (own_cap hown4).1; have hcp4' : (l.length : Int) ≤ (cap4 : Int) := (by omega); have hb4 : Below (W.heap.size + 1 + 1) wr w4 := ((Below.refl _ wr).alloc hBwr _).drew.grown hgrow4 (by simp; omega) (fun k hk => by simp [Value.ownBlock] at hk; omega); have hcw4 := (unhide HSF w4 hb4).1; have hfw4 := (unhide HSF w4 hb4).2; have hsz4 : W.heap.size + 1 < w4.heap.size := (by have := hb4.size; omega)))
      go_wp2
      refine bodyPost_ret (v := .agg #[.slice (some ⟨g4, 0, none⟩) l.length cap4]) (by simp [results, Tryz.results10, go_sem, hcw4]) rfl ⟨g4, cap4, es, rfl, (unhide HMAP).trans (unhide HOS), (unhide HLJ).done (unhide HOSL) hgrow4 hown4 (by show W.heap.size + 1 < _; omega) _, ?_⟩
      have hw4 : Below W.heap.size W w4 := hB1.trans ((hBr.mono (by omega)).trans (hb4.mono (by omega)))
      exact hw4.setCell (by show W.heap.size ≤ W.heap.size + 1; omega) _
end Go.Proofs.YtoffpbaddehncaaGreatDoor
