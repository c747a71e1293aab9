/- The reference's Cut and Sub. -/
import Derived.BigQuiet
import Derived.LoopN
import Derived.OwnWalk
import Derived.Test.YtoffpbaddehncaaGreatDoorGAM
import Derived.Test.YtoffpbaddehncaaGreatDoorTY2
import Derived.Test.YtoffpbaddehncaaGreatDoorVB2
/- The reference's Cut: the tree of a node. -/
namespace Go.Proofs.YtoffpbaddehncaaGreatDoor
set_option linter.unusedSimpArgs false
set_option linter.unusedVariables false
open Go.RowKit Go.Shelf

theorem str_snoc {l : List Nd} {a b : Nat} (ha : a ≤ b) (hb : b < l.length) : str l a (b + 1) = str l a b ++ [nd l b] := by
  apply List.ext_getElem?
  intro i
  have h1 := str_len (l := l) (a := a) (b := b) (by omega)
  have h2 := str_len (l := l) (a := a) (b := b + 1) (by omega)
  rcases Nat.lt_trichotomy i (b - a) with h | h | h
  · rw [List.getElem?_append_left (by omega)]
    simp only [str, List.getElem?_take, List.getElem?_drop]
    rw [if_pos (by omega), if_pos (by omega)]
  · subst h
    rw [List.getElem?_append_right (by omega), h1, Nat.sub_self]
    simp only [str, List.getElem?_take, List.getElem?_drop]
    rw [if_pos (by omega), show a + (b - a) = b by omega, List.getElem?_eq_getElem hb]
    simp [nd, List.getD, List.getElem?_eq_getElem hb]
  · rw [List.getElem?_eq_none (by omega), List.getElem?_eq_none (by simp; omega)]
/-- Kids, so many of them moved. -/
def cutK (ks : List Int) (n : Nat) (j : Nat) : List Value := (ks.take j).map fun k => Value.int .i64 (k - (n : Int))
theorem cutK_len {ks : List Int} {n j : Nat} (h : j ≤ ks.length) : (cutK ks n j).length = j := by simp [cutK, h]
theorem cutK_snoc {ks : List Int} {n j : Nat} (h : j < ks.length) : cutK ks n (j + 1) = cutK ks n j ++ [.int .i64 (ks.getD j 0 - (n : Int))] := by
  simp only [cutK, List.take_succ_eq_append_getElem h, List.map_append, List.map_cons, List.map_nil, List.getD_eq_getElem?_getD, List.getElem?_eq_getElem h, Option.getD_some]
theorem kids_form {w : World} {B : Nat} {v : Value} {ks : List Int} {n : Nat} (h : w.ownsRow B 3 1 v ks.length (cutK ks n ks.length)) : ∃ a c, v = .slice a ks.length c ∧ ks.length ≤ c ∧ c ≤ maxLen ∧ (ks = [] ∨ ∃ g cur, a = some ⟨g, 0, none⟩ ∧ B ≤ g ∧ g < w.heap.size ∧ w.heap[g]? = some (.cells cur 3 (0, 0)) ∧ ∀ j, j < ks.length → cur[j]? = some (.int .i64 (ks.getD j 0 - (n : Int)))) := by
  have h0 := h
  rcases h.2 with ⟨h1, h2⟩ | ⟨g, cap, cur, h1, hb, hh, r⟩
  · have h2' : ks.length = 0 := by omega
    exact ⟨none, 0, by rw [h1, h2'], by omega, by unfold maxLen; omega, .inl (List.length_eq_zero_iff.1 h2')⟩
  · subst h1
    obtain ⟨q1, q2⟩ := own_cap h0
    refine ⟨_, _, rfl, q1, q2, .inr ⟨g, cur, rfl, hb, (Array.getElem?_eq_some_iff.1 hh).1, hh, fun j hj => ?_⟩⟩
    have := h0.cellAt j (by omega)
    rw [Lib.cell_of_heap hh] at this
    refine Eq.trans ?_ (this.trans ?_)
    · rfl
    · simp [cutK, List.getD_eq_getElem?_getD, List.getElem?_eq_getElem hj]
/-- What Cut answers. -/
def CutQ (l : List Nd) (n : Nat) (W : World) (e : Ending) (w' : World) : Prop := ∃ v' es, e = .returned (.agg #[v']) ∧ es.map NE.x = subT l n ∧ OwnN w' W.heap.size v' es ∧ Below W.heap.size W w'

set_option maxRecDepth 100000 in
set_option maxHeartbeats 8000000 in
theorem cut_any (W : World) (M : Nat) (v : Value) (l : List Nd) (n : Nat) (hN : Nodes W M v l) (hM : M ≤ W.heap.size) (h : (chkP l).2 = 0) (hn : n < l.length) (h3 : l.length ≤ 3000) (hk3 : ∀ m, m < l.length → (nd l m).kids.length ≤ 3000) :
    Calls Tryz.prog 46 #[.agg #[v], .int .i64 (n : Int)] W (CutQ l n W) := by
  obtain ⟨i0, hi, hz0, hz1, hz2⟩ := info_parts infoNode
  obtain ⟨j0, hj, hy0, hy1, hy2⟩ := info_parts infoInt
  obtain ⟨W1, hW1⟩ : ∃ W1, (W.alloc (.cells #[v] 24)).alloc (.cells #[.slice none 0 0] 24) = W1 := ⟨_, rfl⟩
  have hz1' : W1.heap.size = W.heap.size + 1 + 1 := by rw [← hW1]; simp
  have hB1 : Below W.heap.size W W1 := by rw [← hW1]; exact ((Below.refl _ W).alloc (Nat.le_refl _) _).alloc (by simp) _
  have t1 : Boxed W1 W.heap.size 24 v := by rw [← hW1]; exact rat_a2 W _ _
  have r1 : Boxed W1 (W.heap.size + 1) 24 (.slice none 0 0) := by rw [← hW1]; exact rat_a3 W _ _
  have HE := hide (end_any W1 M v l n (hN.keep hB1 hM) (Nat.le_trans hM hB1.size) h hn)
  have HFI : Hid (∀ m, m < l.length → Fine l m) := fun m hm => chk_all h hm
  have hfn := chk_all h hn
  have hel := hfn.le
  have HN := hide hN
  have hl1 := hN.1
  obtain ⟨va, vc, rfl, hvc, _⟩ := hN.len
  have HB1 := hide hB1
  have ct := t1.cell
  have HT1 := hide t1
  have HR1 := hide r1
  have HK3 := hide hk3
  clear hN hB1 t1 r1 hk3 h
  go_enter Tryz.func46, Tryz.ntmps46
  go_wp2_with (go_at_call 36; refine (unhide HE).mono ?_; rintro e W2 ⟨rfl, hB2⟩)
  have hz22 := hB2.size
  clear ct
  go_loopw [6, 7] (fun t6 t7 wr => ∃ (i : Nat) (es : List NE), n ≤ i ∧ i ≤ en l n ∧ t7 = .int .i64 (i : Int) ∧ es.map NE.x = (str l n i).map (shN (-(n : Int))) ∧ OwnN wr W1.heap.size t6 es ∧ Below W1.heap.size W1 wr) (fun _ t7 _ => l.length - (intOf t7).toNat)
  case atStart => exact ⟨n, [], Nat.le_refl _, by omega, rfl, by simp [str], ⟨World.ownsRow_nil _ _ _ _, fun e he => by cases he⟩, hB2⟩
  case round =>
    obtain ⟨i, es, hni, hie, rfl, hmap, hown, hBr⟩ := hrel
    obtain ⟨w0, hw0⟩ : ∃ w0, w0 = wr := ⟨_, rfl⟩
    subst hw0
    have hes : es.length = i - n := by have := congrArg List.length hmap; simp only [List.length_map] at this; rw [this, str_len (by omega)]
    have HMAP := hide hmap
    have HOWN := hide hown
    have hzr := hBr.size
    have ct : w0.cell? ⟨W.heap.size, 0, none⟩ = some (.slice va l.length vc) := Boxed.cell (t := 24) ((hBr.block _ (by omega)).trans (unhide HT1))
    have hsz : W.heap.size < w0.heap.size := by omega
    clear hmap hown
    by_cases hlt : i < en l n
    · have hlt' : (i : Int) < en l n := by omega
      have hil : i < l.length := by omega
      have hil' : (i : Int) < l.length := by omega
      have hBW : Below W.heap.size W w0 := (unhide HB1).trans (hBr.mono (by omega))
      obtain ⟨b, o, cap', ka, kc, hv, _, _, hb, d0, d1, d2, d3, d4, hkc, hkm, hK⟩ := ((unhide HN).keep hBW hM).at hil
      obtain ⟨rfl, rfl⟩ : va = some ⟨b, o, none⟩ ∧ cap' = vc := by injection hv with h1 _ h3; exact ⟨h1, h3.symm⟩
      have hks := unhide HK3 i hil
      have hins := (unhide HFI i hil).ins
      have hbr : b < w0.heap.size := by omega
      have HK := hide hK
      obtain ⟨x, hnd⟩ : ∃ x, nd l i = x := ⟨_, rfl⟩
      rw [hnd] at d0 d1 d2 d3 d4 hkc HK hks hins
      have HND := hide hnd
      obtain ⟨kd, tx, nm, ks, at'⟩ := x
      simp only at d0 d1 d2 d3 d4 hkc HK hks hins
      have HINS := hide hins
      clear hv hK hnd hins
      go_wp2
      obtain ⟨w1, hw1⟩ : ∃ w1, w0.alloc (.cells #[.int .i64 kd, .string tx, .int .i64 nm, .slice ka ks.length kc, .int .i64 at'] 29) = w1 := ⟨_, rfl⟩
      have hzw1 : w1.heap.size = w0.heap.size + 1 := by rw [← hw1]; simp
      have hX1 : w1.heap[w0.heap.size]? = some (.cells #[.int .i64 kd, .string tx, .int .i64 nm, .slice ka ks.length kc, .int .i64 at'] 29) := by rw [← hw1]; exact World.alloc_heap_new w0 _
      have hB01 : Below w0.heap.size w0 w1 := by rw [← hw1]; exact (Below.refl _ w0).alloc (Nat.le_refl _) _
      try rw [hw1]
      clear hw1
      go_loopw [9, 10] (fun t9 t10 wq => ∃ j : Nat, j ≤ ks.length ∧ t10 = .int .i64 (j : Int) ∧ wq.ownsRow w1.heap.size 3 1 t9 j (cutK ks n j) ∧ Below w1.heap.size w1 wq) (fun _ t10 _ => ks.length - (intOf t10).toNat)
      case atStart => exact ⟨0, Nat.zero_le _, rfl, World.ownsRow_nil _ _ _ _, Below.refl _ _⟩
      case round =>
        obtain ⟨j, hjl, rfl, hownj, hBj⟩ := hrel
        have HOJ := hide hownj
        have hXr : wr.heap[w0.heap.size]? = some (.cells #[.int .i64 kd, .string tx, .int .i64 nm, .slice ka ks.length kc, .int .i64 at'] 29) := (hBj.block _ (by omega)).trans hX1
        obtain ⟨q0, q1, q2, q3, q4⟩ := cells5 hXr
        have f3 := frozen_at hXr 3
        have hzj := hBj.size
        have hsx : w0.heap.size < wr.heap.size := by omega
        clear hownj
        by_cases hjlt : j < ks.length
        · have hjlt' : (j : Int) < ks.length := by omega
          rcases unhide HK with hkk | ⟨kb, ko, rfl, hkb, hkc0⟩
          · subst hkk; simp at hjlt
          obtain ⟨k0, hk0⟩ : ∃ k0, ks.getD j 0 = k0 := ⟨_, rfl⟩
          have dk := hkc0 j hjlt
          rw [hk0] at dk
          have hk0m : k0 ∈ ks := by rw [← hk0, List.getD_eq_getElem?_getD, List.getElem?_eq_getElem hjlt]; exact List.getElem_mem _
          obtain ⟨kk0, kk1⟩ := ins_iff'.1 (unhide HINS k0 hk0m)
          have hkbw : kb < w0.heap.size := by omega
          have dkr : wr.cell? ⟨kb, ko + j, none⟩ = some (.int .i64 k0) := ((hB01.trans (hBj.mono (by omega))).cell (p := ⟨kb, ko + j, none⟩) hkbw).trans dk
          have HK0 := hide hk0
          clear dk hkc0 hk0 hk0m
          go_wp2_with (at_builtin; refine wpList_append_own _ rfl _ _ 27 rfl w1.heap.size 3 j0 (.int .i64 0) 1 8 Tryz.underlying27 hj hy0 hy1 hy2 rfl (by decide) _ _ _ rfl ((unhide HOJ).alloc _) ⟨wr.heap.size, 0, none⟩ 1 1 [.int .i64 (k0 - (n : Int))] rfl rfl ?c1 ?c2 ?c3 ?c4 ?c5 ?_)
          case c1 =>
            intro j u hj
            rw [Addr.add_lit, Nat.zero_add, World.cell?_alloc_mark]
            rw [← hj]; simp
          case c2 => intro u hu; simp at hu; rcases hu with rfl; rfl
          case c3 => unfold maxLen; omega
          case c4 => omega
          case c5 => simp; omega
          intro v' w8 hown8 hg8 _
          have hs8 := hg8.size
          simp at hs8
          have hB8 : Below w1.heap.size wr w8 := ⟨hg8.os, hg8.tape, hg8.output, by omega, fun k hk => (hg8.block k (by simp; omega) (fun e => by have := ((unhide HOJ).lt k e.symm).1; omega)).trans (Below.heap_alloc _ _ _ (by omega))⟩
          have HI8 : Hid (w8.ownsRow w1.heap.size 3 1 v' (j + 1) (cutK ks n (j + 1)) ∧ Below w1.heap.size w1 w8) := ⟨by rw [cutK_snoc hjlt, unhide HK0, hzw1]; exact hown8, hBj.trans hB8⟩
          clear hown8 hg8 hB8
          go_wp2
          exact ⟨⟨j + 1, by omega, by go_num, (unhide HI8).1, (unhide HI8).2⟩, by simp [intOf]; omega⟩
        · have hjlt' : ¬ (j : Int) < ks.length := by omega
          obtain rfl : j = ks.length := by omega
          obtain ⟨a2, c2, rfl, hc1, hc2, hrow⟩ := kids_form (unhide HOJ)
          have HROW := hide hrow
          obtain ⟨w7, hw7⟩ : ∃ w7, wr.setCell ⟨w0.heap.size, 3, none⟩ (.slice a2 ks.length c2) = w7 := ⟨_, rfl⟩
          have hX7 := put5_3 hXr (.slice a2 ks.length c2)
          rw [hw7] at hX7
          obtain ⟨g0, g1, g2, g3, g4⟩ := cells5 hX7
          have hs7 : w7.heap.size = wr.heap.size := setCell_size hw7
          have hs7' : w0.heap.size < w7.heap.size := by omega
          have hk7 : ∀ k, k ≠ w0.heap.size → w7.heap[k]? = wr.heap[k]? := fun k hk => by rw [← hw7]; exact Below.heap_setCell _ _ _ _ hk
          have hB07 : Below w0.heap.size w0 w7 := by rw [← hw7]; exact (hB01.trans (hBj.mono (by omega))).setCell (p := ⟨w0.heap.size, 3, none⟩) (Nat.le_refl _) _
          have HO7 : Hid (w7.ownsRow W1.heap.size 29 5 u6 es.length (flatN es)) := ownsRow_heap (unhide HOWN).1 (fun g hg => hB07.block g ((unhide HOWN).1.lt g hg).2)
          have HK7 := hide hk7
          have HB07 := hide hB07
          have HS7 := hide hs7
          clear hrow hk7 hB07 hs7
          go_wp2_with (at_builtin; refine wpList_append_lies _ rfl _ _ 22 rfl W1.heap.size 29 i0 _ 5 64 Tryz.underlying22 hi hz0 hz1 hz2 rfl (by decide) _ _ _ rfl ((unhide HO7).alloc _) ⟨w7.heap.size, 0, none⟩ 1 1 (cellN ⟨shN (-(n : Int)) ⟨kd, tx, nm, ks, at'⟩, a2, c2⟩) rfl rfl ?c1 ?c2 (by decide) ?c3 ?c4 ?c5 _ rfl ?_)
          case c1 =>
            intro j u hj
            rw [← hj]; simp [cellN, shN]
          case c2 => intro u hu; simp [cellN, shN] at hu; rcases hu with rfl | rfl | rfl | rfl | rfl <;> rfl
          case c3 => unfold maxLen; omega
          case c4 => omega
          case c5 => first | omega | (simp; omega)
          intro g8 cap8 w8 hown8 hg8 hat8 hlt8
          obtain ⟨v', hv'⟩ : ∃ v', Value.slice (some ⟨g8, 0, none⟩) (i - n + 1) cap8 = v' := ⟨_, rfl⟩
          rw [hv'] at hown8 ⊢
          have hlu : ∀ k, u6.ownBlock = some k → k < w0.heap.size := fun k hk => ((unhide HOWN).1.lt k hk).2
          have s7 := unhide HS7
          have hg08 : ∀ k, k < w0.heap.size → some k ≠ u6.ownBlock → w8.heap[k]? = w0.heap[k]? := fun k hk hne => (hg8.block k (by simp; omega) hne).trans ((Below.heap_alloc _ _ _ (by omega)).trans ((unhide HB07).block k hk))
          have hgk : ∀ k, w1.heap.size ≤ k → k < wr.heap.size → w8.heap[k]? = wr.heap[k]? := fun k h1 h2 => (hg8.block k (by simp; omega) (fun e => by have := hlu k e.symm; omega)).trans ((Below.heap_alloc _ _ _ (by omega)).trans (unhide HK7 k (by omega)))
          have hB8 : Below W1.heap.size W1 w8 := by
            have gg := unhide HB07
            refine ⟨hg8.os.trans (gg.os.trans hBr.os), hg8.tape.trans (gg.tape.trans hBr.tape), hg8.output.trans (gg.output.trans hBr.output), ?_, fun k hk => ?_⟩
            · have := hg8.size; simp at this; omega
            · refine (hg08 k (by omega) (fun e => ?_)).trans (hBr.block k hk)
              have := ((unhide HOWN).1.lt k e.symm).1
              omega
          have HO8 : Hid (OwnN w8 W1.heap.size v' (es ++ [⟨shN (-(n : Int)) ⟨kd, tx, nm, ks, at'⟩, a2, c2⟩])) := by
            refine ⟨?_, fun y hy => ?_⟩
            · rw [flatN_snoc, List.length_append, hes, hz1']
              exact hown8
            · rw [List.mem_append, List.mem_singleton] at hy
              rcases hy with hy | rfl
              · refine ((unhide HOWN).2 y hy).keep fun k cur' hk => hg08 k (Array.getElem?_eq_some_iff.1 hk).1 fun e => ?_
                rcases (unhide HOWN).1.2 with ⟨h, _⟩ | ⟨g', cap'', cur'', h, _, hh, _⟩
                · rw [h] at e; cases e
                · rw [h] at e
                  simp only [Value.ownBlock, Option.some.injEq] at e
                  rw [e, hh] at hk
                  simp at hk
              · refine ⟨by simpa [shN] using hc1, hc2, ?_⟩
                rcases unhide HROW with h0 | ⟨g, cur, hga, hgb, hgl, hgh, hgc⟩
                · exact .inl (by simp [shN, h0])
                · refine .inr ⟨g, cur, hga, by omega, (hgk g hgb hgl).trans hgh, fun j hj => ?_⟩
                  have hj' : j < ks.length := by simpa [shN] using hj
                  rw [hgc j hj']
                  have hm : ks.getD j 0 ∈ ks := by rw [List.getD_eq_getElem?_getD, List.getElem?_eq_getElem hj']; exact List.getElem_mem _
                  obtain ⟨m1, m2⟩ := ins_iff'.1 (unhide HINS _ hm)
                  have hsum := sumP_in (k := ks.getD j 0) (b := -(n : Int)) (by omega) (by omega)
                  have : (shN (-(n : Int)) ⟨kd, tx, nm, ks, at'⟩).kids.getD j 0 = sumP (ks.getD j 0) (-(n : Int)) := by simp [shN, List.getD_eq_getElem?_getD, hj']
                  rw [this, hsum]
                  rfl
          have HM8 : Hid ((es ++ [(⟨shN (-(n : Int)) ⟨kd, tx, nm, ks, at'⟩, a2, c2⟩ : NE)]).map NE.x = (str l n (i + 1)).map (shN (-(n : Int)))) := by
            show _ = _
            rw [str_snoc hni hil, List.map_append, List.map_append, unhide HMAP, unhide HND]
            rfl
          have HB8 := hide hB8
          clear hown8 hg8 hat8 hg08 hgk hB8 hv' hlu s7
          go_wp2
          exact ⟨⟨i + 1, _, by omega, by omega, by go_num, unhide HM8, unhide HO8, unhide HB8⟩, by simp [intOf]; omega⟩
    · obtain rfl : i = en l n := by omega
      have hlt' : ¬ ((en l n : Nat) : Int) < (en l n : Nat) := by omega
      have rr : Boxed w0 (W.heap.size + 1) 24 (.slice none 0 0) := (hBr.block _ (by omega)).trans (unhide HR1)
      have cr := rr.cell
      have fr := rr.frozen
      have lr := rr.lt
      obtain ⟨g6, n6, c6, rfl⟩ := own_slice (unhide HOWN) (by omega)
      have HB0 := hide ((unhide HB1).trans (hBr.mono (by omega)))
      have HO6 : Hid (OwnN w0 (W.heap.size + 2) (.slice (some ⟨g6, 0, none⟩) n6 c6) es) := by have := unhide HOWN; rw [hz1'] at this; exact this
      go_wp2
      refine bodyPost_ret (v := .agg #[.slice (some ⟨g6, 0, none⟩) n6 c6]) (by simp [results, Tryz.results46, go_sem, cr]) rfl ⟨_, es, rfl, ?_, ?_, (unhide HB0).setCell (by show W.heap.size ≤ W.heap.size + 1; omega) _⟩
      · rw [subT]; exact unhide HMAP
      · exact (unhide HO6).setBox
end Go.Proofs.YtoffpbaddehncaaGreatDoor

/- The reference's Sub. -/
namespace Go.Proofs.YtoffpbaddehncaaGreatDoor
set_option linter.unusedSimpArgs false
set_option linter.unusedVariables false
open Go.RowKit Go.Shelf

set_option maxRecDepth 100000 in
set_option maxHeartbeats 2000000 in
theorem rsub_bad (W : World) (M : Nat) (v : Value) (l : List Nd) (n : Int) (hN : Nodes W M v l) (hM : M ≤ W.heap.size) (hT : ∀ m, m < l.length → (nd l m).text.size ≤ 1048576) (h : ¬ (chkP l).2 = 0) :
    Calls Tryz.prog 30 #[.agg #[v], .int .i64 n] W (SubNo 7 W) := by
  obtain ⟨W1, hW1⟩ : ∃ W1, (W.alloc (.cells #[v] 24)).alloc (.cells #[.slice none 0 0] 24) = W1 := ⟨_, rfl⟩
  have HK : Hid (∀ w, Below (W.heap.size + 2) W1 w → _) := fun w hw => sub_boxes (v := v) (by rw [hW1]; exact hw)
  have hz1 : W1.heap.size = W.heap.size + 2 := by rw [← hW1]; simp
  obtain ⟨k1, k2, k3, k4, k5⟩ := unhide HK W1 (Below.refl _ _)
  have HC := hide (rGood_any W1 M v l (hN.keep k1 hM) (by omega) hT)
  rw [show ((chkP l).2 == 0) = false by simpa using h] at HC
  obtain ⟨va, vc, rfl, _, _⟩ := hN.len
  clear hN h
  go_enter Tryz.func30, Tryz.ntmps30
  go_wp2_with (go_at_call 27; refine (unhide HC).mono ?_; rintro e w2 ⟨rfl, hB2⟩; rw [hz1] at hB2; obtain ⟨j1, j2, j3, j4, j5⟩ := unhide HK w2 hB2; have j6 : W.heap.size + 1 < w2.heap.size := by omega)
  exact bodyPost_ret (v := .tuple #[.agg #[.slice none 0 0], .int .i64 7]) (by simp [results, Tryz.results30, go_sem, j3]) rfl ⟨rfl, j1.setCell (by show W.heap.size ≤ W.heap.size + 1; omega) _⟩

set_option maxRecDepth 100000 in
set_option maxHeartbeats 2000000 in
theorem rsub_out (W : World) (M : Nat) (v : Value) (l : List Nd) (n : Int) (hN : Nodes W M v l) (hM : M ≤ W.heap.size) (hT : ∀ m, m < l.length → (nd l m).text.size ≤ 1048576) (h : (chkP l).2 = 0) (hn : ins l n = false) :
    Calls Tryz.prog 30 #[.agg #[v], .int .i64 n] W (SubNo 1 W) := by
  obtain ⟨W1, hW1⟩ : ∃ W1, (W.alloc (.cells #[v] 24)).alloc (.cells #[.slice none 0 0] 24) = W1 := ⟨_, rfl⟩
  have HK : Hid (∀ w, Below (W.heap.size + 2) W1 w → _) := fun w hw => sub_boxes (v := v) (by rw [hW1]; exact hw)
  have hz1 : W1.heap.size = W.heap.size + 2 := by rw [← hW1]; simp
  obtain ⟨k1, k2, k3, k4, k5⟩ := unhide HK W1 (Below.refl _ _)
  have HC := hide (rGood_any W1 M v l (hN.keep k1 hM) (by omega) hT)
  rw [show ((chkP l).2 == 0) = true by simpa using h] at HC
  have hl1 := hN.1
  obtain ⟨va, vc, rfl, _, _⟩ := hN.len
  have hq := ins_false.1 hn
  clear hN h hn
  by_cases h0 : n < 0
  · go_enter Tryz.func30, Tryz.ntmps30
    go_wp2_with (go_at_call 27; refine (unhide HC).mono ?_; rintro e w2 ⟨rfl, hB2⟩; rw [hz1] at hB2; obtain ⟨j1, j2, j3, j4, j5⟩ := unhide HK w2 hB2; have j6 : W.heap.size + 1 < w2.heap.size := (by omega); have j7 : W.heap.size < w2.heap.size := (by omega))
    exact bodyPost_ret (v := .tuple #[.agg #[.slice none 0 0], .int .i64 1]) (by simp [results, Tryz.results30, go_sem, j3]) rfl ⟨rfl, j1.setCell (by show W.heap.size ≤ W.heap.size + 1; omega) _⟩
  · have h1 : (l.length : Int) ≤ n := by omega
    clear hq
    go_enter Tryz.func30, Tryz.ntmps30
    go_wp2_with (go_at_call 27; refine (unhide HC).mono ?_; rintro e w2 ⟨rfl, hB2⟩; rw [hz1] at hB2; obtain ⟨j1, j2, j3, j4, j5⟩ := unhide HK w2 hB2; have j6 : W.heap.size + 1 < w2.heap.size := (by omega); have j7 : W.heap.size < w2.heap.size := (by omega))
    exact bodyPost_ret (v := .tuple #[.agg #[.slice none 0 0], .int .i64 1]) (by simp [results, Tryz.results30, go_sem, j3]) rfl ⟨rfl, j1.setCell (by show W.heap.size ≤ W.heap.size + 1; omega) _⟩

set_option maxRecDepth 100000 in
set_option maxHeartbeats 2000000 in
theorem rsub_in (W : World) (M : Nat) (v : Value) (l : List Nd) (n : Nat) (hN : Nodes W M v l) (hM : M ≤ W.heap.size) (hT : ∀ m, m < l.length → (nd l m).text.size ≤ 1048576) (h : (chkP l).2 = 0) (hn : n < l.length) (h3 : l.length ≤ 3000) (hk3 : ∀ m, m < l.length → (nd l m).kids.length ≤ 3000) :
    Calls Tryz.prog 30 #[.agg #[v], .int .i64 (n : Int)] W fun e w' => ∃ v' es, e = .returned (.tuple #[.agg #[v'], .int .i64 0]) ∧ es.map NE.x = subT l n ∧ OwnN w' W.heap.size v' es ∧ Below W.heap.size W w' := by
  obtain ⟨W1, hW1⟩ : ∃ W1, (W.alloc (.cells #[v] 24)).alloc (.cells #[.slice none 0 0] 24) = W1 := ⟨_, rfl⟩
  have HK : Hid (∀ w, Below (W.heap.size + 2) W1 w → _) := fun w hw => sub_boxes (v := v) (by rw [hW1]; exact hw)
  have hz1 : W1.heap.size = W.heap.size + 2 := by rw [← hW1]; simp
  obtain ⟨k1, k2, k3, k4, k5⟩ := unhide HK W1 (Below.refl _ _)
  have HC := hide (rGood_any W1 M v l (hN.keep k1 hM) (by omega) hT)
  rw [show ((chkP l).2 == 0) = true by simpa using h] at HC
  have HCU : Hid (∀ w, Below W.heap.size W w → Calls Tryz.prog 46 #[.agg #[v], .int .i64 (n : Int)] w (CutQ l n w)) := fun w hw => cut_any w M v l n (hN.keep hw hM) (Nat.le_trans hM hw.size) h hn h3 hk3
  have hsl := subT_len (chk_all h hn)
  have hle := (chk_all h hn).le
  have hl1 := hN.1
  obtain ⟨va, vc, rfl, _, _⟩ := hN.len
  have hd0 : decide ((n : Int) < 0) = false := by simp
  have hd1 : decide ((l.length : Int) ≤ (n : Int)) = false := by simp; omega
  clear hN h
  go_enter Tryz.func30, Tryz.ntmps30
  go_wp2_with (first
    | (go_at_call 27; refine (unhide HC).mono ?_; rintro e w2 ⟨rfl, hB2⟩; rw [hz1] at hB2; obtain ⟨j1, j2, j3, j4, j5⟩ := unhide HK w2 hB2; have j6 : W.heap.size + 1 < w2.heap.size := (by omega); have j7 : W.heap.size < w2.heap.size := (by omega))
    | (go_at_call 46; refine (unhide HCU w2 j1).mono ?_; rintro e w3 ⟨v', es, rfl, hmap, hO3, hB3⟩; obtain ⟨g6, n6, c6, rfl⟩ := own_slice hO3 (by have := congrArg List.length hmap; simp only [List.length_map] at this; omega); have hB3' := hB2.trans (hB3.mono (by have := hB2.size; omega)); obtain ⟨i1, i2, i3, i4, i5⟩ := unhide HK w3 hB3'; have i6 : W.heap.size + 1 < w3.heap.size := (by omega)))
  refine bodyPost_ret (v := .tuple #[.agg #[.slice (some ⟨g6, 0, none⟩) n6 c6], .int .i64 0]) (by simp [results, Tryz.results30, go_sem, i3]) rfl ⟨_, es, rfl, hmap, ?_, i1.setCell (by show W.heap.size ≤ W.heap.size + 1; omega) _⟩
  exact OwnN.setBox (N := W.heap.size) ⟨hO3.1.mono (by omega), fun e he => by
    obtain ⟨p1, p2, p3⟩ := hO3.2 e he
    refine ⟨p1, p2, p3.imp id ?_⟩
    rintro ⟨kb, cur, q1, q2, q3, q4⟩
    exact ⟨kb, cur, q1, by omega, q3, q4⟩⟩
end Go.Proofs.YtoffpbaddehncaaGreatDoor
