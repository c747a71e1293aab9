/- tree.lay and tree.Sub, the kids as rows of their own; shucklaw3.spoil. -/
import Derived.ArgAppend
import Derived.Deep.AppendLies
import Derived.Deep.RegionWith
import Derived.Laws.OwnMore
import Derived.LoopN
import Derived.OwnWalk
import Derived.Test.YtoffpbaddehncaaGreatDoorTK
import Derived.Test.YtoffpbaddehncaaGreatDoorTM2
import Derived.Test.YtoffpbaddehncaaGreatDoorTRM
import Derived.Test.YtoffpbaddehncaaGreatDoorTY2
import Derived.Test.YtoffpbaddehncaaGreatDoorVB2
/- tree.lay in general, the kids as rows of their own. -/
namespace Go.Proofs.YtoffpbaddehncaaGreatDoor
set_option linter.unusedSimpArgs false
set_option linter.unusedVariables false
open Go.RowKit Go.Shelf

/-- Its kids, a row of its own. -/
def KidR (W : World) (B : Nat) (e : NE) : Prop := W.ownsRow B 3 1 (.slice e.a e.x.kids.length e.cap) e.x.kids.length (kvs e.x.kids)
theorem KidR.keep {W W' : World} {B : Nat} {e : NE} (h : KidR W B e) (hk : ∀ (k : Nat) (cur : Array Value), W.heap[k]? = some (Obj.cells cur 3 (0, 0)) → W'.heap[k]? = W.heap[k]?) : KidR W' B e :=
  ownsRow_heap h fun g hg => by
    rcases h.2 with ⟨h1, _⟩ | ⟨g', cap, cur, h1, _, hh, _⟩
    · rw [h1] at hg; cases hg
    · rw [h1] at hg
      have : g' = g := by simpa [Value.ownBlock] using hg
      subst this
      exact hk _ cur hh
/-- A row of nodes of the call's own, with rows of kids of its own. -/
def OwnR (W : World) (B : Nat) (v : Value) (es : List NE) : Prop := W.ownsRow B 29 5 v es.length (flatN es) ∧ ∀ e ∈ es, KidR W B e
/-- Rows of kids that are new, and full. -/
def NewC (W : World) (es : List NE) : Prop := ∀ y ∈ es, ∃ kb, y.a = some ⟨kb, 0, none⟩ ∧ W.heap.size ≤ kb ∧ y.cap = y.x.kids.length
/-- What lay answers. -/
def LayR (B : Nat) (v : Value) (es : List NE) (ns : List Nd) (by' : Int) (W : World) (e : Ending) (w' : World) : Prop := ∃ v' es', e = .returned v' ∧ es'.map NE.x = ns.map (shN by') ∧ OwnR w' B v' (es ++ es') ∧ Below B W w' ∧ Far W v w' v' ∧ NewC W es'

set_option maxRecDepth 100000 in
set_option maxHeartbeats 4000000 in
theorem layR_any (B : Nat) (v nv : Value) (es : List NE) (ns : List Nd) (by' : Int) (M : Nat) (W : World) (hB : B ≤ W.heap.size) (hMB : M ≤ B) (hO : OwnR W B v es) (hN : Nodes W M nv ns) (hby : -2199023255552 ≤ by' ∧ by' ≤ 2199023255552) (hlen : es.length + ns.length ≤ 2199023255552) :
    Calls Tryz.prog 42 #[v, nv, .int .i64 by'] W (LayR B v es ns by' W) := by
  obtain ⟨i0, hi, hz0, hz1, hz2⟩ := info_parts infoNode
  obtain ⟨j0, hj, hy0, hy1, hy2⟩ := info_parts infoInt
  have HO := hide hO
  have HN := hide hN
  obtain ⟨va, vc, rfl, _, _⟩ := hN.len
  clear hO hN
  go_enter Tryz.func42, Tryz.ntmps42
  go_wp2
  go_loopw [0, 14] (fun t0 t14 wr => ∃ (i : Nat) (es' : List NE), i ≤ ns.length ∧ t14 = .int .i64 (i : Int) ∧ es'.map NE.x = (ns.take i).map (shN by') ∧ OwnR wr B t0 (es ++ es') ∧ Below B W wr ∧ Far W v wr t0 ∧ NewC W es') (fun _ t14 _ => ns.length - (intOf t14).toNat)
  case atStart => exact ⟨0, [], Nat.zero_le _, rfl, rfl, by simpa using unhide HO, Below.refl _ _, ⟨fun _ _ _ => rfl, .inl rfl, Nat.le_refl _⟩, fun y hy => by cases hy⟩
  case round =>
    obtain ⟨i, es', hil, rfl, hmap, hown, hBr, hfar, hnk⟩ := hrel
    have HNK := hide hnk
    clear hnk
    obtain ⟨w0, hw0⟩ : ∃ w0, w0 = wr := ⟨_, rfl⟩
    subst hw0
    have HMAP := hide hmap
    have HOWN := hide hown
    have hel : es'.length = i := by have := congrArg List.length hmap; simpa [Nat.min_eq_left hil] using this
    have HFAR := hide hfar
    clear hmap hown hfar
    by_cases hlt : i < ns.length
    · have hlt' : (i : Int) < ns.length := by omega
      obtain ⟨b, o, cap', ka, kc, hv, _, _, hb, d0, d1, d2, d3, d4, hkc, hkm, hK⟩ := ((unhide HN).keep hBr hMB).at hlt
      obtain ⟨rfl, rfl⟩ : va = some ⟨b, o, none⟩ ∧ cap' = vc := by injection hv with h1 _ h3; exact ⟨h1, h3.symm⟩
      obtain ⟨hts, hks⟩ := (unhide HN).2.1 i hlt
      have hbr : b < w0.heap.size := by have := hBr.size; omega
      have HK := hide hK
      obtain ⟨x, hnd⟩ : ∃ x, nd ns i = x := ⟨_, rfl⟩
      rw [hnd] at d0 d1 d2 d3 d4 hkc HK hts hks
      have HND := hide hnd
      obtain ⟨kd, tx, nm, ks, at'⟩ := x
      simp only at d0 d1 d2 d3 d4 hkc HK hts hks
      have hbs := hBr.size
      clear hv hK hnd
      go_wp2_with (at_make; refine wpList_make_full _ rfl _ _ 27 rfl B 3 j0 (.int .i64 0) 1 Tryz.underlying27 hj hy0 hy1 .i64 .i64 (ks.length : Int) (ks.length : Int) ks.length rfl rfl rfl rfl ?m1 ?m2 ?m3 ?_)
      case m1 => rw [hy2]; omega
      case m2 => unfold maxLen; omega
      case m3 => simp; omega
      intro w3 hown3 hg3
      have hB3 : Below B W w3 := (hBr.alloc (by omega) _).grown hg3 (by simp; omega) (fun k hk => by cases hk)
      have hX3 : w3.heap[w0.heap.size]? = some (.cells #[.int .i64 kd, .string tx, .int .i64 nm, .slice ka ks.length kc, .int .i64 at'] 29) := (hg3.block _ (by simp) (by simp)).trans (World.alloc_heap_new w0 _)
      have hgw : w0.grownBy w3 none := ⟨hg3.os, hg3.tape, hg3.output, by have := hg3.size; simp at this; omega, fun k hk _ => (hg3.block k (by simp; omega) (by simp)).trans (Below.heap_alloc w0 _ k hk)⟩
      have hz3 : w0.heap.size + 1 < w3.heap.size := (hown3.lt (w0.heap.size + 1) (by simp [Value.ownBlock])).2
      have c3 : w3.cell? ⟨w0.heap.size, 3, none⟩ = some (.slice ka ks.length kc) := by rw [Lib.cell_of_heap hX3]; rfl
      have e0 : (madeCells #[Value.int .i64 0] ks.length).toList = mixL ks by' 0 := by rw [mixL_zero]; exact toList_madeCells_one _ _
      rw [e0] at hown3
      have HO3 := hide hown3
      have HX3 := hide hX3
      have HG3 := hide hgw
      clear hown3 hX3 hg3 hgw e0 d0 d1 d2 d3 d4
      go_wp2
      go_loopw [25] (fun t25 wq => ∃ j : Nat, j ≤ ks.length ∧ t25 = .int .i64 (j : Int) ∧ wq.ownsRow B 3 1 (.slice (some ⟨w0.heap.size + 1, 0, none⟩) ks.length ks.length) ks.length (mixL ks by' j) ∧ w3.grownBy wq (some (w0.heap.size + 1))) (fun t25 _ => ks.length - (intOf t25).toNat)
      case atStart => exact ⟨0, Nat.zero_le _, rfl, unhide HO3, ⟨rfl, rfl, rfl, Nat.le_refl _, fun _ _ _ => rfl⟩⟩
      case round =>
        obtain ⟨j, hjl, rfl, hownj, hgj⟩ := hrel
        have HOJ := hide hownj
        have hB4 : Below B W wr := hB3.grown hgj (by have := hB3.size; omega) (fun k hk => by simp at hk; omega)
        clear hownj
        by_cases hjlt : j < ks.length
        · have hjlt' : (j : Int) < ks.length := by omega
          rcases unhide HK with hkk | ⟨kb, ko, rfl, hkb, hkc0⟩
          · subst hkk; simp at hjlt
          obtain ⟨k0, hk0⟩ : ∃ k0, ks.getD j 0 = k0 := ⟨_, rfl⟩
          have dk := hkc0 j hjlt
          rw [hk0] at dk
          have hkw : kb < w0.heap.size := by omega
          have dk3 := (((unhide HG3).block kb hkw (by simp)))
          have dkr : wr.cell? ⟨kb, ko + j, none⟩ = some (.int .i64 k0) := by
            refine (World.cell?_of_block (w := w0) ?_).trans dk
            exact (hgj.block kb (by omega) (by simp; omega)).trans dk3
          have cj : wr.cell? ⟨w0.heap.size + 1, j, none⟩ = some ((mixL ks by' j)[j]'(by rw [mixL_len _ _ _ hjl]; exact hjlt)) := by
            rw [(unhide HOJ).cellAt j (by omega), List.getElem?_eq_getElem]
          have fj : wr.frozen? ⟨w0.heap.size + 1, j, none⟩ = false := (unhide HOJ).frozenAt j
          have hzr : w0.heap.size + 1 < wr.heap.size := by have := hgj.size; omega
          obtain ⟨hst, hgr⟩ := (unhide HOJ).stored j (.int .i64 (sumP k0 by'))
          rw [← hk0, mixL_set _ _ _ hjlt, hk0] at hst
          obtain ⟨wn, hwn⟩ : ∃ wn, wr.setCell ⟨w0.heap.size + 1, j, none⟩ (.int .i64 (sumP k0 by')) = wn := ⟨_, rfl⟩
          rw [hwn] at hst hgr
          have HST := hide hst
          have HGR := hide hgr
          generalize (mixL ks by' j)[j]'(by rw [mixL_len _ _ _ hjl]; exact hjlt) = cv at cj
          clear hst hgr dk3 dk hkc0 hk0
          go_wp2_with (go_at_call 52; refine (sum_any k0 by' (by omega) _).mono ?_; rintro e w9 ⟨rfl, rfl⟩)
          refine ⟨⟨j + 1, by omega, by go_num, unhide HST, ?_⟩, by simp [intOf]; omega⟩
          have hgr := unhide HGR
          exact ⟨hgr.os.trans hgj.os, hgr.tape.trans hgj.tape, hgr.output.trans hgj.output, Nat.le_trans hgj.size hgr.size, fun k hk hne => (hgr.block k (by have := hgj.size; omega) hne).trans (hgj.block k hk hne)⟩
        · have hjlt' : ¬ (j : Int) < ks.length := by omega
          obtain rfl : j = ks.length := by omega
          have hXr : wr.heap[w0.heap.size]? = some (.cells #[.int .i64 kd, .string tx, .int .i64 nm, .slice ka ks.length kc, .int .i64 at'] 29) := (hgj.block _ (by omega) (by simp)).trans (unhide HX3)
          have cX1 := (cells5 hXr).2.1
          have hg0r : w0.grownBy wr none := ⟨hgj.os.trans (unhide HG3).os, hgj.tape.trans (unhide HG3).tape, hgj.output.trans (unhide HG3).output, Nat.le_trans (unhide HG3).size hgj.size, fun k hk _ => (hgj.block k (by omega) (by simp; omega)).trans ((unhide HG3).block k hk (by simp))⟩
          have hszr : w0.heap.size + 1 < wr.heap.size := by have := hgj.size; omega
          have HXR := hide hXr
          have HG0 := hide hg0r
          clear hXr hg0r
          go_wp2_with (first | (go_at_call 43; refine (clone43 tx _ (by omega)).mono ?_; rintro e w5 ⟨rfl, hB5⟩; have hX5 := (hB5.block w0.heap.size (by omega)).trans (unhide HXR); have cX5 := (cells5 hX5).2.1; have fX5 := frozen_at hX5 1; have hs5 : w0.heap.size < w5.heap.size := by { have := hB5.size; omega }; obtain ⟨w6, hw6⟩ : ∃ w6, w5.setCell ⟨w0.heap.size, 1, none⟩ (.string tx) = w6 := ⟨_, rfl⟩; have hX6 := put5_1 hX5 (.string tx); rw [hw6] at hX6; have cX6 := (cells5 hX6).2.2.2.1; have fX6 := frozen_at hX6 3; have hs6 : w6.heap.size = w5.heap.size := setCell_size hw6; obtain ⟨w7, hw7⟩ : ∃ w7, w6.setCell ⟨w0.heap.size, 3, none⟩ (.slice (some ⟨w0.heap.size + 1, 0, none⟩) ks.length ks.length) = w7 := ⟨_, rfl⟩; have hX7 := put5_3 hX6 (.slice (some ⟨w0.heap.size + 1, 0, none⟩) ks.length ks.length); rw [hw7] at hX7; obtain ⟨g0, g1, g2, g3, g4⟩ := cells5 hX7; have hs7 : w7.heap.size = w6.heap.size := setCell_size hw7; have hs6' : w0.heap.size < w6.heap.size := (by omega); have hs7' : w0.heap.size < w7.heap.size := (by omega); have HW6 := hide hw6; have HW7 := hide hw7; have HX7 := hide hX7; have hg7 := grown7 (unhide HG0) hB5 hw6 hw7; have HGG := hide hg7.1; have HZ7 := hide hg7.2.1; have HG7 := hide hg7.2.2; clear hg7; have HO7 := hide ((unhide HOWN).1.kept (row := none) (unhide HGG) (by cases e : u0.ownBlock <;> simp)); have HB5 := hide hB5; clear hX5 hX6 hX7 hB5 hs6 hs7) | (at_builtin; refine wpList_append_lies _ rfl _ _ 22 rfl B 29 i0 _ 5 64 Tryz.underlying22 hi hz0 hz1 hz2 rfl (by decide) _ _ _ rfl ((unhide HO7).alloc _) ⟨w7.heap.size, 0, none⟩ 1 1 (cellN ⟨shN by' ⟨kd, tx, nm, ks, at'⟩, some ⟨w0.heap.size + 1, 0, none⟩, ks.length⟩) rfl rfl ?c1 ?c2 (by decide) ?c3 ?c4 ?c5 _ rfl ?_))
          case c1 =>
            intro j u hj
            rw [Addr.add_lit, Nat.zero_add, World.cell?_alloc_mark]
            rw [← hj]; simp [cellN, shN]
          case c2 => intro u hu; simp [cellN, shN] at hu; rcases hu with rfl | rfl | rfl | rfl | rfl <;> rfl
          case c3 => unfold maxLen; simp; omega
          case c4 => simp; omega
          case c5 => simp; omega
          intro g8 cap8 w8 hown8 hg8 hat8 hlt8
          obtain ⟨v', hv'⟩ : ∃ v', Value.slice (some ⟨g8, 0, none⟩) (es.length + i + 1) cap8 = v' := ⟨_, rfl⟩
          have hob : v'.ownBlock = some g8 := by rw [← hv']; rfl
          rw [hv'] at hown8 ⊢
          have hlu : ∀ k, u0.ownBlock = some k → k < w0.heap.size := fun k hk => ((unhide HOWN).1.lt k hk).2
          have hg08 : ∀ k, k < w0.heap.size → some k ≠ u0.ownBlock → w8.heap[k]? = w0.heap[k]? := fun k hk hne => (hg8.block k (by simp; omega) hne).trans ((Below.heap_alloc _ _ _ (by omega)).trans ((unhide HGG).block k hk (by simp)))
          have hk8 : w8.heap[w0.heap.size + 1]? = wr.heap[w0.heap.size + 1]? := by
            have z7 := unhide HZ7
            have z5 := (unhide HB5).size
            refine (hg8.block _ (by simp; omega) (fun e => ?_)).trans ((Below.heap_alloc _ _ _ (by omega)).trans (unhide HG7 _ (by omega) (by omega)))
            have := hlu _ e.symm
            omega
          obtain ⟨cur, hcur, hcj⟩ := own_kids (unhide HOJ)
          have hB8 : Below B W w8 := by
            have gg := unhide HGG
            refine ⟨hg8.os.trans (gg.os.trans hBr.os), hg8.tape.trans (gg.tape.trans hBr.tape), hg8.output.trans (gg.output.trans hBr.output), ?_, fun k hk => ?_⟩
            · have := hg8.size; have := gg.size; simp at *; omega
            · refine (hg08 k (by omega) (fun e => ?_)).trans (hBr.block k hk)
              have := ((unhide HOWN).1.lt k e.symm).1
              omega
          have HF8 : Hid (Far W v w8 v') := by
            obtain ⟨f1, f2, f3⟩ := unhide HFAR
            have z8 := hg8.size
            have z7 := (unhide HGG).size
            simp at z8
            refine ⟨fun k hk hne => ?_, ?_, by omega⟩
            · refine (hg08 k (by omega) (fun e => ?_)).trans (f1 k hk hne)
              rcases f2 with f2 | f2
              · exact hne (e.trans f2)
              · have := f2 k e.symm
                omega
            · rcases hat8 with h | h
              · rcases f2 with f2 | f2
                · exact .inl (hob.trans (h.symm.trans f2))
                · exact .inr fun k hk => f2 k (h.trans (hob.symm.trans hk))
              · refine .inr fun k hk => ?_
                have e : k = g8 := by rw [hob] at hk; simpa using hk.symm
                rw [e, h]
                simp
                omega
          have HO8 : Hid (OwnR w8 B v' (es ++ (es' ++ [⟨shN by' ⟨kd, tx, nm, ks, at'⟩, some ⟨w0.heap.size + 1, 0, none⟩, ks.length⟩]))) := by
            refine ⟨?_, fun y hy => ?_⟩
            · rw [← List.append_assoc, flatN_snoc]
              have : (es ++ es' ++ [(⟨shN by' ⟨kd, tx, nm, ks, at'⟩, some ⟨w0.heap.size + 1, 0, none⟩, ks.length⟩ : NE)]).length = es.length + i + 1 := by simp; omega
              rw [this]
              exact hown8
            · rw [← List.append_assoc, List.mem_append, List.mem_singleton] at hy
              rcases hy with hy | rfl
              · refine ((unhide HOWN).2 y hy).keep fun k cur' hk => hg08 k (Array.getElem?_eq_some_iff.1 hk).1 fun e => ?_
                rcases (unhide HOWN).1.2 with ⟨h, _⟩ | ⟨g', cap'', cur'', h, _, hh, _⟩
                · rw [h] at e; cases e
                · rw [h] at e
                  simp only [Value.ownBlock, Option.some.injEq] at e
                  rw [e, hh] at hk
                  simp at hk
              · have hrow := unhide HOJ
                rw [mixL_end] at hrow
                show w8.ownsRow B 3 1 (.slice (some ⟨w0.heap.size + 1, 0, none⟩) (shN by' ⟨kd, tx, nm, ks, at'⟩).kids.length ks.length) (shN by' ⟨kd, tx, nm, ks, at'⟩).kids.length (kvs (shN by' ⟨kd, tx, nm, ks, at'⟩).kids)
                have e1 : (shN by' ⟨kd, tx, nm, ks, at'⟩).kids.length = ks.length := by simp [shN]
                have e2 : kvs (shN by' ⟨kd, tx, nm, ks, at'⟩).kids = ks.map (fun k => Value.int .i64 (sumP k by')) := by simp [shN, kvs]
                rw [e1, e2]
                exact ownsRow_heap hrow (fun g hg => by
                  have : g = w0.heap.size + 1 := by simpa [Value.ownBlock] using hg.symm
                  subst this
                  exact hk8)
          have HK8 : Hid (NewC W (es' ++ [⟨shN by' ⟨kd, tx, nm, ks, at'⟩, some ⟨w0.heap.size + 1, 0, none⟩, ks.length⟩])) := fun y hy => by
            rw [List.mem_append, List.mem_singleton] at hy
            rcases hy with hy | rfl
            · exact unhide HNK y hy
            · exact ⟨w0.heap.size + 1, rfl, by have := (unhide HFAR).2.2; omega, by simp [shN]⟩
          have HM8 : Hid ((es' ++ [(⟨shN by' ⟨kd, tx, nm, ks, at'⟩, some ⟨w0.heap.size + 1, 0, none⟩, ks.length⟩ : NE)]).map NE.x = (ns.take (i + 1)).map (shN by')) := by
            show _ = _
            rw [List.map_append, unhide HMAP, List.take_add_one, List.map_append, List.getElem?_eq_getElem hlt]
            have e := unhide HND
            rw [nd, List.getD_eq_getElem?_getD, List.getElem?_eq_getElem hlt] at e
            simp only [Option.getD_some] at e
            simp [e]
          have hB8' := hide hB8
          clear hown8 hg8 hg08 hk8 hcur hcj hlu hB8 hat8 hlt8 hob hv'
          go_wp2
          exact ⟨⟨i + 1, es' ++ [⟨shN by' ⟨kd, tx, nm, ks, at'⟩, some ⟨w0.heap.size + 1, 0, none⟩, ks.length⟩], by omega, by go_num, unhide HM8, unhide HO8, unhide hB8', unhide HF8, unhide HK8⟩, by simp [intOf]; omega⟩
    · have hlt' : ¬ (i : Int) < ns.length := by omega
      obtain rfl : i = ns.length := by omega
      go_wp2
      go_ret
      exact ⟨_, es', rfl, by have := unhide HMAP; rwa [List.take_length] at this, unhide HOWN, hBr, unhide HFAR, unhide HNK⟩
end Go.Proofs.YtoffpbaddehncaaGreatDoor

/- tree.Sub of a node, the kids as rows of their own. -/
namespace Go.Proofs.YtoffpbaddehncaaGreatDoor
set_option linter.unusedSimpArgs false
set_option linter.unusedVariables false
open Go.RowKit Go.Shelf

theorem own_sliceR {W : World} {B : Nat} {v : Value} {es : List NE} (h : OwnR W B v es) (h0 : 0 < es.length) : ∃ g n c, v = .slice (some ⟨g, 0, none⟩) n c := by
  obtain ⟨g, cp, hv, _⟩ := h.1.form h0
  exact ⟨g, _, cp, hv⟩
theorem OwnR.setBox {w : World} {N : Nat} {v y : Value} {es : List NE} (h : OwnR w (N + 2) v es) : OwnR (w.setCell ⟨N + 1, 0, none⟩ y) N v es :=
  ⟨(ownsRow_heap h.1 (fun g hg => Below.heap_setCell _ _ _ _ (by have := (h.1.lt g hg).1; show g ≠ N + 1; omega))).mono (by omega), fun e he => by
    exact (ownsRow_heap (h.2 e he) (fun g hg => Below.heap_setCell _ _ _ _ (by have := ((h.2 e he).lt g hg).1; show g ≠ N + 1; omega))).mono (by omega)⟩

def SubYesR (l : List Nd) (n : Nat) (W : World) (e : Ending) (w' : World) : Prop := ∃ v' es, e = .returned (.tuple #[.agg #[v'], .int .i64 0]) ∧ es.map NE.x = subT l n ∧ OwnR w' W.heap.size v' es ∧ (∀ e ∈ es, e.cap = e.x.kids.length) ∧ Below W.heap.size W w'

set_option maxRecDepth 100000 in
set_option maxHeartbeats 4000000 in
theorem subR_in (W : World) (M : Nat) (v : Value) (l : List Nd) (n : Nat) (hN : Nodes W M v l) (hM : M ≤ W.heap.size) (h : (chkP l).2 = 0) (hn : n < l.length) :
    Calls Tryz.prog 25 #[.agg #[v], .int .i64 (n : Int)] W (SubYesR l n W) := by
  obtain ⟨i0, hi, hz0, hy1, hz2⟩ := info_parts infoNode
  obtain ⟨W1, hW1⟩ : ∃ W1, (W.alloc (.cells #[v] 24)).alloc (.cells #[.slice none 0 0] 24) = W1 := ⟨_, rfl⟩
  have HK : Hid (∀ w, Below (W.heap.size + 2) W1 w → _) := fun w hw => sub_boxes (v := v) (by rw [hW1]; exact hw)
  have hz1 : W1.heap.size = W.heap.size + 2 := by rw [← hW1]; simp
  have hB0 := (unhide HK W1 (Below.refl _ _)).1
  have HC := hide (check_ok W1 M v l (hN.keep hB0 hM) (by omega))
  have HN := hide hN
  have hl1 := hN.1
  have hf := chk_all h hn
  obtain ⟨b, o, cap, ka, kc, rfl, hcap, hcm, hb, _⟩ := hN.at hn
  rw [h, ← hW1] at HC
  have HW1 := hide hW1
  have HIN : Hid (ins l (n : Int) = true) := ins_iff'.2 ⟨by omega, by omega⟩
  have HF := hide hf
  obtain ⟨hle1, hle2⟩ := hf.le
  clear hN h hB0 hW1 hf
  obtain ⟨q, hq⟩ : ∃ q, en l n = q := ⟨_, rfl⟩
  rw [hq] at hle1 hle2
  have HQ := hide hq
  clear hq
  go_enter Tryz.func25, Tryz.ntmps25
  go_wp2_with (first | (go_at_call 24; refine (unhide HC).mono ?_; rw [unhide HW1]; rintro e w2 ⟨rfl, hB2⟩; rw [hz1] at hB2; obtain ⟨k1, k2, k3, k4, k5⟩ := unhide HK w2 hB2; have k6 : W.heap.size + 1 < w2.heap.size := (by omega); have k7 : W.heap.size < w2.heap.size := (by omega)) | (go_at_call 37; refine (within_ok ((unhide HN).keep k1 hM) n).mono ?_; rw [unhide HIN]; rintro e w3 ⟨rfl, rfl⟩) | (go_at_call 41; refine (behind_any _ M _ l n ((unhide HN).keep k1 hM) (by omega) (unhide HF)).mono ?_; rw [unhide HQ]; rintro e w4 ⟨rfl, hB4⟩))
  have hB24 := hB2.trans (hB4.mono (show W.heap.size + 2 ≤ _ by omega))
  obtain ⟨j1, j2, j3, j4, j5⟩ := unhide HK w4 hB24
  have j6 : W.heap.size + 1 < w4.heap.size := by omega
  have j7 : W.heap.size < w4.heap.size := by omega
  have hB5 := hB24.drew
  obtain ⟨w5, hmk, hown5, hg5⟩ := run_make_none w4.drew (W.heap.size + 2) i0 _ hi hz0 hy1 (q - n) (by rw [hz2]; omega) (by unfold maxLen; omega) (by show _ ≤ w4.heap.size; omega)
  have hws : IntKind.i64.wrap ((q : Int) - (n : Int)) = ((q - n : Nat) : Int) := by rw [IntKind.wrap_i64]; omega
  have hwn : IntKind.i64.wrap (-(n : Int)) = -(n : Int) := by rw [IntKind.wrap_i64]; omega
  have hsd : w4.drew.heap.size = w4.heap.size := rfl
  rw [← hws, hsd] at hmk
  rw [hsd] at hown5
  have hB6 : Below (W.heap.size + 2) W1 w5 := hB5.grown hg5 (by show _ ≤ w4.heap.size; omega) (fun k hk => by cases hk)
  obtain ⟨m1, m2, m3, m4, m5⟩ := unhide HK w5 hB6
  have m7 : W.heap.size < w5.heap.size := by omega
  have hnq : (n : Int) ≤ (q : Int) := by omega
  have hqc : (q : Int) ≤ (cap : Int) := by omega
  have hn0 : (0 : Int) ≤ (n : Int) := by omega
  have HO5 : Hid (OwnR w5 (W.heap.size + 2) (.slice (some ⟨w4.heap.size, 0, none⟩) 0 (q - n)) []) := ⟨hown5, fun e he => by cases he⟩
  have hcn : ¬ cap = n := by omega
  have HL : Hid (Calls Tryz.prog 42 #[.slice (some ⟨w4.heap.size, 0, none⟩) 0 (q - n), .slice (some ⟨b, o + n * 5, none⟩) (q - n) (cap - n), .int .i64 (IntKind.i64.wrap (-(n : Int)))] w5 (LayR (W.heap.size + 2) (.slice (some ⟨w4.heap.size, 0, none⟩) 0 (q - n)) [] (str l n q) (-(n : Int)) w5)) := by
    rw [hwn]
    exact layR_any (W.heap.size + 2) _ _ [] (str l n q) (-(n : Int)) M w5 (by omega) (by omega) (unhide HO5) (nodes_str ((unhide HN).keep m1 hM) (by omega) hle2) (by omega) (by rw [str_len hle2]; simp; omega)
  have HKK : Hid (∀ w6, Below (W.heap.size + 2) w5 w6 → Below W.heap.size W w6 ∧ w6.cell? ⟨W.heap.size + 1, 0, none⟩ = some (.slice none 0 0) ∧ w6.frozen? ⟨W.heap.size + 1, 0, none⟩ = false ∧ W.heap.size + 1 < w6.heap.size) := fun w6 h6 => by
    obtain ⟨p1, p2, p3, p4, p5⟩ := unhide HK w6 (hB6.trans h6)
    exact ⟨p1, p3, p4, by omega⟩
  have HLL : Hid (∀ es' : List NE, es'.map NE.x = (str l n q).map (shN (-(n : Int))) → 0 < ([] ++ es').length) := fun es' he => by
    have h1 := congrArg List.length he
    simp only [List.length_map, str_len hle2] at h1
    simp; omega
  clear hws hwn hown5 hg5 HO5 k1 k2 k3 k4 k5 k6 k7 j1 j3 j4 j5 m1 m3 m4 m5 hB24 hB5 hB4 hB2 HK HC HIN HF hi hz0 hy1 hz2 hB6
  go_region_with (go_at_call 42; refine (unhide HL).mono ?_; rintro e w6 ⟨v', es', rfl, hmap, hO6, hB67, hF6, hk6⟩; obtain ⟨g6, n6, c6, rfl⟩ := own_sliceR hO6 (unhide HLL es' hmap); have HMAP := hide hmap; have HO6 := hide hO6; have HK6 := hide hk6; clear hmap hO6 hF6 hk6; obtain ⟨p1, p3, p4, p6⟩ := unhide HKK w6 hB67)
  all_goals (
    go_wp2
    refine bodyPost_ret (v := .tuple #[.agg #[.slice (some ⟨g6, 0, none⟩) n6 c6], .int .i64 0]) (by simp [results, Tryz.results25, go_sem, p3]) rfl ⟨_, es', rfl, ?_, ?_, fun e he => by obtain ⟨_, _, _, hc⟩ := unhide HK6 e he; exact hc, p1.setCell (by show W.heap.size ≤ W.heap.size + 1; omega) _⟩
    · rw [subT, unhide HQ]; exact unhide HMAP
    · exact (unhide HO6).setBox)
end Go.Proofs.YtoffpbaddehncaaGreatDoor

/- shucklaw3.spoil in general. -/
namespace Go.Proofs.YtoffpbaddehncaaGreatDoor
set_option linter.unusedSimpArgs false
set_option linter.unusedVariables false
open Go.RowKit Go.Shelf

/-- A row of nodes, whatever lies in it, but where the kids are. -/
def Sp (w : World) (B : Nat) (v : Value) (es : List NE) : Prop := ∃ xs, w.ownsRow B 29 5 v es.length xs ∧ ∀ i e, es[i]? = some e → xs[i * 5 + 3]? = some (.slice e.a e.x.kids.length e.cap)
theorem Sp.of {w : World} {B : Nat} {v : Value} {es : List NE} (h : w.ownsRow B 29 5 v es.length (flatN es)) : Sp w B v es :=
  ⟨_, h, fun i e he => by rw [flatN_get es i e he 3 (by omega)]; rfl⟩
theorem Sp.heap {w w' : World} {B : Nat} {v : Value} {es : List NE} (h : Sp w B v es) (hk : ∀ g, v.ownBlock = some g → w'.heap[g]? = w.heap[g]?) : Sp w' B v es := by
  obtain ⟨xs, h1, h2⟩ := h
  exact ⟨xs, ownsRow_heap h1 hk, h2⟩
theorem Sp.set {w : World} {B g n cap : Nat} {es : List NE} (h : Sp w B (.slice (some ⟨g, 0, none⟩) n cap) es) (hn : es.length = n) (j : Nat) (hj : j % 5 ≠ 3) (u : Value) : Sp (w.setCell ⟨g, j, none⟩ u) B (.slice (some ⟨g, 0, none⟩) n cap) es := by
  obtain ⟨xs, h1, h2⟩ := h
  subst hn
  refine ⟨_, (h1.stored j u).1, fun i e he => ?_⟩
  rw [List.getElem?_set_ne (by omega)]
  exact h2 i e he
theorem own_slice_any {w : World} {B : Nat} {e : TypeId} {sz n : Nat} {v : Value} {xs : List Value} (h : w.ownsRow B e sz v n xs) : ∃ a cap, v = .slice a n cap ∧ n ≤ cap ∧ (0 < n → ∃ g, a = some ⟨g, 0, none⟩) := by
  rcases h.2 with ⟨rfl, rfl⟩ | ⟨g, cap, cur, rfl, _, _, hc, _⟩
  · exact ⟨none, 0, rfl, Nat.le_refl _, fun h => by omega⟩
  · exact ⟨_, _, rfl, hc, fun _ => ⟨g, rfl⟩⟩
/-- A row of kids where it may grow: what an append asks. -/
theorem KidR.parts {w : World} {B : Nat} {e : NE} (h : KidR w B e) : (e.a = none → e.x.kids.length = 0 ∧ e.cap = 0) ∧ ∀ b, e.a = some b → ∀ j u, (kvs e.x.kids)[j]? = some u → w.cell? (b.add j) = some u ∧ (b.add j).block < w.heap.size := by
  rcases h.2 with ⟨h1, h2⟩ | ⟨g, cap, cur, h1, _, hh, _, _, _, ht⟩
  · injection h1 with h1 _ h3
    refine ⟨fun _ => ⟨h2, h3⟩, fun b hb => ?_⟩
    rw [h1] at hb; cases hb
  · injection h1 with h1 _ h3
    refine ⟨fun h0 => (by rw [h1] at h0; cases h0), fun b hb j u hj => ?_⟩
    rw [h1] at hb
    cases hb
    have hjl : j < e.x.kids.length := by have := (List.getElem?_eq_some_iff.1 hj).1; rwa [kvs_len] at this
    have h' : w.ownsRow B 3 1 (.slice (some ⟨g, 0, none⟩) e.x.kids.length e.cap) e.x.kids.length (kvs e.x.kids) := by have := h; unfold KidR at this; rw [h1] at this; exact this
    rw [Addr.add_lit, Nat.zero_add, h'.cellAt j (by omega)]
    exact ⟨hj, (h'.lt g rfl).2⟩

set_option maxRecDepth 100000 in
set_option maxHeartbeats 4000000 in
theorem spoil_any (W : World) (B : Nat) (v : Value) (es : List NE) (hO : OwnR W B v es) (hB : B ≤ W.heap.size) (hc : ∀ e ∈ es, e.cap = e.x.kids.length) (hl : es.length ≤ 100000) (hk : ∀ e ∈ es, e.x.kids.length ≤ 100000) :
    Calls Tryz.prog 32 #[.agg #[v]] W fun e w' => e = .returned (.tuple #[]) ∧ Below B W w' := by
  obtain ⟨i0, hi, hz0, hz1, hz2⟩ := info_parts infoNode
  obtain ⟨j0, hj, hy0, hy1, hy2⟩ := info_parts infoInt
  obtain ⟨n, hn⟩ : ∃ n, es.length = n := ⟨_, rfl⟩
  obtain ⟨a, cap, rfl, hcap, hform⟩ := own_slice_any hO.1
  rw [hn] at hform hcap hl
  rw [hn] at hO
  have hown0 := hO.1
  have HKR : Hid (∀ e ∈ es, KidR W B e) := hO.2
  have HC := hide hc
  have HK := hide hk
  clear hc hk
  rw [hn]
  obtain ⟨W1, hW1⟩ : ∃ W1, W.alloc (.cells #[.slice a n cap] 24) = W1 := ⟨_, rfl⟩
  have hz1' : W1.heap.size = W.heap.size + 1 := by rw [← hW1]; simp
  have hbox1 : W1.heap[W.heap.size]? = some (.cells #[.slice a n cap] 24) := by rw [← hW1]; exact at_a1 W _
  have hB1 : Below B W W1 := by rw [← hW1]; exact (Below.refl _ W).alloc hB _
  have hb01 : ∀ k, k < W.heap.size → W1.heap[k]? = W.heap[k]? := fun k hk => by rw [← hW1]; exact Below.heap_alloc W _ k hk
  have hlt0 : ∀ g, (Value.slice a n cap).ownBlock = some g → B ≤ g ∧ g < W.heap.size := fun g hg => hown0.lt g hg
  have HLT := hide hlt0
  have HBel : Hid (∀ w', W1.grownBy w' (Value.slice a n cap).ownBlock → Below B W w' ∧ w'.cell? ⟨W.heap.size, 0, none⟩ = some (.slice a n cap) ∧ W.heap.size < w'.heap.size ∧ ∀ e ∈ es, KidR w' B e) := fun w' hg => by
    refine ⟨hB1.grown hg (by omega) (fun k hk => (hlt0 k hk).1), ?_, by have := hg.size; omega, fun e he => ?_⟩
    · have : w'.heap[W.heap.size]? = some (.cells #[.slice a n cap] 24) := (hg.block _ (by omega) (fun e => by have := (hlt0 _ e.symm).2; omega)).trans hbox1
      rw [Lib.cell_of_heap this]; rfl
    · refine (unhide HKR e he).keep fun k cur hk => ?_
      have hkl := (Array.getElem?_eq_some_iff.1 hk).1
      refine (hg.block k (by omega) fun e0 => ?_).trans (hb01 k hkl)
      rcases hown0.2 with ⟨h, _⟩ | ⟨g', cap'', cur'', h, _, hh, _⟩
      · rw [h] at e0; cases e0
      · rw [h] at e0
        simp only [Value.ownBlock, Option.some.injEq] at e0
        rw [e0, hh] at hk
        simp at hk
  have HS1 : Hid (Sp W1 B (.slice a n cap) es) := by
    refine Sp.heap (Sp.of hown0) fun g hg => hb01 g (hlt0 g hg).2
  have HW1 := hide hW1
  clear hW1 hbox1 hb01 hO hown0 hlt0
  go_enter Tryz.func32, Tryz.ntmps32
  go_wp2
  rw [unhide HW1]
  go_loopw [2] (fun t wr => ∃ i : Nat, i ≤ n ∧ t = .int .i64 (i : Int) ∧ Sp wr B (.slice a n cap) es ∧ W1.grownBy wr (Value.slice a n cap).ownBlock) (fun t _ => n - (intOf t).toNat)
  case atStart => exact ⟨0, Nat.zero_le _, rfl, unhide HS1, World.grownBy.refl _ _⟩
  case round =>
    obtain ⟨w0, hw0⟩ : ∃ w0, w0 = wr := ⟨_, rfl⟩
    subst hw0
    obtain ⟨i, hil, rfl, hsp, hgr⟩ := hrel
    obtain ⟨hBr, cbx, hszr, hKr⟩ := unhide HBel w0 hgr
    have HSP := hide hsp
    have HGR := hide hgr
    have HKr := hide hKr
    have HBr := hide hBr
    clear hsp hgr hKr hBr
    by_cases hlt : i < n
    · have hlt' : (i : Int) < n := by omega
      have hi0' : (0 : Int) ≤ (i : Int) := Int.natCast_nonneg _
      obtain ⟨g, rfl⟩ := hform (by omega)
      obtain ⟨e0, he0⟩ : ∃ e0, es[i]? = some e0 := ⟨_, List.getElem?_eq_getElem (by omega)⟩
      have hmem := List.mem_of_getElem? he0
      obtain ⟨xs, hxs, hx3⟩ := unhide HSP
      rw [hn] at hxs
      have c3 : w0.cell? ⟨g, i * 5 + 3, none⟩ = some (.slice e0.a e0.x.kids.length e0.cap) := by rw [hxs.cellAt (i * 5 + 3) (by omega), hx3 i e0 he0]
      have hgl : g < w0.heap.size := (hxs.lt g rfl).2
      have hgl0 : g < W.heap.size := (unhide HLT g rfl).2
      obtain ⟨k1, k2⟩ := (unhide HKr e0 hmem).parts
      have K1 := hide k1
      have K2 := hide k2
      have hcp := unhide HC e0 hmem
      have hkl := unhide HK e0 hmem
      obtain ⟨kl, hkl'⟩ : ∃ kl, e0.x.kids.length = kl := ⟨_, rfl⟩
      rw [hcp] at c3 k1
      rw [hkl'] at c3 k1 hkl
      have HXS := hide hxs
      have K1 := hide k1
      clear k1 k2 hcp hxs hx3
      obtain ⟨ka, hka⟩ : ∃ ka, e0.a = ka := ⟨_, rfl⟩
      rw [hka] at c3 K1
      go_wp2_with (at_builtin; refine wpList_append_grows _ rfl _ _ 27 rfl 3 j0 _ 1 8 Tryz.underlying27 hj hy0 hy1 hy2 rfl (by decide) ka kl kl (kvs e0.x.kids) rfl (unhide K1) (by rw [kvs_len]; omega) (fun b hb j u hj => ?d1) ⟨w0.heap.size, 0, none⟩ 1 1 [.int .i64 99] rfl rfl ?d2 ?d3 (by omega) ?d4 ?d5 ?_)
      case d1 =>
        obtain ⟨h1, h2⟩ := unhide K2 b (hka.trans hb) j u hj
        exact (((Below.refl w0.heap.size w0).alloc (Nat.le_refl _) _).cell h2).trans h1
      case d2 => exact World.news_of_block (cs := #[.int .i64 99]) (t := 3) (fr := (0, 0)) (at_a1 _ _)
      case d3 => intro u hu; simp at hu; subst hu; rfl
      case d4 => unfold maxLen; omega
      case d5 => omega
      intro v2 w2 hown2 hg2
      obtain ⟨a2, c2, rfl, hc2, hf2⟩ := own_slice_any hown2
      obtain ⟨g2, rfl⟩ := hf2 (by omega)
      have hg2l := hown2.lt g2 rfl
      have HB2 : Hid (∀ k, k < w0.heap.size → w2.heap[k]? = w0.heap[k]?) := fun k hk => (hg2.block k (by simp; omega) (by simp)).trans (Below.heap_alloc w0 _ k hk)
      have HW2 : Hid (w0.os = w2.os ∧ w0.tape = w2.tape ∧ w0.output = w2.output ∧ w0.heap.size ≤ w2.heap.size) := ⟨hg2.os.symm, hg2.tape.symm, hg2.output.symm, by have := hg2.size; simp at this; omega⟩
      have HO2 := hide hown2
      have HZS := hide c3
      clear hown2 hg2 c3 hf2
      go_wp2
      go_loopw [4] (fun t w' => ∃ (j : Nat) (zs : List Value), j ≤ kl + 1 ∧ t = .int .i64 (j : Int) ∧ w'.ownsRow (w0.heap.size + 1) 3 1 (.slice (some ⟨g2, 0, none⟩) (kl + 1) c2) (kl + 1) zs ∧ w2.grownBy w' (some g2)) (fun t _ => kl + 1 - (intOf t).toNat)
      case atStart => exact ⟨0, _, Nat.zero_le _, rfl, unhide HO2, World.grownBy.refl _ _⟩
      case round =>
        obtain ⟨j, zs, hjl, rfl, hownj, hgj⟩ := hrel
        have hg2w : g2 < wr.heap.size := (hownj.lt g2 rfl).2
        by_cases hjlt : j < kl + 1
        · have hjlt' : (j : Int) < (kl : Int) + 1 := by omega
          have hj0' : (0 : Int) ≤ (j : Int) := Int.natCast_nonneg _
          obtain ⟨uz, huz⟩ : ∃ uz, zs[j]? = some uz := ⟨_, List.getElem?_eq_getElem (by rw [hownj.1]; omega)⟩
          have cz : wr.cell? ⟨g2, j, none⟩ = some uz := (hownj.cellAt j (by omega)).trans huz
          have fz : wr.frozen? ⟨g2, j, none⟩ = false := hownj.frozenAt j
          have HJ1 := hide (hownj.stored j (.int .i64 98)).1
          have HJ2 := hide (hgj.trans (hownj.stored j (.int .i64 98)).2)
          clear hownj hgj
          go_wp2
          exact ⟨⟨j + 1, _, by omega, by go_num, unhide HJ1, unhide HJ2⟩, by simp [intOf]; omega⟩
        · have hjlt' : ¬ (j : Int) < (kl : Int) + 1 := by omega
          have hkeep : ∀ k, k < w0.heap.size → wr.heap[k]? = w0.heap[k]? := fun k hk => (hgj.block k (by have := (unhide HW2).2.2.2; omega) (by simp; omega)).trans (unhide HB2 k hk)
          have hxs' : wr.ownsRow B 29 5 (.slice (some ⟨g, 0, none⟩) n cap) n xs := ownsRow_heap (unhide HXS) fun k hk => by
            have : k = g := by simpa [Value.ownBlock] using hk.symm
            subst this
            exact hkeep _ hgl
          have hsp' : Sp wr B (.slice (some ⟨g, 0, none⟩) n cap) es := (unhide HSP).heap fun k hk => by
            have : k = g := by simpa [Value.ownBlock] using hk.symm
            subst this
            exact hkeep _ hgl
          have cbx' : wr.cell? ⟨W.heap.size, 0, none⟩ = some (.slice (some ⟨g, 0, none⟩) n cap) := by
            rw [← cbx]
            unfold World.cell?
            rw [hkeep _ hszr]
          have hsz' : w0.heap.size ≤ wr.heap.size := by have := hgj.size; have := (unhide HW2).2.2.2; omega
          have hszr' : W.heap.size < wr.heap.size := by omega
          have hgl' : g < wr.heap.size := by omega
          obtain ⟨u1, hu1⟩ : ∃ u1, xs[i * 5 + 1]? = some u1 := ⟨_, List.getElem?_eq_getElem (by rw [hxs'.1]; omega)⟩
          have c1 : wr.cell? ⟨g, i * 5 + 1, none⟩ = some u1 := (hxs'.cellAt _ (by omega)).trans hu1
          have f1 : wr.frozen? ⟨g, i * 5 + 1, none⟩ = false := hxs'.frozenAt _
          have HN1 := hide (hsp'.set hn (i * 5 + 1) (by omega) (.string ⟨#[115, 112, 111, 105, 108, 116]⟩))
          have HN2 : Hid (W1.grownBy (wr.setCell ⟨g, i * 5 + 1, none⟩ (.string ⟨#[115, 112, 111, 105, 108, 116]⟩)) (some g)) := by
            obtain ⟨e1, e2, e3, e4⟩ := unhide HW2
            have hgr := unhide HGR
            refine World.grownBy.trans (b := wr) ⟨hgj.os.trans (e1.symm.trans hgr.os), hgj.tape.trans (e2.symm.trans hgr.tape), hgj.output.trans (e3.symm.trans hgr.output), Nat.le_trans hgr.size hsz', fun k hk hne => (hkeep k (by have := hgr.size; omega)).trans (hgr.block k hk hne)⟩ (hxs'.stored _ _).2
          clear hxs' hsp' hkeep hownj hgj cbx
          go_wp2
          exact ⟨⟨i + 1, by omega, by go_num, unhide HN1, unhide HN2⟩, by simp [intOf]; omega⟩
    · have hlt' : ¬ (i : Int) < n := by omega
      have HIN := hide (show i = n by omega)
      clear hil hlt
      obtain ⟨xs, hxs, _⟩ := unhide HSP
      rw [hn] at hxs
      have HXS := hide hxs
      clear hxs
      go_wp2_with (at_builtin; refine wpList_append_lies _ rfl _ _ 22 rfl B 29 i0 _ 5 64 Tryz.underlying22 hi hz0 hz1 hz2 rfl (by decide) _ n xs rfl ((unhide HXS).alloc _) ⟨w0.heap.size, 0, none⟩ 1 1 (cellN ⟨⟨97, ⟨#[]⟩, 0, [], 0⟩, none, 0⟩) rfl rfl ?c1 ?c2 (by decide) ?c3 ?c4 ?c5 _ rfl ?_)
      case c1 => exact fun j u h => h
      case c2 => intro u hu; simp [cellN] at hu; rcases hu with rfl | rfl | rfl | rfl | rfl <;> rfl
      case c3 => unfold maxLen; omega
      case c4 => omega
      case c5 => omega
      intro g4 cap4 w4 hown4 hg4 hat4 hlt4
      have hB4 : Below B W w4 := (unhide HBr).trans (((Below.refl B w0).alloc (by omega) _).grown hg4 (by simp; omega) (fun k hk => (unhide HLT k hk).1))
      have HO4 := hide hown4
      have HB4 := hide hB4
      clear hown4 hg4 hat4 hB4 cbx
      go_wp2
      go_loopw [6] (fun t w' => ∃ (j : Nat) (zs : List Value), j ≤ n + 1 ∧ t = .int .i64 (j : Int) ∧ w'.ownsRow B 29 5 (.slice (some ⟨g4, 0, none⟩) (n + 1) cap4) (n + 1) zs ∧ Below B W w') (fun t _ => n + 1 - (intOf t).toNat)
      case atStart => exact ⟨0, _, Nat.zero_le _, rfl, unhide HO4, unhide HB4⟩
      case round =>
        obtain ⟨j, zs, hjl, rfl, hownj, hBj⟩ := hrel
        have hg4w := hownj.lt g4 rfl
        by_cases hjlt : j < n + 1
        · have hjlt' : (j : Int) < (n : Int) + 1 := by omega
          have hj0' : (0 : Int) ≤ (j : Int) := Int.natCast_nonneg _
          obtain ⟨uz, huz⟩ : ∃ uz, zs[j * 5]? = some uz := ⟨_, List.getElem?_eq_getElem (by rw [hownj.1]; omega)⟩
          have cz : wr.cell? ⟨g4, j * 5, none⟩ = some uz := (hownj.cellAt _ (by omega)).trans huz
          have fz : wr.frozen? ⟨g4, j * 5, none⟩ = false := hownj.frozenAt _
          have hg4' := hg4w.2
          have HJ1 := hide (hownj.stored (j * 5) (.int .i64 96)).1
          have HJ2 := hide (hBj.setCell (p := ⟨g4, j * 5, none⟩) hg4w.1 (.int .i64 96))
          clear hownj hBj
          go_wp2
          exact ⟨⟨j + 1, _, by omega, by go_num, unhide HJ1, unhide HJ2⟩, by simp [intOf]; omega⟩
        · have hjlt' : ¬ (j : Int) < (n : Int) + 1 := by omega
          go_wp2
          exact bodyPost_end (v := .tuple #[]) (by simp [results, Tryz.results32, go_sem]) rfl ⟨rfl, hBj⟩
end Go.Proofs.YtoffpbaddehncaaGreatDoor
