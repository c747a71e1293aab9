/- tree.lay: copies of nodes behind a row of the call's own, their kids moved along. -/
import Derived.LoopN
import Derived.OwnWalk
import Derived.Laws.OwnMore
import Derived.Deep.AppendLies
import Derived.Test.YtoffpbaddehncaaGreatDoorTK
import Derived.Test.YtoffpbaddehncaaGreatDoorTL
namespace Go.Proofs.YtoffpbaddehncaaGreatDoor
set_option linter.unusedSimpArgs false
set_option linter.unusedVariables false
open Go.RowKit Go.Shelf

theorem infoNode : (Tryz.prog.info? 29).map (fun i => (i.zero, i.size, i.bytes)) = some (some (.agg #[.int .i64 0, .string ⟨#[]⟩, .int .i64 0, .slice none 0 0, .int .i64 0]), 5, 64) := by kernel_rfl
theorem infoInt : (Tryz.prog.info? 3).map (fun i => (i.zero, i.size, i.bytes)) = some (some (.int .i64 0), 1, 8) := by kernel_rfl

/-- A node of the call's own, and where its kids lie. -/
structure NE where
  x : Nd
  a : Option Addr
  cap : Nat
def cellN (e : NE) : List Value := [.int .i64 e.x.kind, .string e.x.text, .int .i64 e.x.num, .slice e.a e.x.kids.length e.cap, .int .i64 e.x.at']
def flatN (es : List NE) : List Value := es.flatMap cellN
theorem flatN_len (es : List NE) : (flatN es).length = es.length * 5 := by
  induction es with
  | nil => rfl
  | cons x es ih => simp only [flatN, List.flatMap_cons, List.length_append, List.length_cons] at ih ⊢; simp only [ih]; simp [cellN]; omega
theorem flatN_snoc (es : List NE) (x : NE) : flatN (es ++ [x]) = flatN es ++ cellN x := by simp [flatN]
theorem flatN_append (es fs : List NE) : flatN (es ++ fs) = flatN es ++ flatN fs := by simp [flatN]
/-- Its kids, in a row of whole numbers of its own. -/
def KidO (W : World) (B : Nat) (e : NE) : Prop := e.x.kids.length ≤ e.cap ∧ e.cap ≤ maxLen ∧ (e.x.kids = [] ∨ ∃ kb cur, e.a = some ⟨kb, 0, none⟩ ∧ B ≤ kb ∧ W.heap[kb]? = some (Obj.cells cur 3 (0, 0)) ∧ ∀ j, j < e.x.kids.length → cur[j]? = some (.int .i64 (e.x.kids.getD j 0)))
theorem KidO.keep {W W' : World} {B : Nat} {e : NE} (h : KidO W B e) (hk : ∀ (k : Nat) (cur : Array Value), W.heap[k]? = some (Obj.cells cur 3 (0, 0)) → W'.heap[k]? = W.heap[k]?) : KidO W' B e := by
  obtain ⟨h1, h2, h3⟩ := h
  refine ⟨h1, h2, ?_⟩
  rcases h3 with h3 | ⟨kb, cur, ha, hb, hh, hc⟩
  · exact .inl h3
  · exact .inr ⟨kb, cur, ha, hb, (hk kb cur hh).trans hh, hc⟩
theorem KidO.below {W W' : World} {B : Nat} {e : NE} (h : KidO W B e) (hB : Below W.heap.size W W') : KidO W' B e :=
  h.keep fun k cur hk => hB.block k (Array.getElem?_eq_some_iff.1 hk).1
/-- A row of nodes of the call's own. -/
def OwnN (W : World) (B : Nat) (v : Value) (es : List NE) : Prop := W.ownsRow B 29 5 v es.length (flatN es) ∧ ∀ e ∈ es, KidO W B e
/-- A node moved along. -/
def shN (by' : Int) (x : Nd) : Nd := { x with kids := x.kids.map fun k => sumP k by' }
/-- A row of kids, so many of them laid. -/
def mixL (ks : List Int) (by' : Int) (j : Nat) : List Value := (ks.take j).map (fun k => Value.int .i64 (sumP k by')) ++ List.replicate (ks.length - j) (.int .i64 0)
theorem mixL_len (ks : List Int) (by' : Int) (j : Nat) (h : j ≤ ks.length) : (mixL ks by' j).length = ks.length := by simp [mixL]; omega
theorem mixL_get (ks : List Int) (by' : Int) (j i : Nat) (h : j ≤ ks.length) : (mixL ks by' j)[i]? = if i < j then (ks[i]?).map (fun k => Value.int .i64 (sumP k by')) else if i < ks.length then some (.int .i64 0) else none := by
  unfold mixL
  have e1 : (List.map (fun k => Value.int IntKind.i64 (sumP k by')) (List.take j ks)).length = j := by simp; omega
  by_cases hi : i < j
  · rw [List.getElem?_append_left (by omega), List.getElem?_map, List.getElem?_take, if_pos hi, if_pos hi]
  · rw [List.getElem?_append_right (by omega), e1, if_neg hi, List.getElem?_replicate]
    by_cases h2 : i < ks.length
    · rw [if_pos (by omega), if_pos h2]
    · rw [if_neg (by omega), if_neg h2]
theorem mixL_set (ks : List Int) (by' : Int) (j : Nat) (h : j < ks.length) : (mixL ks by' j).set j (.int .i64 (sumP (ks.getD j 0) by')) = mixL ks by' (j + 1) := by
  apply List.ext_getElem?
  intro i
  rw [List.getElem?_set, mixL_get _ _ _ _ (by omega), mixL_get _ _ _ _ (by omega), mixL_len _ _ _ (by omega)]
  by_cases e : j = i
  · subst e
    rw [if_pos rfl, if_pos h, if_pos (by omega), List.getD_eq_getElem?_getD, List.getElem?_eq_getElem h]
    rfl
  · rw [if_neg e]
    by_cases h2 : i < j
    · rw [if_pos h2, if_pos (by omega)]
    · simp only [h2, if_false, show ¬ i < j + 1 from by omega]
theorem mixL_zero (ks : List Int) (by' : Int) : mixL ks by' 0 = List.replicate ks.length (.int .i64 0) := by simp [mixL]
theorem mixL_end (ks : List Int) (by' : Int) : mixL ks by' ks.length = ks.map (fun k => Value.int .i64 (sumP k by')) := by simp [mixL]

theorem put5_1 {W : World} {R : Nat} {x0 x1 x2 x3 x4 : Value} (h : W.heap[R]? = some (.cells #[x0, x1, x2, x3, x4] 29)) (y : Value) : (W.setCell ⟨R, 1, none⟩ y).heap[R]? = some (.cells #[x0, y, x2, x3, x4] 29) := by
  simp [World.setCell, Array.getElem?_modify, h]
theorem put5_3 {W : World} {R : Nat} {x0 x1 x2 x3 x4 : Value} (h : W.heap[R]? = some (.cells #[x0, x1, x2, x3, x4] 29)) (y : Value) : (W.setCell ⟨R, 3, none⟩ y).heap[R]? = some (.cells #[x0, x1, x2, y, x4] 29) := by
  simp [World.setCell, Array.getElem?_modify, h]
theorem cells5 {W : World} {R : Nat} {x0 x1 x2 x3 x4 : Value} (h : W.heap[R]? = some (.cells #[x0, x1, x2, x3, x4] 29)) : W.cell? ⟨R, 0, none⟩ = some x0 ∧ W.cell? ⟨R, 1, none⟩ = some x1 ∧ W.cell? ⟨R, 2, none⟩ = some x2 ∧ W.cell? ⟨R, 3, none⟩ = some x3 ∧ W.cell? ⟨R, 4, none⟩ = some x4 := by
  refine ⟨?_, ?_, ?_, ?_, ?_⟩ <;> rw [Lib.cell_of_heap h] <;> rfl
theorem frozen_at {W : World} {B : Nat} {C : Array Value} {t : TypeId} (h : W.heap[B]? = some (.cells C t (0, 0))) (j : Nat) : W.frozen? ⟨B, j, none⟩ = false := by simp [World.frozen?, h]
theorem own_kids {W : World} {B g n : Nat} {xs : List Value} (h : W.ownsRow B 3 1 (.slice (some ⟨g, 0, none⟩) n n) n xs) : ∃ cur, W.heap[g]? = some (.cells cur 3 (0, 0)) ∧ ∀ j, j < n → cur[j]? = xs[j]? := by
  rcases h.2 with ⟨h', _⟩ | ⟨g', cap', cur, h', _, hg, _, _, _, htake⟩
  · simp at h'
  · simp only [Value.slice.injEq, Option.some.injEq, Addr.mk.injEq, and_true, true_and] at h'
    obtain ⟨rfl, rfl⟩ := h'
    refine ⟨cur, hg, fun j hj => ?_⟩
    rw [← htake, List.getElem?_take, if_pos (by omega)]
    simp
theorem setCell_size {w w' : World} {a : Addr} {v : Value} (h : w.setCell a v = w') : w'.heap.size = w.heap.size := by subst h; simp [World.setCell]
theorem two_sets {w5 w6 w7 : World} {X : Nat} {y1 y3 : Value} (h6 : w5.setCell ⟨X, 1, none⟩ y1 = w6) (h7 : w6.setCell ⟨X, 3, none⟩ y3 = w7) : w7.os = w5.os ∧ w7.tape = w5.tape ∧ w7.output = w5.output ∧ w7.heap.size = w5.heap.size ∧ ∀ k, k ≠ X → w7.heap[k]? = w5.heap[k]? := by
  subst h6 h7
  refine ⟨rfl, rfl, rfl, by simp [World.setCell], fun k hk => ?_⟩
  rw [Below.heap_setCell _ _ _ _ hk, Below.heap_setCell _ _ _ _ hk]
theorem grown7 {w0 wr w5 w6 w7 : World} {y1 y3 : Value} (hg : w0.grownBy wr none) (hB5 : Below wr.heap.size wr w5) (h6 : w5.setCell ⟨w0.heap.size, 1, none⟩ y1 = w6) (h7 : w6.setCell ⟨w0.heap.size, 3, none⟩ y3 = w7) : w0.grownBy w7 none ∧ w7.heap.size = w5.heap.size ∧ ∀ k, k < wr.heap.size → k ≠ w0.heap.size → w7.heap[k]? = wr.heap[k]? := by
  obtain ⟨a, b, c, d, e⟩ := two_sets h6 h7
  have hk : ∀ k, k < wr.heap.size → k ≠ w0.heap.size → w7.heap[k]? = wr.heap[k]? := fun k hk hne => (e k hne).trans (hB5.block k hk)
  have z0 := hg.size
  have z5 := hB5.size
  exact ⟨⟨a.trans (hB5.os.trans hg.os), b.trans (hB5.tape.trans hg.tape), c.trans (hB5.output.trans hg.output), by omega, fun k h _ => (hk k (by omega) (by omega)).trans (hg.block k h (by simp))⟩, d, hk⟩
/-- Nothing that lay there has turned but for the row v; the row v' is v's or new. -/
def Far (W : World) (v : Value) (w' : World) (v' : Value) : Prop := (∀ k, k < W.heap.size → some k ≠ v.ownBlock → w'.heap[k]? = W.heap[k]?) ∧ (v'.ownBlock = v.ownBlock ∨ ∀ k, v'.ownBlock = some k → W.heap.size ≤ k) ∧ W.heap.size ≤ w'.heap.size
/-- Kids that lie in new rows. -/
def NewK (W : World) (es : List NE) : Prop := ∀ y ∈ es, ∃ kb, y.a = some ⟨kb, 0, none⟩ ∧ W.heap.size ≤ kb
/-- What lay answers. -/
def LayQ (B : Nat) (v : Value) (es : List NE) (ns : List Nd) (by' : Int) (W : World) (e : Ending) (w' : World) : Prop := ∃ v' es', e = .returned v' ∧ es'.map NE.x = ns.map (shN by') ∧ OwnN w' B v' (es ++ es') ∧ Below B W w' ∧ Far W v w' v' ∧ NewK W es'
set_option maxRecDepth 100000 in
set_option maxHeartbeats 4000000 in
theorem lay_any (B : Nat) (v nv : Value) (es : List NE) (ns : List Nd) (by' : Int) (M : Nat) (W : World) (hB : B ≤ W.heap.size) (hMB : M ≤ B) (hO : OwnN W B v es) (hN : Nodes W M nv ns) (hby : -2199023255552 ≤ by' ∧ by' ≤ 2199023255552) (hlen : es.length + ns.length ≤ 2199023255552) :
    Calls Tryz.prog 42 #[v, nv, .int .i64 by'] W (LayQ B v es ns by' W) := by
  obtain ⟨i0, hi, hz0, hz1, hz2⟩ := info_parts infoNode
  obtain ⟨j0, hj, hy0, hy1, hy2⟩ := info_parts infoInt
  have HO := hide hO
  have HN := hide hN
  obtain ⟨va, vc, rfl, _, _⟩ := hN.len
  clear hO hN
  go_enter Tryz.func42, Tryz.ntmps42
  go_wp2
  go_loopw [0, 14] (fun t0 t14 wr => ∃ (i : Nat) (es' : List NE), i ≤ ns.length ∧ t14 = .int .i64 (i : Int) ∧ es'.map NE.x = (ns.take i).map (shN by') ∧ OwnN wr B t0 (es ++ es') ∧ Below B W wr ∧ Far W v wr t0 ∧ NewK W es') (fun _ t14 _ => ns.length - (intOf t14).toNat)
  case atStart => exact ⟨0, [], Nat.zero_le _, rfl, rfl, by simpa using unhide HO, Below.refl _ _, ⟨fun _ _ _ => rfl, .inl rfl, Nat.le_refl _⟩, fun y hy => by cases hy⟩
  case round =>
    obtain ⟨i, es', hil, rfl, hmap, hown, hBr, hfar, hnk⟩ := hrel
    have HNK := hide hnk
    clear hnk
    obtain ⟨w0, hw0⟩ : ∃ w0, w0 = wr := ⟨_, rfl⟩
    subst hw0
    have HMAP := hide hmap
    have HOWN := hide hown
    have hel : es'.length = i := by have := congrArg List.length hmap; simpa [Nat.min_eq_left hil] using this
    have HFAR := hide hfar
    clear hmap hown hfar
    by_cases hlt : i < ns.length
    · have hlt' : (i : Int) < ns.length := by omega
      obtain ⟨b, o, cap', ka, kc, hv, _, _, hb, d0, d1, d2, d3, d4, hkc, hkm, hK⟩ := ((unhide HN).keep hBr hMB).at hlt
      obtain ⟨rfl, rfl⟩ : va = some ⟨b, o, none⟩ ∧ cap' = vc := by injection hv with h1 _ h3; exact ⟨h1, h3.symm⟩
      obtain ⟨hts, hks⟩ := (unhide HN).2.1 i hlt
      have hbr : b < w0.heap.size := by have := hBr.size; omega
      have HK := hide hK
      obtain ⟨x, hnd⟩ : ∃ x, nd ns i = x := ⟨_, rfl⟩
      rw [hnd] at d0 d1 d2 d3 d4 hkc HK hts hks
      have HND := hide hnd
      obtain ⟨kd, tx, nm, ks, at'⟩ := x
      simp only at d0 d1 d2 d3 d4 hkc HK hts hks
      have hbs := hBr.size
      clear hv hK hnd
      go_wp2_with (at_make; refine wpList_make_full _ rfl _ _ 27 rfl B 3 j0 (.int .i64 0) 1 Tryz.underlying27 hj hy0 hy1 .i64 .i64 (ks.length : Int) (ks.length : Int) ks.length rfl rfl rfl rfl ?m1 ?m2 ?m3 ?_)
      case m1 => rw [hy2]; omega
      case m2 => unfold maxLen; omega
      case m3 => simp; omega
      intro w3 hown3 hg3
      have hB3 : Below B W w3 := (hBr.alloc (by omega) _).grown hg3 (by simp; omega) (fun k hk => by cases hk)
      have hX3 : w3.heap[w0.heap.size]? = some (.cells #[.int .i64 kd, .string tx, .int .i64 nm, .slice ka ks.length kc, .int .i64 at'] 29) := (hg3.block _ (by simp) (by simp)).trans (World.alloc_heap_new w0 _)
      have hgw : w0.grownBy w3 none := ⟨hg3.os, hg3.tape, hg3.output, by have := hg3.size; simp at this; omega, fun k hk _ => (hg3.block k (by simp; omega) (by simp)).trans (Below.heap_alloc w0 _ k hk)⟩
      have hz3 : w0.heap.size + 1 < w3.heap.size := (hown3.lt (w0.heap.size + 1) (by simp [Value.ownBlock])).2
      have c3 : w3.cell? ⟨w0.heap.size, 3, none⟩ = some (.slice ka ks.length kc) := by rw [Lib.cell_of_heap hX3]; rfl
      have e0 : (madeCells #[Value.int .i64 0] ks.length).toList = mixL ks by' 0 := by rw [mixL_zero]; exact toList_madeCells_one _ _
      rw [e0] at hown3
      have HO3 := hide hown3
      have HX3 := hide hX3
      have HG3 := hide hgw
      clear hown3 hX3 hg3 hgw e0 d0 d1 d2 d3 d4
      go_wp2
      go_loopw [25] (fun t25 wq => ∃ j : Nat, j ≤ ks.length ∧ t25 = .int .i64 (j : Int) ∧ wq.ownsRow B 3 1 (.slice (some ⟨w0.heap.size + 1, 0, none⟩) ks.length ks.length) ks.length (mixL ks by' j) ∧ w3.grownBy wq (some (w0.heap.size + 1))) (fun t25 _ => ks.length - (intOf t25).toNat)
      case atStart => exact ⟨0, Nat.zero_le _, rfl, unhide HO3, ⟨rfl, rfl, rfl, Nat.le_refl _, fun _ _ _ => rfl⟩⟩
      case round =>
        obtain ⟨j, hjl, rfl, hownj, hgj⟩ := hrel
        have HOJ := hide hownj
        have hB4 : Below B W wr := hB3.grown hgj (by have := hB3.size; omega) (fun k hk => by simp at hk; omega)
        clear hownj
        by_cases hjlt : j < ks.length
        · have hjlt' : (j : Int) < ks.length := by omega
          rcases unhide HK with hkk | ⟨kb, ko, rfl, hkb, hkc0⟩
          · subst hkk; simp at hjlt
          obtain ⟨k0, hk0⟩ : ∃ k0, ks.getD j 0 = k0 := ⟨_, rfl⟩
          have dk := hkc0 j hjlt
          rw [hk0] at dk
          have hkw : kb < w0.heap.size := by omega
          have dk3 := (((unhide HG3).block kb hkw (by simp)))
          have dkr : wr.cell? ⟨kb, ko + j, none⟩ = some (.int .i64 k0) := by
            refine (World.cell?_of_block (w := w0) ?_).trans dk
            exact (hgj.block kb (by omega) (by simp; omega)).trans dk3
          have cj : wr.cell? ⟨w0.heap.size + 1, j, none⟩ = some ((mixL ks by' j)[j]'(by rw [mixL_len _ _ _ hjl]; exact hjlt)) := by
            rw [(unhide HOJ).cellAt j (by omega), List.getElem?_eq_getElem]
          have fj : wr.frozen? ⟨w0.heap.size + 1, j, none⟩ = false := (unhide HOJ).frozenAt j
          have hzr : w0.heap.size + 1 < wr.heap.size := by have := hgj.size; omega
          obtain ⟨hst, hgr⟩ := (unhide HOJ).stored j (.int .i64 (sumP k0 by'))
          rw [← hk0, mixL_set _ _ _ hjlt, hk0] at hst
          obtain ⟨wn, hwn⟩ : ∃ wn, wr.setCell ⟨w0.heap.size + 1, j, none⟩ (.int .i64 (sumP k0 by')) = wn := ⟨_, rfl⟩
          rw [hwn] at hst hgr
          have HST := hide hst
          have HGR := hide hgr
          generalize (mixL ks by' j)[j]'(by rw [mixL_len _ _ _ hjl]; exact hjlt) = cv at cj
          clear hst hgr dk3 dk hkc0 hk0
          go_wp2_with (go_at_call 52; refine (sum_any k0 by' (by omega) _).mono ?_; rintro e w9 ⟨rfl, rfl⟩)
          refine ⟨⟨j + 1, by omega, by go_num, unhide HST, ?_⟩, by simp [intOf]; omega⟩
          have hgr := unhide HGR
          exact ⟨hgr.os.trans hgj.os, hgr.tape.trans hgj.tape, hgr.output.trans hgj.output, Nat.le_trans hgj.size hgr.size, fun k hk hne => (hgr.block k (by have := hgj.size; omega) hne).trans (hgj.block k hk hne)⟩
        · have hjlt' : ¬ (j : Int) < ks.length := by omega
          obtain rfl : j = ks.length := by omega
          have hXr : wr.heap[w0.heap.size]? = some (.cells #[.int .i64 kd, .string tx, .int .i64 nm, .slice ka ks.length kc, .int .i64 at'] 29) := (hgj.block _ (by omega) (by simp)).trans (unhide HX3)
          have cX1 := (cells5 hXr).2.1
          have hg0r : w0.grownBy wr none := ⟨hgj.os.trans (unhide HG3).os, hgj.tape.trans (unhide HG3).tape, hgj.output.trans (unhide HG3).output, Nat.le_trans (unhide HG3).size hgj.size, fun k hk _ => (hgj.block k (by omega) (by simp; omega)).trans ((unhide HG3).block k hk (by simp))⟩
          have hszr : w0.heap.size + 1 < wr.heap.size := by have := hgj.size; omega
          have HXR := hide hXr
          have HG0 := hide hg0r
          clear hXr hg0r
          go_wp2_with (first | (go_at_call 43; refine (clone43 tx _ (by omega)).mono ?_; rintro e w5 ⟨rfl, hB5⟩; have hX5 := (hB5.block w0.heap.size (by omega)).trans (unhide HXR); have cX5 := (cells5 hX5).2.1; have fX5 := frozen_at hX5 1; have hs5 : w0.heap.size < w5.heap.size := by { have := hB5.size; omega }; obtain ⟨w6, hw6⟩ : ∃ w6, w5.setCell ⟨w0.heap.size, 1, none⟩ (.string tx) = w6 := ⟨_, rfl⟩; have hX6 := put5_1 hX5 (.string tx); rw [hw6] at hX6; have cX6 := (cells5 hX6).2.2.2.1; have fX6 := frozen_at hX6 3; have hs6 : w6.heap.size = w5.heap.size := setCell_size hw6; obtain ⟨w7, hw7⟩ : ∃ w7, w6.setCell ⟨w0.heap.size, 3, none⟩ (.slice (some ⟨w0.heap.size + 1, 0, none⟩) ks.length ks.length) = w7 := ⟨_, rfl⟩; have hX7 := put5_3 hX6 (.slice (some ⟨w0.heap.size + 1, 0, none⟩) ks.length ks.length); rw [hw7] at hX7; obtain ⟨g0, g1, g2, g3, g4⟩ := cells5 hX7; have hs7 : w7.heap.size = w6.heap.size := setCell_size hw7; have hs6' : w0.heap.size < w6.heap.size := (by omega); have hs7' : w0.heap.size < w7.heap.size := (by omega); have HW6 := hide hw6; have HW7 := hide hw7; have HX7 := hide hX7; have hg7 := grown7 (unhide HG0) hB5 hw6 hw7; have HGG := hide hg7.1; have HZ7 := hide hg7.2.1; have HG7 := hide hg7.2.2; clear hg7; have HO7 := hide ((unhide HOWN).1.kept (row := none) (unhide HGG) (by cases e : u0.ownBlock <;> simp)); have HB5 := hide hB5; clear hX5 hX6 hX7 hB5 hs6 hs7) | (at_builtin; refine wpList_append_lies _ rfl _ _ 22 rfl B 29 i0 _ 5 64 Tryz.underlying22 hi hz0 hz1 hz2 rfl (by decide) _ _ _ rfl ((unhide HO7).alloc _) ⟨w7.heap.size, 0, none⟩ 1 1 (cellN ⟨shN by' ⟨kd, tx, nm, ks, at'⟩, some ⟨w0.heap.size + 1, 0, none⟩, ks.length⟩) rfl rfl ?c1 ?c2 (by decide) ?c3 ?c4 ?c5 _ rfl ?_))
          case c1 =>
            intro j u hj
            rw [Addr.add_lit, Nat.zero_add, World.cell?_alloc_mark]
            rw [← hj]; simp [cellN, shN]
          case c2 => intro u hu; simp [cellN, shN] at hu; rcases hu with rfl | rfl | rfl | rfl | rfl <;> rfl
          case c3 => unfold maxLen; simp; omega
          case c4 => simp; omega
          case c5 => simp; omega
          intro g8 cap8 w8 hown8 hg8 hat8 hlt8
          obtain ⟨v', hv'⟩ : ∃ v', Value.slice (some ⟨g8, 0, none⟩) (es.length + i + 1) cap8 = v' := ⟨_, rfl⟩
          have hob : v'.ownBlock = some g8 := by rw [← hv']; rfl
          rw [hv'] at hown8 ⊢
          have hlu : ∀ k, u0.ownBlock = some k → k < w0.heap.size := fun k hk => ((unhide HOWN).1.lt k hk).2
          have hg08 : ∀ k, k < w0.heap.size → some k ≠ u0.ownBlock → w8.heap[k]? = w0.heap[k]? := fun k hk hne => (hg8.block k (by simp; omega) hne).trans ((Below.heap_alloc _ _ _ (by omega)).trans ((unhide HGG).block k hk (by simp)))
          have hk8 : w8.heap[w0.heap.size + 1]? = wr.heap[w0.heap.size + 1]? := by
            have z7 := unhide HZ7
            have z5 := (unhide HB5).size
            refine (hg8.block _ (by simp; omega) (fun e => ?_)).trans ((Below.heap_alloc _ _ _ (by omega)).trans (unhide HG7 _ (by omega) (by omega)))
            have := hlu _ e.symm
            omega
          obtain ⟨cur, hcur, hcj⟩ := own_kids (unhide HOJ)
          have hB8 : Below B W w8 := by
            have gg := unhide HGG
            refine ⟨hg8.os.trans (gg.os.trans hBr.os), hg8.tape.trans (gg.tape.trans hBr.tape), hg8.output.trans (gg.output.trans hBr.output), ?_, fun k hk => ?_⟩
            · have := hg8.size; have := gg.size; simp at *; omega
            · refine (hg08 k (by omega) (fun e => ?_)).trans (hBr.block k hk)
              have := ((unhide HOWN).1.lt k e.symm).1
              omega
          have HF8 : Hid (Far W v w8 v') := by
            obtain ⟨f1, f2, f3⟩ := unhide HFAR
            have z8 := hg8.size
            have z7 := (unhide HGG).size
            simp at z8
            refine ⟨fun k hk hne => ?_, ?_, by omega⟩
            · refine (hg08 k (by omega) (fun e => ?_)).trans (f1 k hk hne)
              rcases f2 with f2 | f2
              · exact hne (e.trans f2)
              · have := f2 k e.symm
                omega
            · rcases hat8 with h | h
              · rcases f2 with f2 | f2
                · exact .inl (hob.trans (h.symm.trans f2))
                · exact .inr fun k hk => f2 k (h.trans (hob.symm.trans hk))
              · refine .inr fun k hk => ?_
                have e : k = g8 := by rw [hob] at hk; simpa using hk.symm
                rw [e, h]
                simp
                omega
          have HO8 : Hid (OwnN w8 B v' (es ++ (es' ++ [⟨shN by' ⟨kd, tx, nm, ks, at'⟩, some ⟨w0.heap.size + 1, 0, none⟩, ks.length⟩]))) := by
            refine ⟨?_, fun y hy => ?_⟩
            · rw [← List.append_assoc, flatN_snoc]
              have : (es ++ es' ++ [(⟨shN by' ⟨kd, tx, nm, ks, at'⟩, some ⟨w0.heap.size + 1, 0, none⟩, ks.length⟩ : NE)]).length = es.length + i + 1 := by simp; omega
              rw [this]
              exact hown8
            · rw [← List.append_assoc, List.mem_append, List.mem_singleton] at hy
              rcases hy with hy | rfl
              · refine ((unhide HOWN).2 y hy).keep fun k cur' hk => hg08 k (Array.getElem?_eq_some_iff.1 hk).1 fun e => ?_
                rcases (unhide HOWN).1.2 with ⟨h, _⟩ | ⟨g', cap'', cur'', h, _, hh, _⟩
                · rw [h] at e; cases e
                · rw [h] at e
                  simp only [Value.ownBlock, Option.some.injEq] at e
                  rw [e, hh] at hk
                  simp at hk
              · refine ⟨by simp [shN], by simp; unfold maxLen; omega, ?_⟩
                by_cases h0 : ks = []
                · exact .inl (by simp [shN, h0])
                · refine .inr ⟨w0.heap.size + 1, cur, rfl, by omega, hk8.trans hcur, fun j hj => ?_⟩
                  have hj' : j < ks.length := by simpa [shN] using hj
                  rw [hcj j hj', mixL_end]
                  simp [shN, hj']
          have HK8 : Hid (NewK W (es' ++ [⟨shN by' ⟨kd, tx, nm, ks, at'⟩, some ⟨w0.heap.size + 1, 0, none⟩, ks.length⟩])) := fun y hy => by
            rw [List.mem_append, List.mem_singleton] at hy
            rcases hy with hy | rfl
            · exact unhide HNK y hy
            · exact ⟨w0.heap.size + 1, rfl, by have := (unhide HFAR).2.2; omega⟩
          have HM8 : Hid ((es' ++ [(⟨shN by' ⟨kd, tx, nm, ks, at'⟩, some ⟨w0.heap.size + 1, 0, none⟩, ks.length⟩ : NE)]).map NE.x = (ns.take (i + 1)).map (shN by')) := by
            show _ = _
            rw [List.map_append, unhide HMAP, List.take_add_one, List.map_append, List.getElem?_eq_getElem hlt]
            have e := unhide HND
            rw [nd, List.getD_eq_getElem?_getD, List.getElem?_eq_getElem hlt] at e
            simp only [Option.getD_some] at e
            simp [e]
          have hB8' := hide hB8
          clear hown8 hg8 hg08 hk8 hcur hcj hlu hB8 hat8 hlt8 hob hv'
          go_wp2
          exact ⟨⟨i + 1, es' ++ [⟨shN by' ⟨kd, tx, nm, ks, at'⟩, some ⟨w0.heap.size + 1, 0, none⟩, ks.length⟩], by omega, by go_num, unhide HM8, unhide HO8, unhide hB8', unhide HF8, unhide HK8⟩, by simp [intOf]; omega⟩
    · have hlt' : ¬ (i : Int) < ns.length := by omega
      obtain rfl : i = ns.length := by omega
      go_wp2
      go_ret
      exact ⟨_, es', rfl, by have := unhide HMAP; rwa [List.take_length] at this, unhide HOWN, hBr, unhide HFAR, unhide HNK⟩
end Go.Proofs.YtoffpbaddehncaaGreatDoor
