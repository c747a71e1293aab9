/- tree.lay, tree.Make in general. -/
import Derived.Deep.AppendLies
import Derived.Deep.Onto
import Derived.Laws.OwnMore
import Derived.LoopN
import Derived.OwnWalk
import Derived.Shelf.Pu.Clone
import Derived.Test.YtoffpbaddehncaaGreatDoorT1
import Derived.Test.YtoffpbaddehncaaGreatDoorTK
/- tree.sum and strings.Clone. -/
namespace Go.Proofs
open Go.Shelf
def Tryz.clone_ren : Go.Shelf.Ren := ⟨fun | 25 => 53 | n => n, fun | 37 => 81 | 47 => 82 | n => n, fun | n => n⟩
theorem Tryz.clone_lays : Go.Proofs.LaysPu.n25 Tryz.prog Tryz.clone_ren := {
  mixed := by kernel_rfl
  f25 := Tryz.func53.trans (congrArg some (by kernel_rfl))
  t0 := Tryz.underlying0
  a0 := Tryz.isAgg0
  z0 := Tryz.sizeOf0
  v0 := Tryz.zeroValue0
  i0 := by kernel_rfl
  t3 := Tryz.underlying3
  a3 := Tryz.isAgg3
  z3 := Tryz.sizeOf3
  v3 := Tryz.zeroValue3
  i3 := by kernel_rfl
  t4 := Tryz.underlying4
  a4 := Tryz.isAgg4
  z4 := Tryz.sizeOf4
  v4 := Tryz.zeroValue4
  i4 := by kernel_rfl
  t5 := Tryz.underlying5
  a5 := Tryz.isAgg5
  z5 := Tryz.sizeOf5
  v5 := Tryz.zeroValue5
  i5 := by kernel_rfl
  t9 := Tryz.underlying9
  a9 := Tryz.isAgg9
  z9 := Tryz.sizeOf9
  v9 := Tryz.zeroValue9
  i9 := by kernel_rfl
  t37 := Tryz.underlying81
  a37 := Tryz.isAgg81
  z37 := Tryz.sizeOf81
  v37 := Tryz.zeroValue81
  i37 := by kernel_rfl
  t47 := Tryz.underlying82
  a47 := Tryz.isAgg82
  z47 := Tryz.sizeOf82
  v47 := Tryz.zeroValue82
  i47 := by kernel_rfl }
end Go.Proofs
namespace Go.Proofs.YtoffpbaddehncaaGreatDoor
set_option linter.unusedSimpArgs false
set_option linter.unusedVariables false
open Go.RowKit Go.Shelf

theorem clone53 (s : ByteArray) (w : World) (h : s.size ≤ 281474976710656) : Calls Tryz.prog 53 #[.string s] w fun e w' => e = .returned (.string s) ∧ Below w.heap.size w w' :=
  AnyPu.stringslite_Clone Tryz.clone_lays s w h
set_option maxRecDepth 100000 in
set_option maxHeartbeats 1000000 in
theorem clone43 (s : ByteArray) (w : World) (h : s.size ≤ 281474976710656) : Calls Tryz.prog 43 #[.string s] w fun e w' => e = .returned (.string s) ∧ Below w.heap.size w w' := by
  have hh := hide h
  clear h
  go_enter Tryz.func43, Tryz.ntmps43
  go_wp2_with (go_at_call 53; refine (clone53 s _ (unhide hh)).mono ?_; rintro e w1 ⟨rfl, hb⟩)
  go_ret
  exact ⟨rfl, hb⟩

/-- A kid's number moved along. -/
def sumP (k by' : Int) : Int := if by' > 0 ∧ k > 9223372036854775807 - by' then 9223372036854775807 else wrap64 (k + by')
set_option maxRecDepth 100000 in
set_option maxHeartbeats 1000000 in
theorem sum_any (k by' : Int) (hb : -9223372036854775808 ≤ by' ∧ by' ≤ 9223372036854775807) (W : World) : Calls Tryz.prog 52 #[.int .i64 k, .int .i64 by'] W fun e w' => e = .returned (.int .i64 (sumP k by')) ∧ w' = W := by
  by_cases h1 : 0 < by'
  · by_cases h2 : 9223372036854775807 - by' < k
    · have HR : Hid (sumP k by' = 9223372036854775807) := by show sumP k by' = _; simp only [sumP]; rw [if_pos ⟨h1, h2⟩]
      rw [unhide HR]
      go_enter Tryz.func52, Tryz.ntmps52
      go_wp2
      go_ret
      exact ⟨rfl, rfl⟩
    · have h2' : decide (9223372036854775807 - by' < k) = false := by simpa using h2
      have HR : Hid (sumP k by' = wrap64 (k + by')) := by show sumP k by' = _; simp only [sumP]; rw [if_neg (by omega)]
      rw [unhide HR]
      go_enter Tryz.func52, Tryz.ntmps52
      go_wp2
      go_ret
      exact ⟨rfl, rfl⟩
  · have h1' : decide (0 < by') = false := by simpa using h1
    have HR : Hid (sumP k by' = wrap64 (k + by')) := by show sumP k by' = _; simp only [sumP]; rw [if_neg (by omega)]
    rw [unhide HR]
    go_enter Tryz.func52, Tryz.ntmps52
    go_wp2
    go_ret
    exact ⟨rfl, rfl⟩
end Go.Proofs.YtoffpbaddehncaaGreatDoor

/- tree.lay: copies of nodes behind a row of the call's own, their kids moved along. -/
namespace Go.Proofs.YtoffpbaddehncaaGreatDoor
set_option linter.unusedSimpArgs false
set_option linter.unusedVariables false
open Go.RowKit Go.Shelf

theorem infoNode : (Tryz.prog.info? 29).map (fun i => (i.zero, i.size, i.bytes)) = some (some (.agg #[.int .i64 0, .string ⟨#[]⟩, .int .i64 0, .slice none 0 0, .int .i64 0]), 5, 64) := by kernel_rfl
theorem infoInt : (Tryz.prog.info? 3).map (fun i => (i.zero, i.size, i.bytes)) = some (some (.int .i64 0), 1, 8) := by kernel_rfl

/-- A node of the call's own, and where its kids lie. -/
structure NE where
  x : Nd
  a : Option Addr
  cap : Nat
def cellN (e : NE) : List Value := [.int .i64 e.x.kind, .string e.x.text, .int .i64 e.x.num, .slice e.a e.x.kids.length e.cap, .int .i64 e.x.at']
def flatN (es : List NE) : List Value := es.flatMap cellN
theorem flatN_len (es : List NE) : (flatN es).length = es.length * 5 := by
  induction es with
  | nil => rfl
  | cons x es ih => simp only [flatN, List.flatMap_cons, List.length_append, List.length_cons] at ih ⊢; simp only [ih]; simp [cellN]; omega
theorem flatN_snoc (es : List NE) (x : NE) : flatN (es ++ [x]) = flatN es ++ cellN x := by simp [flatN]
theorem flatN_append (es fs : List NE) : flatN (es ++ fs) = flatN es ++ flatN fs := by simp [flatN]
/-- Its kids, in a row of whole numbers of its own. -/
def KidO (W : World) (B : Nat) (e : NE) : Prop := e.x.kids.length ≤ e.cap ∧ e.cap ≤ maxLen ∧ (e.x.kids = [] ∨ ∃ kb cur, e.a = some ⟨kb, 0, none⟩ ∧ B ≤ kb ∧ W.heap[kb]? = some (Obj.cells cur 3 (0, 0)) ∧ ∀ j, j < e.x.kids.length → cur[j]? = some (.int .i64 (e.x.kids.getD j 0)))
theorem KidO.keep {W W' : World} {B : Nat} {e : NE} (h : KidO W B e) (hk : ∀ (k : Nat) (cur : Array Value), W.heap[k]? = some (Obj.cells cur 3 (0, 0)) → W'.heap[k]? = W.heap[k]?) : KidO W' B e := by
  obtain ⟨h1, h2, h3⟩ := h
  refine ⟨h1, h2, ?_⟩
  rcases h3 with h3 | ⟨kb, cur, ha, hb, hh, hc⟩
  · exact .inl h3
  · exact .inr ⟨kb, cur, ha, hb, (hk kb cur hh).trans hh, hc⟩
theorem KidO.below {W W' : World} {B : Nat} {e : NE} (h : KidO W B e) (hB : Below W.heap.size W W') : KidO W' B e :=
  h.keep fun k cur hk => hB.block k (Array.getElem?_eq_some_iff.1 hk).1
/-- A row of nodes of the call's own. -/
def OwnN (W : World) (B : Nat) (v : Value) (es : List NE) : Prop := W.ownsRow B 29 5 v es.length (flatN es) ∧ ∀ e ∈ es, KidO W B e
/-- A node moved along. -/
def shN (by' : Int) (x : Nd) : Nd := { x with kids := x.kids.map fun k => sumP k by' }
/-- A row of kids, so many of them laid. -/
def mixL (ks : List Int) (by' : Int) (j : Nat) : List Value := (ks.take j).map (fun k => Value.int .i64 (sumP k by')) ++ List.replicate (ks.length - j) (.int .i64 0)
theorem mixL_len (ks : List Int) (by' : Int) (j : Nat) (h : j ≤ ks.length) : (mixL ks by' j).length = ks.length := by simp [mixL]; omega
theorem mixL_get (ks : List Int) (by' : Int) (j i : Nat) (h : j ≤ ks.length) : (mixL ks by' j)[i]? = if i < j then (ks[i]?).map (fun k => Value.int .i64 (sumP k by')) else if i < ks.length then some (.int .i64 0) else none := by
  unfold mixL
  have e1 : (List.map (fun k => Value.int IntKind.i64 (sumP k by')) (List.take j ks)).length = j := by simp; omega
  by_cases hi : i < j
  · rw [List.getElem?_append_left (by omega), List.getElem?_map, List.getElem?_take, if_pos hi, if_pos hi]
  · rw [List.getElem?_append_right (by omega), e1, if_neg hi, List.getElem?_replicate]
    by_cases h2 : i < ks.length
    · rw [if_pos (by omega), if_pos h2]
    · rw [if_neg (by omega), if_neg h2]
theorem mixL_set (ks : List Int) (by' : Int) (j : Nat) (h : j < ks.length) : (mixL ks by' j).set j (.int .i64 (sumP (ks.getD j 0) by')) = mixL ks by' (j + 1) := by
  apply List.ext_getElem?
  intro i
  rw [List.getElem?_set, mixL_get _ _ _ _ (by omega), mixL_get _ _ _ _ (by omega), mixL_len _ _ _ (by omega)]
  by_cases e : j = i
  · subst e
    rw [if_pos rfl, if_pos h, if_pos (by omega), List.getD_eq_getElem?_getD, List.getElem?_eq_getElem h]
    rfl
  · rw [if_neg e]
    by_cases h2 : i < j
    · rw [if_pos h2, if_pos (by omega)]
    · simp only [h2, if_false, show ¬ i < j + 1 from by omega]
theorem mixL_zero (ks : List Int) (by' : Int) : mixL ks by' 0 = List.replicate ks.length (.int .i64 0) := by simp [mixL]
theorem mixL_end (ks : List Int) (by' : Int) : mixL ks by' ks.length = ks.map (fun k => Value.int .i64 (sumP k by')) := by simp [mixL]

theorem put5_1 {W : World} {R : Nat} {x0 x1 x2 x3 x4 : Value} (h : W.heap[R]? = some (.cells #[x0, x1, x2, x3, x4] 29)) (y : Value) : (W.setCell ⟨R, 1, none⟩ y).heap[R]? = some (.cells #[x0, y, x2, x3, x4] 29) := by
  simp [World.setCell, Array.getElem?_modify, h]
theorem put5_3 {W : World} {R : Nat} {x0 x1 x2 x3 x4 : Value} (h : W.heap[R]? = some (.cells #[x0, x1, x2, x3, x4] 29)) (y : Value) : (W.setCell ⟨R, 3, none⟩ y).heap[R]? = some (.cells #[x0, x1, x2, y, x4] 29) := by
  simp [World.setCell, Array.getElem?_modify, h]
theorem cells5 {W : World} {R : Nat} {x0 x1 x2 x3 x4 : Value} (h : W.heap[R]? = some (.cells #[x0, x1, x2, x3, x4] 29)) : W.cell? ⟨R, 0, none⟩ = some x0 ∧ W.cell? ⟨R, 1, none⟩ = some x1 ∧ W.cell? ⟨R, 2, none⟩ = some x2 ∧ W.cell? ⟨R, 3, none⟩ = some x3 ∧ W.cell? ⟨R, 4, none⟩ = some x4 := by
  refine ⟨?_, ?_, ?_, ?_, ?_⟩ <;> rw [Lib.cell_of_heap h] <;> rfl
theorem frozen_at {W : World} {B : Nat} {C : Array Value} {t : TypeId} (h : W.heap[B]? = some (.cells C t (0, 0))) (j : Nat) : W.frozen? ⟨B, j, none⟩ = false := by simp [World.frozen?, h]
theorem own_kids {W : World} {B g n : Nat} {xs : List Value} (h : W.ownsRow B 3 1 (.slice (some ⟨g, 0, none⟩) n n) n xs) : ∃ cur, W.heap[g]? = some (.cells cur 3 (0, 0)) ∧ ∀ j, j < n → cur[j]? = xs[j]? := by
  rcases h.2 with ⟨h', _⟩ | ⟨g', cap', cur, h', _, hg, _, _, _, htake⟩
  · simp at h'
  · simp only [Value.slice.injEq, Option.some.injEq, Addr.mk.injEq, and_true, true_and] at h'
    obtain ⟨rfl, rfl⟩ := h'
    refine ⟨cur, hg, fun j hj => ?_⟩
    rw [← htake, List.getElem?_take, if_pos (by omega)]
    simp
theorem setCell_size {w w' : World} {a : Addr} {v : Value} (h : w.setCell a v = w') : w'.heap.size = w.heap.size := by subst h; simp [World.setCell]
theorem two_sets {w5 w6 w7 : World} {X : Nat} {y1 y3 : Value} (h6 : w5.setCell ⟨X, 1, none⟩ y1 = w6) (h7 : w6.setCell ⟨X, 3, none⟩ y3 = w7) : w7.os = w5.os ∧ w7.tape = w5.tape ∧ w7.output = w5.output ∧ w7.heap.size = w5.heap.size ∧ ∀ k, k ≠ X → w7.heap[k]? = w5.heap[k]? := by
  subst h6 h7
  refine ⟨rfl, rfl, rfl, by simp [World.setCell], fun k hk => ?_⟩
  rw [Below.heap_setCell _ _ _ _ hk, Below.heap_setCell _ _ _ _ hk]
theorem grown7 {w0 wr w5 w6 w7 : World} {y1 y3 : Value} (hg : w0.grownBy wr none) (hB5 : Below wr.heap.size wr w5) (h6 : w5.setCell ⟨w0.heap.size, 1, none⟩ y1 = w6) (h7 : w6.setCell ⟨w0.heap.size, 3, none⟩ y3 = w7) : w0.grownBy w7 none ∧ w7.heap.size = w5.heap.size ∧ ∀ k, k < wr.heap.size → k ≠ w0.heap.size → w7.heap[k]? = wr.heap[k]? := by
  obtain ⟨a, b, c, d, e⟩ := two_sets h6 h7
  have hk : ∀ k, k < wr.heap.size → k ≠ w0.heap.size → w7.heap[k]? = wr.heap[k]? := fun k hk hne => (e k hne).trans (hB5.block k hk)
  have z0 := hg.size
  have z5 := hB5.size
  exact ⟨⟨a.trans (hB5.os.trans hg.os), b.trans (hB5.tape.trans hg.tape), c.trans (hB5.output.trans hg.output), by omega, fun k h _ => (hk k (by omega) (by omega)).trans (hg.block k h (by simp))⟩, d, hk⟩
/-- Nothing that lay there has turned but for the row v; the row v' is v's or new. -/
def Far (W : World) (v : Value) (w' : World) (v' : Value) : Prop := (∀ k, k < W.heap.size → some k ≠ v.ownBlock → w'.heap[k]? = W.heap[k]?) ∧ (v'.ownBlock = v.ownBlock ∨ ∀ k, v'.ownBlock = some k → W.heap.size ≤ k) ∧ W.heap.size ≤ w'.heap.size
/-- Kids that lie in new rows. -/
def NewK (W : World) (es : List NE) : Prop := ∀ y ∈ es, ∃ kb, y.a = some ⟨kb, 0, none⟩ ∧ W.heap.size ≤ kb
/-- What lay answers. -/
def LayQ (B : Nat) (v : Value) (es : List NE) (ns : List Nd) (by' : Int) (W : World) (e : Ending) (w' : World) : Prop := ∃ v' es', e = .returned v' ∧ es'.map NE.x = ns.map (shN by') ∧ OwnN w' B v' (es ++ es') ∧ Below B W w' ∧ Far W v w' v' ∧ NewK W es'
set_option maxRecDepth 100000 in
set_option maxHeartbeats 4000000 in
theorem lay_any (B : Nat) (v nv : Value) (es : List NE) (ns : List Nd) (by' : Int) (M : Nat) (W : World) (hB : B ≤ W.heap.size) (hMB : M ≤ B) (hO : OwnN W B v es) (hN : Nodes W M nv ns) (hby : -2199023255552 ≤ by' ∧ by' ≤ 2199023255552) (hlen : es.length + ns.length ≤ 2199023255552) :
    Calls Tryz.prog 42 #[v, nv, .int .i64 by'] W (LayQ B v es ns by' W) := by
  obtain ⟨i0, hi, hz0, hz1, hz2⟩ := info_parts infoNode
  obtain ⟨j0, hj, hy0, hy1, hy2⟩ := info_parts infoInt
  have HO := hide hO
  have HN := hide hN
  obtain ⟨va, vc, rfl, _, _⟩ := hN.len
  clear hO hN
  go_enter Tryz.func42, Tryz.ntmps42
  go_wp2
  go_loopw [0, 14] (fun t0 t14 wr => ∃ (i : Nat) (es' : List NE), i ≤ ns.length ∧ t14 = .int .i64 (i : Int) ∧ es'.map NE.x = (ns.take i).map (shN by') ∧ OwnN wr B t0 (es ++ es') ∧ Below B W wr ∧ Far W v wr t0 ∧ NewK W es') (fun _ t14 _ => ns.length - (intOf t14).toNat)
  case atStart => exact ⟨0, [], Nat.zero_le _, rfl, rfl, by simpa using unhide HO, Below.refl _ _, ⟨fun _ _ _ => rfl, .inl rfl, Nat.le_refl _⟩, fun y hy => by cases hy⟩
  case round =>
    obtain ⟨i, es', hil, rfl, hmap, hown, hBr, hfar, hnk⟩ := hrel
    have HNK := hide hnk
    clear hnk
    obtain ⟨w0, hw0⟩ : ∃ w0, w0 = wr := ⟨_, rfl⟩
    subst hw0
    have HMAP := hide hmap
    have HOWN := hide hown
    have hel : es'.length = i := by have := congrArg List.length hmap; simpa [Nat.min_eq_left hil] using this
    have HFAR := hide hfar
    clear hmap hown hfar
    by_cases hlt : i < ns.length
    · have hlt' : (i : Int) < ns.length := by omega
      obtain ⟨b, o, cap', ka, kc, hv, _, _, hb, d0, d1, d2, d3, d4, hkc, hkm, hK⟩ := ((unhide HN).keep hBr hMB).at hlt
      obtain ⟨rfl, rfl⟩ : va = some ⟨b, o, none⟩ ∧ cap' = vc := by injection hv with h1 _ h3; exact ⟨h1, h3.symm⟩
      obtain ⟨hts, hks⟩ := (unhide HN).2.1 i hlt
      have hbr : b < w0.heap.size := by have := hBr.size; omega
      have HK := hide hK
      obtain ⟨x, hnd⟩ : ∃ x, nd ns i = x := ⟨_, rfl⟩
      rw [hnd] at d0 d1 d2 d3 d4 hkc HK hts hks
      have HND := hide hnd
      obtain ⟨kd, tx, nm, ks, at'⟩ := x
      simp only at d0 d1 d2 d3 d4 hkc HK hts hks
      have hbs := hBr.size
      clear hv hK hnd
      go_wp2_with (at_make; refine wpList_make_full _ rfl _ _ 27 rfl B 3 j0 (.int .i64 0) 1 Tryz.underlying27 hj hy0 hy1 .i64 .i64 (ks.length : Int) (ks.length : Int) ks.length rfl rfl rfl rfl ?m1 ?m2 ?m3 ?_)
      case m1 => rw [hy2]; omega
      case m2 => unfold maxLen; omega
      case m3 => simp; omega
      intro w3 hown3 hg3
      have hB3 : Below B W w3 := (hBr.alloc (by omega) _).grown hg3 (by simp; omega) (fun k hk => by cases hk)
      have hX3 : w3.heap[w0.heap.size]? = some (.cells #[.int .i64 kd, .string tx, .int .i64 nm, .slice ka ks.length kc, .int .i64 at'] 29) := (hg3.block _ (by simp) (by simp)).trans (World.alloc_heap_new w0 _)
      have hgw : w0.grownBy w3 none := ⟨hg3.os, hg3.tape, hg3.output, by have := hg3.size; simp at this; omega, fun k hk _ => (hg3.block k (by simp; omega) (by simp)).trans (Below.heap_alloc w0 _ k hk)⟩
      have hz3 : w0.heap.size + 1 < w3.heap.size := (hown3.lt (w0.heap.size + 1) (by simp [Value.ownBlock])).2
      have c3 : w3.cell? ⟨w0.heap.size, 3, none⟩ = some (.slice ka ks.length kc) := by rw [Lib.cell_of_heap hX3]; rfl
      have e0 : (madeCells #[Value.int .i64 0] ks.length).toList = mixL ks by' 0 := by rw [mixL_zero]; exact toList_madeCells_one _ _
      rw [e0] at hown3
      have HO3 := hide hown3
      have HX3 := hide hX3
      have HG3 := hide hgw
      clear hown3 hX3 hg3 hgw e0 d0 d1 d2 d3 d4
      go_wp2
      go_loopw [25] (fun t25 wq => ∃ j : Nat, j ≤ ks.length ∧ t25 = .int .i64 (j : Int) ∧ wq.ownsRow B 3 1 (.slice (some ⟨w0.heap.size + 1, 0, none⟩) ks.length ks.length) ks.length (mixL ks by' j) ∧ w3.grownBy wq (some (w0.heap.size + 1))) (fun t25 _ => ks.length - (intOf t25).toNat)
      case atStart => exact ⟨0, Nat.zero_le _, rfl, unhide HO3, ⟨rfl, rfl, rfl, Nat.le_refl _, fun _ _ _ => rfl⟩⟩
      case round =>
        obtain ⟨j, hjl, rfl, hownj, hgj⟩ := hrel
        have HOJ := hide hownj
        have hB4 : Below B W wr := hB3.grown hgj (by have := hB3.size; omega) (fun k hk => by simp at hk; omega)
        clear hownj
        by_cases hjlt : j < ks.length
        · have hjlt' : (j : Int) < ks.length := by omega
          rcases unhide HK with hkk | ⟨kb, ko, rfl, hkb, hkc0⟩
          · subst hkk; simp at hjlt
          obtain ⟨k0, hk0⟩ : ∃ k0, ks.getD j 0 = k0 := ⟨_, rfl⟩
          have dk := hkc0 j hjlt
          rw [hk0] at dk
          have hkw : kb < w0.heap.size := by omega
          have dk3 := (((unhide HG3).block kb hkw (by simp)))
          have dkr : wr.cell? ⟨kb, ko + j, none⟩ = some (.int .i64 k0) := by
            refine (World.cell?_of_block (w := w0) ?_).trans dk
            exact (hgj.block kb (by omega) (by simp; omega)).trans dk3
          have cj : wr.cell? ⟨w0.heap.size + 1, j, none⟩ = some ((mixL ks by' j)[j]'(by rw [mixL_len _ _ _ hjl]; exact hjlt)) := by
            rw [(unhide HOJ).cellAt j (by omega), List.getElem?_eq_getElem]
          have fj : wr.frozen? ⟨w0.heap.size + 1, j, none⟩ = false := (unhide HOJ).frozenAt j
          have hzr : w0.heap.size + 1 < wr.heap.size := by have := hgj.size; omega
          obtain ⟨hst, hgr⟩ := (unhide HOJ).stored j (.int .i64 (sumP k0 by'))
          rw [← hk0, mixL_set _ _ _ hjlt, hk0] at hst
          obtain ⟨wn, hwn⟩ : ∃ wn, wr.setCell ⟨w0.heap.size + 1, j, none⟩ (.int .i64 (sumP k0 by')) = wn := ⟨_, rfl⟩
          rw [hwn] at hst hgr
          have HST := hide hst
          have HGR := hide hgr
          generalize (mixL ks by' j)[j]'(by rw [mixL_len _ _ _ hjl]; exact hjlt) = cv at cj
          clear hst hgr dk3 dk hkc0 hk0
          go_wp2_with (go_at_call 52; refine (sum_any k0 by' (by omega) _).mono ?_; rintro e w9 ⟨rfl, rfl⟩)
          refine ⟨⟨j + 1, by omega, by go_num, unhide HST, ?_⟩, by simp [intOf]; omega⟩
          have hgr := unhide HGR
          exact ⟨hgr.os.trans hgj.os, hgr.tape.trans hgj.tape, hgr.output.trans hgj.output, Nat.le_trans hgj.size hgr.size, fun k hk hne => (hgr.block k (by have := hgj.size; omega) hne).trans (hgj.block k hk hne)⟩
        · have hjlt' : ¬ (j : Int) < ks.length := by omega
          obtain rfl : j = ks.length := by omega
          have hXr : wr.heap[w0.heap.size]? = some (.cells #[.int .i64 kd, .string tx, .int .i64 nm, .slice ka ks.length kc, .int .i64 at'] 29) := (hgj.block _ (by omega) (by simp)).trans (unhide HX3)
          have cX1 := (cells5 hXr).2.1
          have hg0r : w0.grownBy wr none := ⟨hgj.os.trans (unhide HG3).os, hgj.tape.trans (unhide HG3).tape, hgj.output.trans (unhide HG3).output, Nat.le_trans (unhide HG3).size hgj.size, fun k hk _ => (hgj.block k (by omega) (by simp; omega)).trans ((unhide HG3).block k hk (by simp))⟩
          have hszr : w0.heap.size + 1 < wr.heap.size := by have := hgj.size; omega
          have HXR := hide hXr
          have HG0 := hide hg0r
          clear hXr hg0r
          go_wp2_with (first | (go_at_call 43; refine (clone43 tx _ (by omega)).mono ?_; rintro e w5 ⟨rfl, hB5⟩; have hX5 := (hB5.block w0.heap.size (by omega)).trans (unhide HXR); have cX5 := (cells5 hX5).2.1; have fX5 := frozen_at hX5 1; have hs5 : w0.heap.size < w5.heap.size := by { have := hB5.size; omega }; obtain ⟨w6, hw6⟩ : ∃ w6, w5.setCell ⟨w0.heap.size, 1, none⟩ (.string tx) = w6 := ⟨_, rfl⟩; have hX6 := put5_1 hX5 (.string tx); rw [hw6] at hX6; have cX6 := (cells5 hX6).2.2.2.1; have fX6 := frozen_at hX6 3; have hs6 : w6.heap.size = w5.heap.size := setCell_size hw6; obtain ⟨w7, hw7⟩ : ∃ w7, w6.setCell ⟨w0.heap.size, 3, none⟩ (.slice (some ⟨w0.heap.size + 1, 0, none⟩) ks.length ks.length) = w7 := ⟨_, rfl⟩; have hX7 := put5_3 hX6 (.slice (some ⟨w0.heap.size + 1, 0, none⟩) ks.length ks.length); rw [hw7] at hX7; obtain ⟨g0, g1, g2, g3, g4⟩ := cells5 hX7; have hs7 : w7.heap.size = w6.heap.size := setCell_size hw7; have hs6' : w0.heap.size < w6.heap.size := (by omega); have hs7' : w0.heap.size < w7.heap.size := (by omega); have HW6 := hide hw6; have HW7 := hide hw7; have HX7 := hide hX7; have hg7 := grown7 (unhide HG0) hB5 hw6 hw7; have HGG := hide hg7.1; have HZ7 := hide hg7.2.1; have HG7 := hide hg7.2.2; clear hg7; have HO7 := hide ((unhide HOWN).1.kept (row := none) (unhide HGG) (by cases e : u0.ownBlock <;> simp)); have HB5 := hide hB5; clear hX5 hX6 hX7 hB5 hs6 hs7) | (at_builtin; refine wpList_append_lies _ rfl _ _ 22 rfl B 29 i0 _ 5 64 Tryz.underlying22 hi hz0 hz1 hz2 rfl (by decide) _ _ _ rfl ((unhide HO7).alloc _) ⟨w7.heap.size, 0, none⟩ 1 1 (cellN ⟨shN by' ⟨kd, tx, nm, ks, at'⟩, some ⟨w0.heap.size + 1, 0, none⟩, ks.length⟩) rfl rfl ?c1 ?c2 (by decide) ?c3 ?c4 ?c5 _ rfl ?_))
          case c1 =>
            intro j u hj
            rw [Addr.add_lit, Nat.zero_add, World.cell?_alloc_mark]
            rw [← hj]; simp [cellN, shN]
          case c2 => intro u hu; simp [cellN, shN] at hu; rcases hu with rfl | rfl | rfl | rfl | rfl <;> rfl
          case c3 => unfold maxLen; simp; omega
          case c4 => simp; omega
          case c5 => simp; omega
          intro g8 cap8 w8 hown8 hg8 hat8 hlt8
          obtain ⟨v', hv'⟩ : ∃ v', Value.slice (some ⟨g8, 0, none⟩) (es.length + i + 1) cap8 = v' := ⟨_, rfl⟩
          have hob : v'.ownBlock = some g8 := by rw [← hv']; rfl
          rw [hv'] at hown8 ⊢
          have hlu : ∀ k, u0.ownBlock = some k → k < w0.heap.size := fun k hk => ((unhide HOWN).1.lt k hk).2
          have hg08 : ∀ k, k < w0.heap.size → some k ≠ u0.ownBlock → w8.heap[k]? = w0.heap[k]? := fun k hk hne => (hg8.block k (by simp; omega) hne).trans ((Below.heap_alloc _ _ _ (by omega)).trans ((unhide HGG).block k hk (by simp)))
          have hk8 : w8.heap[w0.heap.size + 1]? = wr.heap[w0.heap.size + 1]? := by
            have z7 := unhide HZ7
            have z5 := (unhide HB5).size
            refine (hg8.block _ (by simp; omega) (fun e => ?_)).trans ((Below.heap_alloc _ _ _ (by omega)).trans (unhide HG7 _ (by omega) (by omega)))
            have := hlu _ e.symm
            omega
          obtain ⟨cur, hcur, hcj⟩ := own_kids (unhide HOJ)
          have hB8 : Below B W w8 := by
            have gg := unhide HGG
            refine ⟨hg8.os.trans (gg.os.trans hBr.os), hg8.tape.trans (gg.tape.trans hBr.tape), hg8.output.trans (gg.output.trans hBr.output), ?_, fun k hk => ?_⟩
            · have := hg8.size; have := gg.size; simp at *; omega
            · refine (hg08 k (by omega) (fun e => ?_)).trans (hBr.block k hk)
              have := ((unhide HOWN).1.lt k e.symm).1
              omega
          have HF8 : Hid (Far W v w8 v') := by
            obtain ⟨f1, f2, f3⟩ := unhide HFAR
            have z8 := hg8.size
            have z7 := (unhide HGG).size
            simp at z8
            refine ⟨fun k hk hne => ?_, ?_, by omega⟩
            · refine (hg08 k (by omega) (fun e => ?_)).trans (f1 k hk hne)
              rcases f2 with f2 | f2
              · exact hne (e.trans f2)
              · have := f2 k e.symm
                omega
            · rcases hat8 with h | h
              · rcases f2 with f2 | f2
                · exact .inl (hob.trans (h.symm.trans f2))
                · exact .inr fun k hk => f2 k (h.trans (hob.symm.trans hk))
              · refine .inr fun k hk => ?_
                have e : k = g8 := by rw [hob] at hk; simpa using hk.symm
                rw [e, h]
                simp
                omega
          have HO8 : Hid (OwnN w8 B v' (es ++ (es' ++ [⟨shN by' ⟨kd, tx, nm, ks, at'⟩, some ⟨w0.heap.size + 1, 0, none⟩, ks.length⟩]))) := by
            refine ⟨?_, fun y hy => ?_⟩
            · rw [← List.append_assoc, flatN_snoc]
              have : (es ++ es' ++ [(⟨shN by' ⟨kd, tx, nm, ks, at'⟩, some ⟨w0.heap.size + 1, 0, none⟩, ks.length⟩ : NE)]).length = es.length + i + 1 := by simp; omega
              rw [this]
              exact hown8
            · rw [← List.append_assoc, List.mem_append, List.mem_singleton] at hy
              rcases hy with hy | rfl
              · refine ((unhide HOWN).2 y hy).keep fun k cur' hk => hg08 k (Array.getElem?_eq_some_iff.1 hk).1 fun e => ?_
                rcases (unhide HOWN).1.2 with ⟨h, _⟩ | ⟨g', cap'', cur'', h, _, hh, _⟩
                · rw [h] at e; cases e
                · rw [h] at e
                  simp only [Value.ownBlock, Option.some.injEq] at e
                  rw [e, hh] at hk
                  simp at hk
              · refine ⟨by simp [shN], by simp; unfold maxLen; omega, ?_⟩
                by_cases h0 : ks = []
                · exact .inl (by simp [shN, h0])
                · refine .inr ⟨w0.heap.size + 1, cur, rfl, by omega, hk8.trans hcur, fun j hj => ?_⟩
                  have hj' : j < ks.length := by simpa [shN] using hj
                  rw [hcj j hj', mixL_end]
                  simp [shN, hj']
          have HK8 : Hid (NewK W (es' ++ [⟨shN by' ⟨kd, tx, nm, ks, at'⟩, some ⟨w0.heap.size + 1, 0, none⟩, ks.length⟩])) := fun y hy => by
            rw [List.mem_append, List.mem_singleton] at hy
            rcases hy with hy | rfl
            · exact unhide HNK y hy
            · exact ⟨w0.heap.size + 1, rfl, by have := (unhide HFAR).2.2; omega⟩
          have HM8 : Hid ((es' ++ [(⟨shN by' ⟨kd, tx, nm, ks, at'⟩, some ⟨w0.heap.size + 1, 0, none⟩, ks.length⟩ : NE)]).map NE.x = (ns.take (i + 1)).map (shN by')) := by
            show _ = _
            rw [List.map_append, unhide HMAP, List.take_add_one, List.map_append, List.getElem?_eq_getElem hlt]
            have e := unhide HND
            rw [nd, List.getD_eq_getElem?_getD, List.getElem?_eq_getElem hlt] at e
            simp only [Option.getD_some] at e
            simp [e]
          have hB8' := hide hB8
          clear hown8 hg8 hg08 hk8 hcur hcj hlu hB8 hat8 hlt8 hob hv'
          go_wp2
          exact ⟨⟨i + 1, es' ++ [⟨shN by' ⟨kd, tx, nm, ks, at'⟩, some ⟨w0.heap.size + 1, 0, none⟩, ks.length⟩], by omega, by go_num, unhide HM8, unhide HO8, unhide hB8', unhide HF8, unhide HK8⟩, by simp [intOf]; omega⟩
    · have hlt' : ¬ (i : Int) < ns.length := by omega
      obtain rfl : i = ns.length := by omega
      go_wp2
      go_ret
      exact ⟨_, es', rfl, by have := unhide HMAP; rwa [List.take_length] at this, unhide HOWN, hBr, unhide HFAR, unhide HNK⟩
end Go.Proofs.YtoffpbaddehncaaGreatDoor

/- tree.Make in general. -/
namespace Go.Proofs.YtoffpbaddehncaaGreatDoor
set_option linter.unusedSimpArgs false
set_option linter.unusedVariables false
open Go.RowKit Go.Shelf

/-- Trees in a row. -/
def TreesAt (W : World) (M : Nat) (a : Option Addr) (ts : List (List Nd)) : Prop :=
  ts = [] ∨ ∃ b o, a = some ⟨b, o, none⟩ ∧ b < M ∧ ∀ j, j < ts.length → ∃ tv, W.cell? ⟨b, o + j, none⟩ = some tv ∧ Nodes W M tv (ts.getD j [])
theorem TreesAt.keep {W W' : World} {M N : Nat} {a : Option Addr} {ts : List (List Nd)} (h : TreesAt W M a ts) (hB : Below N W W') (hn : M ≤ N) : TreesAt W' M a ts := by
  rcases h with h | ⟨b, o, ha, hb, hc⟩
  · exact .inl h
  · refine .inr ⟨b, o, ha, hb, fun j hj => ?_⟩
    obtain ⟨v, h1, h2⟩ := hc j hj
    exact ⟨v, (hB.cell (p := ⟨b, o + j, none⟩) (Nat.lt_of_lt_of_le hb hn)).trans h1, h2.keep hB hn⟩
/-- How many nodes the first trees have. -/
def szs (ts : List (List Nd)) : Nat → Nat
  | 0 => 0
  | i + 1 => szs ts i + (ts.getD i []).length
/-- The nodes behind the root, and where the kids' roots are. -/
def mk (ts : List (List Nd)) : Nat → List Nd × List Int
  | 0 => ([], [])
  | i + 1 => if (ts.getD i []).length = 0 then mk ts i else ((mk ts i).1 ++ (ts.getD i []).map (shN ((mk ts i).1.length + 1 : Nat)), (mk ts i).2 ++ [(((mk ts i).1.length + 1 : Nat) : Int)])
def makeT (root : Nd) (ts : List (List Nd)) : List Nd := { root with kids := (mk ts ts.length).2 } :: (mk ts ts.length).1
theorem mk_len (ts : List (List Nd)) : ∀ i, (mk ts i).1.length = szs ts i
  | 0 => rfl
  | i + 1 => by
    simp only [mk, szs]
    split
    · rw [mk_len ts i]; omega
    · simp [mk_len ts i]
theorem szs_mono (ts : List (List Nd)) : ∀ {i j}, i ≤ j → szs ts i ≤ szs ts j
  | i, 0, h => by obtain rfl : i = 0 := by omega
                  exact Nat.le_refl _
  | i, j + 1, h => by
    by_cases e : i = j + 1
    · rw [e]; exact Nat.le_refl _
    · have := szs_mono ts (i := i) (j := j) (by omega)
      simp only [szs]; omega
theorem mkr_len (ts : List (List Nd)) : ∀ i, (mk ts i).2.length ≤ i
  | 0 => Nat.le_refl _
  | i + 1 => by
    simp only [mk]
    have := mkr_len ts i
    split
    · omega
    · simp; omega

theorem madeCells_get (z : Array Value) (n j : Nat) (hj : j < n) : (madeCells z n).toList[j]? = some (z[j % z.size]!) := by simp [madeCells, hj]
theorem run_make_one (w : World) (base : Nat) (i : TypeInfo) (z : Value) (hi : Tryz.prog.info? 29 = some i) (hz : i.zero = some z) (hsize : i.size = 5) (hzc : z.cells = #[.int .i64 0, .string ⟨#[]⟩, .int .i64 0, .slice none 0 0, .int .i64 0]) (c : Nat) (hc : 1 ≤ c) (hbytes : i.bytes * c ≤ 281474976710656) (h63 : c ≤ maxLen) (hbase : base ≤ w.heap.size) :
    ∃ w', (Instr.makeSlice 22 (.int .i64 1) (.int .i64 (c : Int))).run Tryz.prog w = .ok (.slice (some ⟨w.heap.size, 0, none⟩) 1 c) w' ∧
      w'.ownsRow base 29 5 (.slice (some ⟨w.heap.size, 0, none⟩) 1 c) 1 (flatN [⟨⟨0, ⟨#[]⟩, 0, [], 0⟩, none, 0⟩]) ∧ w.grownBy w' none := by
  have h63' : (c : Int) ≤ 9223372036854775807 := by
    have h := h63
    simp [maxLen] at h
    omega
  have hb' : (i.bytes : Int) * (c : Int) ≤ 281474976710656 := by
    have h : ((i.bytes * c : Nat) : Int) ≤ 281474976710656 := by omega
    rwa [Int.natCast_mul] at h
  have hr := run_make (P := Tryz.prog) w 22 29 i z Tryz.underlying22 hi hz .i64 .i64 1 c (by omega) (by omega) hb' h63'
  simp only [Int.toNat_natCast] at hr
  refine ⟨_, hr, ⟨rfl, .inr ⟨w.heap.size, c, _, rfl, hbase, heap_alloc_new w _, hc, h63, by rw [hsize]; exact size_madeCells _ _, ?_⟩⟩, World.grownBy_alloc w _ none⟩
  rw [hzc, hsize]
  apply List.ext_getElem?
  intro j
  by_cases hj : j < 5
  · rw [List.getElem?_take, if_pos (by omega)]
    rw [madeCells_get _ _ _ (by omega)]
    rcases (by omega : j = 0 ∨ j = 1 ∨ j = 2 ∨ j = 3 ∨ j = 4) with rfl | rfl | rfl | rfl | rfl <;> rfl
  · rw [List.getElem?_eq_none (by simp; omega), List.getElem?_eq_none (by simp [flatN, cellN]; omega)]

theorem KidO.keep' {W W' : World} {B : Nat} {e : NE} (h : KidO W B e) (hk : e.x.kids ≠ [] → ∀ kb, e.a = some ⟨kb, 0, none⟩ → kb < W.heap.size → W'.heap[kb]? = W.heap[kb]?) : KidO W' B e := by
  obtain ⟨h1, h2, h3⟩ := h
  refine ⟨h1, h2, ?_⟩
  rcases h3 with h3 | ⟨kb, cur, ha, hb, hh, hc⟩
  · exact .inl h3
  · by_cases h0 : e.x.kids = []
    · exact .inl h0
    · exact .inr ⟨kb, cur, ha, hb, (hk h0 kb ha (Array.getElem?_eq_some_iff.1 hh).1).trans hh, hc⟩
theorem KidO.lt {W : World} {B : Nat} {e : NE} (h : KidO W B e) (h0 : e.x.kids ≠ []) {kb : Nat} (ha : e.a = some ⟨kb, 0, none⟩) : kb < W.heap.size := by
  rcases h.2.2 with h | ⟨kb', cur, ha', hb, hh, hc⟩
  · exact absurd h h0
  · rw [ha'] at ha
    cases ha
    exact (Array.getElem?_eq_some_iff.1 hh).1
theorem KidO.mono {W : World} {B B' : Nat} {e : NE} (h : KidO W B e) (hB : B' ≤ B) : KidO W B' e := by
  obtain ⟨h1, h2, h3⟩ := h
  refine ⟨h1, h2, ?_⟩
  rcases h3 with h3 | ⟨kb, cur, ha, hb, hh, hc⟩
  · exact .inl h3
  · exact .inr ⟨kb, cur, ha, by omega, hh, hc⟩
/-- Two rows of cells of other types lie in two blocks. -/
theorem rows_apart {W : World} {B B' : Nat} {t t' : TypeId} {s s' : Nat} {v v' : Value} {n n' : Nat} {xs xs' : List Value} (h : W.ownsRow B t s v n xs) (h' : W.ownsRow B' t' s' v' n' xs') (ht : t ≠ t') : v.ownBlock = none ∨ v.ownBlock ≠ v'.ownBlock := by
  rcases h.2 with ⟨h1, _⟩ | ⟨g, c, cur, h1, _, hh, _⟩
  · exact .inl (by rw [h1]; rfl)
  · right
    intro e
    rcases h'.2 with ⟨h2, _⟩ | ⟨g', c', cur', h2, _, hh', _⟩
    · rw [h1, h2] at e; cases e
    · rw [h1, h2] at e
      simp only [Value.ownBlock, Option.some.injEq] at e
      rw [e, hh'] at hh
      simp at hh
      exact ht hh.2.symm
theorem one_set {w : World} {B g n c j : Nat} {xs : List Value} (h : w.ownsRow B 29 5 (.slice (some ⟨g, 0, none⟩) n c) n xs) (hn : 1 ≤ n) (hj : j < 5) (y : Value) :
    ∃ w1, w.setCell ⟨g, j, none⟩ y = w1 ∧ (∃ x, w.cell? ⟨g, j, none⟩ = some x) ∧ w.frozen? ⟨g, j, none⟩ = false ∧ w1.ownsRow B 29 5 (.slice (some ⟨g, 0, none⟩) n c) n (xs.set j y) ∧ w.grownBy w1 (some g) ∧ g < w1.heap.size := by
  obtain ⟨h1, h2⟩ := h.stored j y
  refine ⟨_, rfl, ?_, h.frozenAt j, h1, h2, (h1.lt g rfl).2⟩
  rw [h.cellAt j (by omega)]
  exact ⟨_, List.getElem?_eq_getElem (by rw [h.1]; omega)⟩
theorem grown_trans {a b c : World} {row : Option Nat} (h : a.grownBy b row) (k : b.grownBy c row) : a.grownBy c row :=
  ⟨k.os.trans h.os, k.tape.trans h.tape, k.output.trans h.output, Nat.le_trans h.size k.size, fun i hi hne => (k.block i (Nat.lt_of_lt_of_le hi h.size) hne).trans (h.block i hi hne)⟩
/-- The end of Make: the root's box, the row's first node, the answer's cell. -/
theorem make_end {w4 w5 : World} {N g n c : Nat} {k t m s at' tx ks v : Value} {xs : List Value} (hX : w4.heap[N]? = some (.cells #[k, t, m, s, at'] 29)) (hY : w4.heap[N + 1]? = some (.cells #[.slice none 0 0] 24)) (ho : w4.ownsRow (N + 2) 29 5 (.slice (some ⟨g, 0, none⟩) n c) n xs) (hn : 1 ≤ n) (hB : Below w4.heap.size w4 w5) :
    ∃ w6 w7 y1 y2 y3 y4 y5 y6, (w5.cell? ⟨N, 1, none⟩ = some t ∧ w5.frozen? ⟨N, 1, none⟩ = false ∧ w5.setCell ⟨N, 1, none⟩ tx = w6) ∧ (w6.cell? ⟨N, 3, none⟩ = some s ∧ w6.frozen? ⟨N, 3, none⟩ = false ∧ w6.setCell ⟨N, 3, none⟩ ks = w7) ∧
      (w7.cell? ⟨N, 0, none⟩ = some k ∧ w7.cell? ⟨N, 1, none⟩ = some tx ∧ w7.cell? ⟨N, 2, none⟩ = some m ∧ w7.cell? ⟨N, 3, none⟩ = some ks ∧ w7.cell? ⟨N, 4, none⟩ = some at') ∧
      ((∃ x, w7.cell? ⟨g, 0, none⟩ = some x) ∧ w7.frozen? ⟨g, 0, none⟩ = false ∧ w7.setCell ⟨g, 0, none⟩ k = y1) ∧ ((∃ x, y1.cell? ⟨g, 1, none⟩ = some x) ∧ y1.frozen? ⟨g, 1, none⟩ = false ∧ y1.setCell ⟨g, 1, none⟩ tx = y2) ∧ ((∃ x, y2.cell? ⟨g, 2, none⟩ = some x) ∧ y2.frozen? ⟨g, 2, none⟩ = false ∧ y2.setCell ⟨g, 2, none⟩ m = y3) ∧
      ((∃ x, y3.cell? ⟨g, 3, none⟩ = some x) ∧ y3.frozen? ⟨g, 3, none⟩ = false ∧ y3.setCell ⟨g, 3, none⟩ ks = y4) ∧ ((∃ x, y4.cell? ⟨g, 4, none⟩ = some x) ∧ y4.frozen? ⟨g, 4, none⟩ = false ∧ y4.setCell ⟨g, 4, none⟩ at' = y5) ∧
      (y5.cell? ⟨N + 1, 0, none⟩ = some (.slice none 0 0) ∧ y5.frozen? ⟨N + 1, 0, none⟩ = false ∧ y5.setCell ⟨N + 1, 0, none⟩ v = y6) ∧ y6.cell? ⟨N + 1, 0, none⟩ = some v ∧
      y6.ownsRow (N + 2) 29 5 (.slice (some ⟨g, 0, none⟩) n c) n (((((xs.set 0 k).set 1 tx).set 2 m).set 3 ks).set 4 at') ∧
      (y6.os = w4.os ∧ y6.tape = w4.tape ∧ y6.output = w4.output ∧ w4.heap.size ≤ y6.heap.size ∧ ∀ i, i < w4.heap.size → i ≠ N → i ≠ N + 1 → i ≠ g → y6.heap[i]? = w4.heap[i]?) ∧ (N + 1 < w5.heap.size ∧ w6.heap.size = w5.heap.size ∧ w7.heap.size = w5.heap.size ∧ y1.heap.size = w5.heap.size ∧ y2.heap.size = w5.heap.size ∧ y3.heap.size = w5.heap.size ∧ y4.heap.size = w5.heap.size ∧ y5.heap.size = w5.heap.size ∧ g < w5.heap.size) := by
  have hgN := (ho.lt g rfl).1
  have hgl := (ho.lt g rfl).2
  have hNl : N < w4.heap.size := (Array.getElem?_eq_some_iff.1 hX).1
  have hYl : N + 1 < w4.heap.size := (Array.getElem?_eq_some_iff.1 hY).1
  have hz5 := hB.size
  have hX5 := (hB.block N hNl).trans hX
  have hY5 := (hB.block (N + 1) hYl).trans hY
  obtain ⟨w6, e6⟩ : ∃ w6, w5.setCell ⟨N, 1, none⟩ tx = w6 := ⟨_, rfl⟩
  have hX6 := put5_1 hX5 tx
  rw [e6] at hX6
  obtain ⟨w7, e7⟩ : ∃ w7, w6.setCell ⟨N, 3, none⟩ ks = w7 := ⟨_, rfl⟩
  have hX7 := put5_3 hX6 ks
  rw [e7] at hX7
  obtain ⟨a1, a2, a3, a4, a5⟩ := two_sets e6 e7
  have hg47 : w4.grownBy w7 (some N) := ⟨a1.trans hB.os, a2.trans hB.tape, a3.trans hB.output, by omega, fun i hi hne => (a5 i (fun e => hne (by rw [e]))).trans (hB.block i hi)⟩
  have o7 := ho.kept hg47 (.inr (by simp [Value.ownBlock]; omega))
  obtain ⟨y1, e1, p1, f1, o1, g1, l1⟩ := one_set o7 hn (by decide : 0 < 5) k
  obtain ⟨y2, e2, p2, f2, o2, g2, l2⟩ := one_set o1 hn (by decide : 1 < 5) tx
  obtain ⟨y3, e3, p3, f3, o3, g3, l3⟩ := one_set o2 hn (by decide : 2 < 5) m
  obtain ⟨y4, e4, p4, f4, o4, g4, l4⟩ := one_set o3 hn (by decide : 3 < 5) ks
  obtain ⟨y5, e5, p5, f5, o5, g5, l5⟩ := one_set o4 hn (by decide : 4 < 5) at'
  have hg75 := grown_trans g1 (grown_trans g2 (grown_trans g3 (grown_trans g4 g5)))
  have z1 := setCell_size e1
  have z2 := setCell_size e2
  have z3 := setCell_size e3
  have z4 := setCell_size e4
  have z5 := setCell_size e5
  have z6 := setCell_size e6
  have z7 := setCell_size e7
  have hYf : y5.heap[N + 1]? = some (.cells #[.slice none 0 0] 24) := (hg75.block _ (by omega) (by simp; omega)).trans ((a5 _ (by omega)).trans hY5)
  obtain ⟨y6, ey⟩ : ∃ y6, y5.setCell ⟨N + 1, 0, none⟩ v = y6 := ⟨_, rfl⟩
  have hY6 : y6.heap[N + 1]? = some (.cells #[v] 24) := by rw [← ey]; simp [World.setCell, Array.getElem?_modify, hYf]
  have o6 : y6.ownsRow (N + 2) 29 5 (.slice (some ⟨g, 0, none⟩) n c) n (((((xs.set 0 k).set 1 tx).set 2 m).set 3 ks).set 4 at') := by rw [← ey]; exact ownsRow_setCell_below o5 (a := ⟨N + 1, 0, none⟩) (by simp) v
  have zy := setCell_size ey
  refine ⟨w6, w7, y1, y2, y3, y4, y5, y6, ⟨(cells5 hX5).2.1, frozen_at hX5 1, e6⟩, ⟨(cells5 hX6).2.2.2.1, frozen_at hX6 3, e7⟩, cells5 hX7, ⟨p1, f1, e1⟩, ⟨p2, f2, e2⟩, ⟨p3, f3, e3⟩, ⟨p4, f4, e4⟩, ⟨p5, f5, e5⟩, ⟨by rw [Lib.cell_of_heap hYf]; rfl, frozen_at hYf 0, ey⟩, by rw [Lib.cell_of_heap hY6]; rfl, o6, ⟨?_, ?_, ?_, by omega, fun i hi h1 h2 h3 => ?_⟩, by omega, by omega, by omega, by omega, by omega, by omega, by omega, by omega, by omega⟩
  · rw [← ey]; exact hg75.os.trans hg47.os
  · rw [← ey]; exact hg75.tape.trans hg47.tape
  · rw [← ey]; exact hg75.output.trans hg47.output
  · rw [← ey, Below.heap_setCell _ _ _ _ h2]
    exact (hg75.block i (by omega) (by simp; omega)).trans (hg47.block i hi (by simp; omega))
/-- Between two rounds of Make. -/
structure MkI (W2 : World) (B : Nat) (ts : List (List Nd)) (i : Nat) (t8 t9 : Value) (wr : World) (es : List NE) : Prop where
  map : es.map NE.x = (mk ts i).1
  own : OwnN wr B t8 (⟨⟨0, ⟨#[]⟩, 0, [], 0⟩, none, 0⟩ :: es)
  roots : wr.ownsRow B 3 1 t9 (mk ts i).2.length ((mk ts i).2.map (Value.int .i64))
  apart : ∀ e ∈ es, e.x.kids ≠ [] → ∀ kb, e.a = some ⟨kb, 0, none⟩ → t9.ownBlock ≠ some kb
  below : Below B W2 wr

/-- What Make answers. -/
def MakeQ (root : Nd) (ts : List (List Nd)) (W : World) (e : Ending) (w' : World) : Prop := ∃ v' es, e = .returned (.agg #[v']) ∧ es.map NE.x = makeT root ts ∧ OwnN w' W.heap.size v' es ∧ Below W.heap.size W w'

set_option maxRecDepth 100000 in
set_option maxHeartbeats 4000000 in
theorem make_any (root : Nd) (rk : Value) (ka : Option Addr) (kl kc : Nat) (ts : List (List Nd)) (a : Option Addr) (cap M : Nat) (W : World) (hrk : rk = .slice ka kl kc) (hM : M ≤ W.heap.size) (hT : TreesAt W M a ts) (htx : root.text.size ≤ 4294967280) (hsz : szs ts ts.length + 1 ≤ 2199023255552) (hts : ts.length ≤ 4398046511104) :
    Calls Tryz.prog 26 #[.agg #[.int .i64 root.kind, .string root.text, .int .i64 root.num, rk, .int .i64 root.at'], .slice a ts.length cap] W (MakeQ root ts W) := by
  subst hrk
  obtain ⟨i0, hi, hz0, hz1, hz2⟩ := info_parts infoNode
  obtain ⟨j0, hj, hy0, hy1, hy2⟩ := info_parts infoInt
  have HT := hide hT
  obtain ⟨rkd, rtx, rnm, rks, rat⟩ := root
  simp only at htx ⊢
  clear hT
  obtain ⟨W2, hW2⟩ : ∃ W2, (W.alloc (.cells #[.int .i64 rkd, .string rtx, .int .i64 rnm, .slice ka kl kc, .int .i64 rat] 29)).alloc (.cells #[.slice none 0 0] 24) = W2 := ⟨_, rfl⟩
  have hB2 : Below W.heap.size W W2 := by rw [← hW2]; exact ((Below.refl _ W).alloc (Nat.le_refl _) _).alloc (by simp) _
  have hz2' : W2.heap.size = W.heap.size + 2 := by rw [← hW2]; simp
  have hX2 : W2.heap[W.heap.size]? = some (.cells #[.int .i64 rkd, .string rtx, .int .i64 rnm, .slice ka kl kc, .int .i64 rat] 29) := by rw [← hW2]; exact (Below.heap_alloc _ _ _ (by simp)).trans (World.alloc_heap_new W _)
  have hY2 : W2.heap[W.heap.size + 1]? = some (.cells #[.slice none 0 0] 24) := by
    have := World.alloc_heap_new (W.alloc (.cells #[.int .i64 rkd, .string rtx, .int .i64 rnm, .slice ka kl kc, .int .i64 rat] 29)) (.cells #[.slice none 0 0] 24)
    rw [World.size_alloc] at this
    rw [← hW2]; exact this
  have HX2 := hide hX2
  have HY2 := hide hY2
  clear hX2 hY2
  go_enter Tryz.func26, Tryz.ntmps26
  go_wp2
  clear hW2
  go_loopw [5, 14] (fun t5 t14 wr => ∃ i : Nat, i ≤ ts.length ∧ t14 = .int .i64 (i : Int) ∧ t5 = .int .i64 ((1 + szs ts i : Nat) : Int) ∧ Below (W.heap.size + 2) W2 wr) (fun _ t14 _ => ts.length - (intOf t14).toNat)
  case atStart => exact ⟨0, Nat.zero_le _, rfl, rfl, Below.refl _ _⟩
  case round =>
    obtain ⟨i, hil, rfl, rfl, hBr⟩ := hrel
    obtain ⟨w0, hw0⟩ : ∃ w0, w0 = wr := ⟨_, rfl⟩
    subst hw0
    have hBW : Below W.heap.size W w0 := hB2.trans (hBr.mono (by omega))
    have hszm := szs_mono ts hil
    by_cases hlt : i < ts.length
    · have hlt' : (i : Int) < ts.length := by omega
      have hszm' := szs_mono ts (show i + 1 ≤ ts.length from hlt)
      simp only [szs] at hszm'
      rcases (unhide HT).keep hBW hM with h | ⟨tb, to, rfl, htb, htc⟩
      · subst h; simp at hlt
      obtain ⟨tv, dt, hNt⟩ := htc i hlt
      obtain ⟨ta, tc, rfl, _, _⟩ := hNt.len
      have htw : tb < w0.heap.size := by have := hBW.size; omega
      clear htc hNt
      obtain ⟨tl, htl⟩ : ∃ tl, (ts.getD i []).length = tl := ⟨_, rfl⟩
      rw [htl] at dt hszm'
      have HTL := hide htl
      clear htl
      go_wp2
      refine ⟨⟨i + 1, by omega, by go_num, ?_, hBr.alloc (by have := hBr.size; omega) _⟩, by simp [intOf]; omega⟩
      simp only [szs, unhide HTL]
      go_num
    · have hlt' : ¬ (i : Int) < ts.length := by omega
      obtain rfl : i = ts.length := by omega
      obtain ⟨w3, hmk, hown3, hg3⟩ := run_make_one w0 (W.heap.size + 2) i0 _ hi hz0 hz1 rfl (1 + szs ts ts.length) (by omega) (by rw [hz2]; omega) (by unfold maxLen; omega) (by have := hBr.size; omega)
      have hmk' : (Instr.makeSlice 22 (.int .i64 1) (.int .i64 (1 + (szs ts ts.length : Int)))).run Tryz.prog w0 = .ok (.slice (some ⟨w0.heap.size, 0, none⟩) 1 (1 + szs ts ts.length)) w3 := by
        rw [Int.natCast_add] at hmk; exact hmk
      have hb3 : Below (W.heap.size + 2) W2 w3 := hBr.grown hg3 (by have := hBr.size; omega) (fun k hk => by cases hk)
      have HI0 : Hid (MkI W2 (W.heap.size + 2) ts 0 (.slice (some ⟨w0.heap.size, 0, none⟩) 1 (1 + szs ts ts.length)) (.slice none 0 0) w3 []) := ⟨rfl, ⟨hown3, fun e he => by obtain rfl := List.mem_singleton.1 he; exact ⟨Nat.le_refl _, Nat.zero_le _, .inl rfl⟩⟩, World.ownsRow_nil _ _ _ _, (fun e he => by cases he), hb3⟩
      clear hmk hown3 hg3 hb3
      go_wp2
      clear hmk'
      go_loopw [8, 9, 28] (fun t8 t9 t28 wr => ∃ (i : Nat) (es : List NE), i ≤ ts.length ∧ t28 = .int .i64 (i : Int) ∧ MkI W2 (W.heap.size + 2) ts i t8 t9 wr es) (fun _ _ t28 _ => ts.length - (intOf t28).toNat)
      case atStart => exact ⟨0, [], Nat.zero_le _, rfl, unhide HI0⟩
      case round =>
        obtain ⟨i, es, hil2, rfl, hI⟩ := hrel
        obtain ⟨w4, hw4⟩ : ∃ w4, w4 = wr := ⟨_, rfl⟩
        subst hw4
        have HI := hide hI
        have hB4 : Below W.heap.size W w4 := hB2.trans (hI.below.mono (by omega))
        have hz4 : W.heap.size + 2 ≤ w4.heap.size := by have := hI.below.size; omega
        have hml := mk_len ts i
        have hmr := mkr_len ts i
        have hszm2 := szs_mono ts hil2
        have hel : es.length = szs ts i := by rw [← hml, ← hI.map]; simp
        clear hI
        by_cases hlt2 : i < ts.length
        · have hlt2' : (i : Int) < ts.length := by omega
          have hszm' := szs_mono ts (show i + 1 ≤ ts.length from hlt2)
          simp only [szs] at hszm'
          rcases (unhide HT).keep hB4 hM with h | ⟨tb, to, rfl, htb, htc⟩
          · subst h; simp at hlt2
          obtain ⟨tv, dt, hNt⟩ := htc i hlt2
          obtain ⟨ta, tc, rfl, _, _⟩ := hNt.len
          have htw : tb < w4.heap.size := by omega
          have HNT := hide hNt
          clear htc hNt
          obtain ⟨tr, htr⟩ : ∃ tr, ts.getD i [] = tr := ⟨_, rfl⟩
          rw [htr] at dt hszm' HNT
          have HTR := hide htr
          clear htr
          by_cases h0 : tr.length = 0
          · have hmk0 : mk ts (i + 1) = mk ts i := by simp only [mk, unhide HTR, h0, if_true]
            have HM0 := hide hmk0
            rw [h0] at dt
            clear hmk0
            go_wp2
            refine ⟨⟨i + 1, es, by omega, by go_num, ?_⟩, by simp [intOf]; omega⟩
            have hI := unhide HI
            refine ⟨by rw [unhide HM0]; exact hI.map, ⟨hI.own.1.alloc _, fun e he => (hI.own.2 e he).below ((Below.refl _ _).alloc (Nat.le_refl _) _)⟩, by rw [unhide HM0]; exact hI.roots.alloc _, hI.apart, hI.below.alloc (by omega) _⟩
          · have h0' : ((tr.length : Int) == 0) = false := by simp only [beq_eq_false_iff_ne]; omega
            have hmk1 : mk ts (i + 1) = ((mk ts i).1 ++ tr.map (shN (szs ts i + 1 : Nat)), (mk ts i).2 ++ [((szs ts i + 1 : Nat) : Int)]) := by simp only [mk, unhide HTR, h0, if_false, hml]
            have HM1 := hide hmk1
            obtain ⟨n8, hn8⟩ : ∃ n8, szs ts i + 1 = n8 := ⟨_, rfl⟩
            have hlen8 : (⟨⟨0, ⟨#[]⟩, 0, [], 0⟩, none, 0⟩ :: es : List NE).length = n8 := by simp; omega
            obtain ⟨g8, c8, hu8, hg8b, hg8l⟩ := (unhide HI).own.1.form (by simp)
            rw [hlen8] at hu8
            subst hu8
            have hub : ∀ k, u9.ownBlock = some k → k < w4.heap.size := fun k hk => ((unhide HI).roots.lt k hk).2
            have HUB := hide hub
            rw [hn8] at hmk1
            clear hmk1 hub h0
            go_wp2_with (at_builtin; refine wpList_append_lies _ rfl _ _ 27 rfl (W.heap.size + 2) 3 j0 _ 1 8 Tryz.underlying27 hj hy0 hy1 hy2 rfl (by decide) _ _ _ rfl (((unhide HI).roots.alloc _).alloc _) ⟨w4.heap.size + 1, 0, none⟩ 1 1 [.int .i64 (n8 : Int)] rfl rfl ?c1 ?c2 (by decide) ?c3 ?c4 ?c5 _ rfl ?_)
            case c1 =>
              intro j u hj
              have e1 : (w4.alloc (.cells #[.slice ta tr.length tc] 24)).heap.size = w4.heap.size + 1 := by simp
              rw [Addr.add_lit, Nat.zero_add, ← e1, World.cell?_alloc_mark]
              rw [← hj]; simp
            case c2 => intro u hu; simp at hu; rcases hu with rfl; rfl
            case c3 => unfold maxLen; omega
            case c4 => omega
            case c5 => simp; omega
            intro g9 cap9 w6 hown6 hg6 hat6 hlt6
            have hz6 := hg6.size
            simp at hz6
            have hk6 : ∀ k, k < w4.heap.size → some k ≠ u9.ownBlock → w6.heap[k]? = w4.heap[k]? := fun k hk hne => (hg6.block k (by simp; omega) hne).trans ((Below.heap_alloc _ _ _ (by simp; omega)).trans (Below.heap_alloc _ _ _ hk))
            have hkid : w6.heap[w4.heap.size]? = some (.cells #[.slice ta tr.length tc] 24) := by
              refine (hg6.block _ (by simp; omega) (fun e => ?_)).trans ((Below.heap_alloc _ _ _ (by simp)).trans (World.alloc_heap_new w4 _))
              have := unhide HUB _ e.symm
              omega
            have ckid : w6.cell? ⟨w4.heap.size, 0, none⟩ = some (.slice ta tr.length tc) := by rw [Lib.cell_of_heap hkid]; rfl
            have hap := rows_apart (unhide HI).own.1 (unhide HI).roots (by decide)
            have hb6 : Below (W.heap.size + 2) w4 w6 := ⟨hg6.os, hg6.tape, hg6.output, by omega, fun k hk => hk6 k (by omega) (fun e => by have := ((unhide HI).roots.lt k e.symm).1; omega)⟩
            have hg46 : w4.grownBy w6 u9.ownBlock := ⟨hg6.os, hg6.tape, hg6.output, by omega, hk6⟩
            have HO6 : Hid (OwnN w6 (W.heap.size + 2) (.slice (some ⟨g8, 0, none⟩) n8 c8) (⟨⟨0, ⟨#[]⟩, 0, [], 0⟩, none, 0⟩ :: es)) := by
              refine ⟨(unhide HI).own.1.kept hg46 hap, fun e he => ((unhide HI).own.2 e he).keep' fun hne kb ha hl => hk6 kb hl ?_⟩
              rcases List.mem_cons.1 he with rfl | he
              · exact absurd rfl hne
              · exact fun e' => (unhide HI).apart e he hne kb ha e'.symm
            have HR6 := hide hown6
            have HB6 := hide hb6
            have HAT := hide hat6
            clear hown6 hg6 hk6 hkid hap hb6 hg46 hat6
            have hkl : w4.heap.size < w6.heap.size := by omega
            go_wp2_with (go_at_call 42; refine (lay_any (W.heap.size + 2) _ _ _ tr (n8 : Int) M _ (by omega) (by omega) (unhide HO6) ((unhide HNT).keep (unhide HB6) (by omega)) (by omega) (by rw [hlen8]; omega)).mono ?_; rintro e w7 ⟨v8', es2, rfl, hm7, ho7, hb7, hf7, hk7⟩; have HM7 := hide hm7; have HO7 := hide ho7; have HB7 := hide hb7; have HF7 := hide hf7; have HK7 := hide hk7; clear hm7 ho7 hb7 hf7 hk7)
            refine ⟨⟨i + 1, es ++ es2, by omega, by go_num, ?_⟩, by simp [intOf]; omega⟩
            have hI := unhide HI
            have hm1 := unhide HM1
            have hf7 := unhide HF7
            have hb7 := unhide HB7
            have e2 : (mk ts (i + 1)).2 = (mk ts i).2 ++ [(n8 : Int)] := by rw [hm1, hn8]
            have hg67 : w6.grownBy w7 (some g8) := ⟨hb7.os, hb7.tape, hb7.output, hf7.2.2, fun k hk hne => hf7.1 k hk hne⟩
            have hr7 := (unhide HR6).kept hg67 (rows_apart (unhide HR6) (unhide HO6).1 (by decide))
            refine ⟨by rw [hm1, List.map_append, hI.map, unhide HM7, hn8], by have := unhide HO7; simpa using this, ?_, fun e he hne kb ha => ?_, hI.below.trans ((unhide HB6).trans hb7)⟩
            · rw [e2, List.length_append, List.map_append]; exact hr7
            · rcases List.mem_append.1 he with he | he
              · rcases unhide HAT with h | h
                · have := hI.apart e he hne kb ha
                  rw [h] at this
                  simpa [Value.ownBlock] using this
                · have := (hI.own.2 e (by simp [he])).lt hne ha
                  simp [Value.ownBlock]
                  try simp at h
                  omega
              · obtain ⟨kb', ha', hl'⟩ := unhide HK7 e he
                rw [ha'] at ha
                simp only [Option.some.injEq, Addr.mk.injEq, and_true] at ha
                simp [Value.ownBlock]
                omega
        · have hlt2' : ¬ (i : Int) < ts.length := by omega
          obtain rfl : i = ts.length := by omega
          obtain ⟨n8, hn8⟩ : ∃ n8, szs ts ts.length + 1 = n8 := ⟨_, rfl⟩
          have hlen8 : (⟨⟨0, ⟨#[]⟩, 0, [], 0⟩, none, 0⟩ :: es : List NE).length = n8 := by simp; omega
          obtain ⟨g8, c8, hu8, hg8b, hg8l⟩ := (unhide HI).own.1.form (by simp)
          rw [hlen8] at hu8
          subst hu8
          obtain ⟨rs, hrs⟩ : ∃ rs, (mk ts ts.length).2 = rs := ⟨_, rfl⟩
          have hR := (unhide HI).roots
          rw [hrs] at hR
          obtain ⟨a9, c9, hu9, hcc9⟩ : ∃ a9 c9, u9 = .slice a9 rs.length c9 ∧ (rs.length ≤ c9 ∧ c9 ≤ maxLen) := by
            rcases hR.2 with ⟨h, h0⟩ | ⟨gw, cap, cur, h, _, _, h1, h2, _⟩
            · exact ⟨none, 0, by rw [h, h0], by rw [h0]; exact ⟨Nat.le_refl _, Nat.zero_le _⟩⟩
            · exact ⟨_, cap, h, h1, h2⟩
          subst hu9
          have hX4 : w4.heap[W.heap.size]? = _ := ((unhide HI).below.block _ (by omega)).trans (unhide HX2)
          have hY4 : w4.heap[W.heap.size + 1]? = _ := ((unhide HI).below.block _ (by omega)).trans (unhide HY2)
          have cX4 := (cells5 hX4).2.1
          have HX4 := hide hX4
          have HY4 := hide hY4
          have HRR := hide hR
          clear hX4 hY4 hR
          have hn1 : 1 ≤ n8 := by omega
          have HOO : Hid (w4.ownsRow (W.heap.size + 2) 29 5 (.slice (some ⟨g8, 0, none⟩) n8 c8) n8 (flatN (⟨⟨0, ⟨#[]⟩, 0, [], 0⟩, none, 0⟩ :: es))) := by rw [← hlen8]; rw [← hlen8] at HI; exact (unhide HI).own.1
          go_wp2_with (go_at_call 43; refine (clone43 rtx _ (by omega)).mono ?_; rintro e w5 ⟨rfl, hB5⟩; obtain ⟨w6, w7, y1, y2, y3, y4, y5, y6, ⟨b1, b2, b3⟩, ⟨b4, b5, b6⟩, ⟨x0, x1, x2, x3, x4⟩, ⟨⟨q0, p0⟩, f0, e0⟩, ⟨⟨q1, p1⟩, f1, e1⟩, ⟨⟨q2, p2⟩, f2, e2⟩, ⟨⟨q3, p3⟩, f3, e3⟩, ⟨⟨q4, p4⟩, f4, e4⟩, ⟨r0, r1, r2⟩, r3, o6, hkeep, z0, z6, z7, zy1, zy2, zy3, zy4, zy5, zg⟩ := make_end (tx := .string rtx) (ks := .slice a9 rs.length c9) (v := .slice (some ⟨g8, 0, none⟩) n8 c8) (unhide HX4) (unhide HY4) (unhide HOO) hn1 hB5; have z0' : W.heap.size < w5.heap.size := (by omega); have H6 := hide o6; have HKP := hide hkeep; have HB5 := hide hB5; have d1 : g8 < w7.heap.size := (by omega); have d2 : W.heap.size < w6.heap.size := (by omega); have d3 : W.heap.size < w7.heap.size := (by omega); have d4 : g8 < y1.heap.size := (by omega); have d5 : g8 < y2.heap.size := (by omega); have d6 : g8 < y3.heap.size := (by omega); have d7 : g8 < y4.heap.size := (by omega); have d8 : W.heap.size + 1 < y5.heap.size := (by omega); clear o6 hkeep hB5 z0 z6 z7 zy1 zy2 zy3 zy4 zy5 zg)
          have hI := unhide HI
          obtain ⟨k1, k2, k3, k4, k5⟩ := unhide HKP
          have o4 := unhide HOO
          obtain ⟨cur8, h8⟩ : ∃ cur8, w4.heap[g8]? = some (.cells cur8 29 (0, 0)) := by
            rcases o4.2 with ⟨h, _⟩ | ⟨g', cap', cur, h, _, hh, _⟩
            · cases h
            · cases h; exact ⟨cur, hh⟩
          have hkk : ∀ (k : Nat) (cur : Array Value), w4.heap[k]? = some (Obj.cells cur 3 (0, 0)) → y6.heap[k]? = w4.heap[k]? := fun k cur hk => by
            refine k5 k (Array.getElem?_eq_some_iff.1 hk).1 (fun e => ?_) (fun e => ?_) (fun e => ?_)
            · rw [e, unhide HX4] at hk; simp at hk
            · rw [e, unhide HY4] at hk; simp at hk
            · rw [e, h8] at hk; simp at hk
          refine bodyPost_ret (v := .agg #[.slice (some ⟨g8, 0, none⟩) n8 c8]) ?_ rfl ⟨_, ⟨⟨rkd, rtx, rnm, rs, rat⟩, a9, c9⟩ :: es, rfl, ?_, ⟨?_, fun e he => ?_⟩, ?_⟩
          · simp [results, Tryz.results26, go_sem, r3]
          · simp only [List.map_cons, hI.map, makeT, hrs]
          · have e1 : (⟨⟨rkd, rtx, rnm, rs, rat⟩, a9, c9⟩ :: es : List NE).length = n8 := hlen8
            rw [e1]
            exact (unhide H6).mono (by omega)
          · rcases List.mem_cons.1 he with rfl | he
            · refine ⟨hcc9.1, hcc9.2, ?_⟩
              have hR := unhide HRR
              rcases hR.2 with ⟨h, h0⟩ | ⟨gw, cap', cur, h, hb9, hh, _, _, _, htake⟩
              · exact .inl (List.length_eq_zero_iff.1 h0)
              · simp only [Value.slice.injEq, true_and] at h
                refine .inr ⟨gw, cur, h.1, by omega, (hkk gw cur hh).trans hh, fun j hj => ?_⟩
                have hj' : j < rs.length := hj
                have e2 : cur.toList[j]? = (rs.map (Value.int .i64))[j]? := by rw [← htake, List.getElem?_take, if_pos (by omega)]
                rw [Array.getElem?_toList] at e2
                rw [e2]
                simp [hj']
            · exact ((hI.own.2 e (by simp [he])).keep hkk).mono (by omega)
          · refine ⟨k1.trans hB4.os, k2.trans hB4.tape, k3.trans hB4.output, Nat.le_trans hB4.size k4, fun k hk => ?_⟩
            exact (k5 k (by omega) (by omega) (by omega) (by omega)).trans (hB4.block k hk)
end Go.Proofs.YtoffpbaddehncaaGreatDoor
