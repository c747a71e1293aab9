/- Rows of nodes of the call's own. -/
import Derived.Deep.AppendLies
import Derived.Laws.OwnMore
import Derived.LoopN
import Derived.OwnWalk
import Derived.Test.YtnnpkomedpjlcaaGreatDoorTK
/- tree.lay: copies of nodes behind a row of the call's own, their kids moved along. -/
namespace Go.Proofs.YtnnpkomedpjlcaaGreatDoor
set_option linter.unusedSimpArgs false
set_option linter.unusedVariables false
open Go.RowKit Go.Shelf

theorem infoNode : (Tryz.prog.info? 41).map (fun i => (i.zero, i.size, i.bytes)) = some (some (.agg #[.int .i64 0, .string ⟨#[]⟩, .int .i64 0, .slice none 0 0, .int .i64 0]), 5, 64) := by kernel_rfl
theorem infoInt : (Tryz.prog.info? 3).map (fun i => (i.zero, i.size, i.bytes)) = some (some (.int .i64 0), 1, 8) := by kernel_rfl

/-- A node of the call's own, and where its kids lie. -/
structure NE where
  x : Nd
  a : Option Addr
  cap : Nat
def cellN (e : NE) : List Value := [.int .i64 e.x.kind, .string e.x.text, .int .i64 e.x.num, .slice e.a e.x.kids.length e.cap, .int .i64 e.x.at']
def flatN (es : List NE) : List Value := es.flatMap cellN
theorem flatN_len (es : List NE) : (flatN es).length = es.length * 5 := by
  induction es with
  | nil => rfl
  | cons x es ih => simp only [flatN, List.flatMap_cons, List.length_append, List.length_cons] at ih ⊢; simp only [ih]; simp [cellN]; omega
theorem flatN_snoc (es : List NE) (x : NE) : flatN (es ++ [x]) = flatN es ++ cellN x := by simp [flatN]
theorem flatN_append (es fs : List NE) : flatN (es ++ fs) = flatN es ++ flatN fs := by simp [flatN]
/-- Its kids, in a row of whole numbers of its own. -/
def KidO (W : World) (B : Nat) (e : NE) : Prop := e.x.kids.length ≤ e.cap ∧ e.cap ≤ maxLen ∧ (e.x.kids = [] ∨ ∃ kb cur, e.a = some ⟨kb, 0, none⟩ ∧ B ≤ kb ∧ W.heap[kb]? = some (Obj.cells cur 3 (0, 0)) ∧ ∀ j, j < e.x.kids.length → cur[j]? = some (.int .i64 (e.x.kids.getD j 0)))
theorem KidO.keep {W W' : World} {B : Nat} {e : NE} (h : KidO W B e) (hk : ∀ (k : Nat) (cur : Array Value), W.heap[k]? = some (Obj.cells cur 3 (0, 0)) → W'.heap[k]? = W.heap[k]?) : KidO W' B e := by
  obtain ⟨h1, h2, h3⟩ := h
  refine ⟨h1, h2, ?_⟩
  rcases h3 with h3 | ⟨kb, cur, ha, hb, hh, hc⟩
  · exact .inl h3
  · exact .inr ⟨kb, cur, ha, hb, (hk kb cur hh).trans hh, hc⟩
theorem KidO.below {W W' : World} {B : Nat} {e : NE} (h : KidO W B e) (hB : Below W.heap.size W W') : KidO W' B e :=
  h.keep fun k cur hk => hB.block k (Array.getElem?_eq_some_iff.1 hk).1
/-- A row of nodes of the call's own. -/
def OwnN (W : World) (B : Nat) (v : Value) (es : List NE) : Prop := W.ownsRow B 41 5 v es.length (flatN es) ∧ ∀ e ∈ es, KidO W B e
theorem put5_1 {W : World} {R : Nat} {x0 x1 x2 x3 x4 : Value} (h : W.heap[R]? = some (.cells #[x0, x1, x2, x3, x4] 41)) (y : Value) : (W.setCell ⟨R, 1, none⟩ y).heap[R]? = some (.cells #[x0, y, x2, x3, x4] 41) := by
  simp [World.setCell, Array.getElem?_modify, h]
theorem put5_3 {W : World} {R : Nat} {x0 x1 x2 x3 x4 : Value} (h : W.heap[R]? = some (.cells #[x0, x1, x2, x3, x4] 41)) (y : Value) : (W.setCell ⟨R, 3, none⟩ y).heap[R]? = some (.cells #[x0, x1, x2, y, x4] 41) := by
  simp [World.setCell, Array.getElem?_modify, h]
theorem cells5 {W : World} {R : Nat} {x0 x1 x2 x3 x4 : Value} (h : W.heap[R]? = some (.cells #[x0, x1, x2, x3, x4] 41)) : W.cell? ⟨R, 0, none⟩ = some x0 ∧ W.cell? ⟨R, 1, none⟩ = some x1 ∧ W.cell? ⟨R, 2, none⟩ = some x2 ∧ W.cell? ⟨R, 3, none⟩ = some x3 ∧ W.cell? ⟨R, 4, none⟩ = some x4 := by
  refine ⟨?_, ?_, ?_, ?_, ?_⟩ <;> rw [Lib.cell_of_heap h] <;> rfl
theorem frozen_at {W : World} {B : Nat} {C : Array Value} {t : TypeId} (h : W.heap[B]? = some (.cells C t (0, 0))) (j : Nat) : W.frozen? ⟨B, j, none⟩ = false := by simp [World.frozen?, h]
theorem own_kids {W : World} {B g n : Nat} {xs : List Value} (h : W.ownsRow B 3 1 (.slice (some ⟨g, 0, none⟩) n n) n xs) : ∃ cur, W.heap[g]? = some (.cells cur 3 (0, 0)) ∧ ∀ j, j < n → cur[j]? = xs[j]? := by
  rcases h.2 with ⟨h', _⟩ | ⟨g', cap', cur, h', _, hg, _, _, _, htake⟩
  · simp at h'
  · simp only [Value.slice.injEq, Option.some.injEq, Addr.mk.injEq, and_true, true_and] at h'
    obtain ⟨rfl, rfl⟩ := h'
    refine ⟨cur, hg, fun j hj => ?_⟩
    rw [← htake, List.getElem?_take, if_pos (by omega)]
    simp
theorem setCell_size {w w' : World} {a : Addr} {v : Value} (h : w.setCell a v = w') : w'.heap.size = w.heap.size := by subst h; simp [World.setCell]
theorem two_sets {w5 w6 w7 : World} {X : Nat} {y1 y3 : Value} (h6 : w5.setCell ⟨X, 1, none⟩ y1 = w6) (h7 : w6.setCell ⟨X, 3, none⟩ y3 = w7) : w7.os = w5.os ∧ w7.tape = w5.tape ∧ w7.output = w5.output ∧ w7.heap.size = w5.heap.size ∧ ∀ k, k ≠ X → w7.heap[k]? = w5.heap[k]? := by
  subst h6 h7
  refine ⟨rfl, rfl, rfl, by simp [World.setCell], fun k hk => ?_⟩
  rw [Below.heap_setCell _ _ _ _ hk, Below.heap_setCell _ _ _ _ hk]
theorem grown7 {w0 wr w5 w6 w7 : World} {y1 y3 : Value} (hg : w0.grownBy wr none) (hB5 : Below wr.heap.size wr w5) (h6 : w5.setCell ⟨w0.heap.size, 1, none⟩ y1 = w6) (h7 : w6.setCell ⟨w0.heap.size, 3, none⟩ y3 = w7) : w0.grownBy w7 none ∧ w7.heap.size = w5.heap.size ∧ ∀ k, k < wr.heap.size → k ≠ w0.heap.size → w7.heap[k]? = wr.heap[k]? := by
  obtain ⟨a, b, c, d, e⟩ := two_sets h6 h7
  have hk : ∀ k, k < wr.heap.size → k ≠ w0.heap.size → w7.heap[k]? = wr.heap[k]? := fun k hk hne => (e k hne).trans (hB5.block k hk)
  have z0 := hg.size
  have z5 := hB5.size
  exact ⟨⟨a.trans (hB5.os.trans hg.os), b.trans (hB5.tape.trans hg.tape), c.trans (hB5.output.trans hg.output), by omega, fun k h _ => (hk k (by omega) (by omega)).trans (hg.block k h (by simp))⟩, d, hk⟩
end Go.Proofs.YtnnpkomedpjlcaaGreatDoor

/- shucklaw3.known answers true, in whatever memory. -/
namespace Go.Proofs.YtnnpkomedpjlcaaGreatDoor
set_option linter.unusedSimpArgs false
set_option linter.unusedVariables false
open Go.RowKit Go.Shelf

theorem flatN_get (es : List NE) : ∀ (j : Nat) (e : NE), es[j]? = some e → ∀ i, i < 5 → (flatN es)[j * 5 + i]? = (cellN e)[i]? := by
  induction es with
  | nil => intro j e h; cases h
  | cons x es ih =>
    intro j e h i hi
    have hc : (cellN x).length = 5 := rfl
    have e1 : flatN (x :: es) = cellN x ++ flatN es := by simp [flatN]
    rw [e1]
    cases j with
    | zero =>
      simp only [List.getElem?_cons_zero, Option.some.injEq] at h
      subst h
      rw [List.getElem?_append_left (by omega)]; simp
    | succ j =>
      rw [List.getElem?_append_right (by omega), hc, show (j + 1) * 5 + i - 5 = j * 5 + i from by omega]
      exact ih j e (by simpa using h) i hi
/-- A row of nodes of the call's own is a row of nodes. -/
theorem OwnN.nodes {W : World} {B : Nat} {v : Value} {es : List NE} (h : OwnN W B v es) (hl : es.length ≤ 2199023255552) (hb : ∀ e ∈ es, e.x.text.size ≤ 4294967280 ∧ e.x.kids.length ≤ 17592186044416) : Nodes W W.heap.size v (es.map NE.x) := by
  have hnd : ∀ j e, es[j]? = some e → nd (es.map NE.x) j = e.x := fun j e he => by simp [nd, List.getD_eq_getElem?_getD, he]
  refine ⟨by simpa using hl, fun j hj => ?_, ?_⟩
  · obtain ⟨e, he⟩ : ∃ e, es[j]? = some e := ⟨_, List.getElem?_eq_getElem (by simpa using hj)⟩
    rw [hnd j e he]
    exact hb e (List.mem_of_getElem? he)
  · rcases h.1.2 with ⟨rfl, h0⟩ | ⟨g, cap, cur, rfl, hbg, hh, hn, hm, hs, htake⟩
    · have : es = [] := List.length_eq_zero_iff.1 h0
      subst this
      exact ⟨none, 0, rfl, Nat.le_refl _, Nat.zero_le _, .inl rfl⟩
    · refine ⟨some ⟨g, 0, none⟩, cap, by simp, by simpa using hn, hm, .inr ⟨g, 0, rfl, (Array.getElem?_eq_some_iff.1 hh).1, fun j hj => ?_⟩⟩
      have hj' : j < es.length := by simpa using hj
      obtain ⟨e, he⟩ : ∃ e, es[j]? = some e := ⟨_, List.getElem?_eq_getElem hj'⟩
      rw [hnd j e he, Nat.zero_add]
      have cell : ∀ i, i < 5 → W.cell? ⟨g, j * 5 + i, none⟩ = (cellN e)[i]? := fun i hi => by
        rw [h.1.cellAt (j * 5 + i) (by omega)]
        exact flatN_get es j e he i hi
      obtain ⟨k1, k2, k3⟩ := h.2 e (List.mem_of_getElem? he)
      refine ⟨cell 0 (by omega), cell 1 (by omega), cell 2 (by omega), ⟨e.a, e.cap, cell 3 (by omega), k1, k2, ?_⟩, cell 4 (by omega)⟩
      rcases k3 with k3 | ⟨kb, cur', ha, hkb, hkh, hkc⟩
      · exact .inl k3
      · refine .inr ⟨kb, 0, ha, (Array.getElem?_eq_some_iff.1 hkh).1, fun i hi => ?_⟩
        rw [Lib.cell_of_heap hkh, Nat.zero_add]
        exact hkc i hi

/-- The known tree. -/
def ndK : Nd := ⟨17, ⟨#[120]⟩, 0, [], 0⟩
def lK : List Nd := [⟨34, ⟨#[]⟩, 0, [1], 0⟩, ndK]
theorem fitK0 : fitP lK 0 = true := by
  have e : tabT (nd lK 0).kind = some ⟨none, none, some 92, none, none, none, none, none⟩ := by rfl
  simp only [fitP, e, Option.isSome_some, Option.getD_some, txP, nmP, kidP, Option.isNone_none, Bool.true_or, Bool.and_true, Bool.true_and]
  have e1 : (nd lK 0).text.toList.isEmpty = true := by rw [ba_toList]; decide
  rw [e1]
  decide
theorem fitK1 : fitP lK 1 = true := by
  have e : tabT (nd lK 1).kind = some ⟨some 67, none, none, none, none, none, none, none⟩ := by rfl
  have e1 : nameB ⟨#[120]⟩ = true := by
    have : hasT wordL ⟨#[120]⟩ = false := by simp only [hasT, wordL, ba_toList]; decide
    simp only [nameB, this]
    decide
  simp only [fitP, e, Option.isSome_some, Option.getD_some, txP, nmP, kidP, Option.isNone_none, Bool.true_or, Bool.and_true, Bool.true_and]
  show (nameB ⟨#[120]⟩ && _ && _) = true
  rw [e1]
  decide
theorem chkK : chkP lK = (-1, 0) := by
  have e1 : lookP lK 1 1 = (-1, 2) := by simp only [lookP, fitK1, if_true]; decide
  have e0 : lookP lK 2 0 = (-1, 2) := by
    show (if fitP lK 0 = true then lookK (lookP lK 1) 0 (nd lK 0).kids (0 + 1) else _) = _
    rw [fitK0]
    show lookK (lookP lK 1) 0 [1] 1 = (-1, 2)
    simp only [lookK]
    rw [if_pos (by decide), e1]
    decide
  show outP lK (lookP lK 2 0) = _
  rw [e0]
  decide
end Go.Proofs.YtnnpkomedpjlcaaGreatDoor
