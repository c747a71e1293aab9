/- A row of trees of the call's own. -/
import Derived.LoopN
import Derived.OwnWalk
import Derived.Test.YtoffpbaddehncaaGreatDoorVB
import Derived.Test.YtoffpbaddehncaaGreatDoorUG
namespace Go.Proofs.YtoffpbaddehncaaGreatDoor
set_option linter.unusedSimpArgs false
set_option linter.unusedVariables false
open Go.RowKit Go.Shelf

theorem infoTree : (Tryz.prog.info? 24).map (fun i => (i.zero, i.size, i.bytes)) = some (some (.agg #[.slice none 0 0]), 1, 24) := by kernel_rfl

theorem OwnN.keepB {W W' : World} {B : Nat} {v : Value} {es : List NE} (h : OwnN W B v es) (hB : Below W.heap.size W W') : OwnN W' B v es :=
  ⟨ownsRow_below h.1 hB, fun e he => (h.2 e he).below hB⟩
theorem OwnN.mono {W : World} {B B' : Nat} {v : Value} {es : List NE} (h : OwnN W B v es) (hB : B' ≤ B) : OwnN W B' v es := ⟨h.1.mono hB, fun e he => (h.2 e he).mono hB⟩
/-- Kept where rows of nodes and of whole numbers are kept. -/
theorem OwnN.keepT {W W' : World} {B : Nat} {v : Value} {es : List NE} (h : OwnN W B v es) (hk : ∀ (k : Nat) (cur : Array Value) (t : TypeId), t ≠ 24 → W.heap[k]? = some (Obj.cells cur t (0, 0)) → W'.heap[k]? = W.heap[k]?) : OwnN W' B v es := by
  refine ⟨ownsRow_heap h.1 (fun g hg => ?_), fun e he => (h.2 e he).keep fun k cur hh => hk k cur 3 (by decide) hh⟩
  rcases h.1.2 with ⟨h', _⟩ | ⟨g', cap', cur, h', _, hh, _⟩
  · rw [h'] at hg; cases hg
  · rw [h'] at hg
    simp only [Value.ownBlock, Option.some.injEq] at hg
    subst hg
    exact hk _ cur 29 (by decide) hh
/-- Trees, each in rows of its own, in a row of its own. -/
def TRow (W : World) (B : Nat) (u : Value) (xs : List (Value × List NE)) : Prop := W.ownsRow B 24 1 u xs.length (xs.map (·.1)) ∧ ∀ x ∈ xs, OwnN W B x.1 x.2
theorem TRow.keepB {W W' : World} {B : Nat} {u : Value} {xs : List (Value × List NE)} (h : TRow W B u xs) (hB : Below W.heap.size W W') : TRow W' B u xs :=
  ⟨ownsRow_below h.1 hB, fun x hx => (h.2 x hx).keepB hB⟩
theorem TRow.nil (W : World) (B : Nat) : TRow W B (.slice none 0 0) [] := ⟨World.ownsRow_nil _ _ _ _, fun x hx => by cases hx⟩
/-- What an append of one leaves. -/
theorem TRow.snoc {W W' : World} {B : Nat} {u u' : Value} {xs : List (Value × List NE)} {v : Value} {es : List NE} (h : TRow W B u xs) (hv : OwnN W B v es) (hu : W'.ownsRow B 24 1 u' (xs.length + 1) (xs.map (·.1) ++ [v])) (hg : W.grownBy W' u.ownBlock) : TRow W' B u' (xs ++ [(v, es)]) := by
  have hk : ∀ (k : Nat) (cur : Array Value) (t : TypeId), t ≠ 24 → W.heap[k]? = some (Obj.cells cur t (0, 0)) → W'.heap[k]? = W.heap[k]? := fun k cur t ht hh => by
    refine hg.block k (Array.getElem?_eq_some_iff.1 hh).1 (fun e => ?_)
    rcases h.1.2 with ⟨h', _⟩ | ⟨g', cap', cur', h', _, hh', _⟩
    · rw [h'] at e; cases e
    · rw [h'] at e
      simp only [Value.ownBlock, Option.some.injEq] at e
      rw [e, hh'] at hh
      simp at hh
      exact ht hh.2.symm
  refine ⟨by simpa using hu, fun x hx => ?_⟩
  rcases List.mem_append.1 hx with hx | hx
  · exact (h.2 x hx).keepT hk
  · obtain rfl := List.mem_singleton.1 hx
    exact hv.keepT hk
/-- How great the nodes are. -/
def Sz (l : List Nd) : Prop := l.length ≤ 3000 ∧ ∀ x ∈ l, x.text.size ≤ 3000 ∧ x.kids.length ≤ 3000
theorem Sz.sub {l : List Nd} (h : Sz l) {n : Nat} (hf : Fine l n) : Sz (subT l n) := by
  refine ⟨by rw [subT_len hf]; have := hf.le; have := h.1; omega, fun x hx => ?_⟩
  obtain ⟨y, hy, rfl⟩ := List.mem_map.1 hx
  obtain ⟨m, _, hm, rfl⟩ := str_mem hf.le.2 hy
  have hml : m < l.length := by have := hf.le; omega
  have hmem : nd l m ∈ l := by
    simp only [nd, List.getD_eq_getElem?_getD, List.getElem?_eq_getElem hml]
    exact List.getElem_mem hml
  have := h.2 _ hmem
  exact ⟨this.1, by rw [(shN_size _ _).2]; exact this.2⟩
theorem sz_of {l : List Nd} (h : szN l l.length ≤ 3000) : Sz l := by
  have h0 := szN_len l l.length
  refine ⟨by omega, fun x hx => ?_⟩
  obtain ⟨j, hj⟩ := List.getElem?_of_mem hx
  have hjl := (List.getElem?_eq_some_iff.1 hj).1
  have e : nd l j = x := by simp [nd, List.getD_eq_getElem?_getD, hj]
  have := szN_at l hjl
  rw [e] at this
  omega
theorem OwnN.nodesZ {W : World} {B : Nat} {v : Value} {es : List NE} (h : OwnN W B v es) {l : List Nd} (he : es.map NE.x = l) (hs : Sz l) : Nodes W W.heap.size v l := by
  subst he
  have h1 := hs.1
  simp only [List.length_map] at h1
  refine h.nodes (by omega) fun e he => ?_
  have := hs.2 e.x (List.mem_map_of_mem he)
  omega
theorem TRow.form {W : World} {B : Nat} {u : Value} {xs : List (Value × List NE)} (h : TRow W B u xs) : ∃ a c, u = .slice a xs.length c := by
  rcases h.1.2 with ⟨h', h0⟩ | ⟨g', cap', cur', h', _⟩
  · exact ⟨none, 0, by rw [h', h0]⟩
  · exact ⟨_, _, h'⟩
theorem TRow.trees {W : World} {B : Nat} {a : Option Addr} {n c : Nat} {xs : List (Value × List NE)} (h : TRow W B (.slice a n c) xs) {ts : List (List Nd)} (ht : xs.map (fun x => x.2.map NE.x) = ts) (hs : ∀ t ∈ ts, Sz t) : TreesAt W W.heap.size a ts := by
  by_cases h0 : ts = []
  · exact .inl h0
  have hl : xs.length = ts.length := by rw [← ht]; simp
  have hp : 0 < ts.length := List.length_pos_iff.2 h0
  rcases h.1.2 with ⟨h', h1⟩ | ⟨g, cap', cur', h', _, hh, _⟩
  · omega
  · cases h'
    refine .inr ⟨g, 0, rfl, (Array.getElem?_eq_some_iff.1 hh).1, fun j hj => ?_⟩
    have hjx : j < xs.length := by omega
    have e1 : (xs.map (·.1))[j]? = some xs[j].1 := by simp [hjx]
    have ej : ts.getD j [] = xs[j].2.map NE.x := by rw [← ht]; simp [List.getD_eq_getElem?_getD, hjx]
    refine ⟨xs[j].1, ?_, ?_⟩
    · rw [Nat.zero_add, h.1.cellAt j (by omega), e1]
    · rw [ej]
      refine (h.2 _ (List.getElem_mem hjx)).nodesZ rfl (hs _ ?_)
      rw [← ej, List.getD_eq_getElem?_getD, List.getElem?_eq_getElem hj]
      exact List.getElem_mem hj
theorem kidsT_take {l : List Nd} {n j : Nat} (hj : j < (nd l n).kids.length) {k : Int} (hk : (nd l n).kids.getD j 0 = k) : (kidsT l n).take (j + 1) = (kidsT l n).take j ++ [subT l k.toNat] := by
  have h1 : j < (kidsT l n).length := by simpa [kidsT] using hj
  rw [List.take_succ_eq_append_getElem h1]
  congr 2
  have : (nd l n).kids[j] = k := by rw [← hk, List.getD_eq_getElem?_getD, List.getElem?_eq_getElem hj]; rfl
  simp [kidsT, this]
end Go.Proofs.YtoffpbaddehncaaGreatDoor
