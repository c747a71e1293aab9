/- The stripper in memory: a node laid, a number behind, kids set. -/
import Derived.OwnWalk
import Derived.Laws.OwnMore
import Derived.Maps.Range
import Derived.Test.YtnnpkomedpjlcaaGreatDoorKL
namespace Go.Proofs.YtnnpkomedpjlcaaGreatDoor
set_option linter.unusedSimpArgs false
set_option linter.unusedVariables false
open Go.RowKit Go.Shelf

theorem StAt.far {W : World} {B S : Nat} {v lv : Value} {es : List NE} (h : StAt W B S v lv es) : some S ≠ lv.ownBlock := fun e => by
  rcases h.2.1.2 with ⟨h1, _⟩ | ⟨g1, cap1, cur1, h1, _, hh1, _⟩
  · rw [h1] at e; cases e
  · rw [h1] at e
    simp only [Value.ownBlock, Option.some.injEq] at e
    rw [← e, h.1] at hh1
    cases hh1
/-- A row of kids is not what holds nodes, and not the stripper. -/
theorem StAt.ints {W : World} {B S k : Nat} {v lv : Value} {es : List NE} {cur : Array Value} (h : StAt W B S v lv es) (hk : W.heap[k]? = some (Obj.cells cur 3 (0, 0))) : k ≠ S ∧ some k ≠ lv.ownBlock := by
  refine ⟨fun e => ?_, fun e => ?_⟩
  · rw [e, h.1] at hk; cases hk
  · rcases h.2.1.2 with ⟨h1, _⟩ | ⟨g1, cap1, cur1, h1, _, hh1, _⟩
    · rw [h1] at e; cases e
    · rw [h1] at e
      simp only [Value.ownBlock, Option.some.injEq] at e
      rw [← e, hk] at hh1
      cases hh1
/-- A node is laid behind. -/
theorem StAt.laid {W w6 w4 : World} {B S g4 cap4 : Nat} {v lv : Value} {es : List NE} {e0 : NE} {o : Obj} (hst : StAt W B S v lv es) (hBS : B ≤ S) (hBW : B ≤ W.heap.size) (hb6 : Below W.heap.size W w6) (hgrow : (w6.alloc o).grownBy w4 lv.ownBlock) (hown : w4.ownsRow B 41 5 (.slice (some ⟨g4, 0, none⟩) (es.length + 1) cap4) (es.length + 1) (flatN es ++ cellN e0)) (hat : lv.ownBlock = some g4 ∨ g4 = (w6.alloc o).heap.size) (he : e0.x.kids = []) (hcap : e0.cap ≤ maxLen) :
    StAt (w4.setCell ⟨S, 1, none⟩ (.slice (some ⟨g4, 0, none⟩) (es.length + 1) cap4)) B S v (.slice (some ⟨g4, 0, none⟩) (es.length + 1) cap4) (es ++ [e0]) ∧ StF W (w4.setCell ⟨S, 1, none⟩ (.slice (some ⟨g4, 0, none⟩) (es.length + 1) cap4)) S lv (.slice (some ⟨g4, 0, none⟩) (es.length + 1) cap4) := by
  have hSl : S < W.heap.size := (Array.getElem?_eq_some_iff.1 hst.1).1
  have hba := hb6.alloc hb6.size o
  have hs4 : w4.heap[S]? = some (.cells #[v, lv] 50) := ((hgrow.block S (by have := hb6.size; simp; omega) hst.far).trans (hba.block S hSl)).trans hst.1
  have hz := hgrow.size
  have hz6 := hb6.size
  simp only [World.size_alloc] at hz hat
  have hkeep : ∀ k, k < W.heap.size → k ≠ S → some k ≠ lv.ownBlock → (w4.setCell ⟨S, 1, none⟩ (.slice (some ⟨g4, 0, none⟩) (es.length + 1) cap4)).heap[k]? = W.heap[k]? := fun k hk hS hl =>
    (Below.heap_setCell _ _ _ _ hS).trans ((hgrow.block k (by simp; omega) hl).trans (hba.block k hk))
  have hgS : g4 ≠ S := fun e => by
    rcases hat with h | h
    · exact hst.far (by rw [h, e])
    · omega
  refine ⟨⟨?_, ?_, fun e hm => ?_⟩, hgrow.os.trans hb6.os, hgrow.tape.trans hb6.tape, hgrow.output.trans hb6.output, by simp [World.setCell]; omega, hkeep, ?_⟩
  · exact setK hs4 1 _
  · rw [flatN_snoc, List.length_append, List.length_singleton]
    refine ownsRow_heap hown fun k hk => Below.heap_setCell _ _ _ _ ?_
    have : k = g4 := by simpa [Value.ownBlock] using hk.symm
    subst this
    exact hgS
  · rcases List.mem_append.1 hm with hm | hm
    · obtain ⟨k1, k2, k3⟩ := hst.2.2 e hm
      refine ⟨k1, k2, ?_⟩
      rcases k3 with k3 | ⟨kb, cur, ha, hkb, hkh, hkc⟩
      · exact .inl k3
      · have := hst.ints hkh
        exact .inr ⟨kb, cur, ha, hkb, (hkeep kb (Array.getElem?_eq_some_iff.1 hkh).1 this.1 this.2).trans hkh, hkc⟩
    · have : e = e0 := by simpa using hm
      subst this
      exact ⟨by rw [he]; exact Nat.zero_le _, hcap, .inl he⟩
  · rcases hat with h | h
    · exact .inl (by rw [h]; rfl)
    · refine .inr fun k hk => ?_
      have : k = g4 := by simpa [Value.ownBlock] using hk.symm
      omega
/-- Kids that lie apart from a row. -/
def KidB (es : List NE) (u : Value) : Prop := ∀ e ∈ es, e.x.kids ≠ [] → ∀ kb, e.a = some ⟨kb, 0, none⟩ → some kb ≠ u.ownBlock
/-- A number is put behind a row of the call's own. -/
theorem StAt.grown {W0 W w8 : World} {B S n : Nat} {v lv0 lv u : Value} {es : List NE} {xs : List Value} {o : Obj} (hst : StAt W B S v lv es) (hf : StF W0 W S lv0 lv) (hr : W.ownsRow B 3 1 u n xs) (hu : ∀ k, u.ownBlock = some k → W0.heap.size ≤ k) (hkb : KidB es u) (hgrow : (W.alloc o).grownBy w8 u.ownBlock) : StAt w8 B S v lv es ∧ StF W0 w8 S lv0 lv := by
  have hz := hgrow.size
  simp only [World.size_alloc] at hz
  have hkeep : ∀ k, k < W.heap.size → some k ≠ u.ownBlock → w8.heap[k]? = W.heap[k]? := fun k hk hl => (hgrow.block k (by simp; omega) hl).trans (Below.heap_alloc _ _ _ hk)
  have hSl : S < W.heap.size := (Array.getElem?_eq_some_iff.1 hst.1).1
  have hur : ∀ k, u.ownBlock = some k → ∃ cur, W.heap[k]? = some (Obj.cells cur 3 (0, 0)) := fun k hk => by
    rcases hr.2 with ⟨h0, _⟩ | ⟨g, cap, cur, h0, _, hh, _⟩
    · rw [h0] at hk; cases hk
    · rw [h0] at hk
      have e : g = k := by simpa [Value.ownBlock] using hk
      subst e
      exact ⟨cur, hh⟩
  refine ⟨⟨(hkeep S hSl (fun e => ?_)).trans hst.1, ownsRow_heap hst.2.1 fun k hk => hkeep k (hst.2.1.lt k hk).2 (fun e => ?_), fun e hm => ?_⟩, ?_⟩
  · obtain ⟨cur, h⟩ := hur S e.symm
    exact (hst.ints h).1 rfl
  · obtain ⟨cur, h⟩ := hur k e.symm
    exact (hst.ints h).2 hk.symm
  · obtain ⟨k1, k2, k3⟩ := hst.2.2 e hm
    refine ⟨k1, k2, ?_⟩
    by_cases hks : e.x.kids = []
    · exact .inl hks
    · rcases k3 with k3 | ⟨kb, cur, ha, hkb', hkh, hkc⟩
      · exact .inl k3
      · exact .inr ⟨kb, cur, ha, hkb', (hkeep kb (Array.getElem?_eq_some_iff.1 hkh).1 (hkb e hm hks kb ha)).trans hkh, hkc⟩
  · obtain ⟨a1, a2, a3, a4, a5, a6⟩ := hf
    refine ⟨hgrow.os.trans a1, hgrow.tape.trans a2, hgrow.output.trans a3, by omega, fun k hk hS hl => (hkeep k (by omega) (fun e => ?_)).trans (a5 k hk hS hl), a6⟩
    have := hu k e.symm
    omega
theorem flatN_mid (es : List NE) (e0 : NE) (body : List NE) (u : Value) : (flatN (es ++ e0 :: body)).set (es.length * 5 + 3) u = flatN es ++ (.int .i64 e0.x.kind :: .string e0.x.text :: .int .i64 e0.x.num :: u :: .int .i64 e0.x.at' :: flatN body) := by
  rw [flatN_append, List.set_append_right _ _ (by rw [flatN_len]; omega), flatN_len]
  congr 1
  have : es.length * 5 + 3 - es.length * 5 = 3 := by omega
  rw [this]
  rfl
/-- A node's kids are set. -/
theorem StAt.kids {W0 W : World} {B S g N cap c : Nat} {v lv0 : Value} {ua : Option Addr} {es body : List NE} {yk yn ya : Int} {yt : ByteArray} {idx : List Int} (hst : StAt W B S v (.slice (some ⟨g, 0, none⟩) N cap) (es ++ ⟨⟨yk, yt, yn, [], ya⟩, none, 0⟩ :: body)) (hN : (es ++ (⟨⟨yk, yt, yn, [], ya⟩, none, 0⟩ : NE) :: body).length = N) (hr : W.ownsRow B 3 1 (.slice ua idx.length c) idx.length (kvs idx)) (hf : StF W0 W S lv0 (.slice (some ⟨g, 0, none⟩) N cap)) :
    StAt (W.setCell ⟨g, es.length * 5 + 3, none⟩ (.slice ua idx.length c)) B S v (.slice (some ⟨g, 0, none⟩) N cap) (es ++ ⟨⟨yk, yt, yn, idx, ya⟩, ua, c⟩ :: body) ∧ StF W0 (W.setCell ⟨g, es.length * 5 + 3, none⟩ (.slice ua idx.length c)) S lv0 (.slice (some ⟨g, 0, none⟩) N cap) := by
  have hgS : g ≠ S := fun e => hst.far (by rw [← e]; rfl)
  have hkeep : ∀ k, k ≠ g → (W.setCell ⟨g, es.length * 5 + 3, none⟩ (.slice ua idx.length c)).heap[k]? = W.heap[k]? := fun k hk => Below.heap_setCell _ _ _ _ hk
  have hi3 : ∀ (k : Nat) (cur : Array Value), W.heap[k]? = some (Obj.cells cur 3 (0, 0)) → (W.setCell ⟨g, es.length * 5 + 3, none⟩ (.slice ua idx.length c)).heap[k]? = W.heap[k]? := fun k cur hk => hkeep k (fun e => (hst.ints hk).2 (by rw [e]; rfl))
  have hlen : (es ++ (⟨⟨yk, yt, yn, idx, ya⟩, ua, c⟩ : NE) :: body).length = (es ++ (⟨⟨yk, yt, yn, [], ya⟩, none, 0⟩ : NE) :: body).length := by simp
  refine ⟨⟨(hkeep S (Ne.symm hgS)).trans hst.1, ?_, fun e hm => ?_⟩, ?_⟩
  · have h := hst.2.1
    rw [hN] at h
    have h2 := (h.stored (es.length * 5 + 3) (.slice ua idx.length c)).1
    rw [flatN_mid] at h2
    rw [hlen, hN]
    have e2 : flatN (es ++ (⟨⟨yk, yt, yn, idx, ya⟩, ua, c⟩ : NE) :: body) = flatN es ++ (.int .i64 yk :: .string yt :: .int .i64 yn :: .slice ua idx.length c :: .int .i64 ya :: flatN body) := by rw [flatN_append]; rfl
    rw [e2]
    exact h2
  · rcases List.mem_append.1 hm with hm | hm
    · exact (hst.2.2 e (List.mem_append_left _ hm)).keep hi3
    · rcases List.mem_cons.1 hm with rfl | hm
      · have hcp := own_cap hr
        refine ⟨hcp.1, hcp.2, ?_⟩
        rcases hr.2 with ⟨_, h0⟩ | ⟨g', cap', cur, h0, hb', hh, _, _, _, ht⟩
        · exact .inl (List.length_eq_zero_iff.1 h0)
        · injection h0 with h1 _ _
          refine .inr ⟨g', cur, h1, hb', (hi3 g' cur hh).trans hh, fun j hj => ?_⟩
          have hj' : j < idx.length := hj
          have e1 : (cur.toList.take (idx.length * 1))[j]? = cur[j]? := by rw [List.getElem?_take, if_pos (by omega)]; simp
          rw [← e1, ht]
          simp [kvs, List.getElem?_map, List.getD_eq_getElem?_getD, List.getElem?_eq_getElem hj']
      · exact (hst.2.2 e (List.mem_append_right _ (List.mem_cons_of_mem _ hm))).keep hi3
  · obtain ⟨a1, a2, a3, a4, a5, a6⟩ := hf
    refine ⟨a1, a2, a3, by simp [World.setCell]; omega, fun k hk hS hl => (hkeep k (fun e => ?_)).trans (a5 k hk hS hl), a6⟩
    rcases a6 with h | h
    · exact hl (by rw [← h, e]; rfl)
    · have := h g rfl
      omega
end Go.Proofs.YtnnpkomedpjlcaaGreatDoor
