/- lent with what it lays behind. -/
import Derived.Deep.AppendLies
import Derived.Deep.DrawnRows
import Derived.Deep.RegionHeld3
import Derived.Deep.RegionLaw
import Derived.LoopN
import Derived.WalkSmall
import Derived.Test.YtnnpkomedpjlcaaGreatDoorM1
import Derived.Test.YtnnpkomedpjlcaaGreatDoorM3
import Derived.Test.YtnnpkomedpjlcaaGreatDoorM4
/- Kids with a mark behind. -/
namespace Go.Proofs.YtnnpkomedpjlcaaGreatDoor
open Go.RowKit Go.Shelf

/-- Its kids, in a row of whole numbers of its own, and a mark behind them. -/
def KidS (W : World) (B : Nat) (e : NE) : Prop := ∃ kb cur, e.a = some ⟨kb, 0, none⟩ ∧ B ≤ kb ∧ W.heap[kb]? = some (Obj.cells cur 3 (0, 0)) ∧ (∀ j, j < e.x.kids.length → cur[j]? = some (.int .i64 (e.x.kids.getD j 0))) ∧ cur[e.x.kids.length]? = some (.int .i64 171) ∧ e.x.kids.length + 1 ≤ e.cap ∧ e.cap ≤ maxLen
theorem KidS.keep {W W' : World} {B : Nat} {e : NE} (h : KidS W B e) (hk : ∀ (k : Nat) (cur : Array Value), W.heap[k]? = some (Obj.cells cur 3 (0, 0)) → W'.heap[k]? = W.heap[k]?) : KidS W' B e := by
  obtain ⟨kb, cur, ha, hb, hh, hr⟩ := h
  exact ⟨kb, cur, ha, hb, (hk kb cur hh).trans hh, hr⟩
/-- The node behind. -/
def markN : NE := ⟨⟨171, ⟨#[]⟩, 0, [], 0⟩, none, 0⟩
end Go.Proofs.YtnnpkomedpjlcaaGreatDoor

/- shucklaw3.lent in general, with what it lays behind. -/
namespace Go.Proofs.YtnnpkomedpjlcaaGreatDoor
set_option linter.unusedSimpArgs false
set_option linter.unusedVariables false
open Go.RowKit Go.Shelf
attribute [local go_sem ↓] Go.wp_at_zero Go.wp_at_succ

/-- Between two rounds: the first nodes have rows of kids of their own, with marks behind. -/
def LS (W1 : World) (B : Nat) (v3 : Value) (os : List NE) (i : Nat) (wr : World) (es : List NE) : Prop :=
  es.map NE.x = os.map NE.x ∧ wr.ownsRow B 41 5 v3 os.length (flatN es) ∧ (∀ j e, j < i → es[j]? = some e → KidS wr B e) ∧ (∀ j, i ≤ j → es[j]? = os[j]?) ∧ Below B W1 wr
theorem LS.next {W1 wr w2 : World} {B g cap3 n : Nat} {os es : List NE} {i : Nat} {x : Nd} {ka : Option Addr} {kc g2 cap2 : Nat} (h : LS W1 B (.slice (some ⟨g, 0, none⟩) n cap3) os i wr es) (hn : os.length = n) (he : es[i]? = some ⟨x, ka, kc⟩) (hgl : g < wr.heap.size) (hBw : B ≤ wr.heap.size)
    (hb2 : Below wr.heap.size wr w2) (hown2 : w2.ownsRow B 3 1 (.slice (some ⟨g2, 0, none⟩) (x.kids.length + 1) cap2) (x.kids.length + 1) (kvs x.kids ++ [.int .i64 171])) (hg2 : wr.heap.size ≤ g2) :
    LS W1 B (.slice (some ⟨g, 0, none⟩) n cap3) os (i + 1) (w2.setCell ⟨g, i * 5 + 3, none⟩ (.slice (some ⟨g2, 0, none⟩) x.kids.length cap2)) (es.set i ⟨x, some ⟨g2, 0, none⟩, cap2⟩) := by
  obtain ⟨hmap, hown, hnew, hold, hB⟩ := h
  subst hn
  have hil : i < es.length := (List.getElem?_eq_some_iff.1 he).1
  have hgB : B ≤ g := (hown.lt g rfl).1
  have hown' : w2.ownsRow B 41 5 (.slice (some ⟨g, 0, none⟩) os.length cap3) os.length (flatN es) := ownsRow_heap hown fun k hk => by
    have : k = g := by simpa [Value.ownBlock] using hk.symm
    subst this
    exact hb2.block _ hgl
  have hst := (hown'.stored (i * 5 + 3) (.slice (some ⟨g2, 0, none⟩) x.kids.length cap2)).1
  rw [flatN_set es i x ka kc (some ⟨g2, 0, none⟩) cap2 he] at hst
  have hkeep : ∀ (k : Nat) (cur : Array Value), wr.heap[k]? = some (Obj.cells cur 3 (0, 0)) → (w2.setCell ⟨g, i * 5 + 3, none⟩ (.slice (some ⟨g2, 0, none⟩) x.kids.length cap2)).heap[k]? = wr.heap[k]? := fun k cur hk => by
    have hkl := (Array.getElem?_eq_some_iff.1 hk).1
    have hne : k ≠ g := by
      rintro rfl
      rcases hown.2 with ⟨h0, _⟩ | ⟨g', cap', cur', h0, _, hh, _⟩
      · cases h0
      · injection h0 with h1 _ _
        injection h1 with h1
        injection h1 with h1 _ _
        subst h1
        rw [hk] at hh
        cases hh
    rw [Below.heap_setCell _ _ _ _ hne]
    exact hb2.block k hkl
  refine ⟨?_, hst, fun j e hj hje => ?_, fun j hj => ?_, (hB.trans (hb2.mono hBw)).setCell hgB _⟩
  · rw [List.map_set, ← hmap]
    refine List.ext_getElem? fun j => ?_
    rw [List.getElem?_set]
    split
    · rename_i hij
      subst hij
      rw [if_pos (by simpa using hil), List.getElem?_map, he]
      rfl
    · rfl
  · by_cases hji : j = i
    · subst hji
      rw [List.getElem?_set_self (by simpa using hil)] at hje
      cases hje
      have hcap := own_cap hown2
      rcases hown2.2 with ⟨h0, _⟩ | ⟨g', cap', cur, h0, hb', hh, _, _, _, htake⟩
      · cases h0
      · injection h0 with h1 _ h3
        injection h1 with h1
        injection h1 with h1 _ _
        subst h1
        refine ⟨g2, cur, rfl, hb', ?_, fun k hk => ?_, ?_, by show x.kids.length + 1 ≤ cap2; omega, hcap.2⟩
        · rw [Below.heap_setCell _ _ _ _ (by show g2 ≠ g; omega)]; exact hh
        · have hk' : k < x.kids.length := hk
          have e1 : (cur.toList.take ((x.kids.length + 1) * 1))[k]? = cur[k]? := by rw [List.getElem?_take, if_pos (by omega)]; simp
          rw [← e1, htake, List.getElem?_append_left (by rw [kvs_len]; exact hk')]
          simp [kvs, List.getElem?_map, List.getD_eq_getElem?_getD, List.getElem?_eq_getElem hk']
        · show cur[x.kids.length]? = _
          have e1 : (cur.toList.take ((x.kids.length + 1) * 1))[x.kids.length]? = cur[x.kids.length]? := by rw [List.getElem?_take, if_pos (by omega)]; simp
          rw [← e1, htake, List.getElem?_append_right (by rw [kvs_len]; exact Nat.le_refl _), kvs_len, Nat.sub_self]
          rfl
    · rw [List.getElem?_set_ne (by omega)] at hje
      exact (hnew j e (by omega) hje).keep hkeep
  · rw [List.getElem?_set_ne (by omega)]
    exact hold j (by omega)

theorem LS.done {W1 wr w4 : World} {B g cap3 n g4 cap4 : Nat} {os es : List NE} {o : Obj} {last : List Value} {p : Addr} (h : LS W1 B (.slice (some ⟨g, 0, none⟩) n cap3) os n wr es) (hn : os.length = n) (hgr : (wr.alloc o).drew.grownBy w4 (some g))
    (hown4 : w4.ownsRow B 41 5 (.slice (some ⟨g4, 0, none⟩) (n + 1) cap4) (n + 1) (flatN es ++ last)) (hp : p.block < B) (u : Value) : (w4.setCell p u).ownsRow B 41 5 (.slice (some ⟨g4, 0, none⟩) (n + 1) cap4) (n + 1) (flatN es ++ last) ∧ ∀ e ∈ es, KidS (w4.setCell p u) B e := by
  obtain ⟨hmap, hown, hnew, hold, hB⟩ := h
  have hel : es.length = n := by have := congrArg List.length hmap; simpa [hn] using this
  have hg4 : B ≤ g4 := (hown4.lt g4 rfl).1
  refine ⟨?_, fun e he => ?_⟩
  · refine ownsRow_heap hown4 fun k hk => ?_
    have : k = g4 := by simpa [Value.ownBlock] using hk.symm
    subst this
    exact Below.heap_setCell _ _ _ _ (by omega)
  · obtain ⟨j, hj⟩ := List.getElem?_of_mem he
    have hjl := (List.getElem?_eq_some_iff.1 hj).1
    obtain ⟨kb, cur, ha, hkb, hh, hc, hc2, hc3, hc4⟩ := hnew j e (by omega) hj
    refine ⟨kb, cur, ha, hkb, ?_, hc, hc2, hc3, hc4⟩
    have hkl := (Array.getElem?_eq_some_iff.1 hh).1
    have hne : kb ≠ g := by
      rintro rfl
      rcases hown.2 with ⟨h0, _⟩ | ⟨g', cap', cur', h0, _, hh', _⟩
      · cases h0
      · injection h0 with h1 _ _
        injection h1 with h1
        injection h1 with h1 _ _
        subst h1
        rw [hh] at hh'
        cases hh'
    rw [Below.heap_setCell _ _ _ _ (by omega)]
    refine (hgr.block kb (by show kb < (wr.alloc o).heap.size; simp; omega) (by simpa using hne)).trans ?_
    exact (Below.heap_alloc wr o kb hkl).trans hh

/-- What lent answers. -/
def LentS (l : List Nd) (W : World) (e : Ending) (w' : World) : Prop := ∃ g cap es, e = .returned (.agg #[.slice (some ⟨g, 0, none⟩) l.length cap]) ∧ es.map NE.x = l ∧ w'.ownsRow (W.heap.size + 1 + 1) 41 5 (.slice (some ⟨g, 0, none⟩) (l.length + 1) cap) (l.length + 1) (flatN es ++ cellN markN) ∧ (∀ e ∈ es, KidS w' (W.heap.size + 1 + 1) e) ∧ Below W.heap.size W w'
set_option maxRecDepth 100000 in
set_option maxHeartbeats 4000000 in
theorem lents_nil (W : World) (a : Option Addr) (cap : Nat) : Calls Tryz.prog 7 #[.agg #[.slice a 0 cap]] W (LentS [] W) := by
  obtain ⟨i0, hi, hz0, hz1, hz2⟩ := info_parts infoNode
  obtain ⟨W1, hW1⟩ : ∃ W1, (W.alloc (.cells #[.slice a 0 cap] 24)).alloc (.cells #[.slice none 0 0] 24) = W1 := ⟨_, rfl⟩
  have hB1 : Below W.heap.size W W1 := by rw [← hW1]; exact ((Below.refl _ W).alloc (Nat.le_refl _) _).alloc (by simp) _
  have hz1' : W1.heap.size = W.heap.size + 1 + 1 := by rw [← hW1]; simp
  have hbx : W1.cell? ⟨W.heap.size, 0, none⟩ = some (.slice a 0 cap) := by
    rw [← hW1, Lib.cell_of_heap (at_a2 W _ _)]; rfl
  have hbr : W1.cell? ⟨W.heap.size + 1, 0, none⟩ = some (.slice none 0 0) := by
    rw [← hW1, Lib.cell_of_heap (at_a3 W _ _)]; rfl
  have hbf : W1.frozen? ⟨W.heap.size + 1, 0, none⟩ = false := by rw [← hW1]; exact frozen_at (at_a3 W _ _) 0
  obtain ⟨wr, hwr⟩ : ∃ wr, W1.alloc (.cells #[] 41) = wr := ⟨_, rfl⟩
  have hBr : Below (W.heap.size + 1 + 1) W1 wr := by rw [← hwr]; exact (Below.refl _ W1).alloc (by omega) _
  have hzr : wr.heap.size = W.heap.size + 1 + 1 + 1 := by rw [← hwr]; simp; omega
  have hown : wr.ownsRow (W.heap.size + 1 + 1) 41 5 (.slice (some ⟨W.heap.size + 1 + 1, 0, none⟩) 0 0) 0 (flatN []) := own_empty (by rw [← hwr, ← hz1']; exact World.alloc_heap_new W1 _) (Nat.le_refl _)
  have HLS : Hid (LS W1 (W.heap.size + 1 + 1) (.slice (some ⟨W.heap.size + 1 + 1, 0, none⟩) 0 0) [] 0 wr []) := ⟨rfl, hown, fun j e h => by omega, fun _ _ => rfl, hBr⟩
  have hs1 : W.heap.size < wr.heap.size := by omega
  have hs2 : W.heap.size + 1 < wr.heap.size := by omega
  have hBwr : W.heap.size + 1 + 1 ≤ wr.heap.size := by omega
  have cb1 : wr.cell? ⟨W.heap.size, 0, none⟩ = some (.slice a 0 cap) := (hBr.cell (p := ⟨W.heap.size, 0, none⟩) (by show W.heap.size < _; omega)).trans hbx
  have cb2 : wr.cell? ⟨W.heap.size + 1, 0, none⟩ = some (.slice none 0 0) := (hBr.cell (p := ⟨W.heap.size + 1, 0, none⟩) (by show W.heap.size + 1 < _; omega)).trans hbr
  have fb2 : wr.frozen? ⟨W.heap.size + 1, 0, none⟩ = false := frozen_below hBr (by show W.heap.size + 1 < _; omega) hbf
  have hsk : ∀ w', Below (W.heap.size + 1 + 1) wr w' → w'.cell? ⟨W.heap.size, 0, none⟩ = some (.slice a 0 cap) := fun w' h => (h.cell (p := ⟨W.heap.size, 0, none⟩) (by show W.heap.size < _; omega)).trans cb1
  have hsf : ∀ w', Below (W.heap.size + 1 + 1) wr w' → w'.cell? ⟨W.heap.size + 1, 0, none⟩ = some (.slice none 0 0) ∧ w'.frozen? ⟨W.heap.size + 1, 0, none⟩ = false := fun w' h => ⟨(h.cell (p := ⟨W.heap.size + 1, 0, none⟩) (by show W.heap.size + 1 < _; omega)).trans cb2, frozen_below h (by show W.heap.size + 1 < _; omega) fb2⟩
  have HSK := hide hsk
  have HSF := hide hsf
  clear hsk hsf
  have HOW := hide hown
  have HW1 := hide hW1
  have HWR := hide hwr
  clear hown hW1 hwr hzr
  go_enter Tryz.func7, Tryz.ntmps7
  cases a with
  | none =>
    go_wp2
    rw [unhide HW1, unhide HWR]
    go_loopw [4] (fun t w' => t = .int .i64 0 ∧ w' = wr) (fun _ _ => 0)
    case atStart => exact ⟨rfl, rfl⟩
    case round =>
      obtain ⟨rfl, rfl⟩ := hrel
      go_wp2
      go_region_held3 (fun w' => w'.cell? ⟨W.heap.size, 0, none⟩ = some (.slice none 0 cap))
        (first
          | assumption
          | exact unhide HSK _ (Below.refl _ _)
          | exact unhide HSK _ (Below.refl _ _).drew
          | exact unhide HSK _ ((Below.refl _ _).alloc hBwr _)
          | exact unhide HSK _ ((Below.refl _ _).alloc hBwr _).drew
          | exact unhide HSK _ hb4
          | go_keep)
        ((refine step_append_lies _ (by rfl) _ _ _ (by rfl) (W.heap.size + 1 + 1) 41 i0 _ 5 64 Tryz.underlying22 hi hz0 hz1 hz2 rfl (by omega) _ 0 (flatN []) (by rfl) (((unhide HOW).alloc _).drew) ⟨_, 0, none⟩ 1 1 (cellN ⟨⟨171, ⟨#[]⟩, 0, [], 0⟩, none, 0⟩) (by rfl) (by rfl) (World.news_of_block (cs := #[.int .i64 171, .string ⟨#[]⟩, .int .i64 0, .slice none 0 0, .int .i64 0]) (t := 41) (fr := (0, 0)) (at_d (at_a1 _ _))) (by intro u hu; simp [cellN] at hu; rcases hu with rfl | rfl | rfl | rfl | rfl <;> rfl) (by omega) (by unfold maxLen; omega) (by omega) (by simp; omega) _ rfl ?_; intro g4 cap4 w4 hown4 hgrow4 hat4 hlt4; have hcp4 := (own_cap hown4).1; have hcp4' : (0 : Int) ≤ (cap4 : Int) := (by omega); have hb4 : Below (W.heap.size + 1 + 1) _ w4 := ((Below.refl _ _).alloc hBwr _).drew.grown hgrow4 (by simp; omega) (fun k hk => by simp [Value.ownBlock] at hk; omega); have hcw4 := (unhide HSF w4 hb4).1; have hfw4 := (unhide HSF w4 hb4).2; have hsz4 : W.heap.size + 1 < w4.heap.size := (by have := hb4.size; omega)))
      go_wp2
      refine bodyPost_ret (v := .agg #[.slice (some ⟨g4, 0, none⟩) 0 cap4]) (by simp [results, Tryz.results7, go_sem, hcw4]) rfl ⟨g4, cap4, [], rfl, rfl, ((unhide HLS).done rfl hgrow4 hown4 (by show W.heap.size + 1 < _; omega) _).1, ((unhide HLS).done rfl hgrow4 hown4 (by show W.heap.size + 1 < _; omega) _).2, ?_⟩
      have hw4 : Below W.heap.size W w4 := hB1.trans ((hBr.mono (by omega)).trans (hb4.mono (by omega)))
      exact hw4.setCell (by show W.heap.size ≤ W.heap.size + 1; omega) _
  | some ad =>
    go_wp2
    rw [unhide HW1, unhide HWR]
    go_loopw [4] (fun t w' => t = .int .i64 0 ∧ w' = wr) (fun _ _ => 0)
    case atStart => exact ⟨rfl, rfl⟩
    case round =>
      obtain ⟨rfl, rfl⟩ := hrel
      go_wp2
      go_region_held3 (fun w' => w'.cell? ⟨W.heap.size, 0, none⟩ = some (.slice (some ad) 0 cap))
        (first
          | assumption
          | exact unhide HSK _ (Below.refl _ _)
          | exact unhide HSK _ (Below.refl _ _).drew
          | exact unhide HSK _ ((Below.refl _ _).alloc hBwr _)
          | exact unhide HSK _ ((Below.refl _ _).alloc hBwr _).drew
          | exact unhide HSK _ hb4
          | go_keep)
        ((refine step_append_lies _ (by rfl) _ _ _ (by rfl) (W.heap.size + 1 + 1) 41 i0 _ 5 64 Tryz.underlying22 hi hz0 hz1 hz2 rfl (by omega) _ 0 (flatN []) (by rfl) (((unhide HOW).alloc _).drew) ⟨_, 0, none⟩ 1 1 (cellN ⟨⟨171, ⟨#[]⟩, 0, [], 0⟩, none, 0⟩) (by rfl) (by rfl) (World.news_of_block (cs := #[.int .i64 171, .string ⟨#[]⟩, .int .i64 0, .slice none 0 0, .int .i64 0]) (t := 41) (fr := (0, 0)) (at_d (at_a1 _ _))) (by intro u hu; simp [cellN] at hu; rcases hu with rfl | rfl | rfl | rfl | rfl <;> rfl) (by omega) (by unfold maxLen; omega) (by omega) (by simp; omega) _ rfl ?_; intro g4 cap4 w4 hown4 hgrow4 hat4 hlt4; have hcp4 := (own_cap hown4).1; have hcp4' : (0 : Int) ≤ (cap4 : Int) := (by omega); have hb4 : Below (W.heap.size + 1 + 1) _ w4 := ((Below.refl _ _).alloc hBwr _).drew.grown hgrow4 (by simp; omega) (fun k hk => by simp [Value.ownBlock] at hk; omega); have hcw4 := (unhide HSF w4 hb4).1; have hfw4 := (unhide HSF w4 hb4).2; have hsz4 : W.heap.size + 1 < w4.heap.size := (by have := hb4.size; omega)))
      go_wp2
      refine bodyPost_ret (v := .agg #[.slice (some ⟨g4, 0, none⟩) 0 cap4]) (by simp [results, Tryz.results7, go_sem, hcw4]) rfl ⟨g4, cap4, [], rfl, rfl, ((unhide HLS).done rfl hgrow4 hown4 (by show W.heap.size + 1 < _; omega) _).1, ((unhide HLS).done rfl hgrow4 hown4 (by show W.heap.size + 1 < _; omega) _).2, ?_⟩
      have hw4 : Below W.heap.size W w4 := hB1.trans ((hBr.mono (by omega)).trans (hb4.mono (by omega)))
      exact hw4.setCell (by show W.heap.size ≤ W.heap.size + 1; omega) _
end Go.Proofs.YtnnpkomedpjlcaaGreatDoor

/- shucklaw3.lent over a tree that has nodes, with what it lays behind. -/
namespace Go.Proofs.YtnnpkomedpjlcaaGreatDoor
set_option linter.unusedSimpArgs false
set_option linter.unusedVariables false
open Go.RowKit Go.Shelf
attribute [local go_sem ↓] Go.wp_at_zero Go.wp_at_succ

theorem hat_le {g1 n c g2 H N : Nat} (h : (Value.slice (some ⟨g1, 0, none⟩) n c).ownBlock = some g2 ∨ g2 = H) (h1 : N ≤ g1) (h2 : N ≤ H) : N ≤ g2 := by
  rcases h with h | h
  · have : g1 = g2 := by simpa [Value.ownBlock] using h
    omega
  · omega
set_option maxRecDepth 100000 in
set_option maxHeartbeats 16000000 in
theorem lents_cons (W : World) (M : Nat) (v : Value) (l : List Nd) (hN : Nodes W M v l) (hM : M ≤ W.heap.size) (hsz : szN l l.length ≤ 3000) (hne : l ≠ []) :
    Calls Tryz.prog 7 #[.agg #[v]] W (LentS l W) := by
  obtain ⟨i0, hi, hz0, hz1, hz2⟩ := info_parts infoNode
  obtain ⟨j0, hj, hy0, hy1, hy2⟩ := info_parts infoInt
  obtain ⟨b, o, cap, rfl, hb, os, hos, hcells, hkids⟩ := nodes_rows hN hne
  have hll : l.length ≤ 3000 := Nat.le_trans (szN_len l l.length) hsz
  have hl0 : 0 < l.length := List.length_pos_iff.2 hne
  have hosl : os.length = l.length := by rw [← hos]; simp
  have hbW : b < W.heap.size := by omega
  have HCELLS := hide hcells
  have HOSL := hide hosl
  have HKIDS := hide hkids
  have HOS := hide hos
  clear hcells hosl hkids hos hN hne
  obtain ⟨W1, hW1⟩ : ∃ W1, (W.alloc (.cells #[.slice (some ⟨b, o, none⟩) l.length cap] 24)).alloc (.cells #[.slice none 0 0] 24) = W1 := ⟨_, rfl⟩
  have hB1 : Below W.heap.size W W1 := by rw [← hW1]; exact ((Below.refl _ W).alloc (Nat.le_refl _) _).alloc (by simp) _
  have hz1' : W1.heap.size = W.heap.size + 1 + 1 := by rw [← hW1]; simp
  have hbx : W1.cell? ⟨W.heap.size, 0, none⟩ = some (.slice (some ⟨b, o, none⟩) l.length cap) := by
    have := two_boxes (W := W) (.slice (some ⟨b, o, none⟩) l.length cap) (.slice none 0 0) 24 24 (C := W1) (by rw [hW1]; exact Below.refl _ _)
    exact this.1
  have hbr : W1.cell? ⟨W.heap.size + 1, 0, none⟩ = some (.slice none 0 0) := by
    have := two_boxes (W := W) (.slice (some ⟨b, o, none⟩) l.length cap) (.slice none 0 0) 24 24 (C := W1) (by rw [hW1]; exact Below.refl _ _)
    exact this.2
  have hbf : W1.frozen? ⟨W.heap.size + 1, 0, none⟩ = false := by rw [← hW1]; exact frozen_at (at_a3 W _ _) 0
  have HW1 := hide hW1
  clear hW1
  go_enter Tryz.func7, Tryz.ntmps7
  go_wp2_with (at_builtin; rw [unhide HW1]; refine wpList_append_lies _ rfl _ _ 22 rfl (W.heap.size + 1 + 1) 41 i0 _ 5 64 Tryz.underlying22 hi hz0 hz1 hz2 rfl (by decide) (.slice (some ⟨W.heap.size + 1 + 1, 0, none⟩) 0 0) 0 [] rfl (own_empty (by rw [← hz1']; exact World.alloc_heap_new W1 _) (Nat.le_refl _)) ⟨b, o, none⟩ l.length cap (flatN os) rfl ?c0 ?c1 (flatN_one os) hl0 ?c3 ?c4 ?c5 _ rfl ?_)
  case c0 => rw [flatN_len, unhide HOSL]
  case c1 =>
    intro j u hj
    rw [Addr.add_lit]
    refine (((hB1.alloc (by omega) _).cell (p := ⟨b, o + j, none⟩) hbW)).trans (unhide HCELLS j u hj)
  case c3 => unfold maxLen; omega
  case c4 => omega
  case c5 => simp; omega
  intro g cap3 w3 hown3 hg3 hat3 hlt3
  have hB3 : Below (W.heap.size + 1 + 1) W1 w3 := ((Below.refl _ W1).alloc (by omega) _).grown hg3 (by simp; omega) (fun k hk => by simp [Value.ownBlock] at hk; omega)
  have hgB : W.heap.size + 1 + 1 ≤ g := (hown3.lt g rfl).1
  have h0 : LS W1 (W.heap.size + 1 + 1) (.slice (some ⟨g, 0, none⟩) l.length cap3) os 0 w3 os := ⟨rfl, by rw [unhide HOSL]; exact hown3, fun j e h => by omega, fun _ _ => rfl, hB3⟩
  have H0 := hide h0
  clear h0 hown3 hg3 hat3 hB3
  go_wp2
  go_loopw [4] (fun t wr => ∃ (i : Nat) (es : List NE), i ≤ l.length ∧ t = .int .i64 (i : Int) ∧ LS W1 (W.heap.size + 1 + 1) (.slice (some ⟨g, 0, none⟩) l.length cap3) os i wr es) (fun t _ => l.length - (intOf t).toNat)
  case atStart => exact ⟨0, os, Nat.zero_le _, rfl, unhide H0⟩
  case round =>
    obtain ⟨i, es, hil, rfl, hmap, hown, hnew, hold, hBr⟩ := hrel
    have hwr := hBr.size
    have hgl := (hown.lt g rfl).2
    have HMAP := hide hmap
    have HOWN := hide hown
    have HNEW := hide hnew
    have HOLD := hide hold
    clear hmap hown hnew hold
    by_cases hlt : i < l.length
    · have hlt' : (i : Int) < l.length := by omega
      have hi0' : (0 : Int) ≤ (i : Int) := Int.natCast_nonneg _
      obtain ⟨e0, he0⟩ : ∃ e0, os[i]? = some e0 := ⟨_, List.getElem?_eq_getElem (by rw [unhide HOSL]; exact hlt)⟩
      have he1 : es[i]? = some e0 := (unhide HOLD i (Nat.le_refl _)).trans he0
      have hown := unhide HOWN
      rw [unhide HOSL] at hown
      have hkA := (unhide HKIDS e0 (List.mem_of_getElem? he0)).keep (hB1.trans (hBr.mono (by omega))) hM
      have hk3 : e0.x.kids.length ≤ 3000 := by
        have h1 : nd l i = e0.x := by rw [← unhide HOS]; simp [nd, List.getD_eq_getElem?_getD, he0]
        have := szN_at l hlt
        rw [h1] at this
        omega
      obtain ⟨x, ka, kc⟩ := e0
      have hc3 : wr.cell? ⟨g, i * 5 + 3, none⟩ = some (.slice ka x.kids.length kc) := by
        rw [hown.cellAt (i * 5 + 3) (by omega), flatN_get es i _ he1 3 (by omega)]; rfl
      have hf3 : wr.frozen? ⟨g, i * 5 + 3, none⟩ = false := hown.frozenAt _
      obtain ⟨ks, hks⟩ : ∃ ks, x.kids = ks := ⟨_, rfl⟩
      simp only at hkA hk3
      rw [hks] at hkA hk3 hc3
      have HKS := hide hks
      have HE0 := hide he0
      have HE1 := hide he1
      have HKA := hide hkA
      have hMwr : M ≤ wr.heap.size := by omega
      have hBwr : W.heap.size + 1 + 1 ≤ wr.heap.size := by omega
      clear hks he0 he1 hkA hown
      go_wp2
      have HLS : Hid (LS W1 (W.heap.size + 1 + 1) (.slice (some ⟨g, 0, none⟩) l.length cap3) os i wr es) := ⟨unhide HMAP, unhide HOWN, unhide HNEW, unhide HOLD, hBr⟩
      have hsk : ∀ w', Below wr.heap.size wr w' → Below wr.heap.size wr w' ∧ w'.cell? ⟨g, i * 5 + 3, none⟩ = some (.slice ka ks.length kc) ∧ w'.frozen? ⟨g, i * 5 + 3, none⟩ = false := fun w' h => sk hgl hc3 hf3 h
      have HSK := hide hsk
      clear hsk
      go_region_law (first
          | (refine step_kids (by rfl) _ _ (by rfl) (W.heap.size + 1 + 1) M _ ka ks kc (by rfl) (by rfl) (by first | exact at_d (at_a1 _ _) | exact at_d (at_a2 _ _ _) | exact at_d (at_a3 _ _ _)) (by omega) (by first | exact kids_d (kids_a1 (unhide HKA) hMwr _) | exact kids_d (kids_a2 (unhide HKA) hMwr _ _)) hk3 ?_; intro g1 cap1 w1 hown1 hgrow1 hat1 hlt1; have hg1 : wr.heap.size ≤ g1 := (by simp at hat1; omega); have hb1 : Below wr.heap.size wr w1 := (by first | exact below_gr (below_al (below_al (Below.refl _ _))).drew hgrow1 (by omega) | exact below_gr (below_al (Below.refl _ _)).drew hgrow1 (by omega)); have hcw1 := (unhide HSK w1 hb1).2.1; have hgw1 : g < w1.heap.size := Nat.lt_of_lt_of_le hgl hb1.size)
          | (refine step_append_lies _ (by rfl) _ _ _ (by rfl) (W.heap.size + 1 + 1) 3 j0 _ 1 8 Tryz.underlying39 hj hy0 hy1 hy2 rfl (by omega) _ ks.length (kvs ks) (by rfl) (by first | exact hown1 | exact hown1.alloc _) ⟨_, 0, none⟩ 1 1 [.int .i64 171] (by rfl) (by rfl) (World.news_of_block (cs := #[.int .i64 171]) (t := 3) (fr := (0, 0)) (by first | exact at_a1 _ _ | exact (hgrow1.block _ (by simp <;> omega) (by simp <;> omega)).trans (at_d (at_a3 _ _ _)) | exact (hgrow1.block _ (by simp <;> omega) (by simp <;> omega)).trans (at_d (at_a2 _ _ _)))) (by simp [Value.oneCell']) (by omega) (by unfold maxLen; omega) (by omega) (by have := hgrow1.size; simp at this ⊢; omega) _ rfl ?_; intro g2 cap2 w2 hown2 hgrow2 hat2 hlt2; have hcp2 := (own_cap hown2).1; have hcp3 : (ks.length : Int) ≤ (cap2 : Int) := (by omega); have hks0 : (0 : Int) ≤ (ks.length : Int) := Int.natCast_nonneg _; have hb2 : Below wr.heap.size wr w2 := below_gr (by first | exact hb1 | exact below_al hb1) hgrow2 hg1; have hcw2 := (unhide HSK w2 hb2).2.1; have hfw2 := (unhide HSK w2 hb2).2.2; have hgw2 : g < w2.heap.size := Nat.lt_of_lt_of_le hgl hb2.size; have hg2 : wr.heap.size ≤ g2 := hat_le hat2 hg1 (by first | exact hb1.size | exact (below_al hb1).size)))
      all_goals (
        go_wp2
        have hks := unhide HKS
        subst hks
        exact ⟨⟨i + 1, es.set i ⟨x, some ⟨g2, 0, none⟩, cap2⟩, by omega, by go_num, (unhide HLS).next (unhide HOSL) (unhide HE1) hgl hBwr hb2 hown2 hg2⟩, by simp [intOf]; omega⟩)
    · have hlt' : ¬ (i : Int) < l.length := by omega
      obtain rfl : i = l.length := by omega
      have hl0' : (0 : Int) ≤ (l.length : Int) := Int.natCast_nonneg _
      have cb1 : wr.cell? ⟨W.heap.size, 0, none⟩ = some (.slice (some ⟨b, o, none⟩) l.length cap) := (hBr.cell (p := ⟨W.heap.size, 0, none⟩) (by show W.heap.size < _; omega)).trans hbx
      have cb2 : wr.cell? ⟨W.heap.size + 1, 0, none⟩ = some (.slice none 0 0) := (hBr.cell (p := ⟨W.heap.size + 1, 0, none⟩) (by show W.heap.size + 1 < _; omega)).trans hbr
      have fb2 : wr.frozen? ⟨W.heap.size + 1, 0, none⟩ = false := frozen_below hBr (by show W.heap.size + 1 < _; omega) hbf
      have hown := unhide HOWN
      rw [unhide HOSL] at hown
      have HOW := hide hown
      have hs1 : W.heap.size < wr.heap.size := by omega
      have hs2 : W.heap.size + 1 < wr.heap.size := by omega
      have hBwr : W.heap.size + 1 + 1 ≤ wr.heap.size := by omega
      have HLS : Hid (LS W1 (W.heap.size + 1 + 1) (.slice (some ⟨g, 0, none⟩) l.length cap3) os l.length wr es) := ⟨unhide HMAP, unhide HOWN, unhide HNEW, unhide HOLD, hBr⟩
      have hsk : ∀ w', Below (W.heap.size + 1 + 1) wr w' → Below (W.heap.size + 1 + 1) wr w' ∧ w'.cell? ⟨W.heap.size, 0, none⟩ = some (.slice (some ⟨b, o, none⟩) l.length cap) := fun w' h => ⟨h, (h.cell (p := ⟨W.heap.size, 0, none⟩) (by show W.heap.size < _; omega)).trans cb1⟩
      have HSK := hide hsk
      have hsf : ∀ w', Below (W.heap.size + 1 + 1) wr w' → w'.cell? ⟨W.heap.size + 1, 0, none⟩ = some (.slice none 0 0) ∧ w'.frozen? ⟨W.heap.size + 1, 0, none⟩ = false := fun w' h => ⟨(h.cell (p := ⟨W.heap.size + 1, 0, none⟩) (by show W.heap.size + 1 < _; omega)).trans cb2, frozen_below h (by show W.heap.size + 1 < _; omega) fb2⟩
      have HSF := hide hsf
      clear hsk hsf hown
      go_wp2
      go_region_held3 (fun w' => w'.cell? ⟨W.heap.size, 0, none⟩ = some (.slice (some ⟨b, o, none⟩) l.length cap))
        (first
          | assumption
          | exact (unhide HSK _ (Below.refl _ _)).2
          | exact (unhide HSK _ (Below.refl _ _).drew).2
          | exact (unhide HSK _ ((Below.refl _ wr).alloc hBwr _)).2
          | exact (unhide HSK _ ((Below.refl _ wr).alloc hBwr _).drew).2
          | exact (unhide HSK _ hb4).2
          | go_keep)
        ((refine step_append_lies _ (by rfl) _ _ _ (by rfl) (W.heap.size + 1 + 1) 41 i0 _ 5 64 Tryz.underlying22 hi hz0 hz1 hz2 rfl (by omega) _ l.length (flatN es) (by rfl) (((unhide HOW).alloc _).drew) ⟨wr.heap.size, 0, none⟩ 1 1 (cellN ⟨⟨171, ⟨#[]⟩, 0, [], 0⟩, none, 0⟩) (by rfl) (by rfl) (World.news_of_block (cs := #[.int .i64 171, .string ⟨#[]⟩, .int .i64 0, .slice none 0 0, .int .i64 0]) (t := 41) (fr := (0, 0)) (at_d (at_a1 _ _))) (by intro u hu; simp [cellN] at hu; rcases hu with rfl | rfl | rfl | rfl | rfl <;> rfl) (by omega) (by unfold maxLen; omega) (by omega) (by simp; omega) _ rfl ?_; intro g4 cap4 w4 hown4 hgrow4 hat4 hlt4; have hcp4 := (own_cap hown4).1; have hcp4' : (l.length : Int) ≤ (cap4 : Int) := (by omega); have hb4 : Below (W.heap.size + 1 + 1) wr w4 := ((Below.refl _ wr).alloc hBwr _).drew.grown hgrow4 (by simp; omega) (fun k hk => by simp [Value.ownBlock] at hk; omega); have hcw4 := (unhide HSF w4 hb4).1; have hfw4 := (unhide HSF w4 hb4).2; have hsz4 : W.heap.size + 1 < w4.heap.size := (by have := hb4.size; omega)))
      go_wp2
      refine bodyPost_ret (v := .agg #[.slice (some ⟨g4, 0, none⟩) l.length cap4]) (by simp [results, Tryz.results7, go_sem, hcw4]) rfl ⟨g4, cap4, es, rfl, (unhide HMAP).trans (unhide HOS), ((unhide HLS).done (unhide HOSL) hgrow4 hown4 (by show W.heap.size + 1 < _; omega) _).1, ((unhide HLS).done (unhide HOSL) hgrow4 hown4 (by show W.heap.size + 1 < _; omega) _).2, ?_⟩
      have hw4 : Below W.heap.size W w4 := hB1.trans ((hBr.mono (by omega)).trans (hb4.mono (by omega)))
      exact hw4.setCell (by show W.heap.size ≤ W.heap.size + 1; omega) _
end Go.Proofs.YtnnpkomedpjlcaaGreatDoor
