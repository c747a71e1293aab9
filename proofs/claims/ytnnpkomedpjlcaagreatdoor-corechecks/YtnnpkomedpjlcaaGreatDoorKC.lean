/- The law CoreChecks, walked. -/
import Derived.LoopN
import Derived.OwnWalk
import Derived.Test.YtnnpkomedpjlcaaGreatDoorM5
import Derived.Test.YtnnpkomedpjlcaaGreatDoorM6
import Derived.Test.YtnnpkomedpjlcaaGreatDoorBK
import Derived.Test.YtnnpkomedpjlcaaGreatDoorK6
import Derived.Test.YtnnpkomedpjlcaaGreatDoorKZ
namespace Go.Proofs.YtnnpkomedpjlcaaGreatDoor
set_option linter.unusedSimpArgs false
set_option linter.unusedVariables false
open Go.RowKit Go.Shelf

theorem KidS.kidO {W : World} {B : Nat} {e : NE} (h : KidS W B e) : KidO W B e := by
  obtain ⟨kb, cur, ha, hb, hh, hj, _, hc1, hc2⟩ := h
  exact ⟨by omega, hc2, .inr ⟨kb, cur, ha, hb, hh, hj⟩⟩
theorem KidS.below {W W' : World} {B : Nat} {e : NE} (h : KidS W B e) (hB : Below W.heap.size W W') : KidS W' B e := by
  obtain ⟨kb, cur, ha, hb, hh, r⟩ := h
  exact ⟨kb, cur, ha, hb, (hB.block kb (Array.getElem?_eq_some_iff.1 hh).1).trans hh, r⟩
/-- What was lent, as a row of nodes of one's own. -/
theorem lent_own {w : World} {B g cap : Nat} {es : List NE} {m : NE} (h : w.ownsRow B 41 5 (.slice (some ⟨g, 0, none⟩) (es.length + 1) cap) (es.length + 1) (flatN es ++ cellN m)) (hk : ∀ e ∈ es, KidS w B e) : OwnN w B (.slice (some ⟨g, 0, none⟩) es.length cap) es := by
  refine ⟨⟨flatN_len es, ?_⟩, fun e he => (hk e he).kidO⟩
  rcases h.2 with ⟨h0, _⟩ | ⟨g', cap', cur, h0, hb, hh, hc, hm, hs, ht⟩
  · cases h0
  · injection h0 with h1 _ h3
    injection h1 with h1
    injection h1 with h1 _ _
    subst h1
    subst h3
    refine .inr ⟨g, cap, cur, rfl, hb, hh, by omega, hm, hs, ?_⟩
    have e1 : cur.toList.take (es.length * 5) = (cur.toList.take ((es.length + 1) * 5)).take (es.length * 5) := by rw [List.take_take]; congr 1; omega
    rw [e1, ht, List.take_append_of_le_length (by rw [flatN_len]; exact Nat.le_refl _), List.take_of_length_le (by rw [flatN_len]; exact Nat.le_refl _)]
theorem lents_any (W : World) (M : Nat) (v : Value) (l : List Nd) (hN : Nodes W M v l) (hM : M ≤ W.heap.size) (hsz : szN l l.length ≤ 3000) : Calls Tryz.prog 7 #[.agg #[v]] W (LentS l W) := by
  by_cases h : l = []
  · subst h
    obtain ⟨a, cap, rfl, _, _⟩ := hN.len
    exact lents_nil W a cap
  · exact lents_cons W M v l hN hM hsz h
/-- Trees whose nodes are small. -/
def Smal (L : List Nd) : Prop := L.length ≤ 3000 ∧ ∀ x ∈ L, x.text.size ≤ 3000 ∧ x.kids.length ≤ 3000
theorem Smal.of {l : List Nd} (h : szN l l.length ≤ 3000) : Smal l := by
  refine ⟨Nat.le_trans (szN_len l l.length) h, fun x hx => ?_⟩
  obtain ⟨j, hj⟩ := List.getElem?_of_mem hx
  have hjl := (List.getElem?_eq_some_iff.1 hj).1
  have h1 := szN_at l hjl
  have h2 : nd l j = x := by simp [nd, List.getD_eq_getElem?_getD, hj]
  rw [h2] at h1
  omega
theorem OwnN.nodesS {W : World} {B : Nat} {v : Value} {es : List NE} (h : OwnN W B v es) {L : List Nd} (he : es.map NE.x = L) (hs : Smal L) : Nodes W W.heap.size v L := by
  subst he
  have h1 := hs.1
  simp only [List.length_map] at h1
  refine h.nodes (by omega) fun e he => ?_
  have := hs.2 e.x (List.mem_map_of_mem he)
  omega
/-- A box behind all that lies. -/
theorem box_cell {w w' : World} {u : Value} {t : TypeId} {N : Nat} (hN : (w.alloc (.cells #[u] t)).heap.size ≤ N) (h : Below N (w.alloc (.cells #[u] t)) w') : w'.cell? ⟨w.heap.size, 0, none⟩ = some u := by
  have h1 : (w.alloc (.cells #[u] t)).heap[w.heap.size]? = some (.cells #[u] t) := World.alloc_heap_new w _
  have h2 : w.heap.size < N := by simp at hN; omega
  rw [Lib.cell_of_heap ((h.block _ h2).trans h1)]; rfl

/-- Behind lent: what stays, whatever is laid behind. -/
theorem lent3 (W W1 w2 W3 w1 : World) (M : Nat) (a : Option Addr) (cap : Nat) (l : List Nd) (hN : Nodes W M (.slice a l.length cap) l) (hM : M ≤ W.heap.size) (hs : Smal l) (hW1 : W.alloc (.cells #[.slice a l.length cap] 24) = W1) (hb1 : Below W1.heap.size W1 w1) (g cx : Nat) (es : List NE) (hmap : es.map NE.x = l)
    (hown : w2.ownsRow (w1.heap.size + 1 + 1) 41 5 (.slice (some ⟨g, 0, none⟩) (l.length + 1) cx) (l.length + 1) (flatN es ++ cellN markN)) (hks : ∀ e ∈ es, KidS w2 (w1.heap.size + 1 + 1) e) (hb2 : Below w1.heap.size w1 w2) (hW3 : w2.alloc (.cells #[.slice (some ⟨g, 0, none⟩) l.length cx] 24) = W3) :
    ∀ w', Below W3.heap.size W3 w' → Below W.heap.size W w' ∧ w'.cell? ⟨W.heap.size, 0, none⟩ = some (.slice a l.length cap) ∧ w'.cell? ⟨w2.heap.size, 0, none⟩ = some (.slice (some ⟨g, 0, none⟩) l.length cx) ∧ W.heap.size < w'.heap.size ∧ w2.heap.size < w'.heap.size ∧ Nodes w' w'.heap.size (.slice (some ⟨g, 0, none⟩) l.length cx) l ∧ Nodes w' M (.slice a l.length cap) l ∧
      Calls Tryz.prog 10 #[.agg #[.slice (some ⟨g, 0, none⟩) l.length cx], .agg #[.slice a l.length cap]] w' fun e w'' => e = .returned (.bool true) ∧ Below w'.heap.size w' w'' := fun w' h => by
  have hz1 : W1.heap.size = W.heap.size + 1 := by rw [← hW1]; simp
  have hz3 : W3.heap.size = w2.heap.size + 1 := by rw [← hW3]; simp
  have hz2 := hb2.size
  have hz11 := hb1.size
  have hzw := h.size
  have hB1 : Below W.heap.size W W1 := by rw [← hW1]; exact (Below.refl _ W).alloc (Nat.le_refl _) _
  have hB23 : Below w2.heap.size w2 W3 := by rw [← hW3]; exact (Below.refl _ w2).alloc (Nat.le_refl _) _
  have hB2w : Below w2.heap.size w2 w' := hB23.trans (h.mono (by omega))
  have hB1w : Below W1.heap.size W1 w' := hb1.trans ((hb2.trans (hB2w.mono hz2)).mono hz11)
  have hBw : Below W.heap.size W w' := hB1.trans (hB1w.mono (by omega))
  have hel : es.length = l.length := by rw [← hmap]; simp
  have hNv := hN.keep hBw hM
  have hown' := ownsRow_heap hown fun k hk => hB2w.block k (hown.lt k hk).2
  have hks' : ∀ e ∈ es, KidS w' (w1.heap.size + 1 + 1) e := fun e he => (hks e he).below hB2w
  have hm : ∀ m, m < l.length → nd l m ∈ l := fun m hm => by
    have : nd l m = l[m] := by simp [nd, List.getD_eq_getElem?_getD, List.getElem?_eq_getElem hm]
    rw [this]; exact List.getElem_mem hm
  refine ⟨hBw, ?_, ?_, by omega, by omega, ?_, hNv, ?_⟩
  · subst hW1; exact box_cell (Nat.le_refl _) hB1w
  · subst hW3; exact box_cell (Nat.le_refl _) h
  · have ho := lent_own (g := g) (cap := cx) (by rw [hel]; exact hown') hks'
    rw [hel] at ho
    exact ho.nodesS hmap hs
  · exact back_any w' M _ g cx _ l es hNv (by omega) hmap hown' hks' (by have := hs.1; omega) fun m h => by have := (hs.2 _ (hm m h)).2; omega

set_option maxRecDepth 100000 in
set_option maxHeartbeats 4000000 in
theorem checks5_law (W : World) (M : Nat) (v : Value) (l : List Nd) (hN : NodesR W M v l) (hM : M ≤ W.heap.size) :
    Calls Tryz.prog 3 #[.agg #[v]] W fun e w' => e = .returned (.bool true) ∧ Below W.heap.size W w' := by
  obtain ⟨W1, hW1⟩ : ∃ W1, W.alloc (.cells #[v] 24) = W1 := ⟨_, rfl⟩
  have hB1 : Below W.heap.size W W1 := by rw [← hW1]; exact (Below.refl _ W).alloc (Nat.le_refl _) _
  have hz1 : W1.heap.size = W.heap.size + 1 := by rw [← hW1]; simp
  have HBX : Hid (∀ w', Below W1.heap.size W1 w' → Below W.heap.size W w' ∧ w'.cell? ⟨W.heap.size, 0, none⟩ = some v ∧ W.heap.size < w'.heap.size) := fun w' h =>
    ⟨hB1.trans (h.mono (by omega)), by subst hW1; exact box_cell (Nat.le_refl _) h, by have := h.size; omega⟩
  have HG := hide (great_reach W1 M v l (hN.keep hB1 hM) (Nat.le_trans hM hB1.size))
  obtain ⟨a, cap, rfl, _, _⟩ := hN.len
  cases ha : decide (3000 < szN l l.length) with
  | true =>
    rw [ha] at HG
    have HW1 := hide hW1
    clear ha hN hB1 hW1 hz1
    go_enter Tryz.func3, Tryz.ntmps3
    go_wp2_with (go_at_call 6; rw [unhide HW1]; refine (unhide HG).mono ?_; rintro e w2 ⟨rfl, hB2⟩)
    go_ret
    exact ⟨rfl, (unhide HBX w2 hB2).1⟩
  | false =>
    have hal : szN l l.length ≤ 3000 := by simpa using ha
    have hNn := hN.nodes hal
    have hs := Smal.of hal
    have hm : ∀ m, m < l.length → nd l m ∈ l := fun m hm => by
      have : nd l m = l[m] := by simp [nd, List.getD_eq_getElem?_getD, List.getElem?_eq_getElem hm]
      rw [this]; exact List.getElem_mem hm
    have hT : ∀ m, m < l.length → (nd l m).text.size ≤ 1048576 := fun m h => by have := (hs.2 _ (hm m h)).1; omega
    rw [ha] at HG
    have HL : Hid (∀ w', Below W1.heap.size W1 w' → Calls Tryz.prog 7 #[.agg #[.slice a l.length cap]] w' (LentS l w')) := fun w' h => by
      have h1 := (unhide HBX w' h).1
      exact lents_any w' M _ l (hNn.keep h1 hM) (Nat.le_trans hM h1.size) hal
    have H3 : Hid (∀ (w1 w2 W3 : World) (g cx : Nat) (es : List NE), Below W1.heap.size W1 w1 → _) := fun w1 w2 W3 g cx es hb1 => lent3 W W1 w2 W3 w1 M a cap l hNn hM hs hW1 hb1 g cx es
    have HT := hide hT
    have HW1 := hide hW1
    obtain ⟨c1, hc1⟩ : ∃ c1, (ccP l).1 = c1 := ⟨_, rfl⟩
    obtain ⟨c2, hc2⟩ : ∃ c2, (ccP l).2 = c2 := ⟨_, rfl⟩
    have HC : Hid (∀ w' M' v', Nodes w' M' v' l → M' ≤ w'.heap.size → Calls Tryz.prog 8 #[.agg #[v']] w' fun e w'' => e = .returned (.tuple #[.int .i64 c1, .int .i64 c2]) ∧ Below w'.heap.size w' w'') := fun w' M' v' h1 h2 => by
      have := core_any w' M' v' l h1 h2
      rw [hc1, hc2] at this
      exact this
    have HR : Hid (∀ w' M' v', Nodes w' M' v' l → M' ≤ w'.heap.size → Calls Tryz.prog 9 #[.agg #[v']] w' fun e w'' => e = .returned (.tuple #[.int .i64 c1, .int .i64 c2]) ∧ Below w'.heap.size w' w'') := fun w' M' v' h1 h2 => by
      have := rcheck5_any w' M' v' l h1 h2 (unhide HT)
      rw [hc1, hc2] at this
      exact this
    have e1 : (c1 == c1) = true := by simp
    have e2 : (c2 == c2) = true := by simp
    clear ha hN hNn hB1 hW1 hz1 hs hm hT hc1 hc2
    go_enter Tryz.func3, Tryz.ntmps3
    go_wp2_with (first
      | (go_at_call 6
         rw [unhide HW1]
         refine (unhide HG).mono ?_
         rintro e w1 ⟨rfl, hB1⟩
         have x1 := (unhide HBX w1 hB1).2.1
         have x2 := (unhide HBX w1 hB1).2.2
         have HB1 := hide hB1
         clear hB1)
      | (go_at_call 7
         refine (unhide HL w1 (unhide HB1)).mono ?_
         rintro e w2 ⟨g, cx, es, rfl, hmap, hown, hks, hb2⟩
         obtain ⟨W3, hW3⟩ : ∃ W3, w2.alloc (.cells #[.slice (some ⟨g, 0, none⟩) l.length cx] 24) = W3 := ⟨_, rfl⟩
         have H3' := hide (unhide H3 w1 w2 W3 g cx es (unhide HB1) hmap hown hks hb2 hW3)
         have HW3 := hide hW3
         clear hmap hown hks hb2 hW3 x1 x2)
      | (go_at_call 8
         rw [unhide HW3]
         refine (unhide HC W3 _ _ (unhide H3' W3 (Below.refl _ _)).2.2.2.2.2.1 (Nat.le_refl _)).mono ?_
         rintro e w4 ⟨rfl, hb4⟩
         have x1 := (unhide H3' w4 hb4).2.1
         have x2 := (unhide H3' w4 hb4).2.2.2.1
         have HB4 := hide hb4
         clear hb4)
      | (go_at_call 9
         refine (unhide HR w4 _ _ (unhide H3' w4 (unhide HB4)).2.2.2.2.2.2.1 (Nat.le_trans hM (unhide H3' w4 (unhide HB4)).1.size)).mono ?_
         rintro e w5 ⟨rfl, hb5⟩
         have hb35 := (unhide HB4).trans (hb5.mono (unhide HB4).size)
         have y1 := (unhide H3' w5 hb35).2.1
         have y2 := (unhide H3' w5 hb35).2.2.1
         have y3 := (unhide H3' w5 hb35).2.2.2.1
         have y4 := (unhide H3' w5 hb35).2.2.2.2.1
         have HK5 := hide (unhide H3' w5 hb35).2.2.2.2.2.2.2
         have HB5 := hide (unhide H3' w5 hb35).1
         clear hb5 hb35 x1 x2)
      | (go_at_call 10
         refine (unhide HK5).mono ?_
         rintro e w6 ⟨rfl, hb6⟩
         have HB6 := hide ((unhide HB5).trans (hb6.mono (unhide HB5).size))
         clear hb6)
      | (go_at_call 11
         refine (known5_any _).mono ?_
         rintro e w7 ⟨rfl, hb7⟩))
    go_ret
    exact ⟨rfl, (unhide HB6).trans (hb7.mono (unhide HB6).size)⟩
end Go.Proofs.YtnnpkomedpjlcaaGreatDoor
