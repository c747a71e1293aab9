/- The law TreeSubs, walked. -/
import Derived.LoopN
import Derived.OwnWalk
import Derived.Test.YtoffpbaddehncaaGreatDoorBKM
import Derived.Test.YtoffpbaddehncaaGreatDoorTRM
import Derived.Test.YtoffpbaddehncaaGreatDoorTU2
import Derived.Test.YtoffpbaddehncaaGreatDoorUG2
import Derived.Test.YtoffpbaddehncaaGreatDoorUI2
import Derived.Test.YtoffpbaddehncaaGreatDoorZK2
import Derived.Test.YtoffpbaddehncaaGreatDoorZN2
/- shucklaw3.sub in general: it answers true. -/
namespace Go.Proofs.YtoffpbaddehncaaGreatDoor
set_option linter.unusedSimpArgs false
set_option linter.unusedVariables false
open Go.RowKit Go.Shelf

theorem KidR.kidO {W : World} {B : Nat} {e : NE} (h : KidR W B e) : KidO W B e := by
  have hc := own_cap h
  refine ⟨hc.1, hc.2, ?_⟩
  rcases h.2 with ⟨h1, h2⟩ | ⟨g, cap, cur, h1, hb, hh, _, _, hs, ht⟩
  · exact .inl (List.length_eq_zero_iff.1 h2)
  · injection h1 with h1 _ _
    refine .inr ⟨g, cur, h1, hb, hh, fun j hj => ?_⟩
    have e1 : (cur.toList.take (e.x.kids.length * 1))[j]? = cur[j]? := by rw [List.getElem?_take, if_pos (by omega)]; simp
    rw [← e1, ht]
    simp [kvs, List.getElem?_map, List.getD_eq_getElem?_getD, List.getElem?_eq_getElem hj]
theorem OwnR.ownN {W : World} {B : Nat} {v : Value} {es : List NE} (h : OwnR W B v es) : OwnN W B v es := ⟨h.1, fun e he => (h.2 e he).kidO⟩
theorem KidS.kidO {W : World} {B : Nat} {e : NE} (h : KidS W B e) : KidO W B e := by
  obtain ⟨kb, cur, ha, hb, hh, hj, _, hc1, hc2⟩ := h
  exact ⟨by omega, hc2, .inr ⟨kb, cur, ha, hb, hh, hj⟩⟩
/-- What was lent, as a row of nodes of one's own. -/
theorem lent_own {w : World} {B g cap : Nat} {es : List NE} {m : NE} (h : w.ownsRow B 29 5 (.slice (some ⟨g, 0, none⟩) (es.length + 1) cap) (es.length + 1) (flatN es ++ cellN m)) (hk : ∀ e ∈ es, KidS w B e) : OwnN w B (.slice (some ⟨g, 0, none⟩) es.length cap) es := by
  refine ⟨⟨flatN_len es, ?_⟩, fun e he => (hk e he).kidO⟩
  rcases h.2 with ⟨h0, _⟩ | ⟨g', cap', cur, h0, hb, hh, hc, hm, hs, ht⟩
  · cases h0
  · injection h0 with h1 _ h3
    injection h1 with h1
    injection h1 with h1 _ _
    subst h1
    subst h3
    refine .inr ⟨g, cap, cur, rfl, hb, hh, by omega, hm, hs, ?_⟩
    have e1 : cur.toList.take (es.length * 5) = (cur.toList.take ((es.length + 1) * 5)).take (es.length * 5) := by rw [List.take_take]; congr 1; omega
    rw [e1, ht, List.take_append_of_le_length (by rw [flatN_len]; exact Nat.le_refl _), List.take_of_length_le (by rw [flatN_len]; exact Nat.le_refl _)]

theorem lents_any (W : World) (M : Nat) (v : Value) (l : List Nd) (hN : Nodes W M v l) (hM : M ≤ W.heap.size) (hsz : szN l l.length ≤ 3000) : Calls Tryz.prog 10 #[.agg #[v]] W (LentS l W) := by
  by_cases h : l = []
  · subst h
    obtain ⟨a, cap, rfl, _, _⟩ := hN.len
    exact lents_nil W a cap
  · exact lents_cons W M v l hN hM hsz h

/-- Trees whose nodes are small. -/
def Smal (L : List Nd) : Prop := L.length ≤ 3000 ∧ ∀ x ∈ L, x.text.size ≤ 3000 ∧ x.kids.length ≤ 3000
theorem Smal.of {l : List Nd} (h : szN l l.length ≤ 3000) : Smal l := by
  refine ⟨Nat.le_trans (szN_len l l.length) h, fun x hx => ?_⟩
  obtain ⟨j, hj⟩ := List.getElem?_of_mem hx
  have hjl := (List.getElem?_eq_some_iff.1 hj).1
  have h1 := szN_at l hjl
  have h2 : nd l j = x := by simp [nd, List.getD_eq_getElem?_getD, hj]
  rw [h2] at h1
  omega
theorem str_in {l : List Nd} {a b : Nat} {x : Nd} (h : x ∈ str l a b) : x ∈ l := by
  unfold str at h
  exact List.mem_of_mem_drop (List.mem_of_mem_take h)
theorem Smal.sub {l : List Nd} (h : Smal l) (n : Nat) : Smal (subT l n) := by
  refine ⟨?_, fun x hx => ?_⟩
  · rw [subT, List.length_map]
    refine Nat.le_trans ?_ h.1
    unfold str
    rw [List.length_take, List.length_drop]
    omega
  · rw [subT, List.mem_map] at hx
    obtain ⟨y, hy, rfl⟩ := hx
    have := h.2 y (str_in hy)
    exact ⟨this.1, by rw [(shN_size _ y).2]; exact this.2⟩
theorem OwnN.nodesS {W : World} {B : Nat} {v : Value} {es : List NE} (h : OwnN W B v es) {L : List Nd} (he : es.map NE.x = L) (hs : Smal L) : Nodes W W.heap.size v L := by
  subst he
  have h1 := hs.1
  simp only [List.length_map] at h1
  refine h.nodes (by omega) fun e he => ?_
  have := hs.2 e.x (List.mem_map_of_mem he)
  omega

/-- What tree.Sub answers. -/
def SubA (k : Int) (L : List Nd) (W : World) (e : Ending) (w' : World) : Prop := ∃ v' es, e = .returned (.tuple #[.agg #[v'], .int .i64 k]) ∧ es.map NE.x = L ∧ OwnR w' W.heap.size v' es ∧ (∀ e ∈ es, e.cap = e.x.kids.length) ∧ Below W.heap.size W w'
/-- What the reference's Sub answers. -/
def SubB (k : Int) (L : List Nd) (W : World) (e : Ending) (w' : World) : Prop := ∃ v' es, e = .returned (.tuple #[.agg #[v'], .int .i64 k]) ∧ es.map NE.x = L ∧ OwnN w' W.heap.size v' es ∧ Below W.heap.size W w'
theorem SubNo.a {k : Int} {W w' : World} {e : Ending} (h : SubNo k W e w') : SubA k [] W e w' := by
  obtain ⟨rfl, hB⟩ := h
  exact ⟨_, [], rfl, rfl, ⟨World.ownsRow_nil w' _ 29 5, fun e he => (by cases he)⟩, fun e he => (by cases he), hB⟩
theorem SubNo.b {k : Int} {W w' : World} {e : Ending} (h : SubNo k W e w') : SubB k [] W e w' := by
  obtain ⟨rfl, hB⟩ := h
  exact ⟨_, [], rfl, rfl, ⟨World.ownsRow_nil w' _ 29 5, fun e he => (by cases he)⟩, hB⟩
theorem sub_both (l : List Nd) (n : Int) (hs : Smal l) : ∃ (k : Int) (L : List Nd), Smal L ∧ (∀ W M v, Nodes W M v l → M ≤ W.heap.size → Calls Tryz.prog 25 #[.agg #[v], .int .i64 n] W (SubA k L W)) ∧ (∀ W M v, Nodes W M v l → M ≤ W.heap.size → Calls Tryz.prog 30 #[.agg #[v], .int .i64 n] W (SubB k L W)) := by
  have hnil : Smal [] := ⟨Nat.zero_le _, fun x hx => by cases hx⟩
  have hm : ∀ m, m < l.length → nd l m ∈ l := fun m hm => by
    have : nd l m = l[m] := by simp [nd, List.getD_eq_getElem?_getD, List.getElem?_eq_getElem hm]
    rw [this]; exact List.getElem_mem hm
  have hT : ∀ m, m < l.length → (nd l m).text.size ≤ 1048576 := fun m h => by have := (hs.2 _ (hm m h)).1; omega
  have hK : ∀ m, m < l.length → (nd l m).kids.length ≤ 3000 := fun m h => (hs.2 _ (hm m h)).2
  by_cases hc : (chkP l).2 = 0
  · cases hi : ins l n with
    | false => exact ⟨1, [], hnil, fun W M v hN hM => (sub_out W M v l n hN hM hc hi).mono fun e w' h => h.a, fun W M v hN hM => (rsub_out W M v l n hN hM hT hc hi).mono fun e w' h => h.b⟩
    | true =>
      obtain ⟨h0, h1⟩ := ins_iff'.1 hi
      obtain ⟨m, rfl⟩ : ∃ m : Nat, n = (m : Int) := ⟨n.toNat, by omega⟩
      have hml : m < l.length := by omega
      exact ⟨0, subT l m, hs.sub m, fun W M v hN hM => subR_in W M v l m hN hM hc hml, fun W M v hN hM => rsub_in W M v l m hN hM hT hc hml hs.1 hK⟩
  · exact ⟨7, [], hnil, fun W M v hN hM => (sub_bad W M v l n hN hM hc).mono fun e w' h => h.a, fun W M v hN hM => (rsub_bad W M v l n hN hM hT hc).mono fun e w' h => h.b⟩
end Go.Proofs.YtoffpbaddehncaaGreatDoor

/- shucklaw3.sub, walked. -/
namespace Go.Proofs.YtoffpbaddehncaaGreatDoor
set_option linter.unusedSimpArgs false
set_option linter.unusedVariables false
open Go.RowKit Go.Shelf

theorem OwnR.keepB {W W' : World} {B : Nat} {v : Value} {es : List NE} (h : OwnR W B v es) (hB : Below W.heap.size W W') : OwnR W' B v es :=
  ⟨ownsRow_heap h.1 fun k hk => hB.block k (h.1.lt k hk).2, fun e he => ownsRow_heap (h.2 e he) fun k hk => hB.block k ((h.2 e he).lt k hk).2⟩
theorem OwnN.keepB' {W W' : World} {B : Nat} {v : Value} {es : List NE} (h : OwnN W B v es) (hB : Below W.heap.size W W') : OwnN W' B v es :=
  ⟨ownsRow_heap h.1 fun k hk => hB.block k (h.1.lt k hk).2, fun e he => (h.2 e he).below hB⟩
theorem KidS.below {W W' : World} {B : Nat} {e : NE} (h : KidS W B e) (hB : Below W.heap.size W W') : KidS W' B e := by
  obtain ⟨kb, cur, ha, hb, hh, r⟩ := h
  exact ⟨kb, cur, ha, hb, (hB.block kb (Array.getElem?_eq_some_iff.1 hh).1).trans hh, r⟩
/-- A box behind all that lies. -/
theorem box_cell {w w' : World} {u : Value} {t : TypeId} {N : Nat} (hN : (w.alloc (.cells #[u] t)).heap.size ≤ N) (h : Below N (w.alloc (.cells #[u] t)) w') : w'.cell? ⟨w.heap.size, 0, none⟩ = some u := by
  have h1 : (w.alloc (.cells #[u] t)).heap[w.heap.size]? = some (.cells #[u] t) := World.alloc_heap_new w _
  have h2 : w.heap.size < N := by simp at hN; omega
  rw [Lib.cell_of_heap ((h.block _ h2).trans h1)]; rfl

/-- Behind lent: what stays, whatever is laid behind. -/
theorem sub3 (W W1 w2 W3 : World) (M : Nat) (a : Option Addr) (cap : Nat) (l : List Nd) (hN : Nodes W M (.slice a l.length cap) l) (hM : M ≤ W.heap.size) (hs : Smal l) (hW1 : W.alloc (.cells #[.slice a l.length cap] 24) = W1) (g cx : Nat) (es : List NE) (hmap : es.map NE.x = l)
    (hown : w2.ownsRow (W1.heap.size + 1 + 1) 29 5 (.slice (some ⟨g, 0, none⟩) (l.length + 1) cx) (l.length + 1) (flatN es ++ cellN markN)) (hks : ∀ e ∈ es, KidS w2 (W1.heap.size + 1 + 1) e) (hb2 : Below W1.heap.size W1 w2) (hW3 : w2.alloc (.cells #[.slice (some ⟨g, 0, none⟩) l.length cx] 24) = W3) :
    ∀ w', Below W3.heap.size W3 w' → Below W.heap.size W w' ∧ w'.cell? ⟨W.heap.size, 0, none⟩ = some (.slice a l.length cap) ∧ w'.cell? ⟨w2.heap.size, 0, none⟩ = some (.slice (some ⟨g, 0, none⟩) l.length cx) ∧ W.heap.size < w'.heap.size ∧ w2.heap.size < w'.heap.size ∧ Nodes w' w'.heap.size (.slice (some ⟨g, 0, none⟩) l.length cx) l ∧ Nodes w' M (.slice a l.length cap) l ∧
      Calls Tryz.prog 33 #[.agg #[.slice (some ⟨g, 0, none⟩) l.length cx], .agg #[.slice a l.length cap]] w' fun e w'' => e = .returned (.bool true) ∧ Below w'.heap.size w' w'' := fun w' h => by
  have hz1 : W1.heap.size = W.heap.size + 1 := by rw [← hW1]; simp
  have hz3 : W3.heap.size = w2.heap.size + 1 := by rw [← hW3]; simp
  have hz2 := hb2.size
  have hzw := h.size
  have hB1 : Below W.heap.size W W1 := by rw [← hW1]; exact (Below.refl _ W).alloc (Nat.le_refl _) _
  have hB23 : Below w2.heap.size w2 W3 := by rw [← hW3]; exact (Below.refl _ w2).alloc (Nat.le_refl _) _
  have hB2w : Below w2.heap.size w2 w' := hB23.trans (h.mono (by omega))
  have hB1w : Below W1.heap.size W1 w' := hb2.trans (hB2w.mono hz2)
  have hBw : Below W.heap.size W w' := hB1.trans (hB1w.mono (by omega))
  have hel : es.length = l.length := by rw [← hmap]; simp
  have hNv := hN.keep hBw hM
  have hown' := ownsRow_heap hown fun k hk => hB2w.block k (hown.lt k hk).2
  have hks' : ∀ e ∈ es, KidS w' (W1.heap.size + 1 + 1) e := fun e he => (hks e he).below hB2w
  have hm : ∀ m, m < l.length → nd l m ∈ l := fun m hm => by
    have : nd l m = l[m] := by simp [nd, List.getD_eq_getElem?_getD, List.getElem?_eq_getElem hm]
    rw [this]; exact List.getElem_mem hm
  refine ⟨hBw, ?_, ?_, by omega, by omega, ?_, hNv, ?_⟩
  · subst hW1; exact box_cell (Nat.le_refl _) hB1w
  · subst hW3; exact box_cell (Nat.le_refl _) h
  · have ho := lent_own (g := g) (cap := cx) (by rw [hel]; exact hown') hks'
    rw [hel] at ho
    exact ho.nodesS hmap hs
  · exact back_any w' M _ g cx _ l es hNv (by omega) hmap hown' hks' (by have := hs.1; omega) fun m h => by have := (hs.2 _ (hm m h)).2; omega

set_option maxRecDepth 100000 in
set_option maxHeartbeats 4000000 in
theorem sub_any (W : World) (M : Nat) (v : Value) (l : List Nd) (n : Int) (hN : Nodes W M v l) (hM : M ≤ W.heap.size) (hsz : szN l l.length ≤ 3000) :
    Calls Tryz.prog 14 #[.agg #[v], .int .i64 n] W fun e w' => e = .returned (.bool true) ∧ Below W.heap.size W w' := by
  have hs := Smal.of hsz
  obtain ⟨k, L, hL, h25, h30⟩ := sub_both l n hs
  obtain ⟨a, cap, rfl, _, _⟩ := hN.len
  obtain ⟨W1, hW1⟩ : ∃ W1, W.alloc (.cells #[.slice a l.length cap] 24) = W1 := ⟨_, rfl⟩
  have hB1 : Below W.heap.size W W1 := by rw [← hW1]; exact (Below.refl _ W).alloc (Nat.le_refl _) _
  have hz1 : W1.heap.size = W.heap.size + 1 := by rw [← hW1]; simp
  have HL : Hid (Calls Tryz.prog 10 #[.agg #[.slice a l.length cap]] W1 (LentS l W1)) := lents_any W1 M _ l (hN.keep hB1 hM) (by omega) hsz
  have H3 : Hid (∀ (w2 W3 : World) (g cx : Nat) (es : List NE), _) := fun w2 W3 g cx es => sub3 W W1 w2 W3 M a cap l hN hM hs hW1 g cx es
  have H25 := hide h25
  have H30 := hide h30
  have HSL := hide hL
  have HW1 := hide hW1
  have hkk : (k != k) = false := by simp
  clear hN hs hL h25 h30 hW1 hB1
  go_enter Tryz.func14, Tryz.ntmps14
  go_wp2_with (first
    | (go_at_call 10
       rw [unhide HW1]
       refine (unhide HL).mono ?_
       rintro e w2 ⟨g, cx, es, rfl, hmap, hown, hks, hb2⟩
       obtain ⟨W3, hW3⟩ : ∃ W3, w2.alloc (.cells #[.slice (some ⟨g, 0, none⟩) l.length cx] 24) = W3 := ⟨_, rfl⟩
       have H3' := hide (unhide H3 w2 W3 g cx es hmap hown hks hb2 hW3)
       have HW3 := hide hW3
       clear hmap hown hks hb2 hW3)
    | (go_at_call 25
       rw [unhide HW3]
       refine (unhide H25 W3 _ _ (unhide H3' W3 (Below.refl _ _)).2.2.2.2.2.1 (Nat.le_refl _)).mono ?_
       rintro e w4 ⟨va, es4, rfl, hmap4, hown4, hcap4, hb4⟩
       obtain ⟨aa, ca, rfl, _, _⟩ := own_slice_any hown4.1
       obtain ⟨W5, hW5⟩ : ∃ W5, w4.alloc (.cells #[.slice aa es4.length ca] 24) = W5 := ⟨_, rfl⟩
       have hB45 : Below w4.heap.size w4 W5 := (by rw [← hW5]; exact (Below.refl _ w4).alloc (Nat.le_refl _) _)
       have hz34 := hb4.size
       have hB35 : Below W3.heap.size W3 W5 := hb4.trans (hB45.mono hz34)
       have c5 := (unhide H3' w4 hb4).2.1
       have s5 := (unhide H3' w4 hb4).2.2.2.1
       have HMAP4 := hide hmap4
       have HOWN4 := hide hown4
       have HCAP4 := hide hcap4
       have HB35 := hide hB35
       have HB45 := hide hB45
       have HW5 := hide hW5
       clear hmap4 hown4 hcap4 hb4 hB35 hB45 hW5 hz34)
    | (go_at_call 30
       rw [unhide HW5]
       refine (unhide H30 W5 _ _ (unhide H3' W5 (unhide HB35)).2.2.2.2.2.2.1 (Nat.le_trans hM (unhide H3' W5 (unhide HB35)).1.size)).mono ?_
       rintro e w6 ⟨vb, es6, rfl, hmap6, hown6, hb6⟩
       obtain ⟨ab, cb, rfl, _, _⟩ := own_slice_any hown6.1
       obtain ⟨W7, hW7⟩ : ∃ W7, w6.alloc (.cells #[.slice ab es6.length cb] 24) = W7 := ⟨_, rfl⟩
       have hB67 : Below w6.heap.size w6 W7 := (by rw [← hW7]; exact (Below.refl _ w6).alloc (Nat.le_refl _) _)
       have hz56 := hb6.size
       have hB57 : Below W5.heap.size W5 W7 := hb6.trans (hB67.mono hz56)
       have c7a : w6.cell? ⟨w4.heap.size, 0, none⟩ = some (.slice aa es4.length ca) := (by have h := hb6; rw [← unhide HW5] at h; exact box_cell (Nat.le_refl _) h)
       have s7a : w4.heap.size < w6.heap.size := (by have h1 : W5.heap.size = w4.heap.size + 1 := (by rw [← unhide HW5]; simp); omega)
       have HMAP6 := hide hmap6
       have HOWN6 := hide hown6
       have HB67 := hide hB67
       have HB57 := hide hB57
       have HW7 := hide hW7
       clear hmap6 hown6 hb6 hB67 hB57 hW7 hz56 c5 s5)
    | (go_at_call 31
       rw [unhide HW7]
       have hz45 := (unhide HB45).size
       have hz57 := (unhide HB57).size
       have hz67 := (unhide HB67).size
       have hB47 : Below w4.heap.size w4 W7 := (unhide HB45).trans ((unhide HB57).mono hz45)
       have hR7 : OwnR W7 W3.heap.size (.slice aa es4.length ca) es4 := (unhide HOWN4).keepB hB47
       have hNa : Nodes W7 W7.heap.size (.slice aa es4.length ca) L := hR7.ownN.nodesS (unhide HMAP4) (unhide HSL)
       have hNb : Nodes W7 W7.heap.size (.slice ab es6.length cb) L := ((unhide HOWN6).keepB' (unhide HB67)).nodesS (unhide HMAP6) (unhide HSL)
       refine (trees_same W7 W7.heap.size _ _ L hNa hNb (Nat.le_refl _)).mono ?_
       rintro e w8 ⟨rfl, hb8⟩
       have hB48 : Below w4.heap.size w4 w8 := hB47.trans (hb8.mono (by omega))
       have hB58 : Below W5.heap.size W5 w8 := (unhide HB57).trans (hb8.mono (by omega))
       have hB38 : Below W3.heap.size W3 w8 := (unhide HB35).trans (hB58.mono (unhide HB35).size)
       have c8 : w8.cell? ⟨w4.heap.size, 0, none⟩ = some (.slice aa es4.length ca) := (by have h := hB58; rw [← unhide HW5] at h; exact box_cell (Nat.le_refl _) h)
       have s8 : w4.heap.size < w8.heap.size := (by have := hb8.size; have h1 : W5.heap.size = w4.heap.size + 1 := (by rw [← unhide HW5]; simp); omega)
       have HR8 := hide ((unhide HOWN4).keepB hB48)
       have HB38 := hide hB38
       clear hz45 hz57 hz67 hB47 hR7 hNa hNb hb8 hB48 hB58 hB38 c7a s7a)
    | (go_at_call 32
       have hel4 : es4.length = L.length := (by rw [← unhide HMAP4]; simp)
       have hls := unhide HSL
       refine (spoil_any w8 W3.heap.size _ es4 (unhide HR8) (unhide HB38).size (unhide HCAP4) (by have := hls.1; omega) (fun e he => by have := (hls.2 e.x (by rw [← unhide HMAP4]; exact List.mem_map_of_mem he)).2; omega)).mono ?_
       rintro e w9 ⟨rfl, hb9⟩
       have hB39 : Below W3.heap.size W3 w9 := (unhide HB38).trans hb9
       have c9a := (unhide H3' w9 hB39).2.1
       have c9b := (unhide H3' w9 hB39).2.2.1
       have s9a := (unhide H3' w9 hB39).2.2.2.1
       have s9b := (unhide H3' w9 hB39).2.2.2.2.1
       have HC9 := hide (unhide H3' w9 hB39).2.2.2.2.2.2.2
       have HB9 := hide (unhide H3' w9 hB39).1
       clear hel4 hls hb9 hB39 c8 s8)
    | (go_at_call 33
       refine (unhide HC9).mono ?_
       rintro e w10 ⟨rfl, hb10⟩))
  go_ret
  exact ⟨rfl, (unhide HB9).trans (hb10.mono (unhide HB9).size)⟩
end Go.Proofs.YtoffpbaddehncaaGreatDoor

/- The law TreeSubs, walked. -/
namespace Go.Proofs.YtoffpbaddehncaaGreatDoor
set_option linter.unusedSimpArgs false
set_option linter.unusedVariables false
open Go.RowKit Go.Shelf

set_option maxRecDepth 100000 in
set_option maxHeartbeats 4000000 in
theorem subs_law (W : World) (M : Nat) (v : Value) (l : List Nd) (n : Int) (hN : NodesR W M v l) (hM : M ≤ W.heap.size) :
    Calls Tryz.prog 4 #[.agg #[v], .int .i64 n] W fun e w' => e = .returned (.bool true) ∧ Below W.heap.size W w' := by
  obtain ⟨W1, hW1⟩ : ∃ W1, W.alloc (.cells #[v] 24) = W1 := ⟨_, rfl⟩
  have hB1 : Below W.heap.size W W1 := by rw [← hW1]; exact (Below.refl _ W).alloc (Nat.le_refl _) _
  have hz1 : W1.heap.size = W.heap.size + 1 := by rw [← hW1]; simp
  have HBX : Hid (∀ w', Below W1.heap.size W1 w' → Below W.heap.size W w' ∧ w'.cell? ⟨W.heap.size, 0, none⟩ = some v ∧ W.heap.size < w'.heap.size) := fun w' h =>
    ⟨hB1.trans (h.mono (by omega)), by subst hW1; exact box_cell (Nat.le_refl _) h, by have := h.size; omega⟩
  have HG := hide (great_reach W1 M v l (hN.keep hB1 hM) (Nat.le_trans hM hB1.size))
  have HN := hide hN
  have HW1 := hide hW1
  obtain ⟨a, cap, rfl, _, _⟩ := hN.len
  clear hW1
  cases ha : decide (3000 < szN l l.length) with
  | true =>
    rw [ha] at HG
    clear ha hN hB1
    go_enter Tryz.func4, Tryz.ntmps4
    go_wp2_with (go_at_call 9; rw [unhide HW1]; refine (unhide HG).mono ?_; rintro e w2 ⟨rfl, hB2⟩)
    go_ret
    exact ⟨rfl, (unhide HBX w2 hB2).1⟩
  | false =>
    have hal : szN l l.length ≤ 3000 := by simpa using ha
    have hNn := hN.nodes hal
    rw [ha] at HG
    have HS : Hid (∀ w' (k : Int), Below W1.heap.size W1 w' → Calls Tryz.prog 14 #[.agg #[.slice a l.length cap], .int .i64 k] w' fun e w'' => e = .returned (.bool true) ∧ Below w'.heap.size w' w'') := fun w' k h => by
      have h1 := (unhide HBX w' h).1
      exact sub_any w' M _ l k (hNn.keep h1 hM) (Nat.le_trans hM h1.size) hal
    have hll : l.length ≤ 3000 := Nat.le_trans (szN_len l l.length) hal
    clear ha hN hNn hB1
    by_cases h60 : l.length ≤ 60
    · have h60' : decide ((60 : Int) < (l.length : Int)) = false := decide_eq_false (by omega)
      have h60'' : ¬ (60 : Int) < (l.length : Int) := by omega
      go_enter Tryz.func4, Tryz.ntmps4
      go_wp2_with (go_at_call 9; rw [unhide HW1]; refine (unhide HG).mono ?_; rintro e w2 ⟨rfl, hB2⟩; have c2 := (unhide HBX w2 hB2).2.1; have s2 := (unhide HBX w2 hB2).2.2)
      have HB2 := hide hB2
      clear hB2
      go_loopw [5] (fun t wr => ∃ i : Nat, i ≤ l.length + 2 ∧ t = .int .i64 ((i : Int) - 1) ∧ Below W1.heap.size W1 wr) (fun t _ => l.length + 2 - (intOf t + 1).toNat)
      case atStart => exact ⟨0, Nat.zero_le _, rfl, unhide HB2⟩
      case round =>
        obtain ⟨i, hi, rfl, hBr⟩ := hrel
        obtain ⟨_, cr, sr⟩ := unhide HBX wr hBr
        have HBR := hide hBr
        clear hBr
        by_cases hil : i ≤ l.length + 1
        · have hil' : (i : Int) - 1 ≤ (l.length : Int) := by omega
          go_wp2_with (go_at_call 14; refine (unhide HS wr _ (unhide HBR)).mono ?_; rintro e w3 ⟨rfl, hB3⟩)
          exact ⟨⟨i + 1, by omega, by go_num, (unhide HBR).trans (hB3.mono (unhide HBR).size)⟩, by simp [intOf]; omega⟩
        · have hil' : ¬ (i : Int) - 1 ≤ (l.length : Int) := by omega
          go_wp2_with (first | (go_at_call 14; refine (unhide HS wr _ (unhide HBR)).mono ?_; rintro e w3 ⟨rfl, hB3⟩) | (go_at_call 13; refine (known3_any _).mono ?_; rintro e w4 ⟨rfl, hB4⟩))
          go_ret
          exact ⟨rfl, (unhide HBX _ (((unhide HBR).trans (hB3.mono (unhide HBR).size)).trans (hB4.mono (Nat.le_trans (unhide HBR).size hB3.size)))).1⟩
    · have h60' : decide ((60 : Int) < (l.length : Int)) = true := decide_eq_true (by omega)
      have h60'' : (60 : Int) < (l.length : Int) := by omega
      go_enter Tryz.func4, Tryz.ntmps4
      go_wp2_with (go_at_call 9; rw [unhide HW1]; refine (unhide HG).mono ?_; rintro e w2 ⟨rfl, hB2⟩; have c2 := (unhide HBX w2 hB2).2.1; have s2 := (unhide HBX w2 hB2).2.2)
      go_ret
      exact ⟨rfl, (unhide HBX w2 hB2).1⟩
end Go.Proofs.YtoffpbaddehncaaGreatDoor
