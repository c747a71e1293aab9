/- great; copies of kids; what lies in rows of nodes. -/
import Derived.BigQuiet
import Derived.Deep.AppendLies
import Derived.Deep.RegionHeld3
import Derived.LoopN
import Derived.Maps.AppendAt
import Derived.WalkSmall
import Derived.Test.YtnnpkomedpjlcaaGreatDoorM1
import Derived.Test.YtnnpkomedpjlcaaGreatDoorM2
/- shucklaw3.great in general. -/
namespace Go.Proofs.YtnnpkomedpjlcaaGreatDoor
set_option linter.unusedSimpArgs false
set_option linter.unusedVariables false
open Go.RowKit

/-- What is counted of the first nodes. -/
def szN (l : List Nd) : Nat → Nat
  | 0 => 0
  | i + 1 => szN l i + 1 + (nd l i).kids.length + (nd l i).text.size
theorem szN_le (l : List Nd) {i j : Nat} (h : i ≤ j) : szN l i ≤ szN l j := by
  induction j with
  | zero => obtain rfl : i = 0 := by omega
            exact Nat.le_refl _
  | succ j ih =>
    by_cases e : i = j + 1
    · subst e; exact Nat.le_refl _
    · have := ih (by omega)
      show _ ≤ szN l j + 1 + _ + _
      omega
theorem szN_len (l : List Nd) : ∀ i, i ≤ szN l i
  | 0 => Nat.le_refl _
  | i + 1 => by have := szN_len l i; show _ ≤ szN l i + 1 + _ + _; omega
theorem szN_at (l : List Nd) {j n : Nat} (h : j < n) : (nd l j).kids.length + (nd l j).text.size < szN l n := by
  have := szN_le l (show j + 1 ≤ n from h)
  have e : szN l (j + 1) = szN l j + 1 + (nd l j).kids.length + (nd l j).text.size := rfl
  omega
theorem one_box {W : World} (v : Value) (n : Nat) {C : World} (hC : Below (W.heap.size + 1) (W.alloc (.cells #[v] n)) C) : C.cell? ⟨W.heap.size, 0, none⟩ = some v := by
  rw [Lib.cell_of_heap ((hC.block _ (by omega)).trans (World.alloc_heap_new W _))]; rfl

set_option maxRecDepth 100000 in
set_option maxHeartbeats 2000000 in
theorem great_any (W : World) (M : Nat) (v : Value) (l : List Nd) (hN : Nodes W M v l) (hM : M ≤ W.heap.size) :
    Calls Tryz.prog 6 #[.agg #[v]] W fun e w' => e = .returned (.bool (decide (3000 < szN l l.length))) ∧ Below W.heap.size W w' := by
  have HN := hide hN
  have hl1 := hN.1
  obtain ⟨a, cap, rfl, _, _⟩ := hN.len
  clear hN
  have HB0 := hide ((Below.refl W.heap.size W).alloc (Nat.le_refl _) (.cells #[.slice a l.length cap] 24))
  go_enter Tryz.func6, Tryz.ntmps6
  go_wp2
  go_loopw [3, 4] (fun t3 t wr => ∃ (i n : Nat), i ≤ l.length ∧ t = .int .i64 (i : Int) ∧ t3 = .int .i64 (n : Int) ∧ n = szN l i ∧ n ≤ 35184372088832 ∧ Below (W.heap.size + 1) (W.alloc (.cells #[.slice a l.length cap] 24)) wr) (fun _ t _ => l.length - (intOf t).toNat)
  case atStart => exact ⟨0, 0, Nat.zero_le _, rfl, rfl, rfl, by omega, Below.refl _ _⟩
  case round =>
    obtain ⟨i, n, hi, rfl, rfl, hn, hnb, hBr⟩ := hrel
    have cx := one_box _ _ hBr
    have hwr := hBr.size
    simp only [World.size_alloc] at hwr
    have hs1 : W.heap.size < wr.heap.size := by omega
    have hB : Below W.heap.size W wr := (unhide HB0).trans (hBr.mono (by omega))
    have HBR := hide hBr
    have HNN := hide hn
    clear hBr hn
    by_cases hil : i < l.length
    · have hil' : (i : Int) < l.length := by omega
      by_cases h3 : n ≤ 3000
      · have h3' : (n : Int) ≤ 3000 := by omega
        obtain ⟨b, o, cap0, ka, kc, hv, _, _, hb, d0, d1, d2, d3, d4, _, _, _⟩ := ((unhide HN).keep hB hM).at hil
        cases hv
        have hkl := ((unhide HN).2.1 i hil).2
        have htl := ((unhide HN).2.1 i hil).1
        have hbl : b < wr.heap.size := by omega
        obtain ⟨x, hx⟩ : ∃ x, nd l i = x := ⟨_, rfl⟩
        rw [hx] at d0 d1 d2 d3 d4 hkl htl
        have HX := hide hx
        clear hx
        go_wp2
        go_quiet (fail)
        go_wp2
        refine ⟨⟨i + 1, n + 1 + x.kids.length + x.text.size, by omega, by go_num, by go_num, ?_, by omega, below_drewN (unhide HBR) _⟩, by simp [intOf]; omega⟩
        show _ = szN l i + 1 + (nd l i).kids.length + (nd l i).text.size
        rw [unhide HX, unhide HNN]
      · have h3' : ¬ (n : Int) ≤ 3000 := by omega
        have h3'' : (3000 : Int) < n := by omega
        have HF : Hid (decide (3000 < szN l l.length) = true) := decide_eq_true (by have := szN_le l hi; have := unhide HNN; omega)
        go_wp2
        go_ret
        exact ⟨show Ending.returned (.bool true) = _ from ret_b (unhide HF).symm, hB⟩
    · have hil' : ¬ (i : Int) < l.length := by omega
      obtain rfl : i = l.length := by omega
      have HF : Hid (decide (3000 < szN l l.length) = decide ((3000 : Int) < n)) := by
        show decide (3000 < szN l l.length) = decide ((3000 : Int) < n)
        rw [decide_eq_decide, ← unhide HNN]; omega
      go_wp2
      go_ret
      exact ⟨ret_b (unhide HF).symm, hB⟩
end Go.Proofs.YtnnpkomedpjlcaaGreatDoor

/- A copy of kids behind a new row. -/
namespace Go.Proofs.YtnnpkomedpjlcaaGreatDoor
set_option linter.unusedSimpArgs false
set_option linter.unusedVariables false
open Go.RowKit Go.Shelf

theorem own_empty {w : World} {B g : Nat} {e : TypeId} {sz : Nat} (h : w.heap[g]? = some (.cells #[] e (0, 0))) (hB : B ≤ g) : w.ownsRow B e sz (.slice (some ⟨g, 0, none⟩) 0 0) 0 [] :=
  ⟨by simp, .inr ⟨g, 0, #[], rfl, hB, h, Nat.le_refl _, Nat.zero_le _, by simp, by simp⟩⟩
/-- Kids as values. -/
def kvs (ks : List Int) : List Value := ks.map fun k => .int .i64 k
theorem run_append_nil (ty : TypeId) (g c : Nat) (w : World) : (Builtin.append_ #[39, 39] ty #[.slice (some ⟨g, 0, none⟩) 0 0, .slice none 0 c]).run Tryz.prog w = .ok (.slice (some ⟨g, 0, none⟩) 0 0) w := by
  go_simp
theorem kvs_len (ks : List Int) : (kvs ks).length = ks.length := by simp [kvs]
theorem kvs_one (ks : List Int) : ∀ u ∈ kvs ks, u.oneCell' = true := by
  intro u hu
  simp only [kvs, List.mem_map] at hu
  obtain ⟨k, _, rfl⟩ := hu
  rfl
theorem kvs_get {ks : List Int} {j : Nat} {u : Value} (h : (kvs ks)[j]? = some u) : j < ks.length ∧ u = .int .i64 (ks.getD j 0) := by
  have hj : j < ks.length := by have := (List.getElem?_eq_some_iff.1 h).1; rw [kvs_len] at this; exact this
  refine ⟨hj, ?_⟩
  simp only [kvs, List.getElem?_map, List.getElem?_eq_getElem hj, Option.map_some, Option.some.injEq] at h
  simp [List.getD_eq_getElem?_getD, List.getElem?_eq_getElem hj, ← h]
theorem run_kids (ty : TypeId) (B M g : Nat) (ka : Option Addr) (ks : List Int) (c : Nat) (w : World) (hg : w.heap[g]? = some (.cells #[] 3 (0, 0))) (hBg : B ≤ g) (hK : KidsAt w M ka ks) (hlen : ks.length ≤ 3000) :
    ∃ g' cap w', (Builtin.append_ #[39, 39] ty #[.slice (some ⟨g, 0, none⟩) 0 0, .slice ka ks.length c]).run Tryz.prog w = .ok (.slice (some ⟨g', 0, none⟩) ks.length cap) w' ∧
      w'.ownsRow B 3 1 (.slice (some ⟨g', 0, none⟩) ks.length cap) ks.length (kvs ks) ∧ w.grownBy w' (some g) ∧ (g' = g ∨ g' = w.heap.size) ∧ g' < w'.heap.size := by
  obtain ⟨j0, hj, hy0, hy1, hy2⟩ := info_parts infoInt
  have hgl : g < w.heap.size := (Array.getElem?_eq_some_iff.1 hg).1
  have hown := own_empty (B := B) (sz := 1) hg hBg
  cases ka with
  | none =>
    have hks : ks = [] := by
      rcases hK with h | ⟨b, o, h, _⟩
      · exact h
      · cases h
    subst hks
    exact ⟨g, 0, w, run_append_nil ty g c w, hown, ⟨rfl, rfl, rfl, Nat.le_refl _, fun _ _ _ => rfl⟩, .inl rfl, hgl⟩
  | some ad =>
    have hnews : ∀ (j : Nat) (u : Value), (kvs ks)[j]? = some u → w.cell? (ad.add j) = some u := by
      intro j u hu
      obtain ⟨hjl, rfl⟩ := kvs_get hu
      rcases hK with h | ⟨b, o, h, _, hc⟩
      · subst h; simp at hjl
      · cases h
        rw [Addr.add_lit]; exact hc j hjl
    obtain ⟨v', w', hr, h2, h3, h4, h5⟩ := run_append_own_at (P := Tryz.prog) w B 39 ty 3 j0 (.int .i64 0) 1 8 Tryz.underlying39 hj hy0 hy1 hy2 rfl (by omega) _ 0 [] hown ad ks.length c (kvs ks) (by rw [kvs_len]; omega) hnews (kvs_one ks) (by unfold maxLen; omega) (by omega) (by omega)
    rw [Nat.zero_add, List.nil_append] at h2
    rcases h2.2 with ⟨e, _⟩ | ⟨g', cap, cur, rfl, _, hh, _⟩
    · have := (h4.1 e).1
      cases this
    · refine ⟨g', cap, w', hr, h2, h3, ?_, (Array.getElem?_eq_some_iff.1 hh).1⟩
      rcases h5 with h5 | h5
      · exact .inl (by simpa [Value.ownBlock] using h5)
      · exact .inr (by simpa [Value.ownBlock] using h5)
theorem step_kids {ops : Array Oper} {o : Oper} {a : Act} {K : Act → World → Prop} {Q : Exit → Act → World → Prop} {E : Prop} {w : World} (hgd : o.guard = none) (s x : Operand)
    (ho : o.op = .call { callee := .builtin .append, args := #[s, x], argTypes := #[39, 39] }) (B M g : Nat) (ka : Option Addr) (ks : List Int) (c : Nat)
    (hs : a.eval s = .slice (some ⟨g, 0, none⟩) 0 0) (hx : a.eval x = .slice ka ks.length c) (hg : w.heap[g]? = some (.cells #[] 3 (0, 0))) (hBg : B ≤ g) (hK : KidsAt w M ka ks) (hlen : ks.length ≤ 3000)
    (h : ∀ g' cap w', w'.ownsRow B 3 1 (.slice (some ⟨g', 0, none⟩) ks.length cap) ks.length (kvs ks) → w.grownBy w' (some g) → (g' = g ∨ g' = w.heap.size) → g' < w'.heap.size → K (a.put o.dst (.slice (some ⟨g', 0, none⟩) ks.length cap)) w') :
    if Region.wanted o (yielded ops a.tmps) = true then Oper.wp Tryz.prog o a w K Q else E := by
  have hw : Region.wanted o (yielded ops a.tmps) = true := by simp [Region.wanted, hgd]
  rw [if_pos hw]
  obtain ⟨g', cap, w', hr, h2, h3, h4, h5⟩ := run_kids o.type B M g ka ks c w hg hBg hK hlen
  unfold Oper.wp execOp
  simp only [ho, resolve, invoke, builtin, Sem.run_bind, Sem.run_pure, Result.andThen_ok, List.map_toArray, List.map_cons, List.map_nil, hs, hx, hr]
  exact h g' cap w' h2 h3 h4 h5
end Go.Proofs.YtnnpkomedpjlcaaGreatDoor

/- One round of lent: a node's kids in a row of their own. -/
namespace Go.Proofs.YtnnpkomedpjlcaaGreatDoor
set_option linter.unusedSimpArgs false
set_option linter.unusedVariables false
open Go.RowKit Go.Shelf

theorem flatN_set (es : List NE) : ∀ (i : Nat) (x : Nd) (ka : Option Addr) (kc : Nat) (a : Option Addr) (c : Nat), es[i]? = some ⟨x, ka, kc⟩ → (flatN es).set (i * 5 + 3) (.slice a x.kids.length c) = flatN (es.set i ⟨x, a, c⟩) := by
  induction es with
  | nil => intro i x ka kc a c h; cases h
  | cons e es ih =>
    intro i x ka kc a c h
    have e1 : ∀ (y : NE) (l : List NE), flatN (y :: l) = cellN y ++ flatN l := fun y l => by simp [flatN]
    cases i with
    | zero =>
      simp only [List.getElem?_cons_zero, Option.some.injEq] at h
      subst h
      simp [e1, cellN]
    | succ i =>
      have hl : (cellN e).length = 5 := rfl
      rw [List.set_cons_succ, e1, e1, ← ih i x ka kc a c (by simpa using h), List.set_append_right _ _ (by omega), hl, show (i + 1) * 5 + 3 - 5 = i * 5 + 3 from by omega]
/-- A row's nodes with the places of their kids. -/
theorem nodes_rows {W : World} {M : Nat} {v : Value} {l : List Nd} (h : Nodes W M v l) (hne : l ≠ []) : ∃ b o cap, v = .slice (some ⟨b, o, none⟩) l.length cap ∧ b < M ∧ ∃ os : List NE, os.map NE.x = l ∧
    (∀ j u, (flatN os)[j]? = some u → W.cell? ⟨b, o + j, none⟩ = some u) ∧ ∀ e ∈ os, KidsAt W M e.a e.x.kids := by
  obtain ⟨hl, hs, a, cap, rfl, hc, hm, h⟩ := h
  rcases h with h | ⟨b, o, rfl, hb, h⟩
  · exact absurd h hne
  refine ⟨b, o, cap, rfl, hb, ?_⟩
  have key : ∀ (m : List Nd) (o : Nat), (∀ j, j < m.length → NdAt W M b (o + j * 5) (nd m j)) → ∃ os : List NE, os.map NE.x = m ∧ (∀ j u, (flatN os)[j]? = some u → W.cell? ⟨b, o + j, none⟩ = some u) ∧ ∀ e ∈ os, KidsAt W M e.a e.x.kids := by
    intro m
    induction m with
    | nil => intro o _; exact ⟨[], rfl, fun j u hj => by simp [flatN] at hj, fun e he => by cases he⟩
    | cons x m ih =>
      intro o hx
      obtain ⟨os, h1, h2, h3⟩ := ih (o + 5) fun j hj => by
        have := hx (j + 1) (by simpa using hj)
        rw [show o + (j + 1) * 5 = o + 5 + j * 5 from by omega] at this
        exact this
      have h0 : NdAt W M b (o + 0 * 5) x := hx 0 (by simp)
      rw [Nat.zero_mul, Nat.add_zero] at h0
      obtain ⟨c0, c1, c2, ⟨ka, kc, c3, k1, k2, k3⟩, c4⟩ := h0
      refine ⟨⟨x, ka, kc⟩ :: os, by simp [h1], fun j u hj => ?_, fun e he => ?_⟩
      · have e1 : flatN (⟨x, ka, kc⟩ :: os) = cellN ⟨x, ka, kc⟩ ++ flatN os := by simp [flatN]
        have hlc : (cellN ⟨x, ka, kc⟩).length = 5 := rfl
        rw [e1] at hj
        by_cases h5 : j < 5
        · rw [List.getElem?_append_left (by omega)] at hj
          have : j = 0 ∨ j = 1 ∨ j = 2 ∨ j = 3 ∨ j = 4 := by omega
          rcases this with rfl | rfl | rfl | rfl | rfl <;> simp only [cellN, List.getElem?_cons_zero, List.getElem?_cons_succ, Option.some.injEq] at hj <;> subst hj
          · exact c0
          · exact c1
          · exact c2
          · exact c3
          · exact c4
        · rw [List.getElem?_append_right (by omega), hlc] at hj
          have := h2 (j - 5) u hj
          rw [show o + 5 + (j - 5) = o + j from by omega] at this
          exact this
      · rcases List.mem_cons.1 he with rfl | he
        · exact k3
        · exact h3 e he
  exact key l o h
theorem flatN_one (es : List NE) : ∀ u ∈ flatN es, u.oneCell' = true := by
  intro u hu
  simp only [flatN, List.mem_flatMap] at hu
  obtain ⟨e, _, hu⟩ := hu
  simp only [cellN, List.mem_cons, List.not_mem_nil, or_false] at hu
  rcases hu with rfl | rfl | rfl | rfl | rfl <;> rfl
/-- Between two rounds of lent. -/
def LJ (W1 : World) (B : Nat) (v3 : Value) (os : List NE) (i : Nat) (wr : World) (es : List NE) : Prop :=
  es.map NE.x = os.map NE.x ∧ wr.ownsRow B 41 5 v3 os.length (flatN es) ∧ (∀ j e, j < i → es[j]? = some e → KidO wr B e) ∧ (∀ j, i ≤ j → es[j]? = os[j]?) ∧ Below B W1 wr

theorem at_a1 (w : World) (x : Obj) : (w.alloc x).heap[w.heap.size]? = some x := World.alloc_heap_new w x
theorem at_a2 (w : World) (x y : Obj) : ((w.alloc x).alloc y).heap[w.heap.size]? = some x := (Below.heap_alloc _ _ _ (by simp)).trans (World.alloc_heap_new w x)
theorem at_a3 (w : World) (x y : Obj) : ((w.alloc x).alloc y).heap[w.heap.size + 1]? = some y := by
  have := World.alloc_heap_new (w.alloc x) y
  rw [World.size_alloc] at this
  exact this
theorem at_d {w : World} {g : Nat} {x : Obj} (h : w.heap[g]? = some x) : w.drew.heap[g]? = some x := h
theorem kids_d {w : World} {M : Nat} {a : Option Addr} {ks : List Int} (h : KidsAt w M a ks) : KidsAt w.drew M a ks := h
theorem kids_a1 {w : World} {M : Nat} {a : Option Addr} {ks : List Int} (h : KidsAt w M a ks) (hM : M ≤ w.heap.size) (x : Obj) : KidsAt (w.alloc x) M a ks := h.keep ((Below.refl w.heap.size w).alloc (Nat.le_refl _) x) hM
theorem kids_a2 {w : World} {M : Nat} {a : Option Addr} {ks : List Int} (h : KidsAt w M a ks) (hM : M ≤ w.heap.size) (x y : Obj) : KidsAt ((w.alloc x).alloc y) M a ks := kids_a1 (kids_a1 h hM x) (by simp; omega) y
theorem own_cap {w : World} {B : Nat} {e : TypeId} {sz n cap : Nat} {a : Option Addr} {xs : List Value} (h : w.ownsRow B e sz (.slice a n cap) n xs) : n ≤ cap ∧ cap ≤ maxLen := by
  rcases h.2 with ⟨h1, h2⟩ | ⟨g', cap', cur, h1, _, _, h2, h3, _⟩
  · injection h1 with _ _ h3; subst h3; subst h2; exact ⟨Nat.le_refl _, Nat.zero_le _⟩
  · injection h1 with _ _ h4; subst h4; exact ⟨h2, h3⟩

theorem frozen_below {N : Nat} {a w : World} {p : Addr} {x : Bool} (h : Below N a w) (hp : p.block < N) (hf : a.frozen? p = x) : w.frozen? p = x := by
  rw [← hf]; unfold World.frozen?; rw [h.block _ hp]
theorem sk {wr w : World} {p : Addr} {v : Value} (hp : p.block < wr.heap.size) (hc : wr.cell? p = some v) (hf : wr.frozen? p = false) (h : Below wr.heap.size wr w) : Below wr.heap.size wr w ∧ w.cell? p = some v ∧ w.frozen? p = false :=
  ⟨h, (h.cell hp).trans hc, frozen_below h hp hf⟩
theorem below_al {wr w : World} {o : Obj} (h : Below wr.heap.size wr w) : Below wr.heap.size wr (w.alloc o) := h.alloc h.size o
theorem below_gr {wr w w' : World} {k : Nat} (h : Below wr.heap.size wr w) (hg : w.grownBy w' (some k)) (hk : wr.heap.size ≤ k) : Below wr.heap.size wr w' := h.grown hg h.size (fun j hj => by simp at hj; omega)

/-- One more node's kids lie in a row of their own. -/
theorem LJ.next {W1 wr w2 : World} {B g cap3 n : Nat} {os es : List NE} {i : Nat} {x : Nd} {ka : Option Addr} {kc g2 cap2 : Nat} (h : LJ W1 B (.slice (some ⟨g, 0, none⟩) n cap3) os i wr es) (hn : os.length = n) (he : es[i]? = some ⟨x, ka, kc⟩) (hgl : g < wr.heap.size) (hBw : B ≤ wr.heap.size)
    (hb2 : Below wr.heap.size wr w2) (hown2 : w2.ownsRow B 3 1 (.slice (some ⟨g2, 0, none⟩) (x.kids.length + 1) cap2) (x.kids.length + 1) (kvs x.kids ++ [.int .i64 171])) (hg2 : wr.heap.size ≤ g2) :
    LJ W1 B (.slice (some ⟨g, 0, none⟩) n cap3) os (i + 1) (w2.setCell ⟨g, i * 5 + 3, none⟩ (.slice (some ⟨g2, 0, none⟩) x.kids.length cap2)) (es.set i ⟨x, some ⟨g2, 0, none⟩, cap2⟩) := by
  obtain ⟨hmap, hown, hnew, hold, hB⟩ := h
  subst hn
  have hil : i < es.length := (List.getElem?_eq_some_iff.1 he).1
  have hgB : B ≤ g := (hown.lt g rfl).1
  have hown' : w2.ownsRow B 41 5 (.slice (some ⟨g, 0, none⟩) os.length cap3) os.length (flatN es) := ownsRow_heap hown fun k hk => by
    have : k = g := by simpa [Value.ownBlock] using hk.symm
    subst this
    exact hb2.block _ hgl
  have hst := (hown'.stored (i * 5 + 3) (.slice (some ⟨g2, 0, none⟩) x.kids.length cap2)).1
  rw [flatN_set es i x ka kc (some ⟨g2, 0, none⟩) cap2 he] at hst
  have hkeep : ∀ (k : Nat) (cur : Array Value), wr.heap[k]? = some (Obj.cells cur 3 (0, 0)) → (w2.setCell ⟨g, i * 5 + 3, none⟩ (.slice (some ⟨g2, 0, none⟩) x.kids.length cap2)).heap[k]? = wr.heap[k]? := fun k cur hk => by
    have hkl := (Array.getElem?_eq_some_iff.1 hk).1
    have hne : k ≠ g := by
      rintro rfl
      rcases hown.2 with ⟨h0, _⟩ | ⟨g', cap', cur', h0, _, hh, _⟩
      · cases h0
      · injection h0 with h1 _ _
        injection h1 with h1
        injection h1 with h1 _ _
        subst h1
        rw [hk] at hh
        cases hh
    rw [Below.heap_setCell _ _ _ _ hne]
    exact hb2.block k hkl
  refine ⟨?_, hst, fun j e hj hje => ?_, fun j hj => ?_, (hB.trans (hb2.mono hBw)).setCell hgB _⟩
  · rw [List.map_set, ← hmap]
    refine List.ext_getElem? fun j => ?_
    rw [List.getElem?_set]
    split
    · rename_i hij
      subst hij
      rw [if_pos (by simpa using hil), List.getElem?_map, he]
      rfl
    · rfl
  · by_cases hji : j = i
    · subst hji
      rw [List.getElem?_set_self (by simpa using hil)] at hje
      cases hje
      have hcap := own_cap hown2
      refine ⟨by show x.kids.length ≤ cap2; omega, hcap.2, ?_⟩
      right
      rcases hown2.2 with ⟨h0, _⟩ | ⟨g', cap', cur, h0, hb', hh, _, _, _, htake⟩
      · cases h0
      · injection h0 with h1 _ h3
        injection h1 with h1
        injection h1 with h1 _ _
        subst h1
        refine ⟨g2, cur, rfl, hb', ?_, fun k hk => ?_⟩
        · rw [Below.heap_setCell _ _ _ _ (by show g2 ≠ g; omega)]; exact hh
        · have hk' : k < x.kids.length := hk
          have e1 : (cur.toList.take ((x.kids.length + 1) * 1))[k]? = cur[k]? := by rw [List.getElem?_take, if_pos (by omega)]; simp
          rw [← e1, htake, List.getElem?_append_left (by rw [kvs_len]; exact hk')]
          simp [kvs, List.getElem?_map, List.getD_eq_getElem?_getD, List.getElem?_eq_getElem hk']
    · rw [List.getElem?_set_ne (by omega)] at hje
      exact (hnew j e (by omega) hje).keep hkeep
  · rw [List.getElem?_set_ne (by omega)]
    exact hold j (by omega)
end Go.Proofs.YtnnpkomedpjlcaaGreatDoor
