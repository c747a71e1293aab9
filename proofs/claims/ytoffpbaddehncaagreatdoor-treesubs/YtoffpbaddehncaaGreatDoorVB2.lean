/- tree.Sub. -/
import Derived.BigQuiet
import Derived.Deep.RegionWith
import Derived.LoopN
import Derived.OwnWalk
import Derived.Test.YtoffpbaddehncaaGreatDoorTM2
import Derived.Test.YtoffpbaddehncaaGreatDoorTT2
import Derived.Test.YtoffpbaddehncaaGreatDoorTY2
import Derived.Test.YtoffpbaddehncaaGreatDoorVO
/- The tree of a node, and what Make makes of the trees of its kids. -/
namespace Go.Proofs.YtoffpbaddehncaaGreatDoor
set_option linter.unusedSimpArgs false
set_option linter.unusedVariables false
open Go.RowKit

/-- The tree of a node. -/
def subT (l : List Nd) (n : Nat) : List Nd := (str l n (en l n)).map (shN (-(n : Int)))
theorem subT_len {l : List Nd} {n : Nat} (h : Fine l n) : (subT l n).length = en l n - n := by rw [subT, List.length_map, str_len h.le.2]

theorem sumP_in {k b : Int} (h : -9223372036854775808 ≤ k + b ∧ k + b ≤ 9223372036854775807) (hk : k ≤ 9223372036854775807) : sumP k b = k + b := by
  unfold sumP
  rw [if_neg (by omega)]
  unfold wrap64
  omega
theorem sh_sh {l : List Nd} (hl : l.length ≤ 2199023255552) {x : Nd} (hx : ∀ k ∈ x.kids, ins l k = true) {a b : Int} (ha : -2199023255552 ≤ a ∧ a ≤ 2199023255552) (hb : -2199023255552 ≤ b ∧ b ≤ 2199023255552) : shN b (shN a x) = shN (a + b) x := by
  simp only [shN, List.map_map]
  congr 1
  apply List.map_congr_left
  intro k hk
  have := ins_iff'.1 (hx k hk)
  show sumP (sumP k a) b = sumP k (a + b)
  rw [sumP_in (k := k) (b := a) (by omega) (by omega), sumP_in (k := k) (b := a + b) (by omega) (by omega), sumP_in (by omega) (by omega)]
  omega
theorem sh_zero {l : List Nd} (hl : l.length ≤ 2199023255552) {x : Nd} (hx : ∀ k ∈ x.kids, ins l k = true) : shN 0 x = x := by
  have e : x.kids.map (fun k => sumP k 0) = x.kids := by
    have : x.kids.map (fun k => sumP k 0) = x.kids.map id := List.map_congr_left fun k hk => by
      have := ins_iff'.1 (hx k hk)
      rw [sumP_in (by omega) (by omega)]; simp
    simpa using this
  show ({ x with kids := x.kids.map (fun k => sumP k 0) } : Nd) = x
  rw [e]
theorem subT_zero {l : List Nd} (hl : l.length ≤ 2199023255552) (h : (chkP l).2 = 0) : subT l 0 = l := by
  obtain ⟨a, b, c⟩ := chk_fine h
  rw [subT, c, str_all]
  have : l.map (shN (-((0 : Nat) : Int))) = l.map id := List.map_congr_left fun x hx => by
    obtain ⟨m, _, hm, rfl⟩ := str_mem (Nat.le_refl _) (show x ∈ str l 0 l.length by rw [str_all]; exact hx)
    exact sh_zero hl (chk_all h hm).ins
  rw [this, List.map_id]
/-- The trees of a node's kids. -/
def kidsT (l : List Nd) (n : Nat) : List (List Nd) := (nd l n).kids.map fun k => subT l k.toNat
theorem stp_ge {l : List Nd} {n : Nat} (h : Fine l n) : ∀ j, j ≤ (nd l n).kids.length → n + 1 ≤ stp (nd l n).kids (en l n) j ∧ stp (nd l n).kids (en l n) j ≤ en l n := by
  obtain ⟨h0, h1⟩ := chain_stp _ _ _ h.chain
  have up : ∀ j, j ≤ (nd l n).kids.length → n + 1 ≤ stp (nd l n).kids (en l n) j := by
    intro j
    induction j with
    | zero => intro _; omega
    | succ j ih =>
      intro hj
      have := ih (by omega)
      have h2 := h1 j (by omega)
      have := h2.2.1.le
      omega
  have dn : ∀ d j, j + d = (nd l n).kids.length → stp (nd l n).kids (en l n) j ≤ en l n := by
    intro d
    induction d with
    | zero => intro j hj; rw [stp, if_neg (by omega)]; exact Nat.le_refl _
    | succ d ih =>
      intro j hj
      have := ih (j + 1) (by omega)
      have h2 := h1 j (by omega)
      have := h2.2.1.le
      omega
  exact fun j hj => ⟨up j hj, dn _ j (by omega : j + ((nd l n).kids.length - j) = _)⟩
theorem mk_kids {l : List Nd} (hl : l.length ≤ 2199023255552) {n : Nat} (h : Fine l n) : ∀ j, j ≤ (nd l n).kids.length → mk (kidsT l n) j = ((str l (n + 1) (stp (nd l n).kids (en l n) j)).map (shN (-(n : Int))), ((nd l n).kids.take j).map fun k => sumP k (-(n : Int)))
  | 0, _ => by
    rw [(chain_stp _ _ _ h.chain).1]
    simp [mk, str]
  | j + 1, hj => by
    obtain ⟨g1, g2⟩ := stp_ge h j (by omega)
    obtain ⟨g3, g4⟩ := stp_ge h (j + 1) hj
    obtain ⟨hk, hf, hn⟩ := (chain_stp _ _ _ h.chain).2 j (by omega)
    have he := h.le
    have ih := mk_kids hl h j (by omega)
    obtain ⟨p, hp⟩ : ∃ p, stp (nd l n).kids (en l n) j = p := ⟨_, rfl⟩
    rw [hp] at hk hf hn ih g1 g2
    have hfe := hf.le
    have et : (kidsT l n).getD j [] = subT l p := by
      have hj' : j < (nd l n).kids.length := by omega
      have hk2 : (nd l n).kids[j] = (p : Int) := by rw [← hk, List.getD_eq_getElem?_getD, List.getElem?_eq_getElem hj']; rfl
      simp [kidsT, List.getD_eq_getElem?_getD, List.getElem?_map, List.getElem?_eq_getElem hj', hk2]
    have hlen : ((str l (n + 1) p).map (shN (-(n : Int)))).length = p - (n + 1) := by rw [List.length_map, str_len (by omega)]
    simp only [mk]
    rw [et, if_neg (by rw [subT_len hf]; omega), ih]
    simp only [hlen]
    have e1 : (subT l p).map (shN ((p - (n + 1) + 1 : Nat) : Int)) = (str l p (en l p)).map (shN (-(n : Int))) := by
      rw [subT, List.map_map]
      refine List.map_congr_left fun x hx => ?_
      obtain ⟨m, hm1, hm2, rfl⟩ := str_mem hfe.2 hx
      show shN _ (shN _ (nd l m)) = _
      rw [sh_sh hl (hf.inner hm1 hm2).ins (by omega) (by omega)]
      congr 1
      omega
    have e2 : ((nd l n).kids.take (j + 1)) = (nd l n).kids.take j ++ [(p : Int)] := by
      have hj' : j < (nd l n).kids.length := by omega
      have hk2 : (nd l n).kids[j] = (p : Int) := by rw [← hk, List.getD_eq_getElem?_getD, List.getElem?_eq_getElem hj']; rfl
      rw [List.take_succ_eq_append_getElem hj', hk2]
    rw [e1, e2, hn, ← List.map_append, str_append (by omega) (by omega) hfe.2, List.map_append]
    congr 2
    simp only [List.map_cons, List.map_nil]
    rw [sumP_in (by omega) (by omega)]
    congr 1
    omega
theorem make_kids {l : List Nd} (hl : l.length ≤ 2199023255552) {n : Nat} (h : Fine l n) : makeT (nd l n) (kidsT l n) = subT l n := by
  have he := h.le
  have e0 : (kidsT l n).length = (nd l n).kids.length := by simp [kidsT]
  have e1 : stp (nd l n).kids (en l n) (nd l n).kids.length = en l n := by simp [stp]
  have e2 : str l n (en l n) = nd l n :: str l (n + 1) (en l n) := by
    have hn := h.1
    have : str l n (n + 1) = [nd l n] := by
      apply List.ext_getElem?
      intro j
      rw [str_get]
      cases j with
      | zero => simp [nd, List.getD_eq_getElem?_getD, List.getElem?_eq_getElem hn]
      | succ j => simp
    rw [← str_append (show n ≤ n + 1 by omega) he.1 he.2, this]
    rfl
  rw [makeT, e0, mk_kids hl h _ (Nat.le_refl _), e1, List.take_length, subT, e2]
  rfl
theorem nodeEq_refl (x : Nd) : nodeEq x x = true := by simp [nodeEq]
theorem sameT_refl (l : List Nd) : sameT l l = true := (sameT_iff rfl).2 fun j _ => nodeEq_refl _
end Go.Proofs.YtoffpbaddehncaaGreatDoor

/- tree.behind, over a tree that Check takes. -/
namespace Go.Proofs.YtoffpbaddehncaaGreatDoor
set_option linter.unusedSimpArgs false
set_option linter.unusedVariables false
open Go.RowKit Go.Shelf

set_option maxRecDepth 100000 in
set_option maxHeartbeats 2000000 in
theorem behind_any (W : World) (M : Nat) (v : Value) (l : List Nd) (n : Nat) (hN : Nodes W M v l) (hM : M ≤ W.heap.size) (hf : Fine l n) :
    Calls Tryz.prog 41 #[v, .int .i64 (n : Int)] W fun e w' => e = .returned (.int .i64 (en l n : Int)) ∧ Below W.heap.size W w' := by
  have HN := hide hN
  have hl1 := hN.1
  obtain ⟨a, cap, rfl, _, _⟩ := hN.len
  clear hN
  have HF := hide hf
  have hnl := hf.1
  clear hf
  go_enter Tryz.func41, Tryz.ntmps41
  go_wp2
  go_loopw [1] (fun t wr => ∃ m : Nat, t = .int .i64 (m : Int) ∧ m < l.length ∧ Fine l m ∧ en l m = en l n ∧ Below W.heap.size W wr) (fun t _ => l.length - (intOf t).toNat)
  case atStart => exact ⟨n, rfl, hnl, unhide HF, rfl, Below.refl _ _⟩
  case round =>
    obtain ⟨m, rfl, hml, hfm, hen, hB⟩ := hrel
    obtain ⟨b, o, cap0, ka, kc, hv, _, _, hb, d0, d1, d2, d3, d4, hkc, hkm, hK⟩ := ((unhide HN).keep hB hM).at hml
    cases hv
    have hml' : (m : Int) < l.length := by omega
    have hm0 : (0 : Int) ≤ (m : Int) := by omega
    have hbl : b < wr.heap.size := by have := hB.size; omega
    have hkl := ((unhide HN).2.1 m hml).2
    clear d0 d1 d2 d4
    cases hy : (nd l m).kids.length with
    | zero =>
      have hk0 : (nd l m).kids = [] := List.length_eq_zero_iff.1 hy
      have HE : Hid (en l n = m + 1) := hen.symm.trans (hfm.leaf hk0)
      rw [hy] at d3
      clear hk0 hy hen hfm hK
      go_wp2
      go_ret
      exact ⟨by rw [unhide HE]; go_num, hB⟩
    | succ y =>
      obtain ⟨q, hq, hfq, hlt, heq⟩ := hfm.last (by omega)
      rw [hy] at d3 hkl hkc
      rcases hK with h | ⟨kb, ko, rfl, hkb, hkc0⟩
      · rw [h] at hy; cases hy
      have dk := hkc0 y (by omega)
      rw [hy, Nat.add_sub_cancel] at hq
      rw [hq] at dk
      have hkl2 : kb < wr.heap.size := by have := hB.size; omega
      have HFQ := hide hfq
      have HEQ : Hid (en l q = en l n) := heq.trans hen
      have hql := hfq.1
      clear hkc0 hq hy hfm hen heq hfq
      go_wp2
      go_quiet (fail)
      go_wp2
      refine ⟨⟨q, rfl, hql, unhide HFQ, unhide HEQ, below_drewN hB _⟩, by simp [intOf]; omega⟩
end Go.Proofs.YtoffpbaddehncaaGreatDoor

/- tree.Sub in general. -/
namespace Go.Proofs.YtoffpbaddehncaaGreatDoor
set_option linter.unusedSimpArgs false
set_option linter.unusedVariables false
open Go.RowKit Go.Shelf

theorem chk_two (l : List Nd) : (chkP l).2 = 0 ∨ (chkP l).2 = 7 := by
  unfold chkP outP
  split
  · exact .inr rfl
  · split
    · split
      · exact .inr rfl
      · exact .inl rfl
    · exact .inr rfl
theorem run_make_none (w : World) (base : Nat) (i : TypeInfo) (z : Value) (hi : Tryz.prog.info? 29 = some i) (hz : i.zero = some z) (hsize : i.size = 5) (c : Nat) (hbytes : i.bytes * c ≤ 281474976710656) (h63 : c ≤ maxLen) (hbase : base ≤ w.heap.size) :
    ∃ w', (Instr.makeSlice 22 (.int .i64 0) (.int .i64 (c : Int))).run Tryz.prog w = .ok (.slice (some ⟨w.heap.size, 0, none⟩) 0 c) w' ∧
      w'.ownsRow base 29 5 (.slice (some ⟨w.heap.size, 0, none⟩) 0 c) 0 [] ∧ w.grownBy w' none := by
  have h63' : (c : Int) ≤ 9223372036854775807 := by
    have h := h63
    simp [maxLen] at h
    omega
  have hb' : (i.bytes : Int) * (c : Int) ≤ 281474976710656 := by
    have h : ((i.bytes * c : Nat) : Int) ≤ 281474976710656 := by omega
    rwa [Int.natCast_mul] at h
  have hr := run_make (P := Tryz.prog) w 22 29 i z Tryz.underlying22 hi hz .i64 .i64 0 c (by omega) (by omega) hb' h63'
  simp only [Int.toNat_natCast] at hr
  refine ⟨_, hr, ⟨rfl, .inr ⟨w.heap.size, c, _, rfl, hbase, heap_alloc_new w _, Nat.zero_le _, h63, by rw [hsize]; exact size_madeCells _ _, ?_⟩⟩, World.grownBy_alloc w _ none⟩
  simp
theorem shN_size (b : Int) (x : Nd) : (shN b x).text = x.text ∧ (shN b x).kids.length = x.kids.length := ⟨rfl, by simp [shN]⟩
/-- A stretch of a row of nodes. -/
theorem nodes_str {W : World} {M b o : Nat} {l : List Nd} {cap : Nat} (h : Nodes W M (.slice (some ⟨b, o, none⟩) l.length cap) l) {n e : Nat} (hn : n ≤ e) (he : e ≤ l.length) : Nodes W M (.slice (some ⟨b, o + n * 5, none⟩) (e - n) (cap - n)) (str l n e) := by
  obtain ⟨hl, hs, a, cap', hv, hc, hm, h⟩ := h
  cases hv
  have hsl := str_len (l := l) (a := n) he
  refine ⟨by omega, fun j hj => ?_, some ⟨b, o + n * 5, none⟩, cap - n, by rw [hsl], by omega, by omega, ?_⟩
  · rw [str_nd (by omega)]; exact hs _ (by omega)
  · by_cases h0 : l = []
    · subst h0; exact .inl (by simp [str])
    · rcases h with h | ⟨b', o', ha, hb, h⟩
      · exact absurd h h0
      · cases ha
        refine .inr ⟨b, o + n * 5, rfl, hb, fun j hj => ?_⟩
        rw [str_nd (by omega), show o + n * 5 + j * 5 = o + (n + j) * 5 from by omega]
        exact h _ (by omega)

theorem own_slice {W : World} {B : Nat} {v : Value} {es : List NE} (h : OwnN W B v es) (h0 : 0 < es.length) : ∃ g n c, v = .slice (some ⟨g, 0, none⟩) n c := by
  obtain ⟨g, cp, hv, _⟩ := h.1.form h0
  exact ⟨g, _, cp, hv⟩
theorem OwnN.setBox {w : World} {N : Nat} {v y : Value} {es : List NE} (h : OwnN w (N + 2) v es) : OwnN (w.setCell ⟨N + 1, 0, none⟩ y) N v es :=
  ⟨(ownsRow_heap h.1 (fun g hg => Below.heap_setCell _ _ _ _ (by have := (h.1.lt g hg).1; show g ≠ N + 1; omega))).mono (by omega), fun e he => by
    obtain ⟨h1, h2, h3⟩ := h.2 e he
    refine ⟨h1, h2, ?_⟩
    rcases h3 with h3 | ⟨kb, cur, ha, hb, hh, hc⟩
    · exact .inl h3
    · exact .inr ⟨kb, cur, ha, by omega, (Below.heap_setCell _ _ _ _ (by show kb ≠ N + 1; omega)).trans hh, hc⟩⟩
/-- What Sub answers. -/
def SubNo (k : Int) (W : World) (e : Ending) (w' : World) : Prop := e = .returned (.tuple #[.agg #[.slice none 0 0], .int .i64 k]) ∧ Below W.heap.size W w'
def SubYes (l : List Nd) (n : Nat) (W : World) (e : Ending) (w' : World) : Prop := ∃ v' es, e = .returned (.tuple #[.agg #[v'], .int .i64 0]) ∧ es.map NE.x = subT l n ∧ OwnN w' W.heap.size v' es ∧ Below W.heap.size W w'

/-- The two boxes at the head of Sub. -/
theorem sub_boxes {W w : World} {v : Value} (h : Below (W.heap.size + 2) ((W.alloc (.cells #[v] 24)).alloc (.cells #[.slice none 0 0] 24)) w) :
    Below W.heap.size W w ∧ w.cell? ⟨W.heap.size, 0, none⟩ = some v ∧ w.cell? ⟨W.heap.size + 1, 0, none⟩ = some (.slice none 0 0) ∧ w.frozen? ⟨W.heap.size + 1, 0, none⟩ = false ∧ W.heap.size + 2 ≤ w.heap.size := by
  have e1 := (h.block W.heap.size (by omega)).trans (at_a2 W _ _)
  have e2 := (h.block (W.heap.size + 1) (by omega)).trans (at_a3 W _ _)
  refine ⟨(((Below.refl _ W).alloc (Nat.le_refl _) _).alloc (by simp) _).trans (h.mono (by omega)), ?_, ?_, frozen_at e2 0, by have := h.size; simp at this; omega⟩
  · rw [Lib.cell_of_heap e1]; rfl
  · rw [Lib.cell_of_heap e2]; rfl

set_option maxRecDepth 100000 in
set_option maxHeartbeats 2000000 in
theorem sub_bad (W : World) (M : Nat) (v : Value) (l : List Nd) (n : Int) (hN : Nodes W M v l) (hM : M ≤ W.heap.size) (h : ¬ (chkP l).2 = 0) :
    Calls Tryz.prog 25 #[.agg #[v], .int .i64 n] W (SubNo 7 W) := by
  obtain ⟨W1, hW1⟩ : ∃ W1, (W.alloc (.cells #[v] 24)).alloc (.cells #[.slice none 0 0] 24) = W1 := ⟨_, rfl⟩
  have HK : Hid (∀ w, Below (W.heap.size + 2) W1 w → _) := fun w hw => sub_boxes (v := v) (by rw [hW1]; exact hw)
  have hz1 : W1.heap.size = W.heap.size + 2 := by rw [← hW1]; simp
  have hB0 := (unhide HK W1 (Below.refl _ _)).1
  have HC := hide (check_ok W1 M v l (hN.keep hB0 hM) (by omega))
  obtain ⟨va, vc, rfl, _, _⟩ := hN.len
  have h' : ((chkP l).2 != 0) = true := by simpa using h
  have h7 : (chkP l).2 = 7 := (chk_two l).resolve_left h
  rw [h7] at HC
  rw [← hW1] at HC
  have HW1 := hide hW1
  clear hN h h' h7 hB0 hW1
  go_enter Tryz.func25, Tryz.ntmps25
  go_wp2_with (go_at_call 24; refine (unhide HC).mono ?_; rw [unhide HW1]; rintro e w2 ⟨rfl, hB2⟩; rw [hz1] at hB2; obtain ⟨k1, k2, k3, k4, k5⟩ := unhide HK w2 hB2; have k6 : W.heap.size + 1 < w2.heap.size := by omega)
  exact bodyPost_ret (v := .tuple #[.agg #[.slice none 0 0], .int .i64 7]) (by simp [results, Tryz.results25, go_sem, k3]) rfl ⟨rfl, k1.setCell (by show W.heap.size ≤ W.heap.size + 1; omega) _⟩

set_option maxRecDepth 100000 in
set_option maxHeartbeats 2000000 in
theorem sub_out (W : World) (M : Nat) (v : Value) (l : List Nd) (n : Int) (hN : Nodes W M v l) (hM : M ≤ W.heap.size) (h : (chkP l).2 = 0) (hn : ins l n = false) :
    Calls Tryz.prog 25 #[.agg #[v], .int .i64 n] W (SubNo 1 W) := by
  obtain ⟨W1, hW1⟩ : ∃ W1, (W.alloc (.cells #[v] 24)).alloc (.cells #[.slice none 0 0] 24) = W1 := ⟨_, rfl⟩
  have HK : Hid (∀ w, Below (W.heap.size + 2) W1 w → _) := fun w hw => sub_boxes (v := v) (by rw [hW1]; exact hw)
  have hz1 : W1.heap.size = W.heap.size + 2 := by rw [← hW1]; simp
  have hB0 := (unhide HK W1 (Below.refl _ _)).1
  have HC := hide (check_ok W1 M v l (hN.keep hB0 hM) (by omega))
  have HN := hide hN
  obtain ⟨va, vc, rfl, _, _⟩ := hN.len
  rw [h, ← hW1] at HC
  have HW1 := hide hW1
  have HIN := hide hn
  clear hN h hB0 hW1 hn
  go_enter Tryz.func25, Tryz.ntmps25
  go_wp2_with (first | (go_at_call 24; refine (unhide HC).mono ?_; rw [unhide HW1]; rintro e w2 ⟨rfl, hB2⟩; rw [hz1] at hB2; obtain ⟨k1, k2, k3, k4, k5⟩ := unhide HK w2 hB2; have k6 : W.heap.size + 1 < w2.heap.size := (by omega); have k7 : W.heap.size < w2.heap.size := (by omega)) | (go_at_call 37; refine (within_ok ((unhide HN).keep k1 hM) n).mono ?_; rw [unhide HIN]; rintro e w3 ⟨rfl, rfl⟩))
  exact bodyPost_ret (v := .tuple #[.agg #[.slice none 0 0], .int .i64 1]) (by simp [results, Tryz.results25, go_sem, k3]) rfl ⟨rfl, k1.setCell (by show W.heap.size ≤ W.heap.size + 1; omega) _⟩

set_option maxRecDepth 100000 in
set_option maxHeartbeats 4000000 in
theorem sub_in (W : World) (M : Nat) (v : Value) (l : List Nd) (n : Nat) (hN : Nodes W M v l) (hM : M ≤ W.heap.size) (h : (chkP l).2 = 0) (hn : n < l.length) :
    Calls Tryz.prog 25 #[.agg #[v], .int .i64 (n : Int)] W (SubYes l n W) := by
  obtain ⟨i0, hi, hz0, hy1, hz2⟩ := info_parts infoNode
  obtain ⟨W1, hW1⟩ : ∃ W1, (W.alloc (.cells #[v] 24)).alloc (.cells #[.slice none 0 0] 24) = W1 := ⟨_, rfl⟩
  have HK : Hid (∀ w, Below (W.heap.size + 2) W1 w → _) := fun w hw => sub_boxes (v := v) (by rw [hW1]; exact hw)
  have hz1 : W1.heap.size = W.heap.size + 2 := by rw [← hW1]; simp
  have hB0 := (unhide HK W1 (Below.refl _ _)).1
  have HC := hide (check_ok W1 M v l (hN.keep hB0 hM) (by omega))
  have HN := hide hN
  have hl1 := hN.1
  have hf := chk_all h hn
  obtain ⟨b, o, cap, ka, kc, rfl, hcap, hcm, hb, _⟩ := hN.at hn
  rw [h, ← hW1] at HC
  have HW1 := hide hW1
  have HIN : Hid (ins l (n : Int) = true) := ins_iff'.2 ⟨by omega, by omega⟩
  have HF := hide hf
  obtain ⟨hle1, hle2⟩ := hf.le
  clear hN h hB0 hW1 hf
  obtain ⟨q, hq⟩ : ∃ q, en l n = q := ⟨_, rfl⟩
  rw [hq] at hle1 hle2
  have HQ := hide hq
  clear hq
  go_enter Tryz.func25, Tryz.ntmps25
  go_wp2_with (first | (go_at_call 24; refine (unhide HC).mono ?_; rw [unhide HW1]; rintro e w2 ⟨rfl, hB2⟩; rw [hz1] at hB2; obtain ⟨k1, k2, k3, k4, k5⟩ := unhide HK w2 hB2; have k6 : W.heap.size + 1 < w2.heap.size := (by omega); have k7 : W.heap.size < w2.heap.size := (by omega)) | (go_at_call 37; refine (within_ok ((unhide HN).keep k1 hM) n).mono ?_; rw [unhide HIN]; rintro e w3 ⟨rfl, rfl⟩) | (go_at_call 41; refine (behind_any _ M _ l n ((unhide HN).keep k1 hM) (by omega) (unhide HF)).mono ?_; rw [unhide HQ]; rintro e w4 ⟨rfl, hB4⟩))
  have hB24 := hB2.trans (hB4.mono (show W.heap.size + 2 ≤ _ by omega))
  obtain ⟨j1, j2, j3, j4, j5⟩ := unhide HK w4 hB24
  have j6 : W.heap.size + 1 < w4.heap.size := by omega
  have j7 : W.heap.size < w4.heap.size := by omega
  have hB5 := hB24.drew
  obtain ⟨w5, hmk, hown5, hg5⟩ := run_make_none w4.drew (W.heap.size + 2) i0 _ hi hz0 hy1 (q - n) (by rw [hz2]; omega) (by unfold maxLen; omega) (by show _ ≤ w4.heap.size; omega)
  have hws : IntKind.i64.wrap ((q : Int) - (n : Int)) = ((q - n : Nat) : Int) := by rw [IntKind.wrap_i64]; omega
  have hwn : IntKind.i64.wrap (-(n : Int)) = -(n : Int) := by rw [IntKind.wrap_i64]; omega
  have hsd : w4.drew.heap.size = w4.heap.size := rfl
  rw [← hws, hsd] at hmk
  rw [hsd] at hown5
  have hB6 : Below (W.heap.size + 2) W1 w5 := hB5.grown hg5 (by show _ ≤ w4.heap.size; omega) (fun k hk => by cases hk)
  obtain ⟨m1, m2, m3, m4, m5⟩ := unhide HK w5 hB6
  have m7 : W.heap.size < w5.heap.size := by omega
  have hnq : (n : Int) ≤ (q : Int) := by omega
  have hqc : (q : Int) ≤ (cap : Int) := by omega
  have hn0 : (0 : Int) ≤ (n : Int) := by omega
  have HO5 : Hid (OwnN w5 (W.heap.size + 2) (.slice (some ⟨w4.heap.size, 0, none⟩) 0 (q - n)) []) := ⟨hown5, fun e he => by cases he⟩
  have hcn : ¬ cap = n := by omega
  have HL : Hid (Calls Tryz.prog 42 #[.slice (some ⟨w4.heap.size, 0, none⟩) 0 (q - n), .slice (some ⟨b, o + n * 5, none⟩) (q - n) (cap - n), .int .i64 (IntKind.i64.wrap (-(n : Int)))] w5 (LayQ (W.heap.size + 2) (.slice (some ⟨w4.heap.size, 0, none⟩) 0 (q - n)) [] (str l n q) (-(n : Int)) w5)) := by
    rw [hwn]
    exact lay_any (W.heap.size + 2) _ _ [] (str l n q) (-(n : Int)) M w5 (by omega) (by omega) (unhide HO5) (nodes_str ((unhide HN).keep m1 hM) (by omega) hle2) (by omega) (by rw [str_len hle2]; simp; omega)
  have HKK : Hid (∀ w6, Below (W.heap.size + 2) w5 w6 → Below W.heap.size W w6 ∧ w6.cell? ⟨W.heap.size + 1, 0, none⟩ = some (.slice none 0 0) ∧ w6.frozen? ⟨W.heap.size + 1, 0, none⟩ = false ∧ W.heap.size + 1 < w6.heap.size) := fun w6 h6 => by
    obtain ⟨p1, p2, p3, p4, p5⟩ := unhide HK w6 (hB6.trans h6)
    exact ⟨p1, p3, p4, by omega⟩
  have HLL : Hid (∀ es' : List NE, es'.map NE.x = (str l n q).map (shN (-(n : Int))) → 0 < ([] ++ es').length) := fun es' he => by
    have h1 := congrArg List.length he
    simp only [List.length_map, str_len hle2] at h1
    simp; omega
  clear hws hwn hown5 hg5 HO5 k1 k2 k3 k4 k5 k6 k7 j1 j3 j4 j5 m1 m3 m4 m5 hB24 hB5 hB4 hB2 HK HC HIN HF hi hz0 hy1 hz2 hB6
  go_region_with (go_at_call 42; refine (unhide HL).mono ?_; rintro e w6 ⟨v', es', rfl, hmap, hO6, hB67, hF6, hk6⟩; obtain ⟨g6, n6, c6, rfl⟩ := own_slice hO6 (unhide HLL es' hmap); have HMAP := hide hmap; have HO6 := hide hO6; clear hmap hO6 hF6 hk6; obtain ⟨p1, p3, p4, p6⟩ := unhide HKK w6 hB67)
  all_goals (
    go_wp2
    refine bodyPost_ret (v := .tuple #[.agg #[.slice (some ⟨g6, 0, none⟩) n6 c6], .int .i64 0]) (by simp [results, Tryz.results25, go_sem, p3]) rfl ⟨_, es', rfl, ?_, ?_, p1.setCell (by show W.heap.size ≤ W.heap.size + 1; omega) _⟩
    · rw [subT, unhide HQ]; exact unhide HMAP
    · exact (unhide HO6).setBox)
end Go.Proofs.YtoffpbaddehncaaGreatDoor
