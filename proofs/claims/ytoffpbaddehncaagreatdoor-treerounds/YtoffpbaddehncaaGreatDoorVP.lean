/- The tree of a node, and what Make makes of the trees of its kids. -/
import Derived.Test.YtoffpbaddehncaaGreatDoorVO
import Derived.Test.YtoffpbaddehncaaGreatDoorTN
import Derived.Test.YtoffpbaddehncaaGreatDoorTT
namespace Go.Proofs.YtoffpbaddehncaaGreatDoor
set_option linter.unusedSimpArgs false
set_option linter.unusedVariables false
open Go.RowKit

/-- The tree of a node. -/
def subT (l : List Nd) (n : Nat) : List Nd := (str l n (en l n)).map (shN (-(n : Int)))
theorem subT_len {l : List Nd} {n : Nat} (h : Fine l n) : (subT l n).length = en l n - n := by rw [subT, List.length_map, str_len h.le.2]

theorem sumP_in {k b : Int} (h : -9223372036854775808 ≤ k + b ∧ k + b ≤ 9223372036854775807) (hk : k ≤ 9223372036854775807) : sumP k b = k + b := by
  unfold sumP
  rw [if_neg (by omega)]
  unfold wrap64
  omega
theorem sh_sh {l : List Nd} (hl : l.length ≤ 2199023255552) {x : Nd} (hx : ∀ k ∈ x.kids, ins l k = true) {a b : Int} (ha : -2199023255552 ≤ a ∧ a ≤ 2199023255552) (hb : -2199023255552 ≤ b ∧ b ≤ 2199023255552) : shN b (shN a x) = shN (a + b) x := by
  simp only [shN, List.map_map]
  congr 1
  apply List.map_congr_left
  intro k hk
  have := ins_iff'.1 (hx k hk)
  show sumP (sumP k a) b = sumP k (a + b)
  rw [sumP_in (k := k) (b := a) (by omega) (by omega), sumP_in (k := k) (b := a + b) (by omega) (by omega), sumP_in (by omega) (by omega)]
  omega
theorem sh_zero {l : List Nd} (hl : l.length ≤ 2199023255552) {x : Nd} (hx : ∀ k ∈ x.kids, ins l k = true) : shN 0 x = x := by
  have e : x.kids.map (fun k => sumP k 0) = x.kids := by
    have : x.kids.map (fun k => sumP k 0) = x.kids.map id := List.map_congr_left fun k hk => by
      have := ins_iff'.1 (hx k hk)
      rw [sumP_in (by omega) (by omega)]; simp
    simpa using this
  show ({ x with kids := x.kids.map (fun k => sumP k 0) } : Nd) = x
  rw [e]
theorem subT_zero {l : List Nd} (hl : l.length ≤ 2199023255552) (h : (chkP l).2 = 0) : subT l 0 = l := by
  obtain ⟨a, b, c⟩ := chk_fine h
  rw [subT, c, str_all]
  have : l.map (shN (-((0 : Nat) : Int))) = l.map id := List.map_congr_left fun x hx => by
    obtain ⟨m, _, hm, rfl⟩ := str_mem (Nat.le_refl _) (show x ∈ str l 0 l.length by rw [str_all]; exact hx)
    exact sh_zero hl (chk_all h hm).ins
  rw [this, List.map_id]
/-- The trees of a node's kids. -/
def kidsT (l : List Nd) (n : Nat) : List (List Nd) := (nd l n).kids.map fun k => subT l k.toNat
theorem stp_ge {l : List Nd} {n : Nat} (h : Fine l n) : ∀ j, j ≤ (nd l n).kids.length → n + 1 ≤ stp (nd l n).kids (en l n) j ∧ stp (nd l n).kids (en l n) j ≤ en l n := by
  obtain ⟨h0, h1⟩ := chain_stp _ _ _ h.chain
  have up : ∀ j, j ≤ (nd l n).kids.length → n + 1 ≤ stp (nd l n).kids (en l n) j := by
    intro j
    induction j with
    | zero => intro _; omega
    | succ j ih =>
      intro hj
      have := ih (by omega)
      have h2 := h1 j (by omega)
      have := h2.2.1.le
      omega
  have dn : ∀ d j, j + d = (nd l n).kids.length → stp (nd l n).kids (en l n) j ≤ en l n := by
    intro d
    induction d with
    | zero => intro j hj; rw [stp, if_neg (by omega)]; exact Nat.le_refl _
    | succ d ih =>
      intro j hj
      have := ih (j + 1) (by omega)
      have h2 := h1 j (by omega)
      have := h2.2.1.le
      omega
  exact fun j hj => ⟨up j hj, dn _ j (by omega : j + ((nd l n).kids.length - j) = _)⟩
theorem mk_kids {l : List Nd} (hl : l.length ≤ 2199023255552) {n : Nat} (h : Fine l n) : ∀ j, j ≤ (nd l n).kids.length → mk (kidsT l n) j = ((str l (n + 1) (stp (nd l n).kids (en l n) j)).map (shN (-(n : Int))), ((nd l n).kids.take j).map fun k => sumP k (-(n : Int)))
  | 0, _ => by
    rw [(chain_stp _ _ _ h.chain).1]
    simp [mk, str]
  | j + 1, hj => by
    obtain ⟨g1, g2⟩ := stp_ge h j (by omega)
    obtain ⟨g3, g4⟩ := stp_ge h (j + 1) hj
    obtain ⟨hk, hf, hn⟩ := (chain_stp _ _ _ h.chain).2 j (by omega)
    have he := h.le
    have ih := mk_kids hl h j (by omega)
    obtain ⟨p, hp⟩ : ∃ p, stp (nd l n).kids (en l n) j = p := ⟨_, rfl⟩
    rw [hp] at hk hf hn ih g1 g2
    have hfe := hf.le
    have et : (kidsT l n).getD j [] = subT l p := by
      have hj' : j < (nd l n).kids.length := by omega
      have hk2 : (nd l n).kids[j] = (p : Int) := by rw [← hk, List.getD_eq_getElem?_getD, List.getElem?_eq_getElem hj']; rfl
      simp [kidsT, List.getD_eq_getElem?_getD, List.getElem?_map, List.getElem?_eq_getElem hj', hk2]
    have hlen : ((str l (n + 1) p).map (shN (-(n : Int)))).length = p - (n + 1) := by rw [List.length_map, str_len (by omega)]
    simp only [mk]
    rw [et, if_neg (by rw [subT_len hf]; omega), ih]
    simp only [hlen]
    have e1 : (subT l p).map (shN ((p - (n + 1) + 1 : Nat) : Int)) = (str l p (en l p)).map (shN (-(n : Int))) := by
      rw [subT, List.map_map]
      refine List.map_congr_left fun x hx => ?_
      obtain ⟨m, hm1, hm2, rfl⟩ := str_mem hfe.2 hx
      show shN _ (shN _ (nd l m)) = _
      rw [sh_sh hl (hf.inner hm1 hm2).ins (by omega) (by omega)]
      congr 1
      omega
    have e2 : ((nd l n).kids.take (j + 1)) = (nd l n).kids.take j ++ [(p : Int)] := by
      have hj' : j < (nd l n).kids.length := by omega
      have hk2 : (nd l n).kids[j] = (p : Int) := by rw [← hk, List.getD_eq_getElem?_getD, List.getElem?_eq_getElem hj']; rfl
      rw [List.take_succ_eq_append_getElem hj', hk2]
    rw [e1, e2, hn, ← List.map_append, str_append (by omega) (by omega) hfe.2, List.map_append]
    congr 2
    simp only [List.map_cons, List.map_nil]
    rw [sumP_in (by omega) (by omega)]
    congr 1
    omega
theorem make_kids {l : List Nd} (hl : l.length ≤ 2199023255552) {n : Nat} (h : Fine l n) : makeT (nd l n) (kidsT l n) = subT l n := by
  have he := h.le
  have e0 : (kidsT l n).length = (nd l n).kids.length := by simp [kidsT]
  have e1 : stp (nd l n).kids (en l n) (nd l n).kids.length = en l n := by simp [stp]
  have e2 : str l n (en l n) = nd l n :: str l (n + 1) (en l n) := by
    have hn := h.1
    have : str l n (n + 1) = [nd l n] := by
      apply List.ext_getElem?
      intro j
      rw [str_get]
      cases j with
      | zero => simp [nd, List.getD_eq_getElem?_getD, List.getElem?_eq_getElem hn]
      | succ j => simp
    rw [← str_append (show n ≤ n + 1 by omega) he.1 he.2, this]
    rfl
  rw [makeT, e0, mk_kids hl h _ (Nat.le_refl _), e1, List.take_length, subT, e2]
  rfl
theorem nodeEq_refl (x : Nd) : nodeEq x x = true := by simp [nodeEq]
theorem sameT_refl (l : List Nd) : sameT l l = true := (sameT_iff rfl).2 fun j _ => nodeEq_refl _
end Go.Proofs.YtoffpbaddehncaaGreatDoor
