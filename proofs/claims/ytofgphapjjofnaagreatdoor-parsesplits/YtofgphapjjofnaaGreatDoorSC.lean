/- ParseSplits: the tree that was read, as tree.Depth wants it; what Type answers. -/
import Derived.Test.YtofgphapjjofnaaGreatDoorSB
namespace Go.Proofs.YtofgphapjjofnaaGreatDoor
set_option linter.unusedSimpArgs false
set_option linter.unusedVariables false
open Go.RowKit Go.Shelf

theorem nd_map {t : List PN} {j : Nat} {x : PN} (h : t[j]? = some x) : Tr.nd (t.map toNd) j = toNd x := by
  unfold Tr.nd
  rw [List.getD_eq_getElem?_getD, List.getElem?_map, h]
  rfl
theorem nodes_of {W : World} {tvv : Value} {t : List PN} (hN : NdRow (fun _ => False) W tvv t) (hs : ∀ x ∈ t, x.text.length ≤ 10 ∧ x.kids.length ≤ 10) (hl : t.length ≤ 1000) (h0 : 0 < t.length) : Tr.Nodes W W.heap.size tvv (t.map toNd) := by
  obtain ⟨x0, hx0⟩ : ∃ x, t[0]? = some x := ⟨_, List.getElem?_eq_getElem h0⟩
  obtain ⟨g, cap, kv, rfl, h1, h2, _, hc0, _⟩ := nd_five hN hx0
  have hg := World.block_lt_of_cell? W _ hc0
  have hget : ∀ j, j < (t.map toNd).length → ∃ x, t[j]? = some x ∧ x ∈ t := fun j hj => by
    rw [List.length_map] at hj
    exact ⟨t[j], List.getElem?_eq_getElem hj, List.getElem_mem hj⟩
  refine ⟨by rw [List.length_map]; omega, fun j hj => ?_, some ⟨g, 0, none⟩, cap, by rw [List.length_map], by rw [List.length_map]; exact h1, h2, .inr ⟨g, 0, rfl, hg, fun j hj => ?_⟩⟩
  · obtain ⟨x, hx, hm⟩ := hget j hj
    rw [nd_map hx]
    have := hs x hm
    refine ⟨?_, by show (x.kids.map _).length ≤ _; rw [List.length_map]; omega⟩
    show (strOfNums x.text).size ≤ _
    have e : (strOfNums x.text).size = x.text.length := by simp [strOfNums, Lib.bytesOf, ByteArray.size]
    rw [e]
    omega
  · obtain ⟨x, hx, hm⟩ := hget j hj
    obtain ⟨g', cap', kv', e, _, _, hk, c0, c1, c2, c3, c4⟩ := nd_five hN hx
    cases e
    rw [nd_map hx, Nat.zero_add]
    obtain ⟨ka, kc, rfl, k1, k2, k3⟩ := hk
    refine ⟨c0, c1, c2, ⟨ka, kc, by show _ = some (Value.slice ka (x.kids.map _).length kc); rw [List.length_map]; exact c3, by show (x.kids.map _).length ≤ kc; rw [List.length_map]; exact k1, k2, ?_⟩, c4⟩
    rcases k3 with k3 | ⟨b, o, cur, fr, rfl, _, hh, hcur⟩
    · left
      show x.kids.map _ = []
      rw [k3]; rfl
    · by_cases hz : x.kids = []
      · left
        show x.kids.map _ = []
        rw [hz]; rfl
      · right
        refine ⟨b, o, rfl, (Array.getElem?_eq_some_iff.1 hh).1, fun i hi => ?_⟩
        have hi' : i < x.kids.length := by
          have : (toNd x).kids.length = x.kids.length := List.length_map ..
          omega
        have e2 : (toNd x).kids.getD i 0 = ((x.kids[i] : Nat) : Int) := by
          show (x.kids.map _).getD i 0 = _
          rw [List.getD_eq_getElem?_getD, List.getElem?_map, List.getElem?_eq_getElem hi']
          rfl
        rw [e2]
        simp only [World.cell?, hh]
        exact hcur i _ (List.getElem?_eq_getElem hi')
/-- What Type answers to the text. -/
theorem spl_read {n : Nat} (b : Bool) (hn : n ≤ 40) : ∃ (N : Nat) (F : World → Nat × World) (t : List PN), spOk n t = true ∧ (∀ w, (convert 9 22 (.string (spS b n))).run Tryz.prog w = .ok (.slice (some ⟨w.heap.size, 0, none⟩) N (F w).1) (F w).2) ∧ (∀ w, Below w.heap.size w (F w).2) ∧ ∀ w w', Below (F w).2.heap.size (F w).2 w' → ErrG w' 1 → ErrG w' 2 → Calls Tryz.prog 13 #[.slice (some ⟨w.heap.size, 0, none⟩) N (F w).1] w' (AnsQ (.tree t) w') := by
  obtain ⟨t, ht, hok⟩ := sp_ex b hn
  obtain ⟨hsz, hgs, hby⟩ := byl_str (spS_byl b n)
  have hlen : (spB b n).length = 2 * n + 1 + (enB b).length * n := by
    unfold spB
    rw [List.length_append, List.length_append, rpB_len, rpB_len]
    rfl
  have hle : (spB b n).length ≤ 4000 := by
    have h3 := enB_len b
    have : (enB b).length * n ≤ 2 * n := Nat.mul_le_mul_right _ h3
    omega
  obtain ⟨F, hF⟩ := conv_ex (spS b n) (by omega) (by omega)
  have hfun : gS (spS b n) = gOf (spB b n) := funext hgs
  rw [hfun, hsz] at hF
  refine ⟨(spB b n).length, F, t, hok, fun w => (hF w).1, fun w => (hF w).2.1, fun w w' hw e1 e2 => ?_⟩
  have s2 : w.heap.size < w'.heap.size := Nat.lt_of_lt_of_le (by rw [(hF w).2.2.1]; omega) hw.size
  exact read_type ht hby hle (fun w'' hw'' => (hF w).2.2.2 w'' (hw.trans (hw''.mono hw.size))) s2 (fun h => by cases h) e1 e2
end Go.Proofs.YtofgphapjjofnaaGreatDoor
