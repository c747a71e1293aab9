/- A copy of kids behind a new row. -/
import Derived.LoopN
import Derived.Deep.RegionHeld3
import Derived.Deep.AppendLies
import Derived.Maps.AppendAt
import Derived.Test.YtoffpbaddehncaaGreatDoorTR
namespace Go.Proofs.YtoffpbaddehncaaGreatDoor
set_option linter.unusedSimpArgs false
set_option linter.unusedVariables false
open Go.RowKit Go.Shelf

theorem own_empty {w : World} {B g : Nat} {e : TypeId} {sz : Nat} (h : w.heap[g]? = some (.cells #[] e (0, 0))) (hB : B ≤ g) : w.ownsRow B e sz (.slice (some ⟨g, 0, none⟩) 0 0) 0 [] :=
  ⟨by simp, .inr ⟨g, 0, #[], rfl, hB, h, Nat.le_refl _, Nat.zero_le _, by simp, by simp⟩⟩
/-- Kids as values. -/
def kvs (ks : List Int) : List Value := ks.map fun k => .int .i64 k
theorem run_append_nil (ty : TypeId) (g c : Nat) (w : World) : (Builtin.append_ #[27, 27] ty #[.slice (some ⟨g, 0, none⟩) 0 0, .slice none 0 c]).run Tryz.prog w = .ok (.slice (some ⟨g, 0, none⟩) 0 0) w := by
  go_simp
theorem kvs_len (ks : List Int) : (kvs ks).length = ks.length := by simp [kvs]
theorem kvs_one (ks : List Int) : ∀ u ∈ kvs ks, u.oneCell' = true := by
  intro u hu
  simp only [kvs, List.mem_map] at hu
  obtain ⟨k, _, rfl⟩ := hu
  rfl
theorem kvs_get {ks : List Int} {j : Nat} {u : Value} (h : (kvs ks)[j]? = some u) : j < ks.length ∧ u = .int .i64 (ks.getD j 0) := by
  have hj : j < ks.length := by have := (List.getElem?_eq_some_iff.1 h).1; rw [kvs_len] at this; exact this
  refine ⟨hj, ?_⟩
  simp only [kvs, List.getElem?_map, List.getElem?_eq_getElem hj, Option.map_some, Option.some.injEq] at h
  simp [List.getD_eq_getElem?_getD, List.getElem?_eq_getElem hj, ← h]
theorem run_kids (ty : TypeId) (B M g : Nat) (ka : Option Addr) (ks : List Int) (c : Nat) (w : World) (hg : w.heap[g]? = some (.cells #[] 3 (0, 0))) (hBg : B ≤ g) (hK : KidsAt w M ka ks) (hlen : ks.length ≤ 3000) :
    ∃ g' cap w', (Builtin.append_ #[27, 27] ty #[.slice (some ⟨g, 0, none⟩) 0 0, .slice ka ks.length c]).run Tryz.prog w = .ok (.slice (some ⟨g', 0, none⟩) ks.length cap) w' ∧
      w'.ownsRow B 3 1 (.slice (some ⟨g', 0, none⟩) ks.length cap) ks.length (kvs ks) ∧ w.grownBy w' (some g) ∧ (g' = g ∨ g' = w.heap.size) ∧ g' < w'.heap.size := by
  obtain ⟨j0, hj, hy0, hy1, hy2⟩ := info_parts infoInt
  have hgl : g < w.heap.size := (Array.getElem?_eq_some_iff.1 hg).1
  have hown := own_empty (B := B) (sz := 1) hg hBg
  cases ka with
  | none =>
    have hks : ks = [] := by
      rcases hK with h | ⟨b, o, h, _⟩
      · exact h
      · cases h
    subst hks
    exact ⟨g, 0, w, run_append_nil ty g c w, hown, ⟨rfl, rfl, rfl, Nat.le_refl _, fun _ _ _ => rfl⟩, .inl rfl, hgl⟩
  | some ad =>
    have hnews : ∀ (j : Nat) (u : Value), (kvs ks)[j]? = some u → w.cell? (ad.add j) = some u := by
      intro j u hu
      obtain ⟨hjl, rfl⟩ := kvs_get hu
      rcases hK with h | ⟨b, o, h, _, hc⟩
      · subst h; simp at hjl
      · cases h
        rw [Addr.add_lit]; exact hc j hjl
    obtain ⟨v', w', hr, h2, h3, h4, h5⟩ := run_append_own_at (P := Tryz.prog) w B 27 ty 3 j0 (.int .i64 0) 1 8 Tryz.underlying27 hj hy0 hy1 hy2 rfl (by omega) _ 0 [] hown ad ks.length c (kvs ks) (by rw [kvs_len]; omega) hnews (kvs_one ks) (by unfold maxLen; omega) (by omega) (by omega)
    rw [Nat.zero_add, List.nil_append] at h2
    rcases h2.2 with ⟨e, _⟩ | ⟨g', cap, cur, rfl, _, hh, _⟩
    · have := (h4.1 e).1
      cases this
    · refine ⟨g', cap, w', hr, h2, h3, ?_, (Array.getElem?_eq_some_iff.1 hh).1⟩
      rcases h5 with h5 | h5
      · exact .inl (by simpa [Value.ownBlock] using h5)
      · exact .inr (by simpa [Value.ownBlock] using h5)
theorem step_kids {ops : Array Oper} {o : Oper} {a : Act} {K : Act → World → Prop} {Q : Exit → Act → World → Prop} {E : Prop} {w : World} (hgd : o.guard = none) (s x : Operand)
    (ho : o.op = .call { callee := .builtin .append, args := #[s, x], argTypes := #[27, 27] }) (B M g : Nat) (ka : Option Addr) (ks : List Int) (c : Nat)
    (hs : a.eval s = .slice (some ⟨g, 0, none⟩) 0 0) (hx : a.eval x = .slice ka ks.length c) (hg : w.heap[g]? = some (.cells #[] 3 (0, 0))) (hBg : B ≤ g) (hK : KidsAt w M ka ks) (hlen : ks.length ≤ 3000)
    (h : ∀ g' cap w', w'.ownsRow B 3 1 (.slice (some ⟨g', 0, none⟩) ks.length cap) ks.length (kvs ks) → w.grownBy w' (some g) → (g' = g ∨ g' = w.heap.size) → g' < w'.heap.size → K (a.put o.dst (.slice (some ⟨g', 0, none⟩) ks.length cap)) w') :
    if Region.wanted o (yielded ops a.tmps) = true then Oper.wp Tryz.prog o a w K Q else E := by
  have hw : Region.wanted o (yielded ops a.tmps) = true := by simp [Region.wanted, hgd]
  rw [if_pos hw]
  obtain ⟨g', cap, w', hr, h2, h3, h4, h5⟩ := run_kids o.type B M g ka ks c w hg hBg hK hlen
  unfold Oper.wp execOp
  simp only [ho, resolve, invoke, builtin, Sem.run_bind, Sem.run_pure, Result.andThen_ok, List.map_toArray, List.map_cons, List.map_nil, hs, hx, hr]
  exact h g' cap w' h2 h3 h4 h5
end Go.Proofs.YtoffpbaddehncaaGreatDoor
