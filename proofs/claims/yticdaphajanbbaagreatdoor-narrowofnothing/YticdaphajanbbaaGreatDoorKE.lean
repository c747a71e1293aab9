/- Copies: strings.Clone, slices.Clone of numbers, names, marks. -/
import Derived.Maps.AppendAt
import Derived.OwnWalk
import Derived.Lib.SliceRun
import Derived.Test.YticdaphajanbbaaGreatDoorKS0
import Derived.Test.YticdaphajanbbaaGreatDoorKD
namespace Go.Proofs.YticdaphajanbbaaGreatDoor
set_option linter.unusedSimpArgs false
set_option linter.unusedVariables false
set_option maxRecDepth 100000
set_option maxHeartbeats 1000000
open Go.RowKit Go.Shelf

theorem sclone85 (s : ByteArray) (w : World) (h : s.size ≤ 281474976710656) : Calls Tryz.prog 95 #[.string s] w fun e w' => e = .returned (.string s) ∧ Below w.heap.size w w' :=
  AnyPu.stringslite_Clone Tryz.clone_lays s w h
theorem sclone (s : ByteArray) (w : World) (h : s.size ≤ 281474976710656) : Calls Tryz.prog 63 #[.string s] w fun e w' => e = .returned (.string s) ∧ Below w.heap.size w w' := by
  have hh := hide h
  clear h
  go_enter Tryz.func63, Tryz.ntmps63
  go_wp2_with (go_at_call 95; refine (sclone85 s _ (unhide hh)).mono ?_; rintro e w1 ⟨rfl, hb⟩)
  go_ret
  exact ⟨rfl, hb⟩
theorem infoInt : (Tryz.prog.info? 3).map (fun i => (i.zero, i.size, i.bytes)) = some (some (.int .i64 0), 1, 8) := by kernel_rfl
theorem infoStr : (Tryz.prog.info? 9).map (fun i => (i.zero, i.size, i.bytes)) = some (some (.string ⟨#[]⟩), 1, 16) := by kernel_rfl
theorem infoBool : (Tryz.prog.info? 4).map (fun i => (i.zero, i.size, i.bytes)) = some (some (.bool false), 1, 1) := by kernel_rfl
theorem own_empty {w : World} {B g : Nat} {e : TypeId} {sz : Nat} (h : w.heap[g]? = some (.cells #[] e (0, 0))) (hB : B ≤ g) : w.ownsRow B e sz (.slice (some ⟨g, 0, none⟩) 0 0) 0 [] :=
  ⟨by simp, .inr ⟨g, 0, #[], rfl, hB, h, Nat.le_refl _, Nat.zero_le _, by simp, by simp⟩⟩
/-- A row that is owned is a row that lies there. -/
theorem own_rowR {w : World} {B : Nat} {e : TypeId} {v : Value} {xs : List Value} (h : w.ownsRow B e 1 v xs.length xs) : RowR e w v xs := by
  rcases h.2 with ⟨e1, e2⟩ | ⟨g, cap, cur, e1, hB, hh, hn, hc, hcs, hx⟩
  · have : xs = [] := List.length_eq_zero_iff.1 e2
    subst this; subst e1
    exact RowR.nil e w
  · refine ⟨_, cap, e1, hn, hc, .inr ⟨g, 0, cur, (0, 0), rfl, hh, fun j x hj => ?_⟩⟩
    have := h.cells (g := g) (by rw [e1]; rfl) j x hj
    rw [Addr.add_lit] at this
    simpa [World.cell?, hh] using this
/-- An append of a row that lies there, be it empty or nil, to a new empty one. -/
theorem run_copy (t e : TypeId) (i : TypeInfo) (z : Value) (bytes : Nat) (ht : Tryz.prog.underlying t = some (.slice e)) (hi : Tryz.prog.info? e = some i) (hz : i.zero = some z) (hsz : i.size = 1) (hby : i.bytes = bytes) (hzs : z.cells.size = 1) (hb16 : bytes ≤ 16) (hnil : ∀ ty g c w, (Builtin.append_ #[t, t] ty #[.slice (some ⟨g, 0, none⟩) 0 0, .slice none 0 c]).run Tryz.prog w = .ok (.slice (some ⟨g, 0, none⟩) 0 0) w)
    (ty : TypeId) (B g : Nat) (v : Value) (xs : List Value) (w : World) (hone : ∀ u ∈ xs, u.oneCell' = true) (hg : w.heap[g]? = some (.cells #[] e (0, 0))) (hBg : B ≤ g) (hK : RowR e w v xs) (hlen : xs.length ≤ 1000000000) :
    ∃ g' cap w', (Builtin.append_ #[t, t] ty #[.slice (some ⟨g, 0, none⟩) 0 0, v]).run Tryz.prog w = .ok (.slice (some ⟨g', 0, none⟩) xs.length cap) w' ∧
      w'.ownsRow B e 1 (.slice (some ⟨g', 0, none⟩) xs.length cap) xs.length xs ∧ w.grownBy w' (some g) := by
  have hgl : g < w.heap.size := (Array.getElem?_eq_some_iff.1 hg).1
  have hown := own_empty (B := B) (sz := 1) hg hBg
  obtain ⟨a, c, rfl, hc1, hc2, hK⟩ := hK
  cases a with
  | none =>
    have hks : xs = [] := by
      rcases hK with h | ⟨b, o, _, _, h, _⟩
      · exact h
      · cases h
    subst hks
    exact ⟨g, 0, w, hnil ty g c w, hown, ⟨rfl, rfl, rfl, Nat.le_refl _, fun _ _ _ => rfl⟩⟩
  | some ad =>
    have hnews : ∀ (j : Nat) (u : Value), xs[j]? = some u → w.cell? (ad.add j) = some u := by
      intro j u hu
      rcases hK with h | ⟨b, o, cur, fr, h, hh, hc⟩
      · subst h; simp at hu
      · cases h
        rw [Addr.add_lit]
        have := hc j u hu
        simpa [World.cell?, hh] using this
    obtain ⟨v', w', hr, h2, h3, h4, h5⟩ := run_append_own_at (P := Tryz.prog) w B t ty e i z 1 bytes ht hi hz hsz hby hzs (by omega) _ 0 [] hown ad xs.length c xs (by omega) hnews hone (by unfold maxLen; omega) (by rw [Nat.zero_add]; exact Nat.le_trans (Nat.mul_le_mul hlen hb16) (by omega)) (by omega)
    rw [Nat.zero_add, List.nil_append] at h2
    rcases h2.2 with ⟨e, _⟩ | ⟨g', cap, cur, rfl, _, hh, _⟩
    · have := (h4.1 e).1
      cases this
    · exact ⟨g', cap, w', hr, h2, h3⟩
/-- An append whose run is known, as one step. -/
theorem wpList_app {P : Program} {ops : Array Oper} {rest : List Oper} {o : Oper} {a : Act} {Q : Exit → Act → World → Prop} {w w' : World} (hgd : o.guard = none) (s x : Operand) (t : TypeId)
    (ho : o.op = .call { callee := .builtin .append, args := #[s, x], argTypes := #[t, t] }) (v0 v1 v' : Value) (hs : a.eval s = v0) (hx : a.eval x = v1) (hr : (Builtin.append_ #[t, t] o.type #[v0, v1]).run P w = .ok v' w')
    (h : wpList P ops Q rest (a.put o.dst v') w') : wpList P ops Q (o :: rest) a w := by
  refine wpList_plain hgd fun K' hK' => ?_
  unfold Oper.wp execOp
  simp only [ho, resolve, invoke, builtin, Sem.run_bind, Sem.run_pure, Result.andThen_ok, List.map_toArray, List.map_cons, List.map_nil, hs, hx, hr]
  exact hK' _ _ h
theorem iv_one (xs : List Int) : ∀ u ∈ iv xs, u.oneCell' = true := by
  intro u hu
  simp only [iv, List.mem_map] at hu
  obtain ⟨k, _, rfl⟩ := hu
  rfl
theorem sv_one (xs : List ByteArray) : ∀ u ∈ sv xs, u.oneCell' = true := by
  intro u hu
  simp only [sv, List.mem_map] at hu
  obtain ⟨k, _, rfl⟩ := hu
  rfl
theorem bv_one (xs : List Bool) : ∀ u ∈ bv xs, u.oneCell' = true := by
  intro u hu
  simp only [bv, List.mem_map] at hu
  obtain ⟨k, _, rfl⟩ := hu
  rfl
theorem nil22 (ty : TypeId) (g c : Nat) (w : World) : (Builtin.append_ #[32, 32] ty #[.slice (some ⟨g, 0, none⟩) 0 0, .slice none 0 c]).run Tryz.prog w = .ok (.slice (some ⟨g, 0, none⟩) 0 0) w := by
  go_simp
theorem nil23 (ty : TypeId) (g c : Nat) (w : World) : (Builtin.append_ #[33, 33] ty #[.slice (some ⟨g, 0, none⟩) 0 0, .slice none 0 c]).run Tryz.prog w = .ok (.slice (some ⟨g, 0, none⟩) 0 0) w := by
  go_simp
theorem nil24 (ty : TypeId) (g c : Nat) (w : World) : (Builtin.append_ #[34, 34] ty #[.slice (some ⟨g, 0, none⟩) 0 0, .slice none 0 c]).run Tryz.prog w = .ok (.slice (some ⟨g, 0, none⟩) 0 0) w := by
  go_simp
/-- What a copy leaves: a row of its own. -/
def CloneQ (t : Nat) (xs : List Value) (W : World) (e : Ending) (w' : World) : Prop := ∃ v, e = .returned v ∧ w'.ownsRow W.heap.size t 1 v xs.length xs ∧ Below W.heap.size W w'
theorem grown_below {w w' : World} {B g : Nat} (h : w.grownBy w' (some g)) (hg : B ≤ g) (hB : B ≤ w.heap.size) : Below B w w' := ⟨h.os, h.tape, h.output, h.size, fun k hk => h.block k (Nat.lt_of_lt_of_le hk hB) (by intro e; cases e; omega)⟩
theorem clone45 (v : Value) (xs : List Int) (W : World) (hK : RowR 3 W v (iv xs)) (hlen : xs.length ≤ 1000000000) : Calls Tryz.prog 64 #[v] W (CloneQ 3 (iv xs) W) := by
  obtain ⟨i0, hi, hz0, hz1, hz2⟩ := info_parts infoInt
  have hl : (iv xs).length = xs.length := by simp [iv]
  have hK' := hK
  obtain ⟨a, cap, rfl, h1, h2, h3⟩ := hK'
  have hq := fun wx : World => Lib.run_eql_slice_nil (P := Tryz.prog) wx 32 3 a (iv xs).length cap 0 0 Tryz.underlying32
  cases a with
  | none =>
    have hks : iv xs = [] := by
      rcases h3 with h | ⟨b, o, _, _, h, _⟩
      · exact h
      · cases h
    rw [hks] at hq ⊢
    simp only [List.length_nil, Option.isNone_none] at hq ⊢
    clear h1 h2 h3 hK hl
    go_enter Tryz.func64, Tryz.ntmps64
    go_wp2
    go_ret
    exact ⟨_, rfl, World.ownsRow_nil _ _ _ _, Below.refl _ _⟩
  | some ad =>
    obtain ⟨WA, hWA⟩ : ∃ WA, W.alloc (.cells #[] 3) = WA := ⟨_, rfl⟩
    have hBA : Below W.heap.size W WA := by rw [← hWA]; exact (Below.refl _ W).alloc (Nat.le_refl _) _
    have hgA : WA.heap[W.heap.size]? = some (.cells #[] 3 (0, 0)) := by rw [← hWA]; exact al_at W _
    obtain ⟨g', c', w', hr, ho, hg⟩ := run_copy 32 3 i0 _ 8 Tryz.underlying32 hi hz0 hz1 hz2 rfl (by omega) nil22 32 W.heap.size W.heap.size _ (iv xs) WA (iv_one xs) hgA (Nat.le_refl _) (hK.below hBA) (by omega)
    have HB := hide (hBA.trans (grown_below hg (Nat.le_refl _) hBA.size))
    have HO := hide ho
    clear h1 h2 h3 hK hl ho hg hgA hBA
    simp only [Option.isNone_some] at hq
    go_enter Tryz.func64, Tryz.ntmps64
    have HR := hide hr
    clear hr
    go_wp2_with (at_builtin; refine wpList_app rfl _ _ _ rfl _ _ _ rfl rfl (unhide HR) ?_)
    go_ret
    exact ⟨_, rfl, unhide HO, unhide HB⟩
theorem clone75 (v : Value) (xs : List ByteArray) (W : World) (hK : RowR 9 W v (sv xs)) (hlen : xs.length ≤ 1000000000) : Calls Tryz.prog 65 #[v] W (CloneQ 9 (sv xs) W) := by
  obtain ⟨i0, hi, hz0, hz1, hz2⟩ := info_parts infoStr
  have hl : (sv xs).length = xs.length := by simp [sv]
  have hK' := hK
  obtain ⟨a, cap, rfl, h1, h2, h3⟩ := hK'
  have hq := fun wx : World => Lib.run_eql_slice_nil (P := Tryz.prog) wx 33 9 a (sv xs).length cap 0 0 Tryz.underlying33
  cases a with
  | none =>
    have hks : sv xs = [] := by
      rcases h3 with h | ⟨b, o, _, _, h, _⟩
      · exact h
      · cases h
    rw [hks] at hq ⊢
    simp only [List.length_nil, Option.isNone_none] at hq ⊢
    clear h1 h2 h3 hK hl
    go_enter Tryz.func65, Tryz.ntmps65
    go_wp2
    go_ret
    exact ⟨_, rfl, World.ownsRow_nil _ _ _ _, Below.refl _ _⟩
  | some ad =>
    obtain ⟨WA, hWA⟩ : ∃ WA, W.alloc (.cells #[] 9) = WA := ⟨_, rfl⟩
    have hBA : Below W.heap.size W WA := by rw [← hWA]; exact (Below.refl _ W).alloc (Nat.le_refl _) _
    have hgA : WA.heap[W.heap.size]? = some (.cells #[] 9 (0, 0)) := by rw [← hWA]; exact al_at W _
    obtain ⟨g', c', w', hr, ho, hg⟩ := run_copy 33 9 i0 _ 16 Tryz.underlying33 hi hz0 hz1 hz2 rfl (by omega) nil23 33 W.heap.size W.heap.size _ (sv xs) WA (sv_one xs) hgA (Nat.le_refl _) (hK.below hBA) (by omega)
    have HB := hide (hBA.trans (grown_below hg (Nat.le_refl _) hBA.size))
    have HO := hide ho
    clear h1 h2 h3 hK hl ho hg hgA hBA
    simp only [Option.isNone_some] at hq
    go_enter Tryz.func65, Tryz.ntmps65
    have HR := hide hr
    clear hr
    go_wp2_with (at_builtin; refine wpList_app rfl _ _ _ rfl _ _ _ rfl rfl (unhide HR) ?_)
    go_ret
    exact ⟨_, rfl, unhide HO, unhide HB⟩
theorem clone76 (v : Value) (xs : List Bool) (W : World) (hK : RowR 4 W v (bv xs)) (hlen : xs.length ≤ 1000000000) : Calls Tryz.prog 66 #[v] W (CloneQ 4 (bv xs) W) := by
  obtain ⟨i0, hi, hz0, hz1, hz2⟩ := info_parts infoBool
  have hl : (bv xs).length = xs.length := by simp [bv]
  have hK' := hK
  obtain ⟨a, cap, rfl, h1, h2, h3⟩ := hK'
  have hq := fun wx : World => Lib.run_eql_slice_nil (P := Tryz.prog) wx 34 4 a (bv xs).length cap 0 0 Tryz.underlying34
  cases a with
  | none =>
    have hks : bv xs = [] := by
      rcases h3 with h | ⟨b, o, _, _, h, _⟩
      · exact h
      · cases h
    rw [hks] at hq ⊢
    simp only [List.length_nil, Option.isNone_none] at hq ⊢
    clear h1 h2 h3 hK hl
    go_enter Tryz.func66, Tryz.ntmps66
    go_wp2
    go_ret
    exact ⟨_, rfl, World.ownsRow_nil _ _ _ _, Below.refl _ _⟩
  | some ad =>
    obtain ⟨WA, hWA⟩ : ∃ WA, W.alloc (.cells #[] 4) = WA := ⟨_, rfl⟩
    have hBA : Below W.heap.size W WA := by rw [← hWA]; exact (Below.refl _ W).alloc (Nat.le_refl _) _
    have hgA : WA.heap[W.heap.size]? = some (.cells #[] 4 (0, 0)) := by rw [← hWA]; exact al_at W _
    obtain ⟨g', c', w', hr, ho, hg⟩ := run_copy 34 4 i0 _ 1 Tryz.underlying34 hi hz0 hz1 hz2 rfl (by omega) nil24 34 W.heap.size W.heap.size _ (bv xs) WA (bv_one xs) hgA (Nat.le_refl _) (hK.below hBA) (by omega)
    have HB := hide (hBA.trans (grown_below hg (Nat.le_refl _) hBA.size))
    have HO := hide ho
    clear h1 h2 h3 hK hl ho hg hgA hBA
    simp only [Option.isNone_some] at hq
    go_enter Tryz.func66, Tryz.ntmps66
    have HR := hide hr
    clear hr
    go_wp2_with (at_builtin; refine wpList_app rfl _ _ _ rfl _ _ _ rfl rfl (unhide HR) ?_)
    go_ret
    exact ⟨_, rfl, unhide HO, unhide HB⟩
end Go.Proofs.YticdaphajanbbaaGreatDoor
