/- text.Line: the line of a number, at any row of bytes. -/
import Derived.Test.YtponficlejjafaaDoorK2
namespace Go.Proofs.YtponficlejjafaaDoor
set_option linter.unusedSimpArgs false
set_option linter.unusedVariables false
open Go.RowKit Go.Shelf

attribute [local go_sem] Oper.semAt_some

/-- What Line answers. -/
def LineIs (g : Nat → Int) (len : Nat) (n : Int) (s : ByteArray) (er : Int) : Prop :=
  (∃ (k : Nat) (x : Nat × Nat), n = (k : Int) + 1 ∧ (allL g len)[k]? = some x ∧ s = strOfNums (sub g x.1 x.2) ∧ er = 0) ∨ ((n < 1 ∨ ((allL g len).length : Int) < n) ∧ s = ⟨#[]⟩ ∧ er = 11)

def LnI (w : World) (len : Nat) (n : Int) (sv : Value) (pre : List { x : Nat × Nat // Sp len x }) (W : World) : Prop :=
  (¬ (1 ≤ n ∧ n ≤ pre.length) ∧ Boxed W w.heap.size 22 sv ∧ Boxed W (w.heap.size + 1) 3 (.int .i64 n) ∧ Boxed W (w.heap.size + 1 + 1) 9 (.string ⟨#[]⟩) ∧ Boxed W (w.heap.size + 1 + 1 + 1) 60 (.int .i64 0) ∧ Boxed W (w.heap.size + 1 + 1 + 1 + 1) 3 (.int .i64 (pre.length : Int))) ∧ Below w.heap.size w W
def LnX (w : World) (len : Nat) (g : Nat → Int) (n : Int) (cd : Code) (pre : List { x : Nat × Nat // Sp len x }) (W : World) : Prop :=
  (∃ (pq : List { x : Nat × Nat // Sp len x }) (x : { x : Nat × Nat // Sp len x }), cd = .ret ∧ pre = pq ++ [x] ∧ n = (pq.length : Int) + 1 ∧ Boxed W (w.heap.size + 1 + 1) 9 (.string (strOfNums (sub g x.1.1 x.1.2))) ∧ Boxed W (w.heap.size + 1 + 1 + 1) 60 (.int .i64 0)) ∧ Below w.heap.size w W
theorem lnI_own (w : World) (len : Nat) (n : Int) (sv : Value) (B : Nat) (hB : w.heap.size ≤ B) : OwnFrom B (LnI w len n sv) :=
  OwnFrom.and (Own.from (fun s A B row hs hg hr => ⟨hs.1, boxed_own (β := Unit) _ _ (fun _ => _) () A B row hs.2.1 hg hr, boxed_own (β := Unit) _ _ (fun _ => _) () A B row hs.2.2.1 hg hr, boxed_own (β := Unit) _ _ (fun _ => _) () A B row hs.2.2.2.1 hg hr, boxed_own (β := Unit) _ _ (fun _ => _) () A B row hs.2.2.2.2.1 hg hr, boxed_own (β := Unit) _ _ (fun _ => _) () A B row hs.2.2.2.2.2 hg hr⟩) _) (ownFrom_below (Nat.le_refl _) hB)
theorem lnX_own (w : World) (len : Nat) (g : Nat → Int) (n : Int) (cd : Code) (B : Nat) (hB : w.heap.size ≤ B) : OwnFrom B (LnX w len g n cd) :=
  OwnFrom.and (Own.from (fun s A B row hs hg hr => by
      obtain ⟨pq, x, h1, h2, h3, h5, h6⟩ := hs
      exact ⟨pq, x, h1, h2, h3, boxed_own (β := Unit) _ _ (fun _ => _) () A B row h5 hg hr, boxed_own (β := Unit) _ _ (fun _ => _) () A B row h6 hg hr⟩) _) (ownFrom_below (Nat.le_refl _) hB)
theorem boxed_put {W : World} {B D : Nat} {t : TypeId} {v : Value} (b : Boxed W B t v) {l : Obj} (o : Obj) (hK : W.heap[D]? = some l) (hl : l.isCells = false) : Boxed (W.putObj D o) B t v :=
  b.kept (grownBy_putObj' _ D _) (fun e => by cases e; rw [show _ = _ from b] at hK; cases hK; cases hl)

set_option maxRecDepth 100000 in
set_option maxHeartbeats 2000000 in
theorem line_in (b : Nat) (a : Option Addr) (len cap : Nat) (g : Nat → Int) (hg : ∀ j, 0 ≤ g j ∧ g j ≤ 255) (n : Int) (w : World) (hlen : len ≤ 4294967296) (hS : Sl w b (.slice a len cap) len g) (hb : b < w.heap.size) :
    CallsIn Fence.wide 6 Tryd.prog 37 #[.slice a len cap, .int .i64 n] w fun e w' => (∃ s er, e = .returned (.tuple #[.string s, .int .i64 er]) ∧ LineIs g len n s er) ∧ Below w.heap.size w w' := by
  have HS := hide hS
  clear hS
  refine callsIn_of_wp_marks Tryd.func37 rfl trivial ?_ rfl
  simp only [Tryd.ntmps37, List.size_toArray, List.length_cons, List.length_nil, Nat.reduceAdd, Nat.reduceSub, Array.replicate_succ, Array.replicate_zero, List.push_toArray, List.append_toArray, List.nil_append, List.cons_append]
  gi_wp2_with (refine ⟨trivial, ?_⟩; gi_at_call 36; refine (spans_in _ _ _ _ _).mono ?_; rintro e w' ⟨rfl, rfl⟩)
  have c0 := Boxed.new w 22 (.slice a len cap)
  have c1 := Boxed.new (w.alloc (.cells #[.slice a len cap] 22)) 3 (.int .i64 n)
  have c2 := Boxed.new (((w.alloc (.cells #[.slice a len cap] 22))).alloc (.cells #[.int .i64 n] 3)) 9 (.string ⟨#[]⟩)
  have c3 := Boxed.new (((((w.alloc (.cells #[.slice a len cap] 22))).alloc (.cells #[.int .i64 n] 3))).alloc (.cells #[.string ⟨#[]⟩] 9)) 60 (.int .i64 0)
  have c4 := Boxed.new (((((((w.alloc (.cells #[.slice a len cap] 22))).alloc (.cells #[.int .i64 n] 3))).alloc (.cells #[.string ⟨#[]⟩] 9))).alloc (.cells #[.int .i64 0] 60)) 3 (.int .i64 0)
  have c5 := Boxed.new (((((((((w.alloc (.cells #[.slice a len cap] 22))).alloc (.cells #[.int .i64 n] 3))).alloc (.cells #[.string ⟨#[]⟩] 9))).alloc (.cells #[.int .i64 0] 60))).alloc (.cells #[.int .i64 0] 3)) 22 (.slice a len cap)
  simp only [World.size_alloc] at c1 c2 c3 c4 c5
  obtain ⟨W0, hW0⟩ : ∃ W0, (((((((((((w.alloc (.cells #[.slice a len cap] 22))).alloc (.cells #[.int .i64 n] 3))).alloc (.cells #[.string ⟨#[]⟩] 9))).alloc (.cells #[.int .i64 0] 60))).alloc (.cells #[.int .i64 0] 3))).alloc (.cells #[.slice a len cap] 22)) = W0 := ⟨_, rfl⟩
  have hBW : Below w.heap.size w W0 := by rw [← hW0]; exact ((((((Below.refl _ w).alloc (Nat.le_refl _) _).alloc (by simp) _).alloc (by simp; omega) _).alloc (by simp; omega) _).alloc (by simp; omega) _).alloc (by simp; omega) _
  have hsz : W0.heap.size = w.heap.size + 1 + 1 + 1 + 1 + 1 + 1 := by rw [← hW0]; simp
  have q0 : Boxed W0 w.heap.size 22 (.slice a len cap) := by rw [← hW0]; exact ((((c0.alloc _).alloc _).alloc _).alloc _).alloc _
  have q1 : Boxed W0 (w.heap.size + 1) 3 (.int .i64 n) := by rw [← hW0]; exact (((c1.alloc _).alloc _).alloc _).alloc _
  have q2 : Boxed W0 (w.heap.size + 1 + 1) 9 (.string ⟨#[]⟩) := by rw [← hW0]; exact ((c2.alloc _).alloc _).alloc _
  have q3 : Boxed W0 (w.heap.size + 1 + 1 + 1) 60 (.int .i64 0) := by rw [← hW0]; exact (c3.alloc _).alloc _
  have q4 : Boxed W0 (w.heap.size + 1 + 1 + 1 + 1) 3 (.int .i64 0) := by rw [← hW0]; exact c4.alloc _
  have q5 : Boxed W0 (w.heap.size + 1 + 1 + 1 + 1 + 1) 22 (.slice a len cap) := by rw [← hW0]; exact c5
  rw [hW0]
  clear hW0 c0 c1 c2 c3 c4 c5
  have hS0 : Sl W0 b (.slice a len cap) len g := (unhide HS).keep (fun k e => by subst e; exact hBW.block k hb)
  refine wpIn_rangeFunc_ownF rfl (by omega) (gf := 44) (lb := #[.pointer (some ⟨w.heap.size + 1 + 1 + 1 + 1 + 1, 0, none⟩)]) rfl trivial (enters_of Tryd.func44 (by kernel_rfl) rfl)
    (spans_stops (6 - 1) (by omega) (w.heap.size + 1 + 1 + 1 + 1 + 1) b (.slice a len cap) len g hg W0 (by omega) (by omega) q5.cell hS0) (fun h k => h.trans k) (keepS_b (fun k hk => by rcases hk with rfl | rfl <;> omega)) (Below.refl _ _) (fun _ => rfl)
    (LnI w len n (.slice a len cap)) (LnX w len g n) (lnI_own w len n _ _ (by omega)) (fun cd => lnX_own w len g n cd _ (by omega))
    ⟨⟨fun h => by have h2 := h.2; simp at h2; omega, q0, q1, q2, q3, q4⟩, hBW⟩
    (fun x => { tmps := #[.slice a len cap, .int .i64 n, .pointer (some ⟨w.heap.size, 0, none⟩), .pointer (some ⟨w.heap.size + 1, 0, none⟩), .pointer (some ⟨w.heap.size + 1 + 1, 0, none⟩), .pointer (some ⟨w.heap.size + 1 + 1 + 1, 0, none⟩), .pointer (some ⟨w.heap.size + 1 + 1 + 1 + 1, 0, none⟩), .int .i64 x.1.1, .int .i64 x.1.2, .slice a len cap, .func (.func 44) #[] #[.pointer (some ⟨w.heap.size + 1 + 1 + 1 + 1 + 1, 0, none⟩)], .int .i64 x.1.1, .int .i64 x.1.2, undef, undef, undef, undef, undef, undef, undef, undef, undef, undef], defers := [] }) ?assign ?body ?done ?stop
  case assign =>
    intro l x W K hK
    gi_wp2
    exact hK
  case body =>
    rintro l pre x W ⟨⟨hp, b0, b1, b2, b3, b4⟩, hB⟩ hlt
    have hSW : Sl W b (.slice a len cap) len g := (unhide HS).keep (fun k e => by subst e; exact hB.block k hb)
    obtain ⟨xf, hxf⟩ : ∃ xf, x.1.1 = xf := ⟨_, rfl⟩
    obtain ⟨xt, hxt⟩ : ∃ xt, x.1.2 = xt := ⟨_, rfl⟩
    have hx := x.2
    obtain ⟨sv', hsl, hcv0⟩ := cut_conv (xf := xf) (xt := xt) hSW (by rw [← hxf, ← hxt]; exact hx.1) (by rw [← hxt]; exact hx.2)
    have HXE : Hid (strOfNums (sub g x.1.1 x.1.2) = strOfNums (sub g xf xt)) := by show strOfNums (sub g x.1.1 x.1.2) = strOfNums (sub g xf xt); rw [hxf, hxt]
    rw [hxf, hxt]
    clear hx hxf hxt
    obtain ⟨W1, hW1⟩ : ∃ W1, W.setCell ⟨w.heap.size + 1 + 1 + 1 + 1, 0, none⟩ (.int .i64 ((pre.length : Int) + 1)) = W1 := ⟨_, rfl⟩
    have e0 : Boxed W1 w.heap.size 22 (.slice a len cap) := by rw [← hW1]; exact b0.other (by omega) _
    have e1 : Boxed W1 (w.heap.size + 1) 3 (.int .i64 n) := by rw [← hW1]; exact b1.other (by omega) _
    have e2 : Boxed W1 (w.heap.size + 1 + 1) 9 (.string ⟨#[]⟩) := by rw [← hW1]; exact b2.other (by omega) _
    have e3 : Boxed W1 (w.heap.size + 1 + 1 + 1) 60 (.int .i64 0) := by rw [← hW1]; exact b3.other (by omega) _
    have e4 : Boxed W1 (w.heap.size + 1 + 1 + 1 + 1) 3 (.int .i64 ((pre.length : Int) + 1)) := by rw [← hW1]; exact b4.set _
    have hB1 : Below w.heap.size w W1 := by rw [← hW1]; exact hB.setCell (p := ⟨w.heap.size + 1 + 1 + 1 + 1, 0, none⟩) (by show w.heap.size ≤ w.heap.size + 1 + 1 + 1 + 1; omega) _
    have hKO : KeepsOthers W W1 := by rw [← hW1]; exact KeepsOthers.setCell _ _ _
    have hKS : KeepS (fun k => k = w.heap.size + 1 + 1 + 1 + 1 + 1 ∨ k = b) W W1 := by rw [← hW1]; exact KeepS.setCell _ _ _ (by omega)
    have hcv := hcv0 W1 (hSW.keep (fun k e => by subst e; exact (hB1.block k hb).trans (hB.block k hb).symm))
    have d0 := b0.cell
    have d4 := b4.cell
    have f4 := b4.frozen
    have g0 := e0.cell
    have g1 := e1.cell
    have g2 := e2.cell
    have y2 := e2.frozen
    have g4 := e4.cell
    have HP := hide hp
    clear hcv0 hSW hp
    by_cases hn : (pre.length : Int) + 1 = n
    · have hnb : ((pre.length : Int) + 1 == n) = true := by simp [hn]
      have HN := hide hn
      clear hn
      have e3' := e3.other (B' := w.heap.size + 1 + 1) (by omega) (.string (strOfNums (sub g xf xt)))
      have g3 := e3'.cell
      have y3 := e3'.frozen
      gi_wp2
      refine ⟨hKO.trans ((KeepsOthers.setCell _ _ _).trans (KeepsOthers.setCell _ _ _)), ⟨pre, x, rfl, rfl, (unhide HN).symm, ?_, e3'.set _⟩, (hB1.setCell (p := ⟨w.heap.size + 1 + 1, 0, none⟩) (by show w.heap.size ≤ w.heap.size + 1 + 1; omega) _).setCell (p := ⟨w.heap.size + 1 + 1 + 1, 0, none⟩) (by show w.heap.size ≤ w.heap.size + 1 + 1 + 1; omega) _⟩
      rw [unhide HXE]
      exact (e2.set _).other (by omega) _
    · have hnb : ((pre.length : Int) + 1 == n) = false := by simp [hn]
      have HN := hide hn
      clear hn
      gi_wp2
      refine ⟨hKO, hKS, ⟨?_, e0, e1, e2, e3, ?_⟩, hB1⟩
      · rw [List.length_append, List.length_singleton]
        have h1 := unhide HP
        have h2 := unhide HN
        omega
      · rw [List.length_append, List.length_singleton, Int.natCast_add]; exact e4
  case done =>
    rintro D xs W hD hxs ⟨⟨hp, b0, b1, b2, b3, b4⟩, hB⟩ hK
    have HXS := hide hxs
    have HP := hide hp
    clear hxs hp
    have d2 := b2.cell
    have f2 := b2.frozen
    have b3' := b3.other (B' := w.heap.size + 1 + 1) (by omega) (.string ⟨#[]⟩)
    have d3 := b3'.cell
    have f3 := b3'.frozen
    gi_wp2
    have hK' := ((KeepsOthers.setCell W ⟨w.heap.size + 1 + 1, 0, none⟩ (.string ⟨#[]⟩)).trans (KeepsOthers.setCell _ ⟨w.heap.size + 1 + 1 + 1, 0, none⟩ (.int .i64 11))).same D _ hK rfl
    have hbd : Below w.heap.size w _ := ((hB.setCell (p := ⟨w.heap.size + 1 + 1, 0, none⟩) (by show w.heap.size ≤ w.heap.size + 1 + 1; omega) (.string ⟨#[]⟩)).setCell (p := ⟨w.heap.size + 1 + 1 + 1, 0, none⟩) (by show w.heap.size ≤ w.heap.size + 1 + 1 + 1; omega) (.int .i64 11)).trans (belowK_b (w := w) (Nat.le_refl _) _ D _ (.deferred none) (by omega) hK' rfl rfl)
    have e1c := (boxed_put ((b2.set (.string ⟨#[]⟩)).other (by omega) (.int .i64 11)) (.deferred none) hK' rfl).cell
    have e2c := (boxed_put (b3'.set (.int .i64 11)) (.deferred none) hK' rfl).cell
    refine ⟨by simp, .inl ⟨_, _, rfl, run_takeDeferred hK', ?_⟩⟩
    refine ⟨.tuple #[.string ⟨#[]⟩, .int .i64 11], ?_, ⟨_, _, rfl, .inr ⟨?_, rfl, rfl⟩⟩, hbd⟩
    · simp [results, Tryd.f37, go_sem, e1c, e2c]
    · have h1 := unhide HP
      have h2 := congrArg List.length (unhide HXS)
      rw [List.length_map] at h2
      omega
  case stop =>
    rintro D cd pre W hD ⟨hp1, hp2⟩ ⟨⟨pq, x, rfl, hpq, hn, b2, b3⟩, hB⟩ hK
    have HP1 := hide hp1
    have HPQ := hide hpq
    have HN := hide hn
    clear hp1 hp2 hpq hn
    gi_wp2
    have hbd : Below w.heap.size w _ := hB.trans (belowK_b (w := w) (Nat.le_refl _) _ D _ (.deferred none) (by omega) hK rfl rfl)
    have e1c := (boxed_put b2 (.deferred none) hK rfl).cell
    have e2c := (boxed_put b3 (.deferred none) hK rfl).cell
    refine ⟨by simp, .inl ⟨_, _, rfl, run_takeDeferred hK, ?_⟩⟩
    refine ⟨.tuple #[.string (strOfNums (sub g x.1.1 x.1.2)), .int .i64 0], ?_, ⟨_, _, rfl, .inl ⟨pq.length, x.1, unhide HN, ?_, rfl, rfl⟩⟩, hbd⟩
    · simp [results, Tryd.f37, go_sem, e1c, e2c]
    · obtain ⟨t, ht⟩ := unhide HP1
      rw [← ht, unhide HPQ]
      simp
theorem line_any {b : Nat} {a : Option Addr} {len cap : Nat} {g : Nat → Int} (hg : ∀ j, 0 ≤ g j ∧ g j ≤ 255) (n : Int) (w : World) (hlen : len ≤ 4294967296) (hS : Sl w b (.slice a len cap) len g) (hb : b < w.heap.size) :
    Calls Tryd.prog 37 #[.slice a len cap, .int .i64 n] w fun e w' => (∃ s er, e = .returned (.tuple #[.string s, .int .i64 er]) ∧ LineIs g len n s er) ∧ Below w.heap.size w w' :=
  callsIn_wide.1 (line_in b a len cap g hg n w hlen hS hb)
end Go.Proofs.YtponficlejjafaaDoor
