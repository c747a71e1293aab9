/- whole over an object with the one member a: 3. -/
import Derived.Test.YtdgocaokmmhenaaGreatDoorHJ0
namespace Go.Proofs.YtdgocaokmmhenaaGreatDoor
set_option linter.unusedSimpArgs false
set_option linter.unusedVariables false
set_option maxRecDepth 100000
set_option maxHeartbeats 4000000
open Go.RowKit Go.Shelf
attribute [local go_sem] Oper.semAt_some

theorem ranged_l (w : World) (r : Loop) : (ranged w r).heap[w.heap.size + 1]? = some (.loop r) := by
  have := World.alloc_heap_new (w.alloc (.deferred (some []))) (.loop r)
  rw [World.size_alloc] at this
  exact this
theorem ranged_d (w : World) (r : Loop) : (ranged w r).heap[w.heap.size]? = some (.deferred (some [])) := (Below.heap_alloc _ _ _ (by simp)).trans (World.alloc_heap_new w _)
theorem ranged_size (w : World) (r : Loop) : (ranged w r).heap.size = w.heap.size + 1 + 1 := by simp [ranged]
theorem ranged_below (w : World) (r : Loop) : Below w.heap.size w (ranged w r) := ((Below.refl _ w).alloc (Nat.le_refl _) _).alloc (by simp) _
variable {w W : World} {M M' : Nat → Nat} {sb hb : Nat} {p bv : Value} {bs : List Value} {lg : Bool}
theorem ShAt.keep {w' : World} (h : ShAt W M sb hb p bv bs lg) (hz : W.heap.size ≤ w'.heap.size) (hk : ∀ k, k < W.heap.size → M k ≠ 0 → w'.heap[k]? = W.heap[k]?) : ShAt w' M sb hb p bv bs lg :=
  ⟨(hk sb h.box.lt (by rw [h.ms]; decide)).trans h.box, row_keep h.row fun g hg => hk g (row_lt h.row hg) (by rw [h.mr g hg]; decide), h.ms, h.mr, fun j hj => h.fr j (Nat.le_trans hz hj), h.pp⟩
theorem ShAt.putObj (h : ShAt W M sb hb p bv bs lg) (k : Nat) (o : Obj) (hk : M k = 0) : ShAt (W.putObj k o) M sb hb p bv bs lg :=
  h.keep (by simp) fun j _ hj => World.putObj_heap_other (fun e => hj (by rw [e]; exact hk))
/-- What stands while a shower's text grows: from W0 on. -/
theorem St.put {M0 M : Nat → Nat} {W0 A : World} (h : St M0 M W0 A) (k : Nat) (o : Obj) (hk : W0.heap.size ≤ k) : St M0 M W0 (A.putObj k o) :=
  ⟨h.os, h.tape, h.output, by simpa using h.size, h.ext, fun j hj h0 => (World.putObj_heap_other (by omega)).trans (h.block j hj h0)⟩
theorem St.bel {M0 M : Nat → Nat} {W0 A B : World} (h : St M0 M W0 A) (hb : Below W0.heap.size A B) : St M0 M W0 B :=
  ⟨hb.os.trans h.os, hb.tape.trans h.tape, hb.output.trans h.output, Nat.le_trans h.size hb.size, h.ext, fun j hj h0 => (hb.block j hj).trans (h.block j hj h0)⟩
theorem St.then {M0 M M' : Nat → Nat} {W0 A B : World} (h : St M0 M W0 A) (k : St M M' A B) : St M0 M' W0 B := h.trans k
/-- A shower's text that grows while the blocks fx stand. -/
structure WB (M0 : Nat → Nat) (W : World) (sb hb : Nat) (fx : List (Nat × Obj)) (bs : List Value) (A : World) (M : Nat → Nat) (p v : Value) : Prop where
  sh : ShAt A M sb hb p v bs false
  st : St M0 M W A
  fx : ∀ x ∈ fx, A.heap[x.1]? = some x.2 ∧ M x.1 = 0
theorem WB.step {M0 M M' : Nat → Nat} {W A A' : World} {sb hb : Nat} {fx : List (Nat × Obj)} {bs bs' : List Value} {p v p' v' : Value} (h : WB M0 W sb hb fx bs A M p v) (h1 : ShAt A' M' sb hb p' v' bs' false) (h2 : St M M' A A') : WB M0 W sb hb fx bs' A' M' p' v' :=
  ⟨h1, h.st.trans h2, fun x hx => by
    obtain ⟨e1, e2⟩ := h.fx x hx
    have hl := (Array.getElem?_eq_some_iff.1 e1).1
    exact ⟨(h2.block _ hl e2).trans e1, (h2.ext _ hl).trans e2⟩⟩
theorem WB.below {M0 M : Nat → Nat} {W A A' : World} {sb hb : Nat} {fx : List (Nat × Obj)} {bs : List Value} {p v : Value} (h : WB M0 W sb hb fx bs A M p v) (k : Below A.heap.size A A') : WB M0 W sb hb fx bs A' M p v :=
  h.step (h.sh.below k) (St.of_below k)
theorem WB.chg {M0 M : Nat → Nat} {W A A' : World} {sb hb : Nat} {fx fx' : List (Nat × Obj)} {bs : List Value} {p v : Value} (h : WB M0 W sb hb fx bs A M p v) (k0 : Nat) (hW : W.heap.size ≤ k0) (h0 : M k0 = 0) (ho : A'.os = A.os) (ht : A'.tape = A.tape) (hu : A'.output = A.output) (hz : A'.heap.size = A.heap.size) (hk : ∀ k, k ≠ k0 → A'.heap[k]? = A.heap[k]?) (hf : ∀ x ∈ fx', A'.heap[x.1]? = some x.2 ∧ M x.1 = 0) : WB M0 W sb hb fx' bs A' M p v :=
  ⟨h.sh.keep (Nat.le_of_eq hz.symm) fun k _ hm => hk k (fun e => hm (by rw [e]; exact h0)), ⟨ho.trans h.st.os, ht.trans h.st.tape, hu.trans h.st.output, by rw [hz]; exact h.st.size, h.st.ext, fun k hk' hm => (hk k (by omega)).trans (h.st.block k hk' hm)⟩, hf⟩
theorem wpIn_scope_wide {n : Nat} {P : Program} {Q : Exit → Act → World → Prop} {a : Act} {w : World} {c : Code} (h : c.wpIn Fence.wide n P (Exit.noGoto Q) a w) : (Code.scope c).wpIn Fence.wide n P Q a w :=
  wpIn_wide.2 (wp_scope_straight (wpIn_wide.1 h))
theorem whole_one (W : World) (M : Nat → Nat) (sb hb : Nat) (hs : ShAt W M sb hb (.pointer none) (.slice none 0 0) [] false) (Bo b g cap m : Nat)
    (hbo : Bo < W.heap.size ∧ M Bo = 0 ∧ W.cell? ⟨Bo, 0, none⟩ = some (.pointer (some ⟨b, 0, none⟩))) (hob : b < W.heap.size ∧ M b = 0 ∧ W.cell? ⟨b, 2, none⟩ = some (.slice (some ⟨g, 0, none⟩) 1 cap) ∧ W.cell? ⟨b, 1, none⟩ = some (.map (some m))) (hg : g < W.heap.size ∧ M g = 0 ∧ W.cell? ⟨g, 0, none⟩ = some (.string ⟨#[97]⟩)) (hm : m < W.heap.size ∧ M m = 0)
    (hrun : ∀ A : World, A.heap[m]? = W.heap[m]? → (Instr.lookup 119 (.map (some m)) (.string ⟨#[97]⟩) false).run Tryz.prog A = .ok (.agg #[.int .i64 3, .int .i64 3, .string ByteArray.empty]) A) :
    CallsIn Fence.wide 9 Tryz.prog 119 #[.pointer (some ⟨sb, 0, none⟩), .string ⟨#[123]⟩, .func (.func 123) #[] #[.pointer (some ⟨Bo, 0, none⟩)], .string ⟨#[125]⟩, .int .i64 0] W fun e W' => e = .returned (.tuple #[]) ∧ ∃ M' p' bv', ShAt W' M' sb hb p' bv' (Lib.strCells ⟨#[123, 97, 58, 32, 51, 125]⟩) false ∧ St M M' W W' := by
  obtain ⟨W1, hW1⟩ : ∃ W1, (W.alloc (.cells #[.pointer (some ⟨sb, 0, none⟩)] 80)).alloc (.cells #[.int .i64 0] 3) = W1 := ⟨_, rfl⟩
  have hB1 : Below W.heap.size W W1 := by rw [← hW1]; exact below_two _ _ _
  have hz1 : W1.heap.size = W.heap.size + 2 := by rw [← hW1]; simp
  have x5 : Bx W1 W.heap.size #[.pointer (some ⟨sb, 0, none⟩)] 80 := by rw [← hW1]; exact (Bx.new W _ _).alloc _
  have hs1 := hs.below hB1
  have HA1 := hide (add_any hs1 ⟨#[123]⟩ (by decide))
  have c5 := x5.cell 0 rfl
  have X5 := hide x5
  have S0 := hide ((St.refl M W).bel hB1)
  have HM5 := hide (show True from trivial)
  have HFR := hide (fun k (hk : W.heap.size ≤ k) => hs.fr k hk)
  unfold ptr at HA1
  clear hs hs1 x5
  refine callsIn_of_wp_marks Tryz.func119 rfl trivial ?_ rfl
  simp only [Tryz.ntmps119, List.size_toArray, List.length_cons, List.length_nil, Nat.reduceAdd, Nat.reduceSub, Array.replicate_succ, Array.replicate_zero, List.push_toArray, List.append_toArray, List.nil_append, List.cons_append]
  gi_wp2
  refine wpIn_scope_wide ?_
  gi_wp2_with (refine ⟨trivial, ?_⟩; gi_at_call 121; refine (callsIn_wide.2 (unhide HA1)).mono ?_; rintro e w2 ⟨rfl, M2, p2, v2, h2, s2⟩; have H2 := hide h2; have S2 := hide ((unhide S0).then s2); have Y5 := hide ((unhide X5).st s2 (unhide HFR _ (Nat.le_refl _))); have d5 := (unhide Y5).cell 0 rfl; have HM5 := hide ((s2.ext W.heap.size (by omega)).trans (unhide HFR _ (Nat.le_refl _))); clear h2 s2)
  refine wpIn_label ?_
  gi_wp2
  obtain ⟨W3, hW3⟩ : ∃ W3, w2.alloc (.cells #[.string ⟨#[]⟩] 9) = W3 := ⟨_, rfl⟩
  have hB23 : Below w2.heap.size w2 W3 := by rw [← hW3]; exact below_one _ _
  have hz23 : W3.heap.size = w2.heap.size + 1 := by rw [← hW3]; simp
  have hsz2 := (unhide S2).size
  have y10 : Bx W3 w2.heap.size #[.string ⟨#[]⟩] 9 := by rw [← hW3]; exact Bx.new _ _ _
  have y5 : Bx W3 W.heap.size #[.pointer (some ⟨sb, 0, none⟩)] 80 := (hB23.block _ (unhide Y5).lt).trans (unhide Y5)
  have h3 := (unhide H2).below hB23
  have s3 : St M M2 W W3 := (unhide S2).bel (hB23.mono hsz2)
  rw [hW3]
  clear hW3
  refine range_enter rfl (by omega) (gf := 123) (lb := #[.pointer (some ⟨Bo, 0, none⟩)]) rfl trivial enter89 ?_
  intro fn hfn
  generalize hrc : recOf fn _ _ _ _ _ _ _ = rc
  obtain ⟨W4, hW4⟩ : ∃ W4, ranged W3 rc = W4 := ⟨_, rfl⟩
  have hz4 : W4.heap.size = W3.heap.size + 1 + 1 := by rw [← hW4]; exact ranged_size W3 rc
  have hB4 : Below W3.heap.size W3 W4 := by rw [← hW4]; exact ranged_below W3 rc
  have hl4 : W4.heap[W3.heap.size + 1]? = some (.loop rc) := by rw [← hW4]; exact ranged_l W3 rc
  have hd4 : W4.heap[W3.heap.size]? = some (.deferred (some [])) := by rw [← hW4]; exact ranged_d W3 rc
  rw [hW4]
  clear hW4
  have s4 : St M M2 W W4 := s3.bel (hB4.mono s3.size)
  have h4 := h3.below hB4
  have y54 : Bx W4 W.heap.size #[.pointer (some ⟨sb, 0, none⟩)] 80 := (hB4.block _ y5.lt).trans y5
  have y104 : Bx W4 w2.heap.size #[.string ⟨#[]⟩] 9 := (hB4.block _ y10.lt).trans y10
  have m5 : M2 W.heap.size = 0 := unhide HM5
  have m10 : M2 w2.heap.size = 0 := (unhide H2).fr _ (Nat.le_refl _)
  have ml : M2 (W3.heap.size + 1) = 0 := h3.fr _ (by omega)
  have md : M2 W3.heap.size = 0 := h3.fr _ (Nat.le_refl _)
  obtain ⟨o1, o2, o3⟩ := hbo
  obtain ⟨b1, b2, b3, b4⟩ := hob
  obtain ⟨g1, g2, g3⟩ := hg
  obtain ⟨n1, n2⟩ := hm
  have kb : ∀ k, k < W.heap.size → M k = 0 → W4.heap[k]? = W.heap[k]? := fun k h1 h2 => s4.block k h1 h2
  refine (each_one 8 (by omega) (W3.heap.size + 1) Bo b g cap m W4 (fun A => A.heap[W3.heap.size + 1]? = some (.loop rc) ∧ A.heap[W3.heap.size]? = some (.deferred (some [])) ∧ Bx A W.heap.size #[.pointer (some ⟨sb, 0, none⟩)] 80 ∧ ∃ M5 p5 v5, M5 (W3.heap.size + 1) = 0 ∧ M5 W3.heap.size = 0 ∧ ShAt A M5 sb hb p5 v5 (Lib.strCells ⟨#[123, 97, 58, 32, 51]⟩) false ∧ St M M5 W A) ((World.cell?_of_block (w := W) (a := ⟨Bo, 0, none⟩) (kb Bo o1 o2)).trans o3) ((World.cell?_of_block (w := W) (a := ⟨b, 2, none⟩) (kb b b1 b2)).trans b3) ((World.cell?_of_block (w := W) (a := ⟨g, 0, none⟩) (kb g g1 g2)).trans g3) ((World.cell?_of_block (w := W) (a := ⟨b, 1, none⟩) (kb b b1 b2)).trans b4) (hrun W4 (kb m n1 n2)) ?hY).mono ?post
  case post =>
    rintro e W' ⟨rfl, r1, r2, r3, M5, p5, v5, ml5, md5, h5, s5⟩
    have hpe : rc.pending = none := by rw [← hrc]; rfl
    have hne : rc.state ≠ .busy := by rw [← hrc]; simp [recOf]
    have hend := run_endLoop (P := Tryz.prog) r1 hne
    rw [hpe] at hend
    refine ⟨none, _, hend, ?_⟩
    obtain ⟨W7, hW7⟩ : ∃ W7, W'.putObj (W3.heap.size + 1) (.loop { rc with state := .exhausted, pending := none }) = W7 := ⟨_, rfl⟩
    have hk7 : ∀ k, k ≠ W3.heap.size + 1 → W7.heap[k]? = W'.heap[k]? := fun k hk => by rw [← hW7]; exact World.putObj_heap_other hk
    have h7 : ShAt W7 M5 sb hb p5 v5 (Lib.strCells ⟨#[123, 97, 58, 32, 51]⟩) false := by rw [← hW7]; exact h5.putObj _ _ ml5
    have s7 : St M M5 W W7 := by rw [← hW7]; exact s5.put _ _ (by omega)
    rw [hW7]
    clear hW7 hend
    dsimp only
    have hd7 : W7.heap[W3.heap.size]? = some (.deferred (some [])) := (hk7 _ (by omega)).trans r2
    have x7 : Bx W7 W.heap.size #[.pointer (some ⟨sb, 0, none⟩)] 80 := (hk7 _ (by omega)).trans r3
    have c7 := x7.cell 0 rfl
    have HA7 := hide (add_any h7 ⟨#[125]⟩ (by decide))
    have S7 := hide s7
    have HD7 := hide hd7
    have HZ := hide (And.intro hsz2 (And.intro hz23 (And.intro s5.size md5)))
    unfold ptr at HA7
    clear h7 s7 hd7 x7 hz1 hsz2 hz23 hz4 h5 s5 r1 r2 r3
    gi_wp2_with (refine ⟨trivial, ?_⟩; gi_at_call 121; refine (callsIn_wide.2 (unhide HA7)).mono ?_; rintro e W8 ⟨rfl, M8, p8, v8, h8, s8⟩; have H8 := hide h8; have S8 := hide ((unhide S7).then s8); have HD8 : Hid (W8.heap[W3.heap.size]? = some (.deferred (some [])) ∧ M8 W3.heap.size = 0) := ⟨(s8.block _ (Array.getElem?_eq_some_iff.1 (unhide HD7)).1 (unhide HZ).2.2.2).trans (unhide HD7), (s8.ext _ (Array.getElem?_eq_some_iff.1 (unhide HD7)).1).trans (unhide HZ).2.2.2⟩; clear h8 s8)
    refine ⟨by simp, .inl ⟨_, _, rfl, run_takeDeferred (unhide HD8).1, ?_⟩⟩
    refine ⟨.tuple #[], results_none rfl _ _ _, rfl, M8, p8, v8, (unhide H8).putObj _ _ (unhide HD8).2, (unhide S8).put _ _ (by have := (unhide HZ).1; have := (unhide HZ).2.1; omega)⟩
  case hY =>
    obtain ⟨W5, hW5, ⟨q0, q1, q2, r0, r1, r2⟩, hx5, hb5, hz5⟩ := new3 W4 (.int .i64 0) (.int .i64 0) (.string ⟨#[]⟩) 23
    have hp5 : Below W4.heap.size W4 (put3 W5 W4.heap.size (.int .i64 3) (.int .i64 3) (.string ByteArray.empty)) := below_put3 hb5 (Nat.le_refl _) _ _ _
    have hl5 := (hp5.block (W3.heap.size + 1) (by omega)).trans hl4
    have HSZ := hide (And.intro hz1 (And.intro hsz2 (And.intro hz23 (And.intro hz4 hz5))))
    rw [← hrc] at hl4 hl5
    clear hz1 hsz2 hz23 hz4 hz5
    refine yield_round (W₁ := put3 W5 W4.heap.size (.int .i64 3) (.int .i64 3) (.string ByteArray.empty)) hfn hl4 rfl ?a1 hl5 ?hassign ?hbody
    case hassign =>
      intro K hK
      gi_wp2
      exact hK
    case hbody =>
      have hrb : { (recOf fn _ _ _ _ _ .busy none : Loop) with state := .ready, pending := none } = rc := hrc
      generalize recOf fn _ _ _ _ _ .busy none = rb at hrb ⊢
      obtain ⟨hz1, hsz2, hz23, hz4, hz5⟩ := unhide HSZ
      obtain ⟨lp, hlp⟩ : ∃ lp, W3.heap.size + 1 = lp := ⟨_, rfl⟩
      obtain ⟨b12, hb12⟩ : ∃ b12, W4.heap.size = b12 := ⟨_, rfl⟩
      obtain ⟨b10, hb10⟩ : ∃ b10, w2.heap.size = b10 := ⟨_, rfl⟩
      obtain ⟨A1, hA1⟩ : ∃ A1, (put3 W5 W4.heap.size (.int .i64 3) (.int .i64 3) (.string ByteArray.empty)).putObj (W3.heap.size + 1) (.loop rb) = A1 := ⟨_, rfl⟩
      have hsp : (put3 W5 W4.heap.size (.int .i64 3) (.int .i64 3) (.string ByteArray.empty)).heap.size = W4.heap.size + 1 := by rw [size_put3, hz5]
      have hk1 : ∀ k, k ≠ W3.heap.size + 1 → A1.heap[k]? = (put3 W5 W4.heap.size (.int .i64 3) (.int .i64 3) (.string ByteArray.empty)).heap[k]? := fun k hn => by rw [← hA1]; exact World.putObj_heap_other hn
      have hl1 : A1.heap[W3.heap.size + 1]? = some (.loop rb) := by rw [← hA1]; exact World.putObj_heap_same (by rw [hsp]; omega)
      have w1 : WB M W sb hb [(W.heap.size, .cells #[.pointer (some ⟨sb, 0, none⟩)] 80), (b10, .cells #[.string ⟨#[]⟩] 9), (b12, .cells (Vc 3 3 ByteArray.empty) 23), (W3.heap.size, .deferred (some [])), (lp, .loop rb)] (Lib.strCells ⟨#[123]⟩) A1 M2 p2 v2 := by
        have hw : WB M W sb hb [] (Lib.strCells ⟨#[123]⟩) (put3 W5 W4.heap.size (.int .i64 3) (.int .i64 3) (.string ByteArray.empty)) M2 p2 v2 := WB.below ⟨h4, s4, fun x hx => by cases hx⟩ hp5
        refine hw.chg lp (by omega) (by rw [← hlp]; exact ml) (by rw [← hA1]; rfl) (by rw [← hA1]; rfl) (by rw [← hA1]; rfl) (by rw [← hA1]; simp) (fun k hk => hk1 k (by rw [hlp]; exact hk)) (fun x hx => ?_)
        simp only [List.mem_cons, List.not_mem_nil, or_false] at hx
        rcases hx with rfl | rfl | rfl | rfl | rfl
        · exact ⟨(hk1 _ (by omega)).trans ((hp5.block _ (by omega)).trans y54), m5⟩
        · rw [← hb10]; exact ⟨(hk1 _ (by omega)).trans ((hp5.block _ (by omega)).trans y104), m10⟩
        · rw [← hb12]; exact ⟨(hk1 _ (by omega)).trans (Bx.puts hx5 _ _ _), h4.fr _ (Nat.le_refl _)⟩
        · exact ⟨(hk1 _ (by omega)).trans ((hp5.block _ (by omega)).trans hd4), md⟩
        · rw [← hlp]; exact ⟨hl1, ml⟩
      rw [hA1]
      rw [hb12]
      rw [hb10]
      have HW1 := hide w1
      have e5 : A1.cell? ⟨W.heap.size, 0, none⟩ = some (.pointer (some ⟨sb, 0, none⟩)) := Bx.cell (w1.fx _ (.head _)).1 0 rfl
      have e10 : A1.cell? ⟨b10, 0, none⟩ = some (.string ⟨#[]⟩) := Bx.cell (w1.fx _ (.tail _ (.head _))).1 0 rfl
      have hlt2 := (unhide Y5).lt
      have HB10 : Hid (W.heap.size ≤ b10 ∧ b10 ≠ W3.heap.size ∧ b10 ≠ lp ∧ b10 ≠ b12 ∧ b10 ≠ W.heap.size) := by
        refine ⟨by omega, by omega, by omega, by omega, by omega⟩
      have HAD : Hid (∀ (A : World) (Mx : Nat → Nat) (p v : Value) (bs : List Value) (s : ByteArray), ShAt A Mx sb hb p v bs false → bs.length + s.size ≤ 65536 → Calls Tryz.prog 121 #[.pointer (some ⟨sb, 0, none⟩), .string s] A fun e w' => e = .returned (.tuple #[]) ∧ ∃ M' p' bv', ShAt w' M' sb hb p' bv' (bs ++ Lib.strCells s) false ∧ St Mx M' A w') := fun A Mx p v bs s h hl => add_any h s hl
      clear hz1 hsz2 hz23 hz4 hz5 hA1 hsp hk1 hl1 w1
      gi_wp2_with (first
        | (refine ⟨trivial, ?_⟩; gi_at_call 121; refine (CallsIn.inRound _ (callsIn_wide.2 (unhide HAD A2 M3 p3 v3 _ _ (unhide HW2).sh (by decide)))).mono ?_; rintro e A3 ⟨rfl, M4, p4, v4, h4', s4'⟩; have HW3 := hide ((unhide HW2).step h4' s4'); have i5 : A3.cell? ⟨W.heap.size, 0, none⟩ = some (.pointer (some ⟨sb, 0, none⟩)) := Bx.cell ((unhide HW3).fx _ (.head _)).1 0 rfl; have i10 : A3.cell? ⟨b10, 0, none⟩ = some (.string ⟨#[]⟩) := Bx.cell ((unhide HW3).fx _ (.tail _ (.head _))).1 0 rfl; have j10 : A3.frozen? ⟨b10, 0, none⟩ = false := Bx.free (show Bx A3 b10 _ _ from ((unhide HW3).fx _ (.tail _ (.head _))).1) 0; clear h4' s4')
        | (refine ⟨trivial, ?_⟩; gi_at_call 121; refine (CallsIn.inRound _ (callsIn_wide.2 (unhide HAD A1 M2 p2 v2 _ _ (unhide HW1).sh (by decide)))).mono ?_; rintro e A2 ⟨rfl, M3, p3, v3, h3', s3'⟩; have HW2 := hide ((unhide HW1).step h3' s3'); have f5 : A2.cell? ⟨W.heap.size, 0, none⟩ = some (.pointer (some ⟨sb, 0, none⟩)) := Bx.cell ((unhide HW2).fx _ (.head _)).1 0 rfl; clear h3' s3'))
      have w3' := unhide HW3
      obtain ⟨n1', n2', n3', n4', n5'⟩ := unhide HB10
      obtain ⟨A4, hA4⟩ : ∃ A4, A3.setCell ⟨b10, 0, none⟩ (.string ⟨#[44, 32]⟩) = A4 := ⟨_, rfl⟩
      have hk4 : ∀ k, k ≠ b10 → A4.heap[k]? = A3.heap[k]? := fun k hn => by rw [← hA4]; exact Below.heap_setCell _ _ _ _ hn
      have w4 : WB M W sb hb [(W.heap.size, .cells #[.pointer (some ⟨sb, 0, none⟩)] 80), (b12, .cells (Vc 3 3 ByteArray.empty) 23), (W3.heap.size, .deferred (some [])), (lp, .loop rb)] (Lib.strCells ⟨#[123]⟩ ++ Lib.strCells ⟨#[]⟩ ++ Lib.strCells (⟨#[97]⟩ ++ ⟨#[58, 32]⟩)) A4 M4 p4 v4 := by
        refine w3'.chg b10 n1' (w3'.fx _ (.tail _ (.head _))).2 (by rw [← hA4]; rfl) (by rw [← hA4]; rfl) (by rw [← hA4]; rfl) (by rw [← hA4]; simp [World.setCell]) hk4 (fun x hx => ?_)
        simp only [List.mem_cons, List.not_mem_nil, or_false] at hx
        rcases hx with rfl | rfl | rfl | rfl
        · exact ⟨(hk4 _ (Ne.symm n5')).trans (w3'.fx _ (.head _)).1, (w3'.fx _ (.head _)).2⟩
        · exact ⟨(hk4 _ (Ne.symm n4')).trans (w3'.fx _ (.tail _ (.tail _ (.head _)))).1, (w3'.fx _ (.tail _ (.tail _ (.head _)))).2⟩
        · exact ⟨(hk4 _ (Ne.symm n2')).trans (w3'.fx _ (.tail _ (.tail _ (.tail _ (.head _))))).1, (w3'.fx _ (.tail _ (.tail _ (.tail _ (.head _))))).2⟩
        · exact ⟨(hk4 _ (Ne.symm n3')).trans (w3'.fx _ (.tail _ (.tail _ (.tail _ (.tail _ (.head _)))))).1, (w3'.fx _ (.tail _ (.tail _ (.tail _ (.tail _ (.head _)))))).2⟩
      have HW4 := hide w4
      have x4 : Bx A4 b12 (Vc 3 3 ByteArray.empty) 23 := (w4.fx _ (.tail _ (.head _))).1
      have t5 : A4.cell? ⟨W.heap.size, 0, none⟩ = some (.pointer (some ⟨sb, 0, none⟩)) := Bx.cell (w4.fx _ (.head _)).1 0 rfl
      rw [hA4]
      clear hA4 hk4 w3' n1' n2' n3' n4' n5'
      refine thing_region _ _ _ A4 W.heap.size b12 sb hb _ _ _ _ _ _ _ _ _ _ _ _ _ _ _ _ _ _ _ _ _ _ _ _ _ _ _ _ _ _ _ _ _ _ _ _ _ _ _ _ _ _ _ _ _ _ _ _ _ _ _ _ _ t5 (w4.sh.box.cell 0 rfl) (x4.cell 0 rfl) (x4.cell 1 rfl) (x4.cell 2 rfl) ?_
      intro A5 hb5'
      have w5 := w4.below hb5'
      have HW5 := hide w5
      have u5 : A5.cell? ⟨W.heap.size, 0, none⟩ = some (.pointer (some ⟨sb, 0, none⟩)) := Bx.cell (w5.fx _ (.head _)).1 0 rfl
      have us : A5.cell? ⟨sb, 3, none⟩ = some (.bool false) := w5.sh.box.cell 3 rfl
      have x5' : Bx A5 b12 (Vc 3 3 ByteArray.empty) 23 := (w5.fx _ (.tail _ (.head _))).1
      have z0 : A5.cell? ⟨b12, 0, none⟩ = some (.int .i64 3) := x5'.cell 0 rfl
      have z1 : A5.cell? ⟨b12, 1, none⟩ = some (.int .i64 3) := x5'.cell 1 rfl
      have z2 : A5.cell? ⟨b12, 2, none⟩ = some (.string ByteArray.empty) := x5'.cell 2 rfl
      have HPL := hide (plain_3 w5.sh (by decide))
      unfold ptr Vc at HPL
      clear w4 w5 x4 x5' hb5' t5
      gi_wp2_with (refine ⟨trivial, ?_⟩; gi_at_call 122; refine (CallsIn.inRound _ (callsIn_wide.2 (unhide HPL))).mono ?_; rintro e A6 ⟨rfl, M6, p6, v6, h6, s6⟩; have HW6 := hide ((unhide HW5).step h6 s6); clear h6 s6)
      have w6 := unhide HW6
      have hl6 : A6.heap[W3.heap.size + 1]? = some (.loop rb) := by rw [hlp]; exact (w6.fx _ (.tail _ (.tail _ (.tail _ (.head _))))).1
      have ml6 : M6 (W3.heap.size + 1) = 0 := by rw [hlp]; exact (w6.fx _ (.tail _ (.tail _ (.tail _ (.head _))))).2
      have hll6 := (Array.getElem?_eq_some_iff.1 hl6).1
      have hne3 := (unhide HB10)
      have hsz3 : W.heap.size ≤ W3.heap.size := by
        have := (unhide HSZ).2.1
        have := (unhide HSZ).2.2.1
        omega
      refine ⟨_, _, run_endRound none hl6, rfl, ?_, ?_, ?_, M6, p6, v6, ml6, (w6.fx _ (.tail _ (.tail _ (.head _)))).2, w6.sh.putObj _ _ ml6, w6.st.put _ _ (by omega)⟩
      · exact (World.putObj_heap_same hll6).trans (congrArg (fun r => some (Obj.loop r)) hrb)
      · exact (World.putObj_heap_other (by omega)).trans (w6.fx _ (.tail _ (.tail _ (.head _)))).1
      · exact (World.putObj_heap_other (by omega)).trans (w6.fx _ (.head _)).1
end Go.Proofs.YtdgocaokmmhenaaGreatDoor
