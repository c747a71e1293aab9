/- lex.Tokens, over a text without remarks and errors. -/
import Derived.RangeFuncLeaves
import Derived.OwnWalkIn
import Derived.Stop.RegionWithIn
import Derived.Test.YtpdkeggiokebmaaDoorXC
import Derived.Test.YtpdkeggiokebmaaDoorB3
namespace Go.Proofs.YtpdkeggiokebmaaDoor
set_option linter.unusedSimpArgs false
set_option linter.unusedVariables false
open Go.RowKit Go.Shelf

attribute [local go_sem] Oper.semAt_some
attribute [local go_sem] tokV
theorem infoTok : (Tryd.prog.info? 33).map (fun i => (i.zero, i.size, i.bytes)) = some (some (.agg #[.int .i64 0, .string ⟨#[]⟩, .int .i64 0, .int .i64 0]), 4, 40) := by kernel_rfl
/-- The cells of tokens. -/
def cellsOf' : Value → List Value
  | .agg cs => cs.toList
  | _ => []
def rowT (l : List Value) : List Value := l.flatMap cellsOf'
theorem rowT_snoc (l : List Value) (kd : Int) (S : ByteArray) (i i' : Int) : rowT (l ++ [tokV kd S i i']) = rowT l ++ [.int .i64 kd, .string S, .int .i64 i, .int .i64 i'] := by
  simp [rowT, tokV, cellsOf']

/-- What stands between two rounds of Tokens. -/
def TJ (w : World) (l D L M c : Nat) (rc : Loop) (cur : Array Value) (fr : Nat × Nat) (pre : List Value) (A : World) : Prop :=
  A.heap[l]? = some (.loop rc) ∧ A.heap[D]? = some (.deferred (some [])) ∧ A.heap[c]? = some (.cells cur 5 fr) ∧ M ≤ A.heap.size ∧ Below w.heap.size w A ∧ (Boxed A w.heap.size 24 (.slice none 0 0) ∧ Boxed A (w.heap.size + 1) 3 (.int .i64 0) ∧ Boxed A (w.heap.size + 1 + 1) 25 (.int .i64 0)) ∧
    ∃ v, Boxed A L 24 v ∧ A.ownsRow w.heap.size 33 4 v pre.length (rowT pre) ∧ v.ownBlock ≠ some M
theorem TJ.fr {w : World} {l D L M c : Nat} {rc : Loop} {cur : Array Value} {fr : Nat × Nat} {pre : List Value} {A C : World} (h : TJ w l D L M c rc cur fr pre A) (hf : Fr (fun k => k = M) A C) (h1 : l < M) (h2 : D < M) (h3 : c < M) (h4 : w.heap.size + 1 + 1 < M) (h5 : L < M) : TJ w l D L M c rc cur fr pre C := by
  obtain ⟨a1, a2, a3, a4, a5, ⟨b0, b1, b2⟩, v, a6, a7, a8⟩ := h
  have hsz := hf.size
  refine ⟨(hf.block l (by omega) (by omega)).trans a1, (hf.block D (by omega) (by omega)).trans a2, (hf.block c (by omega) (by omega)).trans a3, by omega, a5.trans (hf.toBelow a5.size (fun k hk => by omega)), ⟨boxed_fr b0 hf (by omega), boxed_fr b1 hf (by omega), boxed_fr b2 hf (by omega)⟩, v, boxed_fr a6 hf (by omega), ?_, a8⟩
  refine ⟨a7.1, ?_⟩
  rcases a7.2 with h | ⟨g, cap, cur', rfl, q1, q2, q3⟩
  · exact .inl h
  · exact .inr ⟨g, cap, cur', rfl, q1, (hf.block g (Array.getElem?_eq_some_iff.1 q2).1 (fun e => a8 (by rw [e]; rfl))).trans q2, q3⟩
theorem own_ne {A : World} {B k n : Nat} {o : Obj} {v : Value} {xs : List Value} (own : A.ownsRow B 33 4 v n xs) (h : A.heap[k]? = some o) (ho : ∀ cur, o ≠ .cells cur 33 (0, 0)) : v.ownBlock ≠ some k := by
  intro e
  rcases own.2 with ⟨rfl, _⟩ | ⟨g, cap, cur, rfl, _, hg, _⟩
  · simp [Value.ownBlock] at e
  · simp only [Value.ownBlock, Option.some.injEq] at e
    subst e
    rw [hg] at h
    exact ho cur (Option.some.inj h).symm
theorem ranged_l (w : World) (r : Loop) : (ranged w r).heap[w.heap.size + 1]? = some (.loop r) := by
  have := World.alloc_heap_new (w.alloc (.deferred (some []))) (.loop r)
  rw [World.size_alloc] at this
  exact this
theorem ranged_d (w : World) (r : Loop) : (ranged w r).heap[w.heap.size]? = some (.deferred (some [])) := (Below.heap_alloc _ _ _ (by simp)).trans (World.alloc_heap_new w _)
theorem ranged_size (w : World) (r : Loop) : (ranged w r).heap.size = w.heap.size + 1 + 1 := by simp [ranged]
theorem ranged_below (w : World) (r : Loop) : Below w.heap.size w (ranged w r) := ((Below.refl _ w).alloc (Nat.le_refl _) _).alloc (by simp) _

set_option maxRecDepth 100000 in
set_option maxHeartbeats 2000000 in
theorem tokens_in (ad : Addr) (len cap : Nat) (g : Nat → Int) (hg : ∀ j, 0 ≤ g j ∧ g j ≤ 255) (w : World) (hlen : len ≤ 4000) (hsrc : ∀ j, j < len → w.cell? (ad.add j) = some (.int .u8 (g j))) (Rch : Nat → List Value → Prop) (hst : ∀ M c a' cap', StepC M c a' len cap' g (.slice none 0 0) Rch) (hR : Rch 0 []) :
    CallsIn Fence.wide 8 Tryd.prog 10 #[.slice (some ad) len cap] w fun e w' => (∃ v pre, e = .returned (.tuple #[v, .int .i64 0, .int .i64 0]) ∧ Rch len pre ∧ w'.ownsRow w.heap.size 33 4 v (pre.length + 1) (rowT (pre ++ [tokV 10 ⟨#[]⟩ len len]))) ∧ Below w.heap.size w w' := by
  refine callsIn_of_wp_marks Tryd.func10 rfl trivial ?_ rfl
  simp only [Tryd.ntmps10, List.size_toArray, List.length_cons, List.length_nil, Nat.reduceAdd, Nat.reduceSub, Array.replicate_succ, Array.replicate_zero, List.push_toArray, List.append_toArray, List.nil_append, List.cons_append]
  gi_wp2
  obtain ⟨W1, hW1⟩ : ∃ W1, (((w.alloc (.cells #[.slice none 0 0] 24)).alloc (.cells #[.int .i64 0] 3)).alloc (.cells #[.int .i64 0] 25)).alloc (.cells #[.slice none 0 0] 24) = W1 := ⟨_, rfl⟩
  have hB1 : Below w.heap.size w W1 := by rw [← hW1]; exact ((((Below.refl _ w).alloc (Nat.le_refl _) _).alloc (by simp) _).alloc (by simp; omega) _).alloc (by simp; omega) _
  have hz1 : W1.heap.size = w.heap.size + 1 + 1 + 1 + 1 := by rw [← hW1]; simp
  have b0 : Boxed W1 w.heap.size 24 (.slice none 0 0) := by rw [← hW1]; exact (((Boxed.new w 24 _).alloc _).alloc _).alloc _
  have b1 : Boxed W1 (w.heap.size + 1) 3 (.int .i64 0) := by
    have := ((Boxed.new (w.alloc (.cells #[.slice none 0 0] 24)) 3 (.int .i64 0)).alloc (.cells #[.int .i64 0] 25)).alloc (.cells #[.slice none 0 0] 24)
    rw [World.size_alloc] at this
    rw [← hW1]; exact this
  have b2 : Boxed W1 (w.heap.size + 1 + 1) 25 (.int .i64 0) := by
    have := (Boxed.new ((w.alloc (.cells #[.slice none 0 0] 24)).alloc (.cells #[.int .i64 0] 3)) 25 (.int .i64 0)).alloc (.cells #[.slice none 0 0] 24)
    rw [World.size_alloc, World.size_alloc] at this
    rw [← hW1]; exact this
  have b3 : Boxed W1 (w.heap.size + 1 + 1 + 1) 24 (.slice none 0 0) := by
    have := Boxed.new (((w.alloc (.cells #[.slice none 0 0] 24)).alloc (.cells #[.int .i64 0] 3)).alloc (.cells #[.int .i64 0] 25)) 24 (.slice none 0 0)
    rw [World.size_alloc, World.size_alloc, World.size_alloc] at this
    rw [← hW1]; exact this
  rw [hW1]
  clear hW1
  refine ⟨trivial, (callsIn_wide.2 (scan_some ad len cap g W1 (by omega) (fun j hj => (hB1.cell (p := ad.add j) (World.block_lt_of_cell? w _ (hsrc j hj))).trans (hsrc j hj)))).mono ?_⟩
  rintro e W2 ⟨Bk, c, a', cap', rfl, hBk, hSc, hbk1, hc1, hc2, hB2, cur, fr, hcur⟩
  have HSc := hide hSc
  clear hsrc hSc
  gi_wp2
  have hz2 := hB2.size
  have hbl := hBk.lt
  refine range_enter rfl (by omega) (gf := 24) (lb := #[.pointer (some ⟨Bk, 0, none⟩)]) rfl trivial enter34 ?_
  intro fn hfn
  generalize hrc : recOf fn _ _ _ _ _ _ _ = rc
  obtain ⟨W3, hW3⟩ : ∃ W3, ranged W2 rc = W3 := ⟨_, rfl⟩
  have hz3 : W3.heap.size = W2.heap.size + 1 + 1 := by rw [← hW3]; exact ranged_size W2 rc
  have hB3 : Below W2.heap.size W2 W3 := by rw [← hW3]; exact ranged_below W2 rc
  have hl3 : W3.heap[W2.heap.size + 1]? = some (.loop rc) := by rw [← hW3]; exact ranged_l W2 rc
  have hd3 : W3.heap[W2.heap.size]? = some (.deferred (some [])) := by rw [← hW3]; exact ranged_d W2 rc
  rw [hW3]
  clear hW3
  have hB12 : Below W1.heap.size W1 W3 := hB2.trans (hB3.mono hz2)
  have hj0 : TJ w (W2.heap.size + 1) W2.heap.size (w.heap.size + 1 + 1 + 1) W3.heap.size c rc cur fr [] W3 :=
    ⟨hl3, hd3, (hB3.block c hc1).trans hcur, Nat.le_refl _, hB1.trans (hB12.mono hB1.size), ⟨boxed_below b0 hB12 (by omega), boxed_below b1 hB12 (by omega), boxed_below b2 hB12 (by omega)⟩, .slice none 0 0, boxed_below b3 hB12 (by omega), World.ownsRow_nil _ _ _ _, by simp [Value.ownBlock]⟩
  refine (scan2_in 7 (by omega) (W2.heap.size + 1) Bk c a' len cap' g hg hlen W3 Rch (hst _ c a' cap') (TJ w (W2.heap.size + 1) W2.heap.size (w.heap.size + 1 + 1 + 1) W3.heap.size c rc cur fr) (fun _ _ => False) (fun pre A C h hf => h.fr hf (by omega) (by omega) (by omega) (by omega) (by omega)) ?hY hj0 hR (boxed_below hBk hB3 hbl) ((unhide HSc).keep (fun k e => by subst e; exact hB3.block k hc1)) (by omega)).mono ?post
  case hY =>
    rintro pre kd S i i' A ⟨a1, a2, a3, a4, a5, ⟨q0, q1, q2⟩, v, a6, a7, a8⟩ hpl ⟨cs, hcs⟩
    rw [← hrc] at a1
    refine yield_round (W₁ := ?W1) hfn a1 rfl ?a1 ?hl1 ?hassign ?hbody
    case hassign =>
      intro K hK
      gi_wp2
      exact hK
    case hl1 => exact (Below.heap_alloc A _ _ (Array.getElem?_eq_some_iff.1 a1).1).trans a1
    case hbody =>
      have hrb : { (recOf fn _ _ _ _ _ .busy none : Loop) with state := .ready, pending := none } = rc := hrc
      generalize recOf fn _ _ _ _ _ .busy none = rb at hrb ⊢
      have hla : W2.heap.size + 1 < A.heap.size := (Array.getElem?_eq_some_iff.1 a1).1
      obtain ⟨A1, hA1⟩ : ∃ A1, (A.alloc (.cells #[.int .i64 kd, .string S, .int .i64 i, .int .i64 i'] 33)).putObj (W2.heap.size + 1) (.loop rb) = A1 := ⟨_, rfl⟩
      have hk1 : ∀ k, k < A.heap.size → k ≠ W2.heap.size + 1 → A1.heap[k]? = A.heap[k]? := fun k hk hn => by rw [← hA1]; exact (World.putObj_heap_other hn).trans (Below.heap_alloc A _ k hk)
      have hl1 : A1.heap[W2.heap.size + 1]? = some (.loop rb) := by rw [← hA1]; exact World.putObj_heap_same (by simp; omega)
      have ht1 : A1.heap[A.heap.size]? = some (.cells #[.int .i64 kd, .string S, .int .i64 i, .int .i64 i'] 33) := by rw [← hA1]; exact (World.putObj_heap_other (by omega)).trans (World.alloc_heap_new A _)
      have hzA1 : A1.heap.size = A.heap.size + 1 := by rw [← hA1]; simp
      have hA1os : A1.os = A.os := by rw [← hA1]; rfl
      have hA1tape : A1.tape = A.tape := by rw [← hA1]; rfl
      have hA1out : A1.output = A.output := by rw [← hA1]; rfl
      rw [hA1]
      clear hA1
      have hLb := a6.lt
      have bL : Boxed A1 (w.heap.size + 1 + 1 + 1) 24 v := (hk1 _ hLb (by omega)).trans a6
      have own1 : A1.ownsRow w.heap.size 33 4 v pre.length (rowT pre) := by
        refine ⟨a7.1, ?_⟩
        rcases a7.2 with h | ⟨gw, cp, cr, rfl, p1, p2, p3⟩
        · exact .inl h
        · refine .inr ⟨gw, cp, cr, rfl, p1, (hk1 gw (Array.getElem?_eq_some_iff.1 p2).1 (fun e => ?_)).trans p2, p3⟩
          rw [e, a1] at p2
          cases p2
      obtain ⟨ao, cv, rfl⟩ : ∃ ao cv, v = .slice ao pre.length cv := by
        rcases a7.2 with ⟨h, h0⟩ | ⟨gw, cp, cr, h, _⟩
        · exact ⟨none, 0, by rw [h, h0]⟩
        · exact ⟨_, cp, h⟩
      obtain ⟨t0, t1, t2, t3⟩ := tok_cells ht1
      obtain ⟨i0, hi, hz0, hz1', hz2'⟩ := info_parts infoTok
      have cL := bL.cell
      have OWN := hide own1
      clear own1 a7
      have hzw := a5.size
      gi_wp2_with (gi_at_builtin; refine wpListIn_append_own _ rfl _ _ 24 rfl w.heap.size 33 i0 _ 4 40 Tryd.underlying24 hi hz0 hz1' hz2' rfl (by decide) _ _ _ rfl ((unhide OWN).alloc _) ⟨A.heap.size + 1, 0, none⟩ 1 1 [.int .i64 kd, .string S, .int .i64 i, .int .i64 i'] rfl rfl ?c1 ?c2 ?c3 ?c4 ?c5 ?_)
      case c2 => exact ⟨rfl, rfl, rfl, rfl⟩
      case c3 => first | (unfold maxLen; omega) | omega
      case c4 => omega
      case c5 => first | omega | (simp; omega)
      intro v' w2 hown2 hgrow _
      obtain ⟨x1, x2, x3, x4, x5⟩ := bL.appended (by decide) (unhide OWN) (by omega) (by omega) hown2 hgrow
      obtain ⟨g2, cp2, rfl⟩ := ownsRow_succ hown2
      have x1c := x1.cell
      have x1f := x1.frozen
      have hgr := hide hgrow
      have X3 := hide x3
      clear hgrow hown2 x3
      gi_wp2
      obtain ⟨W6, hW6⟩ : ∃ W6, w2.setCell ⟨w.heap.size + 1 + 1 + 1, 0, none⟩ (.slice (some ⟨g2, 0, none⟩) (pre.length + 1) cp2) = W6 := ⟨_, rfl⟩
      have hk6 : ∀ k, k < A.heap.size → k ≠ W2.heap.size + 1 → k ≠ w.heap.size + 1 + 1 + 1 → (Value.slice ao pre.length cv).ownBlock ≠ some k → W6.heap[k]? = A.heap[k]? := fun k h1 h2 h3 h4 => by
        rw [← hW6, Below.heap_setCell _ _ _ _ (by simpa using h3), (unhide hgr).block k (by simp; omega) (fun e => h4 e.symm), Below.heap_alloc A1 _ k (by omega)]
        exact hk1 k h1 h2
      rw [hW6] at x2 x4 x5 X3 ⊢
      have hl6 : W6.heap[W2.heap.size + 1]? = some (.loop rb) := x4.same _ _ hl1 rfl
      have hz6 := x4.size
      clear hW6
      have own1 := unhide OWN
      have nA : ∀ k o, k < A.heap.size → k ≠ W2.heap.size + 1 → A.heap[k]? = some o → (∀ cr, o ≠ .cells cr 33 (0, 0)) → (Value.slice ao pre.length cv).ownBlock ≠ some k := fun k o h1 h2 h3 h4 => own_ne own1 ((hk1 k h1 h2).trans h3) h4
      have e7 : { rb with state := if (none : Option Code).isNone then LoopState.ready else LoopState.done, pending := none } = rc := hrb
      have hMl : W3.heap.size < A.heap.size := (Array.getElem?_eq_some_iff.1 hcs).1
      have kM := hk6 W3.heap.size hMl (by omega) (by omega) (nA _ _ hMl (by omega) hcs (fun cr e => by cases e))
      have kc := hk6 c (by omega) (by omega) (by omega) (nA _ _ (by omega) (by omega) a3 (fun cr e => by cases e))
      have kD := hk6 W2.heap.size (by omega) (by omega) (by omega) (nA _ _ (by omega) (by omega) a2 (fun cr e => by cases e))
      have k0 := hk6 w.heap.size (by omega) (by omega) (by omega) (nA _ _ (by omega) (by omega) q0 (fun cr e => by cases e))
      have k1 := hk6 (w.heap.size + 1) (by omega) (by omega) (by omega) (nA _ _ (by omega) (by omega) q1 (fun cr e => by cases e))
      have k2 := hk6 (w.heap.size + 1 + 1) (by omega) (by omega) (by omega) (nA _ _ (by omega) (by omega) q2 (fun cr e => by cases e))
      refine ⟨_, _, run_endRound none hl6, .inl ⟨rfl, ?_, (World.putObj_heap_other (by omega)).trans kM, (World.putObj_heap_other (by omega)).trans kc, by simp; omega⟩⟩
      rw [e7]
      refine ⟨World.putObj_heap_same (by omega), (World.putObj_heap_other (by omega)).trans (kD.trans a2), (World.putObj_heap_other (by omega)).trans (kc.trans a3), by simp; omega, ?_, ⟨(World.putObj_heap_other (by omega)).trans (k0.trans q0), (World.putObj_heap_other (by omega)).trans (k1.trans q1), (World.putObj_heap_other (by omega)).trans (k2.trans q2)⟩, _, (World.putObj_heap_other (by omega)).trans x2, ?_, ?_⟩
      · have hbA : Below w.heap.size w W6 := by
          refine ⟨x5.os.trans ?_, x5.tape.trans ?_, x5.output.trans ?_, by have := a5.size; omega, fun k hk => ?_⟩
          · rw [hA1os]; exact a5.os
          · rw [hA1tape]; exact a5.tape
          · rw [hA1out]; exact a5.output
          · exact (x5.block k hk).trans ((hk1 k (by omega) (by omega)).trans (a5.block k hk))
        exact hbA.trans ((Below.refl _ W6).grown (grownBy_putObj' W6 (W2.heap.size + 1) (.loop rc)) hbA.size (fun k e => by cases e; omega))
      · have := ownsRow_putObj (unhide X3) (.loop rc) hl6 rfl
        rw [rowT_snoc]
        simpa using this
      · exact own_ne (unhide X3) (kM.trans hcs) (fun cr e => by cases e)
  case post =>
    rintro e W' ⟨⟨u, rfl⟩, (⟨pre, hr, ⟨a1, a2, a3, a4, a5, ⟨q0, q1, q2⟩, v, a6, a7, a8⟩⟩ | ⟨pre, hx⟩)⟩
    · have hpe : rc.pending = none := by rw [← hrc]; rfl
      have hne : rc.state ≠ .busy := by rw [← hrc]; simp [recOf]
      have hend := run_endLoop (P := Tryd.prog) a1 hne
      rw [hpe] at hend
      refine ⟨none, _, hend, ?_⟩
      have hlw : W2.heap.size + 1 < W'.heap.size := (Array.getElem?_eq_some_iff.1 a1).1
      obtain ⟨W7, hW7⟩ : ∃ W7, W'.putObj (W2.heap.size + 1) (.loop { rc with state := .exhausted, pending := none }) = W7 := ⟨_, rfl⟩
      have hk7 : ∀ k, k ≠ W2.heap.size + 1 → W7.heap[k]? = W'.heap[k]? := fun k hk => by rw [← hW7]; exact World.putObj_heap_other hk
      have own7 : W7.ownsRow w.heap.size 33 4 v (pre.length + 1) (rowT (pre ++ [tokV 10 ⟨#[]⟩ len len])) := by
        have := ownsRow_putObj a7 (.loop { rc with state := .exhausted, pending := none }) a1 rfl
        rw [hW7] at this
        simpa using this
      have hB7 : Below w.heap.size w W7 := by
        rw [← hW7]
        exact a5.trans ((Below.refl _ W').grown (grownBy_putObj' W' (W2.heap.size + 1) _) a5.size (fun k e => by cases e; omega))
      have hz7 : W7.heap.size = W'.heap.size := by rw [← hW7]; simp
      rw [hW7]
      clear hW7 hend
      dsimp only
      have b0 : Boxed W7 w.heap.size 24 (.slice none 0 0) := (hk7 _ (by omega)).trans q0
      have b1 : Boxed W7 (w.heap.size + 1) 3 (.int .i64 0) := (hk7 _ (by omega)).trans q1
      have b2 : Boxed W7 (w.heap.size + 1 + 1) 25 (.int .i64 0) := (hk7 _ (by omega)).trans q2
      have bL : Boxed W7 (w.heap.size + 1 + 1 + 1) 24 v := (hk7 _ (by omega)).trans a6
      have hd7 : W7.heap[W2.heap.size]? = some (.deferred (some [])) := (hk7 _ (by omega)).trans a2
      obtain ⟨ao, cv, rfl⟩ : ∃ ao cv, v = .slice ao (pre.length + 1) cv := by
        rcases own7.2 with ⟨h, h0⟩ | ⟨gw, cp, cr, h, _⟩
        · omega
        · exact ⟨_, cp, h⟩
      have cL := bL.cell
      have c0 := b0.cell
      have f0 := b0.frozen
      have e1 := (b1.other (show w.heap.size + 1 ≠ w.heap.size by omega) (.slice ao (pre.length + 1) cv)).cell
      have e1f := (b1.other (show w.heap.size + 1 ≠ w.heap.size by omega) (.slice ao (pre.length + 1) cv)).frozen
      have e2 := ((b2.other (show w.heap.size + 1 + 1 ≠ w.heap.size by omega) (.slice ao (pre.length + 1) cv)).other (show w.heap.size + 1 + 1 ≠ w.heap.size + 1 by omega) (.int .i64 0)).cell
      have e2f := ((b2.other (show w.heap.size + 1 + 1 ≠ w.heap.size by omega) (.slice ao (pre.length + 1) cv)).other (show w.heap.size + 1 + 1 ≠ w.heap.size + 1 by omega) (.int .i64 0)).frozen
      have OWN := hide own7
      clear own7 a7
      gi_wp2
      obtain ⟨V, hV⟩ : ∃ V, Value.slice ao (pre.length + 1) cv = V := ⟨_, rfl⟩
      rw [hV] at OWN ⊢
      have d1 : w.heap.size ≠ w.heap.size + 1 := by omega
      have d2 : w.heap.size ≠ w.heap.size + 1 + 1 := by omega
      have d3 : w.heap.size + 1 ≠ w.heap.size + 1 + 1 := by omega
      have B0 := ((b0.set V).other d1 (.int .i64 0)).other d2 (.int .i64 0)
      have B1 := ((b1.other d1.symm V).set (.int .i64 0)).other d3 (.int .i64 0)
      have B2 := ((b2.other d2.symm V).other d3.symm (.int .i64 0)).set (.int .i64 0)
      have own8 := (((unhide OWN).kept (grownBy_setCell' W7 w.heap.size V) (.inr (own_ne (unhide OWN) b0 (fun cr e => by cases e)))).kept (grownBy_setCell' _ (w.heap.size + 1) (.int .i64 0)) (.inr (own_ne (unhide OWN) b1 (fun cr e => by cases e)))).kept (grownBy_setCell' _ (w.heap.size + 1 + 1) (.int .i64 0)) (.inr (own_ne (unhide OWN) b2 (fun cr e => by cases e)))
      have hB8 : Below w.heap.size W7 (((W7.setCell ⟨w.heap.size, 0, none⟩ V).setCell ⟨w.heap.size + 1, 0, none⟩ (.int .i64 0)).setCell ⟨w.heap.size + 1 + 1, 0, none⟩ (.int .i64 0)) := (((Below.refl _ W7).setCell (p := ⟨w.heap.size, 0, none⟩) (Nat.le_refl _) _).setCell (p := ⟨w.heap.size + 1, 0, none⟩) (by show w.heap.size ≤ w.heap.size + 1; omega) _).setCell (p := ⟨w.heap.size + 1 + 1, 0, none⟩) (by show w.heap.size ≤ w.heap.size + 1 + 1; omega) _
      have hd8 : (((W7.setCell ⟨w.heap.size, 0, none⟩ V).setCell ⟨w.heap.size + 1, 0, none⟩ (.int .i64 0)).setCell ⟨w.heap.size + 1 + 1, 0, none⟩ (.int .i64 0)).heap[W2.heap.size]? = some (.deferred (some [])) := by
        rw [Below.heap_setCell _ _ _ _ (by show W2.heap.size ≠ w.heap.size + 1 + 1; omega), Below.heap_setCell _ _ _ _ (by show W2.heap.size ≠ w.heap.size + 1; omega), Below.heap_setCell _ _ _ _ (by show W2.heap.size ≠ w.heap.size; omega)]
        exact hd7
      obtain ⟨W8, hW8⟩ : ∃ W8, (((W7.setCell ⟨w.heap.size, 0, none⟩ V).setCell ⟨w.heap.size + 1, 0, none⟩ (.int .i64 0)).setCell ⟨w.heap.size + 1 + 1, 0, none⟩ (.int .i64 0)) = W8 := ⟨_, rfl⟩
      rw [hW8] at B0 B1 B2 own8 hB8 hd8 ⊢
      clear hW8
      refine ⟨by simp, .inl ⟨_, _, rfl, run_takeDeferred hd8, ?_⟩⟩
      have hdl : W2.heap.size < W8.heap.size := (Array.getElem?_eq_some_iff.1 hd8).1
      obtain ⟨W9, hW9⟩ : ∃ W9, W8.putObj W2.heap.size (.deferred none) = W9 := ⟨_, rfl⟩
      have E0 : Boxed W9 w.heap.size 24 V := by rw [← hW9]; exact (World.putObj_heap_other (by omega)).trans B0
      have E1 : Boxed W9 (w.heap.size + 1) 3 (.int .i64 0) := by rw [← hW9]; exact (World.putObj_heap_other (by omega)).trans B1
      have E2 : Boxed W9 (w.heap.size + 1 + 1) 25 (.int .i64 0) := by rw [← hW9]; exact (World.putObj_heap_other (by omega)).trans B2
      have own9 : W9.ownsRow w.heap.size 33 4 V (pre.length + 1) (rowT (pre ++ [tokV 10 ⟨#[]⟩ len len])) := by rw [← hW9]; exact ownsRow_putObj own8 _ hd8 rfl
      have hB9 : Below w.heap.size w W9 := by
        rw [← hW9]
        exact (hB7.trans hB8).trans ((Below.refl _ W8).grown (grownBy_putObj' W8 W2.heap.size _) (by have := hB7.size; have := hB8.size; omega) (fun k e => by cases e; omega))
      rw [hW9]
      clear hW9
      have z0 := E0.cell
      have z1 := E1.cell
      have z2 := E2.cell
      refine ⟨.tuple #[V, .int .i64 0, .int .i64 0], ?_, ⟨V, rfl, pre, hr, own9⟩, hB9⟩
      clear cL c0 f0 e1 e1f e2 e2f
      simp [results, Tryd.results10, go_sem, z0, z1, z2]
    · exact hx.elim
end Go.Proofs.YtpdkeggiokebmaaDoor
