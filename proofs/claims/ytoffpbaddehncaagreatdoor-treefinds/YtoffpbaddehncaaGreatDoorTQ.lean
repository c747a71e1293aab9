/- tree.Depth in general. -/
import Derived.RangeFuncLeaves
import Derived.OwnWalkIn
import Derived.Deep.Onto
import Derived.Test.YtoffpbaddehncaaGreatDoorTP
namespace Go.Proofs.YtoffpbaddehncaaGreatDoor
set_option linter.unusedSimpArgs false
set_option linter.unusedVariables false
open Go.RowKit Go.Shelf
attribute [local go_sem] Oper.semAt_some

/-- The greatest of the first depths. -/
def mdp (l : List Nd) : Nat → Int
  | 0 => 0
  | i + 1 => max (mdp l i) (depAt l i : Int)
theorem ranged_l (w : World) (r : Loop) : (ranged w r).heap[w.heap.size + 1]? = some (.loop r) := by
  have := World.alloc_heap_new (w.alloc (.deferred (some []))) (.loop r)
  rw [World.size_alloc] at this
  exact this
theorem ranged_d (w : World) (r : Loop) : (ranged w r).heap[w.heap.size]? = some (.deferred (some [])) := (Below.heap_alloc _ _ _ (by simp)).trans (World.alloc_heap_new w _)
theorem ranged_size (w : World) (r : Loop) : (ranged w r).heap.size = w.heap.size + 1 + 1 := by simp [ranged]
theorem ranged_below (w : World) (r : Loop) : Below w.heap.size w (ranged w r) := ((Below.refl _ w).alloc (Nat.le_refl _) _).alloc (by simp) _
theorem enter35 : ∀ args w, (callFunc 35 args).run Tryz.prog w = .ok (.enter 35 args) w := enters_of Tryz.func35 (by kernel_rfl) rfl
theorem grownBy_putObj' (w : World) (k : Nat) (o : Obj) : w.grownBy (w.putObj k o) (some k) := ⟨rfl, rfl, rfl, by simp, fun i _ hne => World.putObj_heap_other (fun e => hne (by rw [e]))⟩

/-- Between two rounds of Depth. -/
def DJ (w : World) (lp D N : Nat) (rc : Loop) (l : List Nd) (i : Nat) (A : World) : Prop :=
  A.heap[lp]? = some (.loop rc) ∧ A.heap[D]? = some (.deferred (some [])) ∧ Boxed A (w.heap.size + 1) 3 (.int .i64 (mdp l i)) ∧ Below w.heap.size w A ∧ N ≤ A.heap.size
theorem DJ.below {w : World} {lp D N : Nat} {rc : Loop} {l : List Nd} {i : Nat} {A C : World} (h : DJ w lp D N rc l i A) (hB : Below N A C) (h1 : lp < N) (h2 : D < N) (h3 : w.heap.size + 1 < N) : DJ w lp D N rc l i C := by
  obtain ⟨a1, a2, a3, a4, a5⟩ := h
  exact ⟨(hB.block lp h1).trans a1, (hB.block D h2).trans a2, (hB.block _ h3).trans a3, a4.trans (hB.mono (by omega)), Nat.le_trans a5 hB.size⟩

set_option maxRecDepth 100000 in
set_option maxHeartbeats 4000000 in
theorem depth_good (w : World) (M : Nat) (v : Value) (l : List Nd) (hN : Nodes w M v l) (hM : M ≤ w.heap.size) (h : (chkP l).2 = 0) :
    CallsIn Fence.wide 8 Tryz.prog 19 #[.agg #[v]] w fun e w' => e = .returned (.int .i64 (mdp l l.length)) ∧ Below w.heap.size w w' := by
  obtain ⟨W1, hW1⟩ : ∃ W1, (w.alloc (.cells #[v] 24)).alloc (.cells #[.int .i64 0] 3) = W1 := ⟨_, rfl⟩
  have hB1 : Below w.heap.size w W1 := by rw [← hW1]; exact ((Below.refl _ w).alloc (Nat.le_refl _) _).alloc (by simp) _
  have hz1 : W1.heap.size = w.heap.size + 1 + 1 := by rw [← hW1]; simp
  have b1 : Boxed W1 (w.heap.size + 1) 3 (.int .i64 0) := by
    have := Boxed.new (w.alloc (.cells #[v] 24)) 3 (.int .i64 0)
    rw [World.size_alloc] at this
    rw [← hW1]; exact this
  have HW : Hid (Calls Tryz.prog 16 #[.agg #[v]] ((w.alloc (.cells #[v] 24)).alloc (.cells #[.int .i64 0] 3)) (WalkMade W1 l)) := by rw [hW1]; exact walk_good W1 M v l (hN.keep hB1 hM) (Nat.le_trans hM hB1.size) h
  have hlen := hN.1
  have hkids : ∀ j, j < l.length → (nd l j).kids.length ≤ 17592186044416 := fun j hj => (hN.2.1 j hj).2
  obtain ⟨va, vc, rfl, _, _⟩ := hN.len
  have HB1 := hide b1
  have HKD := hide hkids
  clear hN b1 hkids hW1
  refine callsIn_of_wp_marks Tryz.func19 rfl trivial ?_ rfl
  simp only [Tryz.ntmps19, List.size_toArray, List.length_cons, List.length_nil, Nat.reduceAdd, Nat.reduceSub, Array.replicate_succ, Array.replicate_zero, List.push_toArray, List.append_toArray, List.nil_append, List.cons_append]
  gi_wp2_with (refine ⟨trivial, ?_⟩; gi_at_call 16; refine (callsIn_wide.2 (unhide HW)).mono ?_; rintro e W2 ⟨Bx, c, rfl, hbx, hrow, hBx1, hB2⟩)
  have hz2 := hB2.size
  have hbl := hbx.lt
  refine range_enter rfl (by omega) (gf := 35) (lb := #[.pointer (some ⟨Bx, 0, none⟩)]) rfl trivial enter35 ?_
  intro fn hfn
  generalize hrc : recOf fn _ _ _ _ _ _ _ = rc
  obtain ⟨W3, hW3⟩ : ∃ W3, ranged W2 rc = W3 := ⟨_, rfl⟩
  have hz3 : W3.heap.size = W2.heap.size + 1 + 1 := by rw [← hW3]; exact ranged_size W2 rc
  have hB3 : Below W2.heap.size W2 W3 := by rw [← hW3]; exact ranged_below W2 rc
  have hl3 : W3.heap[W2.heap.size + 1]? = some (.loop rc) := by rw [← hW3]; exact ranged_l W2 rc
  have hd3 : W3.heap[W2.heap.size]? = some (.deferred (some [])) := by rw [← hW3]; exact ranged_d W2 rc
  rw [hW3]
  clear hW3
  have hB13 : Below W1.heap.size W1 W3 := hB2.trans (hB3.mono hz2)
  have hj0 : DJ w (W2.heap.size + 1) W2.heap.size W3.heap.size rc l 0 W3 := ⟨hl3, hd3, (hB13.block _ (by omega)).trans (unhide HB1), hB1.trans (hB13.mono hB1.size), Nat.le_refl _⟩
  have hcl : c < W2.heap.size := (hrow.lt c rfl).2
  have hcb : W1.heap.size ≤ c := (hrow.lt c rfl).1
  obtain ⟨curc, hcurc⟩ : ∃ cur, W2.heap[c]? = some (.cells cur 3 (0, 0)) := by
    rcases hrow.2 with ⟨h', _⟩ | ⟨g', cap', cur, h', _, hg, _⟩
    · cases h'
    · cases h'; exact ⟨cur, hg⟩
  refine (walk2_in 7 (by omega) (W2.heap.size + 1) Bx c l (unhide HKD) hlen W3 (DJ w (W2.heap.size + 1) W2.heap.size W3.heap.size rc l) (fun _ _ => False) ((hB3.block Bx hbl).trans hbx) (ownsRow_heap (hrow.mono (Nat.zero_le _)) (fun g hg => hB3.block g ((hrow.lt g hg).2))) (fun i A C hj hb => hj.below hb (by omega) (by omega) (by omega)) ?hY hj0).mono ?post
  case hY =>
    rintro i A ⟨a1, a2, a3, a4, a5⟩ hi hA
    rw [← hrc] at a1
    refine yield_round (W₁ := A) hfn a1 rfl ?a1 a1 ?hassign ?hbody
    case hassign =>
      intro K hK
      gi_wp2
      exact hK
    case hbody =>
      have hrb : { (recOf fn _ _ _ _ _ .busy none : Loop) with state := .ready, pending := none } = rc := hrc
      generalize recOf fn _ _ _ _ _ .busy none = rb at hrb ⊢
      have hla : W2.heap.size + 1 < A.heap.size := (Array.getElem?_eq_some_iff.1 a1).1
      obtain ⟨A1, hA1⟩ : ∃ A1, A.putObj (W2.heap.size + 1) (.loop rb) = A1 := ⟨_, rfl⟩
      have hk1 : ∀ k, k ≠ W2.heap.size + 1 → A1.heap[k]? = A.heap[k]? := fun k hn => by rw [← hA1]; exact World.putObj_heap_other hn
      have hl1 : A1.heap[W2.heap.size + 1]? = some (.loop rb) := by rw [← hA1]; exact World.putObj_heap_same hla
      have hzA1 : A1.heap.size = A.heap.size := by rw [← hA1]; simp
      have hA1os : A1.os = A.os := by rw [← hA1]; rfl
      have hA1tape : A1.tape = A.tape := by rw [← hA1]; rfl
      have hA1out : A1.output = A.output := by rw [← hA1]; rfl
      rw [hA1]
      clear hA1
      have bg : Boxed A1 (w.heap.size + 1) 3 (.int .i64 (mdp l i)) := (hk1 _ (by omega)).trans a3
      have cg := bg.cell
      have fg := bg.frozen
      have hgl := bg.lt
      gi_wp2
      obtain ⟨W6, hW6⟩ : ∃ W6, A1.setCell ⟨w.heap.size + 1, 0, none⟩ (.int .i64 (max (mdp l i) (depAt l i : Int))) = W6 := ⟨_, rfl⟩
      have hk6 : ∀ k, k ≠ W2.heap.size + 1 → k ≠ w.heap.size + 1 → W6.heap[k]? = A.heap[k]? := fun k h1 h2 => by rw [← hW6, Below.heap_setCell _ _ _ _ h2]; exact hk1 k h1
      have hl6 : W6.heap[W2.heap.size + 1]? = some (.loop rb) := by rw [← hW6, Below.heap_setCell _ _ _ _ (show W2.heap.size + 1 ≠ w.heap.size + 1 by omega)]; exact hl1
      have bg6 : Boxed W6 (w.heap.size + 1) 3 (.int .i64 (mdp l (i + 1))) := by rw [← hW6]; exact bg.set _
      have hz6 : W6.heap.size = A.heap.size := (setCell_size hW6).trans hzA1
      have h6os : W6.os = A.os := by rw [← hW6]; exact hA1os
      have h6tape : W6.tape = A.tape := by rw [← hW6]; exact hA1tape
      have h6out : W6.output = A.output := by rw [← hW6]; exact hA1out
      rw [hW6]
      have e7 : { rb with state := if (none : Option Code).isNone then LoopState.ready else LoopState.done, pending := none } = rc := hrb
      refine ⟨_, _, run_endRound none hl6, fun k hk => (World.putObj_heap_other (by omega)).trans (hk6 k (by omega) (by omega)), by simp; omega, rfl, ?_⟩
      rw [e7]
      refine ⟨World.putObj_heap_same (by omega), (World.putObj_heap_other (by omega)).trans ((hk6 _ (by omega) (by omega)).trans a2), (World.putObj_heap_other (by omega)).trans bg6, ?_, by simp; omega⟩
      refine ⟨h6os.trans a4.os, h6tape.trans a4.tape, h6out.trans a4.output, by simp; have := a4.size; omega, fun k hk => ?_⟩
      exact (World.putObj_heap_other (by omega)).trans ((hk6 k (by omega) (by omega)).trans (a4.block k hk))
  case post =>
    rintro e W' ⟨⟨u, rfl⟩, (⟨a1, a2, a3, a4, a5⟩ | ⟨_, _, hx⟩)⟩
    · have hpe : rc.pending = none := by rw [← hrc]; rfl
      have hne : rc.state ≠ .busy := by rw [← hrc]; simp [recOf]
      have hend := run_endLoop (P := Tryz.prog) a1 hne
      rw [hpe] at hend
      refine ⟨none, _, hend, ?_⟩
      have hlw : W2.heap.size + 1 < W'.heap.size := (Array.getElem?_eq_some_iff.1 a1).1
      obtain ⟨W7, hW7⟩ : ∃ W7, W'.putObj (W2.heap.size + 1) (.loop { rc with state := .exhausted, pending := none }) = W7 := ⟨_, rfl⟩
      have hk7 : ∀ k, k ≠ W2.heap.size + 1 → W7.heap[k]? = W'.heap[k]? := fun k hk => by rw [← hW7]; exact World.putObj_heap_other hk
      have hB7 : Below w.heap.size w W7 := by
        rw [← hW7]
        exact a4.trans ((Below.refl _ W').grown (grownBy_putObj' W' (W2.heap.size + 1) _) a4.size (fun k e => by cases e; omega))
      rw [hW7]
      clear hW7 hend
      dsimp only
      have bL : Boxed W7 (w.heap.size + 1) 3 (.int .i64 (mdp l l.length)) := (hk7 _ (by omega)).trans a3
      have hd7 : W7.heap[W2.heap.size]? = some (.deferred (some [])) := (hk7 _ (by omega)).trans a2
      have cL := bL.cell
      gi_wp2
      refine ⟨by simp, .inl ⟨_, _, rfl, run_takeDeferred hd7, ?_⟩⟩
      refine ⟨.int .i64 (mdp l l.length), ?_, rfl, ?_⟩
      · simp [results, Tryz.results19, go_sem]
      · exact hB7.trans ((Below.refl _ W7).grown (grownBy_putObj' W7 W2.heap.size _) hB7.size (fun k e => by cases e; omega))
    · exact hx.elim
end Go.Proofs.YtoffpbaddehncaaGreatDoor
