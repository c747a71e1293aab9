/- What apart hands on, collected. -/
import Derived.Maps.OwnIn
import Derived.Maps.OwnRows
import Derived.Test.YticdaphajanbbaaGreatDoorKU
namespace Go.Proofs.YticdaphajanbbaaGreatDoor
set_option linter.unusedSimpArgs false
set_option linter.unusedVariables false
set_option maxRecDepth 100000
set_option maxHeartbeats 4000000
open Go.RowKit Go.Shelf
attribute [local go_sem] Oper.semAt_some

variable {P : Program} {lo M : Nat} {mo : Option Nat} {dv : Value} {L : List Kt} {W : World}
/-- Between two rounds. -/
def VJ (w : World) (lp D s : Nat) (rc : Loop) (O : List Int) (i : Nat) (A : World) : Prop :=
  A.heap[lp]? = some (.loop rc) ∧ A.heap[D]? = some (.deferred (some [])) ∧ (∃ v, Bx A w.heap.size #[v] 32 ∧ A.ownsRow w.heap.size 3 1 v i (iv (O.take i)) ∧ ∀ k, v.ownBlock = some k → k ≠ s) ∧ Below w.heap.size w A ∧ s ≤ A.heap.size
theorem VJ.grow {w : World} {lp D s : Nat} {rc : Loop} {O : List Int} {i : Nat} {A C : World} (h : VJ w lp D s rc O i A) (hg : A.grownBy C (some s)) (h1 : lp < s) (h2 : D < s) (h3 : w.heap.size < s) : VJ w lp D s rc O i C := by
  obtain ⟨a1, a2, ⟨v, a3, a4, a5⟩, a6, a7⟩ := h
  have k : ∀ k, k < A.heap.size → k ≠ s → C.heap[k]? = A.heap[k]? := fun k hk hn => hg.block k hk (fun e => by cases e; exact hn rfl)
  refine ⟨(k lp (Array.getElem?_eq_some_iff.1 a1).1 (by omega)).trans a1, (k D (Array.getElem?_eq_some_iff.1 a2).1 (by omega)).trans a2, ⟨v, (k _ a3.lt (by omega)).trans a3, row_keep a4 (fun j hj => k j (row_ty a4 hj).2.1 (a5 j hj)), a5⟩, a6.trans ⟨hg.os, hg.tape, hg.output, hg.size, fun j hj => k j (by have := a6.size; omega) (by omega)⟩, Nat.le_trans a7 hg.size⟩
theorem appendSeq_flat (w : World) (b1 b2 : Nat) (ids : List Int) (pa : Option Addr) (pc : Nat) (hA : AAt Tryz.prog lo M mo dv L w) (hp : RowR 3 w (.slice pa ids.length pc) (iv ids)) (hf : Flat L ids) (hl : ids.length ≤ 1000000000) (hol : (onceP ids).length ≤ 1000000000) (hb1 : Bx w b1 #[.pointer (some ⟨M, 0, none⟩)] 28) (hb2 : Bx w b2 #[.slice pa ids.length pc] 32) :
    CallsIn Fence.wide 9 Tryz.prog 102 #[.slice none 0 0, .func (.func 100) #[] #[.pointer (some ⟨b1, 0, none⟩), .pointer (some ⟨b2, 0, none⟩)]] w (CloneQ 3 (iv (onceP ids)) w) := by
  obtain ⟨j0, hj, hy0, hy1, hy2⟩ := info_parts infoInt
  obtain ⟨W1, hW1⟩ : ∃ W1, w.alloc (.cells #[.slice none 0 0] 32) = W1 := ⟨_, rfl⟩
  have hB1 : Below w.heap.size w W1 := by rw [← hW1]; exact (Below.refl _ w).alloc (Nat.le_refl _) _
  have hz1 : W1.heap.size = w.heap.size + 1 := by rw [← hW1]; simp
  have x0 : Bx W1 w.heap.size #[.slice none 0 0] 32 := by rw [← hW1]; exact al_at w _
  have HX0 := hide x0
  have HZ1 := hide hz1
  have HW1 := hide hW1
  have HA := hide hA
  have HP := hide hp
  have HF := hide hf
  have HO := hide hol
  clear hA hp hf hol x0 hz1 hW1
  refine callsIn_of_wp_marks Tryz.func102 rfl trivial ?_ rfl
  simp only [Tryz.ntmps102, List.size_toArray, List.length_cons, List.length_nil, Nat.reduceAdd, Nat.reduceSub, Array.replicate_succ, Array.replicate_zero, List.push_toArray, List.append_toArray, List.nil_append, List.cons_append]
  gi_wp2
  rw [unhide HW1]
  have hz1 := unhide HZ1
  refine range_enter rfl (by omega) (gf := 100) (lb := #[.pointer (some ⟨b1, 0, none⟩), .pointer (some ⟨b2, 0, none⟩)]) rfl trivial enter141 ?_
  intro fn hfn
  generalize hrc : recOf fn _ _ _ _ _ _ _ = rc
  obtain ⟨W3, hW3⟩ : ∃ W3, ranged W1 rc = W3 := ⟨_, rfl⟩
  have hz3 : W3.heap.size = W1.heap.size + 1 + 1 := by rw [← hW3]; exact ranged_size W1 rc
  have hB3 : Below W1.heap.size W1 W3 := by rw [← hW3]; exact ranged_below W1 rc
  have hl3 : W3.heap[W1.heap.size + 1]? = some (.loop rc) := by rw [← hW3]; exact ranged_l W1 rc
  have hd3 : W3.heap[W1.heap.size]? = some (.deferred (some [])) := by rw [← hW3]; exact ranged_d W1 rc
  rw [hW3]
  clear hW3
  have hBw3 : Below w.heap.size w W3 := hB1.trans (hB3.mono hB1.size)
  have hj0 : VJ w (W1.heap.size + 1) W1.heap.size W3.heap.size rc (onceP ids) 0 W3 := ⟨hl3, hd3, ⟨.slice none 0 0, (hB3.block _ (by omega)).trans (unhide HX0), World.ownsRow_nil _ _ _ _, fun k e => by cases e⟩, hBw3, Nat.le_refl _⟩
  refine (apart1_in 8 (by omega) (W1.heap.size + 1) b1 b2 ids w W3 (VJ w (W1.heap.size + 1) W1.heap.size W3.heap.size rc (onceP ids)) (fun _ _ => False) pa pc (unhide HA) (unhide HP) (unhide HF) hl hBw3 (hb1.below hBw3 hb1.lt) (hb2.below hBw3 hb2.lt) (fun j A B hj hg => hj.grow hg (by omega) (by omega) (by omega)) ?hY hj0).mono ?post
  case hY =>
    rintro j A p ⟨a1, a2, ⟨v, a3, a4, a5⟩, a6, a7⟩ hget hA3
    have hjl : j < (onceP ids).length := (List.getElem?_eq_some_iff.1 hget).1
    have hob := unhide HO
    rw [← hrc] at a1
    refine yield_round (W₁ := A) hfn a1 rfl ?a1 a1 ?hassign ?hbody
    case hassign =>
      intro K hK
      gi_wp2
      exact hK
    case hbody =>
      have hrb : { (recOf fn _ _ _ _ _ .busy none : Loop) with state := .ready, pending := none } = rc := hrc
      generalize recOf fn _ _ _ _ _ .busy none = rb at hrb ⊢
      have hla : W1.heap.size + 1 < A.heap.size := (Array.getElem?_eq_some_iff.1 a1).1
      obtain ⟨A1, hA1⟩ : ∃ A1, A.putObj (W1.heap.size + 1) (.loop rb) = A1 := ⟨_, rfl⟩
      have hkk : ∀ k, k ≠ W1.heap.size + 1 → A1.heap[k]? = A.heap[k]? := fun k hn => by rw [← hA1]; exact World.putObj_heap_other hn
      have hl1 : A1.heap[W1.heap.size + 1]? = some (.loop rb) := by rw [← hA1]; exact World.putObj_heap_same hla
      have hzA1 : A1.heap.size = A.heap.size := by rw [← hA1]; simp
      have hBA : Below w.heap.size w A1 := by
        rw [← hA1]
        exact a6.trans ((Below.refl _ A).grown (grownBy_putObj' A (W1.heap.size + 1) _) (by omega) (fun k e => by cases e; omega))
      rw [hA1]
      clear hA1
      have b3 : Bx A1 w.heap.size #[v] 32 := (hkk _ (by omega)).trans a3
      have hvl : ∀ k, v.ownBlock = some k → k ≠ W1.heap.size + 1 ∧ k ≠ w.heap.size ∧ k < A.heap.size := fun k e => by
        obtain ⟨t1, t2, t3⟩ := row_ty a4 e
        refine ⟨fun e' => ?_, fun e' => ?_, t2⟩
        · subst e'; simp [tyOf, a1] at t1
        · subst e'; have h3 : A.heap[w.heap.size]? = _ := a3; simp [tyOf, h3] at t1
      have b4 : A1.ownsRow w.heap.size 3 1 v j (iv ((onceP ids).take j)) := row_keep a4 fun k e => hkk k (hvl k e).1
      obtain ⟨va, vc, hv⟩ : ∃ va vc, v = .slice va j vc := by
        rcases b4.2 with ⟨e, e'⟩ | ⟨g, cap, cur, e, _⟩
        · exact ⟨none, 0, by rw [e, e']⟩
        · exact ⟨_, _, e⟩
      subst hv
      have d3 := b3.cell 0 rfl
      have f3 := b3.free 0
      have e3 := b3.lt
      have HB4 := hide b4
      have HB3 := hide b3
      have HBA := hide hBA
      have HKK := hide hkk
      have HL1 := hide hl1
      have HVL := hide hvl
      have HZA := hide hzA1
      have HA3 := hide hA3
      clear hA3
      have HZ3 := hide hz3
      have hws : w.heap.size ≤ A1.heap.size := hBA.size
      clear hBA hkk hl1 b3 b4 hvl hzA1 hz1 hz3
      gi_wp2_with (first
        | (gi_at_builtin
           refine wpListIn_append_own_at _ rfl _ _ 32 rfl w.heap.size 3 j0 (.int .i64 0) 1 8 Tryz.underlying32 hj hy0 hy1 hy2 rfl (by decide) _ _ _ rfl ((unhide HB4).alloc _) ⟨A1.heap.size, 0, none⟩ 1 1 [.int .i64 p] rfl rfl (cell_one_new _ _ _) (ints_oneCell .i64 [p]) ?q1 ?q2 ?q3 ?_
           rotate_left 3
           intro v' w2 hown2 hgrow2 hnil2 hat2
           obtain ⟨va2, vc2, hv2⟩ : ∃ va2 vc2, v' = .slice va2 (j + 1) vc2 := (by
             rcases hown2.2 with ⟨e, e'⟩ | ⟨g, cap, cur, e, _⟩
             · omega
             · exact ⟨_, _, e⟩)
           subst hv2
           have hx2 : Bx w2 w.heap.size #[.slice va j vc] 32 := (hgrow2.block _ (by simp; omega) (fun e => (unhide HVL _ e.symm).2.1 rfl)).trans ((Below.heap_alloc A1 _ _ e3).trans (unhide HB3))
           have HX2 := hide hx2
           have d2 := hx2.cell 0 rfl
           have f2 := hx2.free 0
           have l2 := hx2.lt
           have HO2 := hide hown2
           have HG2 := hide hgrow2
           have HT2 := hide hat2
           clear hown2 hgrow2 hat2 hnil2 hx2))
      case q1 => unfold maxLen; omega
      case q2 => omega
      case q3 => first | omega | (simp; omega)
      have hA3' := unhide HA3
      have hbk := unhide HBA
      have hkk := unhide HKK
      have hza := unhide HZA
      have hz3 := unhide HZ3
      have hz1 := unhide HZ1
      have hg2 := unhide HG2
      have hs2 := hg2.size
      simp at hs2
      obtain ⟨A3, hA3⟩ : ∃ A3, w2.setCell ⟨w.heap.size, 0, none⟩ (.slice va2 (j + 1) vc2) = A3 := ⟨_, rfl⟩
      have hvn : ∀ k, (Value.slice va j vc).ownBlock = some k → k ≠ W1.heap.size + 1 ∧ k ≠ w.heap.size ∧ k < A.heap.size ∧ k ≠ W3.heap.size := fun k e => ⟨(unhide HVL k e).1, (unhide HVL k e).2.1, (unhide HVL k e).2.2, a5 k e⟩
      have hvb : ∀ k, (Value.slice va j vc).ownBlock = some k → w.heap.size ≤ k := fun k e => (row_ty a4 e).2.2
      have k3 : ∀ k, k < A1.heap.size → k ≠ w.heap.size → (Value.slice va j vc).ownBlock ≠ some k → A3.heap[k]? = A1.heap[k]? := fun k h1 h2 h3 => by
        rw [← hA3]
        exact (Below.heap_setCell _ _ _ _ h2).trans ((hg2.block k (by simp; omega) (fun e => h3 e.symm)).trans (Below.heap_alloc A1 _ _ h1))
      have s3 : A3.heap.size = w2.heap.size := by rw [← hA3]; exact set_size _ _ _
      have hl3' : A3.heap[W1.heap.size + 1]? = some (.loop rb) := (k3 _ (by omega) (by omega) (fun e => (hvn _ e).1 rfl)).trans (unhide HL1)
      have hx3 : Bx A3 w.heap.size #[.slice va2 (j + 1) vc2] 32 := by rw [← hA3]; exact (unhide HX2).set _
      have hv2 : ∀ k, (Value.slice va2 (j + 1) vc2).ownBlock = some k → k ≠ W1.heap.size + 1 ∧ k ≠ w.heap.size ∧ k ≠ W3.heap.size := fun k e => by
        rcases unhide HT2 with h | h
        · rw [h] at e; exact ⟨(hvn k e).1, (hvn k e).2.1, (hvn k e).2.2.2⟩
        · rw [h] at e; simp at e; omega
      have ho3 : A3.ownsRow w.heap.size 3 1 (.slice va2 (j + 1) vc2) (j + 1) (iv ((onceP ids).take (j + 1))) := by
        have : iv ((onceP ids).take (j + 1)) = iv ((onceP ids).take j) ++ [.int .i64 p] := by rw [List.take_add_one, hget]; simp [iv]
        rw [this]
        refine row_keep (unhide HO2) fun k e => ?_
        rw [← hA3]
        exact Below.heap_setCell _ _ _ _ (hv2 k e).2.1
      have h3os : A3.os = A.os := by rw [← hA3]; exact hg2.os.trans (hbk.os.trans a6.os.symm)
      have h3tape : A3.tape = A.tape := by rw [← hA3]; exact hg2.tape.trans (hbk.tape.trans a6.tape.symm)
      have h3out : A3.output = A.output := by rw [← hA3]; exact hg2.output.trans (hbk.output.trans a6.output.symm)
      rw [hA3]
      clear hA3
      have e7 : { rb with state := if (none : Option Code).isNone then LoopState.ready else LoopState.done, pending := none } = rc := hrb
      have ho : ∀ k, k ≠ W1.heap.size + 1 → (A3.putObj (W1.heap.size + 1) (.loop rc)).heap[k]? = A3.heap[k]? := fun k hk => World.putObj_heap_other hk
      have hlow : ∀ k, k < A.heap.size → k ≠ W1.heap.size + 1 → k ≠ w.heap.size → (Value.slice va j vc).ownBlock ≠ some k → (A3.putObj (W1.heap.size + 1) (.loop rc)).heap[k]? = A.heap[k]? := fun k h0 h1 h2 h3 => (ho k h1).trans ((k3 k (by omega) h2 h3).trans (hkk k h1))
      have hBB : Below w.heap.size A (A3.putObj (W1.heap.size + 1) (.loop rc)) := ⟨h3os, h3tape, h3out, by simp; omega, fun k hk => hlow k (by have := a6.size; omega) (by omega) (by omega) (fun e => by have := hvb k e; omega)⟩
      refine ⟨_, _, run_endRound none hl3', ?_, ?_, ⟨rfl, ?_⟩⟩
      · rw [e7]; exact hBB
      · rw [e7]; exact hlow _ (by omega) (by omega) (by omega) (fun e => (hvn _ e).2.2.2 rfl)
      · rw [e7]
        refine ⟨World.putObj_heap_same (by omega), (hlow _ (by omega) (by omega) (by omega) (fun e => ?_)).trans a2, ⟨_, (ho _ (by omega)).trans hx3, row_keep ho3 (fun k e => ho k (hv2 k e).1), fun k e => (hv2 k e).2.2⟩, a6.trans hBB, by simp; omega⟩
        have t := (row_ty a4 e).1
        simp [tyOf, a2] at t
  case post =>
    rintro e W' ⟨⟨u, rfl⟩, (⟨a1, a2, ⟨v, a3, a4, a5⟩, a6, a7⟩ | ⟨_, _, hx⟩)⟩
    · have hpe : rc.pending = none := by rw [← hrc]; rfl
      have hne : rc.state ≠ .busy := by rw [← hrc]; simp [recOf]
      have hend := run_endLoop (P := Tryz.prog) a1 hne
      rw [hpe] at hend
      refine ⟨none, _, hend, ?_⟩
      have hlw : W1.heap.size + 1 < W'.heap.size := (Array.getElem?_eq_some_iff.1 a1).1
      obtain ⟨W7, hW7⟩ : ∃ W7, W'.putObj (W1.heap.size + 1) (.loop { rc with state := .exhausted, pending := none }) = W7 := ⟨_, rfl⟩
      have hk7 : ∀ k, k ≠ W1.heap.size + 1 → W7.heap[k]? = W'.heap[k]? := fun k hk => by rw [← hW7]; exact World.putObj_heap_other hk
      have hB7 : Below w.heap.size w W7 := by
        rw [← hW7]
        exact a6.trans ((Below.refl _ W').grown (grownBy_putObj' W' (W1.heap.size + 1) _) a6.size (fun k e => by cases e; omega))
      rw [hW7]
      clear hW7 hend
      dsimp only
      have y1 : Bx W7 w.heap.size #[v] 32 := (hk7 _ (by omega)).trans a3
      have hvt : ∀ k, v.ownBlock = some k → k ≠ W1.heap.size + 1 ∧ k ≠ W1.heap.size := fun k e => by
        have t := (row_ty a4 e).1
        refine ⟨fun e' => ?_, fun e' => ?_⟩
        · subst e'; simp [tyOf, a1] at t
        · subst e'; simp [tyOf, a2] at t
      have ho7 : W7.ownsRow w.heap.size 3 1 v (onceP ids).length (iv (onceP ids)) := by
        have h := row_keep (W' := W7) a4 fun k e => hk7 k (hvt k e).1
        rw [List.take_length] at h
        exact h
      have hd7 : W7.heap[W1.heap.size]? = some (.deferred (some [])) := (hk7 _ (by omega)).trans a2
      have q1 := y1.cell 0 rfl
      have HD7 := hide hd7
      have HB7 := hide hB7
      have HO7 := hide ho7
      obtain ⟨va, vc, rfl⟩ : ∃ va vc, v = .slice va (onceP ids).length vc := by
        rcases ho7.2 with ⟨e, e'⟩ | ⟨g, cap, cur, e, _⟩
        · exact ⟨none, 0, by rw [e, e']⟩
        · exact ⟨_, _, e⟩
      have HZ3 := hide hz3
      clear hd7 hB7 y1 ho7 hz1 hz3
      gi_wp2
      have hz1 := unhide HZ1
      refine ⟨by simp, .inl ⟨_, _, rfl, run_takeDeferred (unhide HD7), ?_⟩⟩
      refine ⟨.slice va (onceP ids).length vc, ?_, ⟨_, rfl, ?_, ?_⟩⟩
      · simp [results, Tryz.results102, go_sem]
      · rw [iv_len]
        exact row_keep (unhide HO7) fun k e => World.putObj_heap_other (fun e' => (hvt k e).2 e')
      · exact (unhide HB7).trans ((Below.refl _ W7).grown (grownBy_putObj' W7 W1.heap.size _) (unhide HB7).size (fun k e => by cases e; omega))
    · exact hx.elim
end Go.Proofs.YticdaphajanbbaaGreatDoor
