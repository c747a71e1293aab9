/- The parts of a type, one by one. -/
import Derived.Test.YticdaphajanbbaaGreatDoorNC
import Derived.Test.YticdaphajanbbaaGreatDoorKU
namespace Go.Proofs.YticdaphajanbbaaGreatDoor
set_option linter.unusedSimpArgs false
set_option linter.unusedVariables false
set_option maxRecDepth 100000
set_option maxHeartbeats 4000000
open Go.RowKit Go.Shelf

variable {P : Program} {lo M : Nat} {mo : Option Nat} {dv : Value} {L : List Kt} {W : World}
/-- A function value over the boxes of a part and of an arena. -/
def PartsQ (ar : Option Addr) (k : Kt) (id : Int) (W : World) (e : Ending) (w' : World) : Prop := ∃ (p : Pt) (b1 : Nat), e = .returned (.func (.func 27) #[] #[.pointer (some ⟨b1, 0, none⟩), .pointer (some ⟨W.heap.size, 0, none⟩)]) ∧ p.k = k.kind ∧ p.a = k.parts.length ∧ p.id = id ∧ Bx w' b1 p.v 38 ∧ Bx w' W.heap.size #[.pointer ar] 28 ∧ RowR 3 w' (.slice p.pa p.a p.b) (iv k.parts) ∧ Below W.heap.size W w'
theorem partsOf_of (ar : Option Addr) (k : Kt) (id : Int) (hP : ∀ w, Below W.heap.size W w → Calls Tryz.prog 18 #[.pointer ar, .int .i64 id] w (PartQ k id w)) : Calls Tryz.prog 11 #[.pointer ar, .int .i64 id] W (PartsQ ar k id W) := by
  obtain ⟨W1, hW1⟩ : ∃ W1, W.alloc (.cells #[.pointer ar] 28) = W1 := ⟨_, rfl⟩
  have hb1 : Below W.heap.size W W1 := by rw [← hW1]; exact (Below.refl _ W).alloc (Nat.le_refl _) _
  have hx1 : Bx W1 W.heap.size #[.pointer ar] 28 := by rw [← hW1]; exact al_at W _
  have HP := hide (hP W1 hb1)
  have HB1 := hide hb1
  have HX1 := hide hx1
  have c0 := hx1.cell 0 rfl
  have l0 := hx1.lt
  clear hb1 hx1 hP
  go_enter Tryz.func11, Tryz.ntmps11
  go_wp2_with (first
    | (go_at_call 18
       refine (unhide HP).mono ?_
       rintro e w2 ⟨⟨k', n, t, pa, a, b, na, c, d, ma, x, f, i'⟩, rfl, hk, ha, hi, hr, hb2⟩
       have HK := hide hk
       have HA := hide ha
       have HI := hide hi
       have HR := hide hr
       have HX2 := hide ((unhide HX1).below hb2 (unhide HX1).lt)
       have HB2 := hide ((unhide HB1).trans (hb2.mono (unhide HB1).size))
       unfold Pt.v
       dsimp only
       clear hk ha hi hr hb2 HP)
    | (have hb3 := unhide HB2
       refine wpList_store_row rfl 38 _ _ rfl w2.heap.size _ rfl rfl 38 _ (al_at w2 _) info38 rfl (one7 ⟨_, _, _, _, _, _, _, _, _, _, _, _, _⟩) ?_))
  go_ret
  have hx2 := unhide HX2
  have hl2 := hx2.lt
  refine ⟨⟨k', n, t, pa, a, b, na, c, d, ma, x, f, i'⟩, w2.heap.size, rfl, unhide HK, unhide HA, unhide HI, setRow_heap _ _ _ _ _ _ (al_at w2 _), (heap_setRow_ne _ _ _ _ (by omega)).trans ((Below.heap_alloc _ _ _ hl2).trans hx2), ?_, below_row ((unhide HB2).alloc (unhide HB2).size _) (unhide HB2).size _⟩
  exact ((unhide HR).below ((Below.refl _ w2).alloc (Nat.le_refl _) _)).row (al_at w2 _) (by omega) _
theorem cells7 {w : World} {b t : Nat} {x0 x1 x2 x3 x4 x5 x6 : Value} (h : Bx w b #[x0, x1, x2, x3, x4, x5, x6] t) : w.cell? ⟨b, 0, none⟩ = some x0 ∧ w.cell? ⟨b, 1, none⟩ = some x1 ∧ w.cell? ⟨b, 2, none⟩ = some x2 ∧ w.cell? ⟨b, 3, none⟩ = some x3 ∧ w.cell? ⟨b, 4, none⟩ = some x4 ∧ w.cell? ⟨b, 5, none⟩ = some x5 ∧ w.cell? ⟨b, 6, none⟩ = some x6 :=
  ⟨h.cell 0 rfl, h.cell 1 rfl, h.cell 2 rfl, h.cell 3 rfl, h.cell 4 rfl, h.cell 5 rfl, h.cell 6 rfl⟩
theorem enter27 : ∀ args w, (callFunc 27 args).run Tryz.prog w = .ok (.enter 27 args) w := enters_of Tryz.func27 (by kernel_rfl) rfl
/-- One that is no union. -/
theorem parts_one (n : Nat) (hn : 2 ≤ n) (lp b1 b2 : Nat) (p : Pt) (W : World) (R : World → Prop) (hk : p.k ≠ 16) (hM : Bx W b1 p.v 38)
    (hY : YieldAt Fence.wide (n - 1) Tryz.prog lp #[.agg p.v] W fun e A' => e = .returned (.bool true) ∧ R A') :
    CallsIn Fence.wide n Tryz.prog 27 #[.func (.yield lp) #[] #[], .pointer (some ⟨b1, 0, none⟩), .pointer (some ⟨b2, 0, none⟩)] W fun e W' => (∃ v, e = .returned v) ∧ R W' := by
  obtain ⟨k, m, t, pa, a, b, na, c, d, ma, x, f, id⟩ := p
  dsimp only at hk
  unfold Pt.v at hM hY
  dsimp only at hM hY
  obtain ⟨fn, tm, asg, bd, hy, hRd⟩ := hY
  have HRD := hide hRd
  have HM := hide hM
  obtain ⟨c0, c1, c2, c3, c4, c5, c6⟩ := cells7 hM
  have l0 := hM.lt
  have k16 : (k == 16) = false := by simpa using hk
  have hn1 : 1 ≤ n := by omega
  clear hRd hM hk
  refine callsIn_of_wp Tryz.func27 rfl trivial ?_ rfl
  simp only [Tryz.ntmps27, List.size_toArray, List.length_cons, List.length_nil, Nat.reduceAdd, Nat.reduceSub, Array.replicate_succ, Array.replicate_zero, List.push_toArray, List.append_toArray, List.nil_append, List.cons_append]
  gi_wp2
  refine (unhide HRD).mono ?_
  rintro e W6 ⟨rfl, hR⟩
  have HR := hide hR
  clear hR HRD hy
  gi_wp2
  exact bodyPost_ret (results_none rfl _ _ _) rfl ⟨⟨_, rfl⟩, unhide HR⟩
/-- A union's. -/
theorem parts_union (n : Nat) (hn : 2 ≤ n) (lp b1 b2 : Nat) (p : Pt) (ps : List Int) (ar : Option Addr) (W : World) (J : Nat → World → Prop) (G : Nat → Pt → Prop) (hk : p.k = 16) (ha : p.a = ps.length) (hl : ps.length ≤ 1000000)
    (hM : ∀ j A, J j A → Bx A b1 p.v 38 ∧ Bx A b2 #[.pointer ar] 28 ∧ RowR 3 A (.slice p.pa p.a p.b) (iv ps))
    (hP : ∀ j A i, J j A → ps[j]? = some i → Calls Tryz.prog 18 #[.pointer ar, .int .i64 i] A fun e A' => ∃ q : Pt, e = .returned (.agg q.v) ∧ G j q ∧ J j A')
    (hY : ∀ j A q, J j A → G j q → j < ps.length → YieldAt Fence.wide (n - 1) Tryz.prog lp #[.agg q.v] A fun e A' => e = .returned (.bool true) ∧ J (j + 1) A')
    (h0 : J 0 W) :
    CallsIn Fence.wide n Tryz.prog 27 #[.func (.yield lp) #[] #[], .pointer (some ⟨b1, 0, none⟩), .pointer (some ⟨b2, 0, none⟩)] W fun e W' => (∃ v, e = .returned v) ∧ J ps.length W' := by
  obtain ⟨k, m, t, pa, a, b, na, c, d, ma, x, f, id⟩ := p
  dsimp only at hk ha
  subst hk ha
  unfold Pt.v at hM
  dsimp only at hM
  obtain ⟨hm0, -⟩ := hM 0 W h0
  obtain ⟨c0, c1, c2, c3, c4, c5, c6⟩ := cells7 hm0
  have l0 := hm0.lt
  have HM := hide hM
  have HP := hide hP
  have HY := hide hY
  have H0 := hide h0
  have hn1 : 1 ≤ n := by omega
  clear hm0 hM hP hY h0
  refine callsIn_of_wp Tryz.func27 rfl trivial ?_ rfl
  simp only [Tryz.ntmps27, List.size_toArray, List.length_cons, List.length_nil, Nat.reduceAdd, Nat.reduceSub, Array.replicate_succ, Array.replicate_zero, List.push_toArray, List.append_toArray, List.nil_append, List.cons_append]
  gi_wp2
  gi_loopw [17] (fun t wr => ∃ i : Nat, i ≤ ps.length ∧ t = .int .i64 (i : Int) ∧ J i wr) (fun t _ => ps.length - (intOf t).toNat)
  case atStart => exact ⟨0, Nat.zero_le _, rfl, unhide H0⟩
  case round =>
    obtain ⟨i, hil, rfl, hj⟩ := hrel
    have HJI := hide hj
    clear hj c0 c1 c2 c3 c4 c5 c6 l0
    obtain ⟨w0, hw0⟩ : ∃ w0, w0 = wr := ⟨_, rfl⟩
    subst hw0
    by_cases hlt : i < ps.length
    · obtain ⟨p, hpi⟩ : ∃ p, ps[i]? = some p := ⟨_, List.getElem?_eq_getElem hlt⟩
      obtain ⟨hm1, hm2, hm3⟩ := unhide HM i w0 (unhide HJI)
      rw [← iv_len] at hm3
      obtain ⟨bb, o, rfl, cp, hbl⟩ := hm3.int hpi
      have d0 := hm2.cell 0 rfl
      have m0 := hm2.lt
      have HPI := hide hpi
      clear hm1 hm2 hm3 hpi
      gi_wp2_with (first
        | (refine ⟨trivial, ?_⟩
           gi_at_call 18
           refine (callsIn_wide.2 (unhide HP i w0 p (unhide HJI) (unhide HPI))).mono ?_
           rintro e w3 ⟨q, rfl, hG, hJ3⟩
           obtain ⟨fn, tm, asg, bd, hy, hRd⟩ := unhide HY i w3 q hJ3 hG hlt
           have HRD := hide hRd
           clear hRd hG hJ3))
      refine (unhide HRD).mono ?_
      rintro e W6 ⟨rfl, hR⟩
      have HR := hide hR
      clear hR HRD hy
      gi_wp2
      exact ⟨⟨i + 1, by omega, by go_num, unhide HR⟩, by simp [intOf]; omega⟩
    · have hie : i = ps.length := by omega
      subst hie
      gi_wp2
      exact bodyPost_end (results_none rfl _ _ _) rfl ⟨⟨_, rfl⟩, unhide HJI⟩
end Go.Proofs.YticdaphajanbbaaGreatDoor
