/- apart's iterator; top, where none is any or unknown. -/
import Derived.Deep.Onto
import Derived.Test.YticdaphajanbbaaGreatDoorKR
namespace Go.Proofs.YticdaphajanbbaaGreatDoor
set_option linter.unusedSimpArgs false
set_option linter.unusedVariables false
set_option maxRecDepth 100000
set_option maxHeartbeats 4000000
open Go.RowKit Go.Shelf

variable {P : Program} {lo M : Nat} {mo : Option Nat} {dv : Value} {L : List Kt} {W : World}
theorem ranged_l (w : World) (r : Loop) : (ranged w r).heap[w.heap.size + 1]? = some (.loop r) := by
  have := World.alloc_heap_new (w.alloc (.deferred (some []))) (.loop r)
  rw [World.size_alloc] at this
  exact this
theorem ranged_d (w : World) (r : Loop) : (ranged w r).heap[w.heap.size]? = some (.deferred (some [])) := (Below.heap_alloc _ _ _ (by simp)).trans (World.alloc_heap_new w _)
theorem ranged_size (w : World) (r : Loop) : (ranged w r).heap.size = w.heap.size + 1 + 1 := by simp [ranged]
theorem ranged_below (w : World) (r : Loop) : Below w.heap.size w (ranged w r) := ((Below.refl _ w).alloc (Nat.le_refl _) _).alloc (by simp) _
theorem grownBy_putObj' (w : World) (k : Nat) (o : Obj) : w.grownBy (w.putObj k o) (some k) := ⟨rfl, rfl, rfl, by simp, fun i _ hne => World.putObj_heap_other (fun e => hne (by rw [e]))⟩
theorem enter141 : ∀ args w, (callFunc 100 args).run Tryz.prog w = .ok (.enter 100 args) w := enters_of Tryz.func100 (by kernel_rfl) rfl
/-- apart gives a function value over two boxes. -/
def ApartQ (M : Nat) (pv : Value) (W : World) (e : Ending) (w' : World) : Prop := e = .returned (.func (.func 100) #[] #[.pointer (some ⟨W.heap.size, 0, none⟩), .pointer (some ⟨W.heap.size + 1, 0, none⟩)]) ∧ Bx w' W.heap.size #[.pointer (some ⟨M, 0, none⟩)] 28 ∧ Bx w' (W.heap.size + 1) #[pv] 32 ∧ Below W.heap.size W w'
theorem apart_any (M : Nat) (a : Option Addr) (n c : Nat) (W : World) : Calls Tryz.prog 73 #[.pointer (some ⟨M, 0, none⟩), .slice a n c] W (ApartQ M (.slice a n c) W) := by
  go_enter Tryz.func73, Tryz.ntmps73
  go_wp2
  go_ret
  refine ⟨rfl, ?_, ?_, ((Below.refl _ W).alloc (Nat.le_refl _) _).alloc (by simp) _⟩
  · exact (Below.heap_alloc _ _ _ (by simp)).trans (al_at W _)
  · have := al_at (W.alloc (.cells #[.pointer (some ⟨M, 0, none⟩)] 28)) (.cells #[.slice a n c] 32)
    simpa [Bx] using this
theorem apart1_in (n : Nat) (hn : 2 ≤ n) (lp b1 b2 : Nat) (ids : List Int) (W0 W : World) (J Jx : Nat → World → Prop) (pa : Option Addr) (pc : Nat)
    (hA : AAt Tryz.prog lo M mo dv L W0) (hp : RowR 3 W0 (.slice pa ids.length pc) (iv ids)) (hf : Flat L ids) (hl : ids.length ≤ 1000000000)
    (hW : Below W0.heap.size W0 W) (hb1 : Bx W b1 #[.pointer (some ⟨M, 0, none⟩)] 28) (hb2 : Bx W b2 #[.slice pa ids.length pc] 32)
    (hJ : ∀ j A B, J j A → A.grownBy B (some W.heap.size) → J j B)
    (hY : ∀ j A p, J j A → (onceP ids)[j]? = some p → W.heap.size < A.heap.size → YieldAt Fence.wide (n - 1 - 1) Tryz.prog lp #[.int .i64 p] A fun e A' => Below W0.heap.size A A' ∧ A'.heap[W.heap.size]? = A.heap[W.heap.size]? ∧ ((e = .returned (.bool true) ∧ J (j + 1) A') ∨ (e = .returned (.bool false) ∧ Jx (j + 1) A')))
    (h0 : J 0 W) :
    CallsIn Fence.wide n Tryz.prog 100 #[.func (.yield lp) #[] #[], .pointer (some ⟨b1, 0, none⟩), .pointer (some ⟨b2, 0, none⟩)] W fun e W' => (∃ v, e = .returned v) ∧ (J (onceP ids).length W' ∨ ∃ j, j ≤ (onceP ids).length ∧ Jx j W') := by
  have hcall := each_flat (n - 1) (by omega) lp W.heap.size W0.heap.size ids W0 (W.alloc (.map #[] 0)) J Jx (.slice pa ids.length pc) hA rfl hp hf hl (hW.alloc hW.size _) (Nat.le_trans hW.size (by simp)) (World.ownsMap_made _ _ _ _) hW.size hJ (fun j A p h1 h2 h3 => hY j A p h1 h2 (by simp at h3; omega)) (hJ 0 _ _ h0 (World.grownBy_alloc _ _ _))
  have HC := hide hcall
  have c1 := hb1.cell 0 rfl
  have c2 := hb2.cell 0 rfl
  have l1 := hb1.lt
  have l2 := hb2.lt
  have hmm := @run_makeMap Tryz.prog
  have hn1 : 1 ≤ n := by omega
  clear hcall hA hp hf hJ hY h0 hb1 hb2 hW
  refine callsIn_of_wp Tryz.func100 rfl trivial ?_ rfl
  simp only [Tryz.ntmps100, List.size_toArray, List.length_cons, List.length_nil, Nat.reduceAdd, Nat.reduceSub, Array.replicate_succ, Array.replicate_zero, List.push_toArray, List.append_toArray, List.nil_append, List.cons_append]
  gi_wp2_with (first
    | (refine ⟨trivial, ?_⟩
       gi_at_call 101
       refine (unhide HC).mono ?_
       rintro e w2 ⟨⟨b, rfl⟩, h2⟩))
  exact bodyPost_end (results_none rfl _ _ _) rfl ⟨⟨_, rfl⟩, h2⟩
end Go.Proofs.YticdaphajanbbaaGreatDoor
