/- Towards the law: PE. -/
import Derived.Defers
import Derived.Recover
import Derived.Test.YtofgphapjjofnaaGreatDoorVH
set_option linter.unusedSimpArgs false
set_option linter.unusedVariables false
set_option maxRecDepth 100000
set_option maxHeartbeats 8000000
namespace Go.Proofs.YtofgphapjjofnaaGreatDoor
section
open Go.RowKit Go.Shelf
theorem ta_nil (w : World) : (Instr.typeAssert .nilIface 20 95 true).run Tryz.prog w = .ok (.tuple #[.agg #[], .bool false]) w := by kernel_rfl
theorem ta_ref (w : World) : (Instr.typeAssert (.iface 95 (.agg #[])) 20 95 true).run Tryz.prog w = .ok (.tuple #[.agg #[], .bool true]) w := by kernel_rfl
theorem att_idle (w : World) : CallsD Tryz.prog 57 #[] .returning w fun e u' w' => e = .returned (.tuple #[]) ∧ u' = .returning ∧ Below w.heap.size w w' := by
 have h1 := ta_nil;refine callsD_of_wpS Tryz.func57 rfl fun c₀ cs hu => ?_
 apply wpS_seq
 apply wpS_region
 simp [wpOpsS, go_sem, recoverD, hu, Tryz.ntmps57, Exit.thenS];refine wpS_of_wp ?_;simp only [Array.replicate_succ, Array.replicate_zero, List.push_toArray, List.nil_append, List.cons_append, List.setIfInBounds_toArray, List.set_cons_zero, List.set_cons_succ];go_wp2;have hb : Below w.heap.size w (w.alloc (.cells #[] 95)) := (Below.refl _ w).alloc NL _;cases c₀;simp_all [bodyPostS, results, Tryz.results57]
theorem att_pan (w : World) : CallsD Tryz.prog 57 #[] (.panicking refC) w fun e u' w' => e = .returned (.tuple #[]) ∧ u' = .panicking [{ v := .iface 95 (.agg #[]), recovered := true }] ∧ Below w.heap.size w w' := by
 have h1 := ta_ref;unfold refC;refine callsD_of_wpS Tryz.func57 rfl fun c₀ cs hu => ?_
 apply wpS_seq
 apply wpS_region
 simp [wpOpsS, go_sem, recoverD, hu, Tryz.ntmps57, Exit.thenS];refine wpS_of_wp ?_;simp only [Array.replicate_succ, Array.replicate_zero, List.push_toArray, List.nil_append, List.cons_append, List.setIfInBounds_toArray, List.set_cons_zero, List.set_cons_succ];have hb : Below w.heap.size w (w.alloc (.cells #[] 95)) := (Below.refl _ w).alloc NL _;go_wp2;simp_all [bodyPostS, results, Tryz.results57]
def AttQ (R1 R2 : World → Prop) (e : Ending) (w : World) : Prop := (e = .returned (.tuple #[]) ∧ R1 w) ∨ (e = .panicked refC ∧ R2 w)
theorem attempt_any (g : Nat) (first caps : Array Value) (W : World) (R1 R2 : World → Prop) (hent : ∀ args w, (callFunc g args).run Tryz.prog w = .ok (.enter g args) w)
 (H : Calls Tryz.prog g (first ++ caps) W (AttQ R1 R2)) :
 Calls Tryz.prog 27 #[.func (.func g) first caps] W fun e w' => (e = .returned (.bool true) ∧ ∃ w1, R1 w1 ∧ Below w1.heap.size w1 w') ∨ (e = .returned (.bool false) ∧ ∃ w1, R2 w1 ∧ Below w1.heap.size w1 w') := by
 have HH := Hi H;clear H;go_enter_defers Tryz.func27, Tryz.ntmps27;go_wp2;refine (U HH).mono ?_;rintro e w1 (⟨rfl, h1⟩ | ⟨rfl, h1⟩)
 · have H1 := Hi h1
   clear h1;go_wp2;refine leaves_cons (f := 57) (args := #[]) (by simp) (by simp [go_sem]) ?_;refine (att_idle w1).mono ?_;rintro e u' w'' ⟨rfl, rfl, hb⟩;have h2 : ∃ w1, R1 w1 ∧ Below w1.heap.size w1 w'' := ⟨w1, U H1, hb⟩;simp [Leaves, settle, results, Tryz.results27, go_sem];exact h2
 · have H1 := Hi h1
   clear h1;go_wp2;refine leaves_cons (f := 57) (args := #[]) (by simp) (by simp [go_sem]) ?_;refine (att_pan w1).mono ?_;rintro e u' w'' ⟨rfl, rfl, hb⟩;have h2 : ∃ w1, R2 w1 ∧ Below w1.heap.size w1 w'' := ⟨w1, U H1, hb⟩;simp [Leaves, settle, results, Tryz.results27, go_sem];exact h2
end
end Go.Proofs.YtofgphapjjofnaaGreatDoor
