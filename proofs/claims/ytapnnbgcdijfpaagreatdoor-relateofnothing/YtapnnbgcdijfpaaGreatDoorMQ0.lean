/- The reference's Same and made of two of the ten. -/
import Derived.Deep.QuietTactic
import Derived.BigQuiet
import Derived.Laws.Rows
import Derived.Test.YtapnnbgcdijfpaaGreatDoorMI
import Derived.Test.YtapnnbgcdijfpaaGreatDoorMP
namespace Go.Proofs.YtapnnbgcdijfpaaGreatDoor
set_option linter.unusedSimpArgs false
set_option linter.unusedVariables false
set_option maxRecDepth 100000
set_option maxHeartbeats 4000000
open Go.RowKit Go.Shelf

variable {P : Program} {lo M : Nat} {mo : Option Nat} {dv : Value} {L : List Kt} {W : World}
theorem op_call1 {P : Program} {ops : Array Oper} {Q : Exit → Act → World → Prop} {i : Nat} {o : Oper} {K : Act → World → Prop} {a : Act} {w : World} (hi : ops[i]? = some o) (hg : o.guard = none) (f : Nat) (hf : ∀ args u, (callFunc f args).run P u = .ok (.enter f args) u) (x : Operand) (ts : Array TypeId) (ho : o.op = .call { callee := .value (.func f), args := #[x], argTypes := ts }) (X : Value) (hx : a.eval x = X) (post : Ending → World → Prop) (hc : Calls P f #[X] w post)
    (hK : ∀ e w', post e w' → ∃ v, e = .returned v ∧ K (a.put o.dst v) w') : wpOp P ops Q i K a w := by
  have hw : Region.wanted o (yielded ops a.tmps) = true := by simp [Region.wanted, hg]
  unfold wpOp
  simp only [hi, hw, if_true]
  refine .inl ?_
  have hr : (execOp a.eval o).run P w = .ok (.enter f #[X]) w := by
    simp [execOp, ho, resolve, invoke, Deferred.ofValue, hx, hf, show a.eval (.func f) = .func (.func f) #[] #[] from rfl, Result.andThen]
  unfold Oper.wp
  rw [hr, Oper.upon_enter]
  refine hc.mono fun e w' h => ?_
  obtain ⟨v, rfl, hk⟩ := hK e w' h
  exact hk
theorem op_store {P : Program} {ops : Array Oper} {Q : Exit → Act → World → Prop} {i : Nat} {o : Oper} {K : Act → World → Prop} {a : Act} {w : World} (hi : ops[i]? = some o) (hg : o.guard = none) (ty : TypeId) (x y : Operand) (ho : o.op = .store ty x y) (g : Nat) (cells : Array Value) (hx : a.eval x = .pointer (some ⟨g, 0, none⟩)) (hy : a.eval y = .agg cells) (t : TypeId) (old : Array Value) (hb : Bx w g old t) (n : Nat) (hn : (P.info? ty).map (·.size) = some n) (ho' : old.size = n) (hc : cells.size = n) (h1 : cells.all (·.oneCell') = true) (h : K (a.put o.dst undef) (w.setRow g cells)) : wpOp P ops Q i K a w :=
  op_wp hi hg (wp_store_row ty x y ho g cells hx hy t old hb (by rw [hc]; exact hn) (by rw [ho', hc]) h1 h)
theorem cf127 (args : Array Value) (u : World) : (callFunc 127 args).run Tryz.prog u = .ok (.enter 127 args) u := by kernel_rfl
theorem run_ld55 {a : Act} {o : Oper} {w : World} (x : Operand) (ho : o.op = .load 55 x) (B : Nat) (hx : a.eval x = .pointer (some ⟨B, 0, none⟩)) (cs : Array Value) (hb : Bx w B cs 55) (hs : cs.size = 6) : (execOp a.eval o).run Tryz.prog w = .ok (.value (.agg cs)) w := by
  have hi : (Tryz.prog.info? 55).map (·.size) = some cs.size := by rw [hs]; exact info55
  unfold execOp
  simp only [ho, hx, Instr.loadAt, Instr.sureAddr, Sem.run_bind, Sem.run_pure, Result.andThen_ok, run_loadVar_row w B 55 55 cs (0, 0) _ hb Tryz.underlying55 rfl hi]
theorem run_add9 {a : Act} {o : Oper} {w : World} (x y : Operand) (ho : o.op = .binOp .add 9 x y 9) (s t : ByteArray) (hx : a.eval x = .string s) (hy : a.eval y = .string t) (hs : s.size ≤ 100) (ht : t.size ≤ 100) : (execOp a.eval o).run Tryz.prog w = .ok (.value (.string (s ++ t))) w := by
  simp only [execOp, ho, hx, hy]
  simp [go_sem]
  omega
def pK (a b : Nat) (s : ByteArray) : Array Value := #[.int .i64 (a : Int), .int .i64 0, .string ⟨#[]⟩, .slice none 0 0, .slice none 0 0, .slice none 0 0, .int .i64 (b : Int), .int .i64 0, .string ⟨#[]⟩, .slice none 0 0, .slice none 0 0, .slice none 0 0, .string s]
theorem built149 (a b : Nat) (s : ByteArray) : Tryz.prog.built 149 [(0, .agg (tK a)), (1, .agg (tK b)), (2, .string s)] = some (pK a b s) := by kernel_rfl
theorem info149 : (Tryz.prog.info? 149).map (·.size) = some 13 := by kernel_rfl
theorem bare_size (k : Nat) (h : k ≤ 10) : (bareW k).size ≤ 9 := by
  have hc : k = 0 ∨ k = 1 ∨ k = 2 ∨ k = 3 ∨ k = 4 ∨ k = 5 ∨ k = 6 ∨ k = 7 ∨ k = 8 ∨ k = 9 ∨ k = 10 := by omega
  rcases hc with rfl | rfl | rfl | rfl | rfl | rfl | rfl | rfl | rfl | rfl | rfl <;> decide
theorem bare_eq : ∀ a : Fin 11, ∀ b : Fin 11, decide (bareW a = bareW b) = decide (a = b) := by decide +kernel
theorem run_bd149 {a : Act} {o : Oper} {w : World} (x y z : Operand) (ho : o.op = .build 149 #[(0, x), (1, y), (2, z)]) (p q : Nat) (s : ByteArray) (hx : a.eval x = .agg (tK p)) (hy : a.eval y = .agg (tK q)) (hz : a.eval z = .string s) : (execOp a.eval o).run Tryz.prog w = .ok (.value (.agg (pK p q s))) w := by
  unfold execOp
  simp only [ho]
  have := run_build (P := Tryz.prog) w 149 #[(0, a.eval x), (1, a.eval y), (2, a.eval z)] (pK p q s) (by rw [hx, hy, hz]; exact built149 p q s)
  simp [this, Result.andThen]
def om_0 (ps : String) : Oper := { dst := some 5, op := .load 55 (.tmp 2), type := 55, pos := ps, after := #[], guard := none }
def om_1 (ps : String) : Oper := { dst := some 6, op := .load 55 (.tmp 3), type := 55, pos := ps, after := #[], guard := none }
def om_2 (ps : String) : Oper := { dst := some 7, op := .load 55 (.tmp 2), type := 55, pos := ps, after := #[], guard := none }
def om_3 (ps : String) : Oper := { dst := some 8, op := .call { callee := .value (.func 127), args := #[.tmp 7], argTypes := #[55] }, type := 9, pos := ps, after := #[{ on := 2, ground := .data }], guard := none }
def om_4 (ps : String) : Oper := { dst := some 9, op := .binOp .add 9 (.tmp 8) (.const (.string { data := #[32, 58, 32] })) 9, type := 9, pos := ps, after := #[{ on := 3, ground := .data }], guard := none }
def om_5 (ps : String) : Oper := { dst := some 10, op := .load 55 (.tmp 3), type := 55, pos := ps, after := #[], guard := none }
def om_6 (ps : String) : Oper := { dst := some 11, op := .call { callee := .value (.func 127), args := #[.tmp 10], argTypes := #[55] }, type := 9, pos := ps, after := #[{ on := 5, ground := .data }, { on := 3, ground := .chain }], guard := none }
def om_7 (ps : String) : Oper := { dst := some 12, op := .binOp .add 9 (.tmp 9) (.tmp 11) 9, type := 9, pos := ps, after := #[{ on := 4, ground := .data }, { on := 6, ground := .data }], guard := none }
def om_8 (ps : String) : Oper := { dst := some 13, op := .build 149 #[(0, .tmp 5), (1, .tmp 6), (2, .tmp 12)], type := 149, pos := ps, after := #[{ on := 0, ground := .data }, { on := 1, ground := .data }, { on := 7, ground := .data }], guard := none }
def om_9 (ps : String) : Oper := { dst := none, op := .store 149 (.tmp 4) (.tmp 13), type := 0, pos := ps, after := #[{ on := 8, ground := .data }, { on := 6, ground := .chain }, { on := 0, ground := .phase }, { on := 1, ground := .phase }, { on := 2, ground := .phase }, { on := 3, ground := .phase }, { on := 4, ground := .phase }, { on := 5, ground := .phase }, { on := 6, ground := .phase }, { on := 7, ground := .phase }, { on := 8, ground := .phase }], guard := none }
def opsM (ps : String) : List Oper := [om_0 ps, om_1 ps, om_2 ps, om_3 ps, om_4 ps, om_5 ps, om_6 ps, om_7 ps, om_8 ps, om_9 ps]
theorem im_0 (ps : String) : (opsM ps).toArray[0]? = some (om_0 ps) := rfl
theorem im_1 (ps : String) : (opsM ps).toArray[1]? = some (om_1 ps) := rfl
theorem im_2 (ps : String) : (opsM ps).toArray[2]? = some (om_2 ps) := rfl
theorem im_3 (ps : String) : (opsM ps).toArray[3]? = some (om_3 ps) := rfl
theorem im_4 (ps : String) : (opsM ps).toArray[4]? = some (om_4 ps) := rfl
theorem im_5 (ps : String) : (opsM ps).toArray[5]? = some (om_5 ps) := rfl
theorem im_6 (ps : String) : (opsM ps).toArray[6]? = some (om_6 ps) := rfl
theorem im_7 (ps : String) : (opsM ps).toArray[7]? = some (om_7 ps) := rfl
theorem im_8 (ps : String) : (opsM ps).toArray[8]? = some (om_8 ps) := rfl
theorem im_9 (ps : String) : (opsM ps).toArray[9]? = some (om_9 ps) := rfl
end Go.Proofs.YtapnnbgcdijfpaaGreatDoor
