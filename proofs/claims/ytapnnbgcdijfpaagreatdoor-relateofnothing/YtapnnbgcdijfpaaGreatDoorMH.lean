/- A region with two calls and two new structs: every order, by one state for each set of what has come up. -/
import Derived.OrdersHeld
import Derived.Deep.RegionHeld3
import Derived.Test.YtapnnbgcdijfpaaGreatDoorMG
namespace Go.Proofs.YtapnnbgcdijfpaaGreatDoor
set_option linter.unusedSimpArgs false
set_option linter.unusedVariables false
set_option maxRecDepth 100000
set_option maxHeartbeats 4000000
open Go.RowKit Go.Shelf

/-- Blocks from a base on stay. -/
structure Stay (base : Nat) (w w' : World) : Prop where
  size : w.heap.size ≤ w'.heap.size
  block : ∀ k, base ≤ k → k < w.heap.size → w'.heap[k]? = w.heap[k]?
theorem Stay.refl (base : Nat) (w : World) : Stay base w w := ⟨Nat.le_refl _, fun _ _ _ => rfl⟩
theorem Stay.trans {base : Nat} {a b c : World} (h : Stay base a b) (k : Stay base b c) : Stay base a c := ⟨Nat.le_trans h.size k.size, fun i hi hl => (k.block i hi (Nat.lt_of_lt_of_le hl h.size)).trans (h.block i hi hl)⟩
theorem Stay.alloc (base : Nat) (w : World) (o : Obj) : Stay base w (w.alloc o) := ⟨by simp, fun k _ hk => by show (w.heap.push o)[k]? = _; rw [Array.getElem?_push, if_neg (by omega)]⟩
theorem Stay.row {base : Nat} {w u : World} (h : Stay base w u) {g : Nat} (hg : w.heap.size ≤ g) (cs : Array Value) : Stay base w (u.setRow g cs) := ⟨by simpa using h.size, fun k hk hl => (heap_setRow_ne u g k cs (by omega)).trans (h.block k hk hl)⟩
theorem Stay.bx {base b t : Nat} {w w' : World} {cs : Array Value} (h : Stay base w w') (hb : base ≤ b) (hx : Bx w b cs t) : Bx w' b cs t := (h.block b hb hx.lt).trans hx
theorem ev_ne (a : Act) (d t : Nat) (v : Value) (h : d ≠ t) : (a.put (some d) v).eval (.tmp t) = a.eval (.tmp t) := by
  simp [Act.eval, Act.put, Array.getElem?_setIfInBounds_ne h]
theorem ev_eq (a : Act) (d : Nat) (v : Value) (h : d < a.tmps.size) : (a.put (some d) v).eval (.tmp d) = v := by
  simp [Act.eval, Act.put, h]
theorem sz_put (a : Act) (d : Option Tmp) (v : Value) : (a.put d v).tmps.size = a.tmps.size := by cases d <;> simp [Act.put]
/-- A call of a Go function, as one step of a region that draws. -/
theorem op_call {P : Program} {ops : Array Oper} {Q : Exit → Act → World → Prop} {i : Nat} {o : Oper} {K : Act → World → Prop} {a : Act} {w : World} (hi : ops[i]? = some o) (hg : o.guard = none) (f : Nat) (hf : ∀ args u, (callFunc f args).run P u = .ok (.enter f args) u) (x y : Operand) (ts : Array TypeId) (ho : o.op = .call { callee := .value (.func f), args := #[x, y], argTypes := ts }) (X Y : Value) (hx : a.eval x = X) (hy : a.eval y = Y) (post : Ending → World → Prop) (hc : Calls P f #[X, Y] w post)
    (hK : ∀ e w', post e w' → ∃ v, e = .returned v ∧ K (a.put o.dst v) w') : wpOp P ops Q i K a w := by
  have hw : Region.wanted o (yielded ops a.tmps) = true := by simp [Region.wanted, hg]
  unfold wpOp
  simp only [hi, hw, if_true]
  refine .inl ?_
  have hr : (execOp a.eval o).run P w = .ok (.enter f #[X, Y]) w := by
    simp [execOp, ho, resolve, invoke, Deferred.ofValue, hx, hy, hf, show a.eval (.func f) = .func (.func f) #[] #[] from rfl, Result.andThen]
  unfold Oper.wp
  rw [hr, Oper.upon_enter]
  refine hc.mono fun e w' h => ?_
  obtain ⟨v, rfl, hk⟩ := hK e w' h
  exact hk
theorem op_wp {P : Program} {ops : Array Oper} {Q : Exit → Act → World → Prop} {i : Nat} {o : Oper} {K : Act → World → Prop} {a : Act} {w : World} (hi : ops[i]? = some o) (hg : o.guard = none) (h : Oper.wp P o a w K Q) : wpOp P ops Q i K a w := by
  have hw : Region.wanted o (yielded ops a.tmps) = true := by simp [Region.wanted, hg]
  unfold wpOp
  simp only [hi, hw, if_true]
  exact .inl h
theorem run_mv {P : Program} {a : Act} {o : Oper} {w : World} (x : Operand) (ho : o.op = .move x) (v : Value) (hx : a.eval x = v) : (execOp a.eval o).run P w = .ok (.value v) w := by
  simp [execOp, ho, hx]
theorem run_ld {a : Act} {o : Oper} {w : World} (x : Operand) (ho : o.op = .load 3 x) (B i : Nat) (n : Int) (hx : a.eval x = .pointer (some ⟨B, i, none⟩)) (hc : w.cell? ⟨B, i, none⟩ = some (.int .i64 n)) : (execOp a.eval o).run Tryz.prog w = .ok (.value (.int .i64 n)) w := by
  simp only [execOp, ho, hx]
  simp [go_sem, hc]
theorem run_fa0 {a : Act} {o : Oper} {w : World} (x : Operand) (ho : o.op = .fieldAddr 96 x 0) (B : Nat) (hx : a.eval x = .pointer (some ⟨B, 0, none⟩)) : (execOp a.eval o).run Tryz.prog w = .ok (.value (.pointer (some ⟨B, 0, none⟩))) w := by
  simp only [execOp, ho, hx]
  simp [go_sem]
theorem run_fa1 {a : Act} {o : Oper} {w : World} (x : Operand) (ho : o.op = .fieldAddr 96 x 1) (B : Nat) (hx : a.eval x = .pointer (some ⟨B, 0, none⟩)) : (execOp a.eval o).run Tryz.prog w = .ok (.value (.pointer (some ⟨B, 1, none⟩))) w := by
  simp only [execOp, ho, hx]
  simp [go_sem]
theorem run_al236 {a : Act} {o : Oper} {w : World} (ho : o.op = .alloc 236) : (execOp a.eval o).run Tryz.prog w = .ok (.value (.pointer (some ⟨w.heap.size, 0, none⟩))) (w.alloc (.cells #[.slice none 0 0, .int .i64 0] 236)) := by
  simp only [execOp, ho]
  simp [go_sem]
theorem run_al26 {a : Act} {o : Oper} {w : World} (ho : o.op = .alloc 26) : (execOp a.eval o).run Tryz.prog w = .ok (.value (.pointer (some ⟨w.heap.size, 0, none⟩))) (w.alloc (.cells #[.int .i64 0, .int .i64 0, .string ⟨#[]⟩, .slice none 0 0, .slice none 0 0, .slice none 0 0] 26)) := by
  simp only [execOp, ho]
  simp [go_sem]
theorem cf155 (args : Array Value) (u : World) : (callFunc 155 args).run Tryz.prog u = .ok (.enter 155 args) u := by kernel_rfl
theorem cf118 (args : Array Value) (u : World) : (callFunc 118 args).run Tryz.prog u = .ok (.enter 118 args) u := by kernel_rfl
theorem setRow_at {w : World} {g t : Nat} {old cs : Array Value} (h : Bx w g old t) : Bx (w.setRow g cs) g cs t := by
  have h' : w.heap[g]? = some (.cells old t) := h
  simp [Bx, World.setRow, Array.getElem?_modify, h']
theorem bel_row {B : Nat} {a w : World} (h : Below B a w) {g : Nat} (hg : B ≤ g) (cs : Array Value) : Below B a (w.setRow g cs) :=
  ⟨h.os, h.tape, h.output, by simpa using h.size, fun k hk => (heap_setRow_ne w g k cs (by omega)).trans (h.block k hk)⟩
theorem pc (a : Act) {x y : Nat} (h : x ≠ y) {v u : Value} : (a.put (some x) v).put (some y) u = (a.put (some y) u).put (some x) v := Act.put_comm a v u fun d e => by cases e; exact fun e' => h (by cases e'; rfl)
/-- What stands in the world while a region with two calls and two new structs is on its way. -/
structure WI (base : Nat) (w : World) (G : World → Prop) (Z : Array Value) (T : Nat) (f8 f9 : Bool) (p q : Nat) (u : World) : Prop where
  g : G u
  st : Stay base w u
  hp : f8 = true → w.heap.size ≤ p ∧ Bx u p Z T
  hq : f9 = true → w.heap.size ≤ q ∧ Bx u q Z T
  ne : f8 = true → f9 = true → p ≠ q
theorem WI.call {base T p q : Nat} {w u u' : World} {G G' : World → Prop} {Z : Array Value} {f8 f9 : Bool} (h : WI base w G Z T f8 f9 p q u) (hb : base ≤ w.heap.size) (hg : G' u') (hs : Stay base u u') : WI base w G' Z T f8 f9 p q u' :=
  ⟨hg, h.st.trans hs, fun e => ⟨(h.hp e).1, hs.bx (Nat.le_trans hb (h.hp e).1) (h.hp e).2⟩, fun e => ⟨(h.hq e).1, hs.bx (Nat.le_trans hb (h.hq e).1) (h.hq e).2⟩, h.ne⟩
theorem bel_alloc {B : Nat} {w : World} (h : B ≤ w.heap.size) (o : Obj) : Below B w (w.alloc o) := (Below.refl _ w).alloc h o
theorem WI.al8 {base T p q : Nat} {w u : World} {G : World → Prop} {Z : Array Value} {f9 : Bool} (h : WI base w G Z T false f9 p q u) (hb : base ≤ w.heap.size) (HG : ∀ u u', G u → Below base u u' → G u') {Y : Array Value} (e : Y = Z) : WI base w G Z T true f9 u.heap.size q (u.alloc (.cells Y T)) := by
  subst e
  exact ⟨HG _ _ h.g (bel_alloc (Nat.le_trans hb h.st.size) _), h.st.trans (Stay.alloc _ _ _), fun _ => ⟨h.st.size, al_at u _⟩, fun e => ⟨(h.hq e).1, (Stay.alloc base u _).bx (Nat.le_trans hb (h.hq e).1) (h.hq e).2⟩, fun _ e => by have := (h.hq e).2.lt; omega⟩
theorem WI.al9 {base T p q : Nat} {w u : World} {G : World → Prop} {Z : Array Value} {f8 : Bool} (h : WI base w G Z T f8 false p q u) (hb : base ≤ w.heap.size) (HG : ∀ u u', G u → Below base u u' → G u') {Y : Array Value} (e : Y = Z) : WI base w G Z T f8 true p u.heap.size (u.alloc (.cells Y T)) := by
  subst e
  exact ⟨HG _ _ h.g (bel_alloc (Nat.le_trans hb h.st.size) _), h.st.trans (Stay.alloc _ _ _), fun e => ⟨(h.hp e).1, (Stay.alloc base u _).bx (Nat.le_trans hb (h.hp e).1) (h.hp e).2⟩, fun _ => ⟨h.st.size, al_at u _⟩, fun e _ => by have := (h.hp e).2.lt; omega⟩
theorem Act.put_none (a : Act) (v : Value) : a.put none v = a := rfl
theorem info236q : (Tryz.prog.info? 236).map (·.size) = some 2 := by kernel_rfl
def o126_0 (ps : String) : Oper := { dst := some 12, op := .move (.tmp 0), type := 192, pos := ps, after := #[], guard := none }
def o126_1 (ps : String) : Oper := { dst := some 13, op := .fieldAddr 96 (.tmp 3) 0, type := 0, pos := ps, after := #[], guard := none }
def o126_2 (ps : String) : Oper := { dst := some 14, op := .load 3 (.tmp 13), type := 3, pos := ps, after := #[{ on := 1, ground := .data }], guard := none }
def o126_3 (ps : String) : Oper := { dst := some 15, op := .call { callee := .value (.func 155), args := #[.tmp 12, .tmp 14], argTypes := #[192, 3] }, type := 236, pos := ps, after := #[{ on := 0, ground := .data }, { on := 2, ground := .data }], guard := none }
def o126_4 (ps : String) : Oper := { dst := some 16, op := .move (.tmp 0), type := 192, pos := ps, after := #[], guard := none }
def o126_5 (ps : String) : Oper := { dst := some 17, op := .fieldAddr 96 (.tmp 3) 1, type := 0, pos := ps, after := #[], guard := none }
def o126_6 (ps : String) : Oper := { dst := some 18, op := .load 3 (.tmp 17), type := 3, pos := ps, after := #[{ on := 5, ground := .data }], guard := none }
def o126_7 (ps : String) : Oper := { dst := some 19, op := .call { callee := .value (.func 155), args := #[.tmp 16, .tmp 18], argTypes := #[192, 3] }, type := 236, pos := ps, after := #[{ on := 4, ground := .data }, { on := 6, ground := .data }, { on := 3, ground := .chain }], guard := none }
def o126_8 (ps : String) : Oper := { dst := some 5, op := .alloc 236, type := 0, pos := ps, after := #[], guard := none }
def o126_9 (ps : String) : Oper := { dst := some 6, op := .alloc 236, type := 0, pos := ps, after := #[], guard := none }
def o126_10 (ps : String) : Oper := { dst := none, op := .store 236 (.tmp 5) (.tmp 15), type := 0, pos := ps, after := #[{ on := 8, ground := .data }, { on := 3, ground := .data }, { on := 7, ground := .chain }, { on := 0, ground := .phase }, { on := 1, ground := .phase }, { on := 2, ground := .phase }, { on := 3, ground := .phase }, { on := 4, ground := .textOnly .lateStores }, { on := 5, ground := .textOnly .lateStores }, { on := 6, ground := .textOnly .lateStores }, { on := 7, ground := .textOnly .lateStoresUnsure }, { on := 8, ground := .phase }, { on := 9, ground := .phase }], guard := none }
def o126_11 (ps : String) : Oper := { dst := none, op := .store 236 (.tmp 6) (.tmp 19), type := 0, pos := ps, after := #[{ on := 9, ground := .data }, { on := 7, ground := .data }, { on := 10, ground := .chain }, { on := 0, ground := .phase }, { on := 1, ground := .phase }, { on := 2, ground := .phase }, { on := 3, ground := .phase }, { on := 4, ground := .phase }, { on := 5, ground := .phase }, { on := 6, ground := .phase }, { on := 7, ground := .phase }, { on := 8, ground := .phase }, { on := 9, ground := .phase }, { on := 10, ground := .phase }], guard := none }
def ops126 (ps : String) : List Oper := [o126_0 ps, o126_1 ps, o126_2 ps, o126_3 ps, o126_4 ps, o126_5 ps, o126_6 ps, o126_7 ps, o126_8 ps, o126_9 ps, o126_10 ps, o126_11 ps]
theorem i126_0 (ps : String) : (ops126 ps).toArray[0]? = some (o126_0 ps) := rfl
theorem i126_1 (ps : String) : (ops126 ps).toArray[1]? = some (o126_1 ps) := rfl
theorem i126_2 (ps : String) : (ops126 ps).toArray[2]? = some (o126_2 ps) := rfl
theorem i126_3 (ps : String) : (ops126 ps).toArray[3]? = some (o126_3 ps) := rfl
theorem i126_4 (ps : String) : (ops126 ps).toArray[4]? = some (o126_4 ps) := rfl
theorem i126_5 (ps : String) : (ops126 ps).toArray[5]? = some (o126_5 ps) := rfl
theorem i126_6 (ps : String) : (ops126 ps).toArray[6]? = some (o126_6 ps) := rfl
theorem i126_7 (ps : String) : (ops126 ps).toArray[7]? = some (o126_7 ps) := rfl
theorem i126_8 (ps : String) : (ops126 ps).toArray[8]? = some (o126_8 ps) := rfl
theorem i126_9 (ps : String) : (ops126 ps).toArray[9]? = some (o126_9 ps) := rfl
theorem i126_10 (ps : String) : (ops126 ps).toArray[10]? = some (o126_10 ps) := rfl
theorem i126_11 (ps : String) : (ops126 ps).toArray[11]? = some (o126_11 ps) := rfl
def cn126 (a : Act) (c3 c7 f8 f9 : Bool) (V U : Array Value) (p q : Nat) : Act :=
  let a1 := if c3 then a.put (some 15) (.agg V) else a
  let a2 := if c7 then a1.put (some 19) (.agg U) else a1
  let a3 := if f8 then a2.put (some 5) (.pointer (some ⟨p, 0, none⟩)) else a2
  if f9 then a3.put (some 6) (.pointer (some ⟨q, 0, none⟩)) else a3
def Z126 : Array Value := #[.slice none 0 0, .int .i64 0]
theorem cn126_3 (a : Act) (f8 f9 : Bool) (V U V' : Array Value) (p q : Nat) : (cn126 a false false f8 f9 V U p q).put (some 15) (.agg V') = cn126 a true false f8 f9 V' U p q := by
  cases f8 <;> cases f9 <;> simp only [cn126, if_true, if_false, Bool.false_eq_true]
  · rw [pc _ (show 6 ≠ 15 by decide)]
  · rw [pc _ (show 5 ≠ 15 by decide)]
  · rw [pc _ (show 6 ≠ 15 by decide), pc _ (show 5 ≠ 15 by decide)]
theorem cn126_7 (a : Act) (f8 f9 : Bool) (V U V' : Array Value) (p q : Nat) : (cn126 a true false f8 f9 V U p q).put (some 19) (.agg V') = cn126 a true true f8 f9 V V' p q := by
  cases f8 <;> cases f9 <;> simp only [cn126, if_true, if_false, Bool.false_eq_true]
  · rw [pc _ (show 6 ≠ 19 by decide)]
  · rw [pc _ (show 5 ≠ 19 by decide)]
  · rw [pc _ (show 6 ≠ 19 by decide), pc _ (show 5 ≠ 19 by decide)]
theorem cn126_8 (a : Act) (c3 c7 f9 : Bool) (V U : Array Value) (p q n : Nat) : (cn126 a c3 c7 false f9 V U p q).put (some 5) (.pointer (some ⟨n, 0, none⟩)) = cn126 a c3 c7 true f9 V U n q := by
  cases f9 <;> simp only [cn126, if_true, if_false, Bool.false_eq_true]
  rw [pc _ (show 6 ≠ 5 by decide)]
theorem cn126_9 (a : Act) (c3 c7 f8 : Bool) (V U : Array Value) (p q n : Nat) : (cn126 a c3 c7 f8 false V U p q).put (some 6) (.pointer (some ⟨n, 0, none⟩)) = cn126 a c3 c7 f8 true V U p n := by
  simp only [cn126, if_true, if_false, Bool.false_eq_true]
theorem two126 (ps : String) {Q : Exit → Act → World → Prop} {a : Act} {w : World} {id : Nat} (base B : Nat) (A : Value) (X Y : Int) (G : Nat → World → Prop) (PV PU : Array Value → Prop)
    (hsz : 20 ≤ a.tmps.size) (e0 : a.eval (.tmp 0) = A) (e3 : a.eval (.tmp 3) = .pointer (some ⟨B, 0, none⟩)) (hB : base ≤ B) (hbox : Bx w B #[.int .i64 X, .int .i64 Y] 96) (hbase : base ≤ w.heap.size) (hG0 : G 0 w)
    (HG : ∀ c u u', G c u → Below base u u' → G c u')
    (H3 : ∀ u, base ≤ u.heap.size → G 0 u → Calls Tryz.prog 155 #[A, .int .i64 X] u fun e u' => ∃ V, e = .returned (.agg V) ∧ PV V ∧ G 1 u' ∧ Stay base u u')
    (H7 : ∀ u, base ≤ u.heap.size → G 1 u → Calls Tryz.prog 155 #[A, .int .i64 Y] u fun e u' => ∃ V, e = .returned (.agg V) ∧ PU V ∧ G 2 u' ∧ Stay base u u')
    (hPV : ∀ V, PV V → V.size = 2 ∧ V.all (·.oneCell') = true) (hPU : ∀ V, PU V → V.size = 2 ∧ V.all (·.oneCell') = true)
    (hQ : ∀ V U p q u, PV V → PU U → w.heap.size ≤ p → w.heap.size ≤ q → p ≠ q → Bx u p V 236 → Bx u q U 236 → G 2 u → Stay base w u → Q .normal (cn126 ((((((a.put (some 12) A).put (some 13) (.pointer (some ⟨B, 0, none⟩))).put (some 14) (.int .i64 X)).put (some 16) A).put (some 17) (.pointer (some ⟨B, 1, none⟩))).put (some 18) (.int .i64 Y)) true true true true V U p q) u) :
    (Code.region id (ops126 ps).toArray true).wp Tryz.prog Q a w := by
  refine wp_region_noPanic ?_
  refine wp_region_held (S := fun u => Bx u B #[.int .i64 X, .int .i64 Y] 96) (by kernel_rfl) ?_
  have hQn : ∀ (dst : Option Tmp) (v : Value) (c : List PanicEntry) (a : Act) (w : World), NoPanic Q (.panic c) (a.put dst v) w → NoPanic Q (.panic c) a w := fun _ _ _ _ _ h => h
  have hs : ∀ d, d < 20 → d < a.tmps.size := fun d h => by omega
  have hS0 : Bx { w with drawn := w.drawn + 1 } B #[.int .i64 X, .int .i64 Y] 96 := hbox
  refine wpAnyH_take (i := 0) (v := A) (i126_0 ps) (by kernel_rfl) (by kernel_rfl) (by kernel_rfl) (hQn _ _) (.inl ⟨by rfl, fun u hu => ?_⟩) hS0 ?_
  · have k0 := Bx.cell hu 0 rfl; have k1 := Bx.cell hu 1 rfl
    exact run_mv _ rfl _ (by simp [o126_0, o126_1, o126_2, o126_3, o126_4, o126_5, o126_6, ev_ne, ev_eq, sz_put, e0, e3, hs])
  refine wpAnyH_take (i := 1) (v := (.pointer (some ⟨B, 0, none⟩))) (i126_1 ps) (by kernel_rfl) (by kernel_rfl) (by kernel_rfl) (hQn _ _) (.inl ⟨by rfl, fun u hu => ?_⟩) hS0 ?_
  · have k0 := Bx.cell hu 0 rfl; have k1 := Bx.cell hu 1 rfl
    exact run_fa0 _ rfl B (by simp [o126_0, o126_1, o126_2, o126_3, o126_4, o126_5, o126_6, ev_ne, ev_eq, sz_put, e0, e3, hs])
  refine wpAnyH_take (i := 2) (v := (.int .i64 X)) (i126_2 ps) (by kernel_rfl) (by kernel_rfl) (by kernel_rfl) (hQn _ _) (.inl ⟨by rfl, fun u hu => ?_⟩) hS0 ?_
  · have k0 := Bx.cell hu 0 rfl; have k1 := Bx.cell hu 1 rfl
    exact run_ld _ rfl B 0 X (by simp [o126_0, o126_1, o126_2, o126_3, o126_4, o126_5, o126_6, ev_ne, ev_eq, sz_put, e0, e3, hs]) k0
  refine wpAnyH_take (i := 4) (v := A) (i126_4 ps) (by kernel_rfl) (by kernel_rfl) (by kernel_rfl) (hQn _ _) (.inl ⟨by rfl, fun u hu => ?_⟩) hS0 ?_
  · have k0 := Bx.cell hu 0 rfl; have k1 := Bx.cell hu 1 rfl
    exact run_mv _ rfl _ (by simp [o126_0, o126_1, o126_2, o126_3, o126_4, o126_5, o126_6, ev_ne, ev_eq, sz_put, e0, e3, hs])
  refine wpAnyH_take (i := 5) (v := (.pointer (some ⟨B, 1, none⟩))) (i126_5 ps) (by kernel_rfl) (by kernel_rfl) (by kernel_rfl) (hQn _ _) (.inl ⟨by rfl, fun u hu => ?_⟩) hS0 ?_
  · have k0 := Bx.cell hu 0 rfl; have k1 := Bx.cell hu 1 rfl
    exact run_fa1 _ rfl B (by simp [o126_0, o126_1, o126_2, o126_3, o126_4, o126_5, o126_6, ev_ne, ev_eq, sz_put, e0, e3, hs])
  refine wpAnyH_take (i := 6) (v := (.int .i64 Y)) (i126_6 ps) (by kernel_rfl) (by kernel_rfl) (by kernel_rfl) (hQn _ _) (.inl ⟨by rfl, fun u hu => ?_⟩) hS0 ?_
  · have k0 := Bx.cell hu 0 rfl; have k1 := Bx.cell hu 1 rfl
    exact run_ld _ rfl B 1 Y (by simp [o126_0, o126_1, o126_2, o126_3, o126_4, o126_5, o126_6, ev_ne, ev_eq, sz_put, e0, e3, hs]) k1
  change wpAnyH _ _ _ _ _ _ _ ((((((a.put (some 12) A).put (some 13) (.pointer (some ⟨B, 0, none⟩))).put (some 14) (.int .i64 X)).put (some 16) A).put (some 17) (.pointer (some ⟨B, 1, none⟩))).put (some 18) (.int .i64 Y)) _
  obtain ⟨a1, ha1⟩ : ∃ a1, ((((((a.put (some 12) A).put (some 13) (.pointer (some ⟨B, 0, none⟩))).put (some 14) (.int .i64 X)).put (some 16) A).put (some 17) (.pointer (some ⟨B, 1, none⟩))).put (some 18) (.int .i64 Y)) = a1 := ⟨_, rfl⟩
  have g0 : a1.eval (.tmp 12) = A := by rw [← ha1]; simp [ev_ne, ev_eq, sz_put, hs]
  have g2 : a1.eval (.tmp 14) = .int .i64 X := by rw [← ha1]; simp [ev_ne, ev_eq, sz_put, hs]
  have g4 : a1.eval (.tmp 16) = A := by rw [← ha1]; simp [ev_ne, ev_eq, sz_put, hs]
  have g6 : a1.eval (.tmp 18) = .int .i64 Y := by rw [← ha1]; simp [ev_ne, ev_eq, sz_put, hs]
  have gs : ∀ d, d < 20 → d < a1.tmps.size := by rw [← ha1]; simpa [sz_put] using hs
  rw [ha1] at hQ ⊢
  have HS : ∀ u, Stay base w u → Bx u B #[.int .i64 X, .int .i64 Y] 96 := fun u h => h.bx hB hbox
  have sB : ∀ {u}, Stay base w u → base ≤ u.heap.size := fun h => Nat.le_trans hbase h.size
  have T_end : ∀ l V U p q u, l = #[true, true, true, true, true, true, true, true, true, true, false, false] → PV V → PU U → w.heap.size ≤ p → w.heap.size ≤ q → p ≠ q → G 2 u → Stay base w u → Bx u p Z126 236 → Bx u q Z126 236 → wpAnyH Tryz.prog .any (ops126 ps).toArray (NoPanic Q) (fun u => Bx u B #[.int .i64 X, .int .i64 Y] 96) 2 l (cn126 a1 true true true true V U p q) u := by
    intro l V U p q u hl hv hu hp hq hpq hg hst hbp hbq
    subst hl
    refine wpAnyH_all (rs := [10]) (by kernel_rfl) (by simp) ?_
    intro i hi
    simp only [List.mem_singleton] at hi
    subst hi
    have st1 := hst.row hp V
    have iV : (Tryz.prog.info? 236).map (·.size) = some V.size := by rw [(hPV V hv).1]; exact info236q
    have iU : (Tryz.prog.info? 236).map (·.size) = some U.size := by rw [(hPU U hu).1]; exact info236q
    have oV : Z126.size = V.size := by rw [(hPV V hv).1]; rfl
    have oU : Z126.size = U.size := by rw [(hPU U hu).1]; rfl
    refine op_wp (i126_10 ps) rfl ?_
    refine wp_store_row (P := Tryz.prog) 236 (.tmp 5) (.tmp 15) rfl p V ?_ ?_ 236 Z126 hbp iV oV (hPV V hv).2 ?_
    · simp [cn126, ev_ne, ev_eq, sz_put, gs]
    · simp [cn126, ev_ne, ev_eq, sz_put, gs]
    refine ⟨HS _ st1, ?_⟩
    have hb1 : Bx (u.setRow p V) p V 236 := setRow_at hbp
    have hb2 : Bx (u.setRow p V) q Z126 236 := (heap_setRow_ne u p q V (fun e => hpq e.symm)).trans hbq
    refine wpAnyH_all (rs := [11]) (by kernel_rfl) (by simp) ?_
    intro i hi
    simp only [List.mem_singleton] at hi
    subst hi
    have st2 := st1.row hq U
    refine op_wp (i126_11 ps) rfl ?_
    refine wp_store_row (P := Tryz.prog) 236 (.tmp 6) (.tmp 19) rfl q U ?_ ?_ 236 Z126 hb2 iU oU (hPU U hu).2 ?_
    · simp [cn126, o126_10, Act.put_none, ev_ne, ev_eq, sz_put, gs]
    · simp [cn126, o126_10, Act.put_none, ev_ne, ev_eq, sz_put, gs]
    refine ⟨HS _ st2, ?_⟩
    refine wpAnyH_done (by kernel_rfl) ?_ _
    refine hQ V U p q _ hv hu hp hq hpq ((heap_setRow_ne _ q p U hpq).trans hb1) (setRow_at hb2) (HG 2 u _ hg ?_) st2
    exact bel_row (bel_row (Below.refl _ _) (Nat.le_trans hbase hp) V) (Nat.le_trans hbase hq) U
  have T_211 : ∀ l V U p q u, l = #[true, true, true, true, true, true, true, true, true, true, false, false] → PV V → PU U → WI base w (G 2) Z126 236 true true p q u → wpAnyH Tryz.prog .any (ops126 ps).toArray (NoPanic Q) (fun u => Bx u B #[.int .i64 X, .int .i64 Y] 96) 2 l (cn126 a1 true true true true V U p q) u := by
    intro l V U p q u hl hv hu hw
    subst hl
    exact T_end _ V U p q u rfl hv hu (hw.hp rfl).1 (hw.hq rfl).1 (hw.ne rfl rfl) hw.g hw.st (hw.hp rfl).2 (hw.hq rfl).2
  have T_201 : ∀ l V U p q u, l = #[true, true, true, true, true, true, true, true, false, true, false, false] → PV V → PU U → WI base w (G 2) Z126 236 false true p q u → wpAnyH Tryz.prog .any (ops126 ps).toArray (NoPanic Q) (fun u => Bx u B #[.int .i64 X, .int .i64 Y] 96) 3 l (cn126 a1 true true false true V U p q) u := by
    intro l V U p q u hl hv hu hw
    subst hl
    refine wpAnyH_all (rs := [8]) (by kernel_rfl) (by simp) ?_
    intro i hi
    simp only [List.mem_cons, List.not_mem_nil, or_false] at hi
    subst hi
    · refine op_wp (i126_8 ps) rfl ?_
      unfold Oper.wp
      rw [run_al236 rfl, Oper.upon_value]
      refine ⟨HS _ (hw.st.trans (Stay.alloc _ _ _)), ?_⟩
      rw [show (o126_8 ps).dst = some 5 from rfl, cn126_8]
      exact T_211 _ V U _ q _ (by kernel_rfl) hv hu (hw.al8 hbase (HG _) rfl)
  have T_210 : ∀ l V U p q u, l = #[true, true, true, true, true, true, true, true, true, false, false, false] → PV V → PU U → WI base w (G 2) Z126 236 true false p q u → wpAnyH Tryz.prog .any (ops126 ps).toArray (NoPanic Q) (fun u => Bx u B #[.int .i64 X, .int .i64 Y] 96) 3 l (cn126 a1 true true true false V U p q) u := by
    intro l V U p q u hl hv hu hw
    subst hl
    refine wpAnyH_all (rs := [9]) (by kernel_rfl) (by simp) ?_
    intro i hi
    simp only [List.mem_cons, List.not_mem_nil, or_false] at hi
    subst hi
    · refine op_wp (i126_9 ps) rfl ?_
      unfold Oper.wp
      rw [run_al236 rfl, Oper.upon_value]
      refine ⟨HS _ (hw.st.trans (Stay.alloc _ _ _)), ?_⟩
      rw [show (o126_9 ps).dst = some 6 from rfl, cn126_9]
      exact T_211 _ V U p _ _ (by kernel_rfl) hv hu (hw.al9 hbase (HG _) rfl)
  have T_200 : ∀ l V U p q u, l = #[true, true, true, true, true, true, true, true, false, false, false, false] → PV V → PU U → WI base w (G 2) Z126 236 false false p q u → wpAnyH Tryz.prog .any (ops126 ps).toArray (NoPanic Q) (fun u => Bx u B #[.int .i64 X, .int .i64 Y] 96) 4 l (cn126 a1 true true false false V U p q) u := by
    intro l V U p q u hl hv hu hw
    subst hl
    refine wpAnyH_all (rs := [8, 9]) (by kernel_rfl) (by simp) ?_
    intro i hi
    simp only [List.mem_cons, List.not_mem_nil, or_false] at hi
    rcases hi with rfl | rfl
    · refine op_wp (i126_8 ps) rfl ?_
      unfold Oper.wp
      rw [run_al236 rfl, Oper.upon_value]
      refine ⟨HS _ (hw.st.trans (Stay.alloc _ _ _)), ?_⟩
      rw [show (o126_8 ps).dst = some 5 from rfl, cn126_8]
      exact T_210 _ V U _ q _ (by kernel_rfl) hv hu (hw.al8 hbase (HG _) rfl)
    · refine op_wp (i126_9 ps) rfl ?_
      unfold Oper.wp
      rw [run_al236 rfl, Oper.upon_value]
      refine ⟨HS _ (hw.st.trans (Stay.alloc _ _ _)), ?_⟩
      rw [show (o126_9 ps).dst = some 6 from rfl, cn126_9]
      exact T_201 _ V U p _ _ (by kernel_rfl) hv hu (hw.al9 hbase (HG _) rfl)
  have T_111 : ∀ l V U p q u, l = #[true, true, true, true, true, true, true, false, true, true, false, false] → PV V → WI base w (G 1) Z126 236 true true p q u → wpAnyH Tryz.prog .any (ops126 ps).toArray (NoPanic Q) (fun u => Bx u B #[.int .i64 X, .int .i64 Y] 96) 3 l (cn126 a1 true false true true V U p q) u := by
    intro l V U p q u hl hv hw
    subst hl
    refine wpAnyH_all (rs := [7]) (by kernel_rfl) (by simp) ?_
    intro i hi
    simp only [List.mem_cons, List.not_mem_nil, or_false] at hi
    subst hi
    · refine op_call (i126_7 ps) rfl 155 cf155 _ _ _ rfl A _ (by simp [cn126, ev_ne, ev_eq, sz_put, g0, g2, g4, g6]) (by simp [cn126, ev_ne, ev_eq, sz_put, g0, g2, g4, g6]) _ (H7 u (sB hw.st) hw.g) ?_
      rintro e u' ⟨V', rfl, hv', hg', hs'⟩
      refine ⟨_, rfl, HS _ (hw.st.trans hs'), ?_⟩
      rw [show (o126_7 ps).dst = some 19 from rfl, cn126_7]
      exact T_211 _ V V' p q u' (by kernel_rfl) hv hv' (hw.call hbase hg' hs')
  have T_101 : ∀ l V U p q u, l = #[true, true, true, true, true, true, true, false, false, true, false, false] → PV V → WI base w (G 1) Z126 236 false true p q u → wpAnyH Tryz.prog .any (ops126 ps).toArray (NoPanic Q) (fun u => Bx u B #[.int .i64 X, .int .i64 Y] 96) 4 l (cn126 a1 true false false true V U p q) u := by
    intro l V U p q u hl hv hw
    subst hl
    refine wpAnyH_all (rs := [7, 8]) (by kernel_rfl) (by simp) ?_
    intro i hi
    simp only [List.mem_cons, List.not_mem_nil, or_false] at hi
    rcases hi with rfl | rfl
    · refine op_call (i126_7 ps) rfl 155 cf155 _ _ _ rfl A _ (by simp [cn126, ev_ne, ev_eq, sz_put, g0, g2, g4, g6]) (by simp [cn126, ev_ne, ev_eq, sz_put, g0, g2, g4, g6]) _ (H7 u (sB hw.st) hw.g) ?_
      rintro e u' ⟨V', rfl, hv', hg', hs'⟩
      refine ⟨_, rfl, HS _ (hw.st.trans hs'), ?_⟩
      rw [show (o126_7 ps).dst = some 19 from rfl, cn126_7]
      exact T_201 _ V V' p q u' (by kernel_rfl) hv hv' (hw.call hbase hg' hs')
    · refine op_wp (i126_8 ps) rfl ?_
      unfold Oper.wp
      rw [run_al236 rfl, Oper.upon_value]
      refine ⟨HS _ (hw.st.trans (Stay.alloc _ _ _)), ?_⟩
      rw [show (o126_8 ps).dst = some 5 from rfl, cn126_8]
      exact T_111 _ V U _ q _ (by kernel_rfl) hv (hw.al8 hbase (HG _) rfl)
  have T_110 : ∀ l V U p q u, l = #[true, true, true, true, true, true, true, false, true, false, false, false] → PV V → WI base w (G 1) Z126 236 true false p q u → wpAnyH Tryz.prog .any (ops126 ps).toArray (NoPanic Q) (fun u => Bx u B #[.int .i64 X, .int .i64 Y] 96) 4 l (cn126 a1 true false true false V U p q) u := by
    intro l V U p q u hl hv hw
    subst hl
    refine wpAnyH_all (rs := [7, 9]) (by kernel_rfl) (by simp) ?_
    intro i hi
    simp only [List.mem_cons, List.not_mem_nil, or_false] at hi
    rcases hi with rfl | rfl
    · refine op_call (i126_7 ps) rfl 155 cf155 _ _ _ rfl A _ (by simp [cn126, ev_ne, ev_eq, sz_put, g0, g2, g4, g6]) (by simp [cn126, ev_ne, ev_eq, sz_put, g0, g2, g4, g6]) _ (H7 u (sB hw.st) hw.g) ?_
      rintro e u' ⟨V', rfl, hv', hg', hs'⟩
      refine ⟨_, rfl, HS _ (hw.st.trans hs'), ?_⟩
      rw [show (o126_7 ps).dst = some 19 from rfl, cn126_7]
      exact T_210 _ V V' p q u' (by kernel_rfl) hv hv' (hw.call hbase hg' hs')
    · refine op_wp (i126_9 ps) rfl ?_
      unfold Oper.wp
      rw [run_al236 rfl, Oper.upon_value]
      refine ⟨HS _ (hw.st.trans (Stay.alloc _ _ _)), ?_⟩
      rw [show (o126_9 ps).dst = some 6 from rfl, cn126_9]
      exact T_111 _ V U p _ _ (by kernel_rfl) hv (hw.al9 hbase (HG _) rfl)
  have T_100 : ∀ l V U p q u, l = #[true, true, true, true, true, true, true, false, false, false, false, false] → PV V → WI base w (G 1) Z126 236 false false p q u → wpAnyH Tryz.prog .any (ops126 ps).toArray (NoPanic Q) (fun u => Bx u B #[.int .i64 X, .int .i64 Y] 96) 5 l (cn126 a1 true false false false V U p q) u := by
    intro l V U p q u hl hv hw
    subst hl
    refine wpAnyH_all (rs := [7, 8, 9]) (by kernel_rfl) (by simp) ?_
    intro i hi
    simp only [List.mem_cons, List.not_mem_nil, or_false] at hi
    rcases hi with rfl | rfl | rfl
    · refine op_call (i126_7 ps) rfl 155 cf155 _ _ _ rfl A _ (by simp [cn126, ev_ne, ev_eq, sz_put, g0, g2, g4, g6]) (by simp [cn126, ev_ne, ev_eq, sz_put, g0, g2, g4, g6]) _ (H7 u (sB hw.st) hw.g) ?_
      rintro e u' ⟨V', rfl, hv', hg', hs'⟩
      refine ⟨_, rfl, HS _ (hw.st.trans hs'), ?_⟩
      rw [show (o126_7 ps).dst = some 19 from rfl, cn126_7]
      exact T_200 _ V V' p q u' (by kernel_rfl) hv hv' (hw.call hbase hg' hs')
    · refine op_wp (i126_8 ps) rfl ?_
      unfold Oper.wp
      rw [run_al236 rfl, Oper.upon_value]
      refine ⟨HS _ (hw.st.trans (Stay.alloc _ _ _)), ?_⟩
      rw [show (o126_8 ps).dst = some 5 from rfl, cn126_8]
      exact T_110 _ V U _ q _ (by kernel_rfl) hv (hw.al8 hbase (HG _) rfl)
    · refine op_wp (i126_9 ps) rfl ?_
      unfold Oper.wp
      rw [run_al236 rfl, Oper.upon_value]
      refine ⟨HS _ (hw.st.trans (Stay.alloc _ _ _)), ?_⟩
      rw [show (o126_9 ps).dst = some 6 from rfl, cn126_9]
      exact T_101 _ V U p _ _ (by kernel_rfl) hv (hw.al9 hbase (HG _) rfl)
  have T_011 : ∀ l V U p q u, l = #[true, true, true, false, true, true, true, false, true, true, false, false] → WI base w (G 0) Z126 236 true true p q u → wpAnyH Tryz.prog .any (ops126 ps).toArray (NoPanic Q) (fun u => Bx u B #[.int .i64 X, .int .i64 Y] 96) 4 l (cn126 a1 false false true true V U p q) u := by
    intro l V U p q u hl hw
    subst hl
    refine wpAnyH_all (rs := [3]) (by kernel_rfl) (by simp) ?_
    intro i hi
    simp only [List.mem_cons, List.not_mem_nil, or_false] at hi
    subst hi
    · refine op_call (i126_3 ps) rfl 155 cf155 _ _ _ rfl A _ (by simp [cn126, ev_ne, ev_eq, sz_put, g0, g2, g4, g6]) (by simp [cn126, ev_ne, ev_eq, sz_put, g0, g2, g4, g6]) _ (H3 u (sB hw.st) hw.g) ?_
      rintro e u' ⟨V', rfl, hv', hg', hs'⟩
      refine ⟨_, rfl, HS _ (hw.st.trans hs'), ?_⟩
      rw [show (o126_3 ps).dst = some 15 from rfl, cn126_3]
      exact T_111 _ V' U p q u' (by kernel_rfl) hv' (hw.call hbase hg' hs')
  have T_001 : ∀ l V U p q u, l = #[true, true, true, false, true, true, true, false, false, true, false, false] → WI base w (G 0) Z126 236 false true p q u → wpAnyH Tryz.prog .any (ops126 ps).toArray (NoPanic Q) (fun u => Bx u B #[.int .i64 X, .int .i64 Y] 96) 5 l (cn126 a1 false false false true V U p q) u := by
    intro l V U p q u hl hw
    subst hl
    refine wpAnyH_all (rs := [3, 8]) (by kernel_rfl) (by simp) ?_
    intro i hi
    simp only [List.mem_cons, List.not_mem_nil, or_false] at hi
    rcases hi with rfl | rfl
    · refine op_call (i126_3 ps) rfl 155 cf155 _ _ _ rfl A _ (by simp [cn126, ev_ne, ev_eq, sz_put, g0, g2, g4, g6]) (by simp [cn126, ev_ne, ev_eq, sz_put, g0, g2, g4, g6]) _ (H3 u (sB hw.st) hw.g) ?_
      rintro e u' ⟨V', rfl, hv', hg', hs'⟩
      refine ⟨_, rfl, HS _ (hw.st.trans hs'), ?_⟩
      rw [show (o126_3 ps).dst = some 15 from rfl, cn126_3]
      exact T_101 _ V' U p q u' (by kernel_rfl) hv' (hw.call hbase hg' hs')
    · refine op_wp (i126_8 ps) rfl ?_
      unfold Oper.wp
      rw [run_al236 rfl, Oper.upon_value]
      refine ⟨HS _ (hw.st.trans (Stay.alloc _ _ _)), ?_⟩
      rw [show (o126_8 ps).dst = some 5 from rfl, cn126_8]
      exact T_011 _ V U _ q _ (by kernel_rfl) (hw.al8 hbase (HG _) rfl)
  have T_010 : ∀ l V U p q u, l = #[true, true, true, false, true, true, true, false, true, false, false, false] → WI base w (G 0) Z126 236 true false p q u → wpAnyH Tryz.prog .any (ops126 ps).toArray (NoPanic Q) (fun u => Bx u B #[.int .i64 X, .int .i64 Y] 96) 5 l (cn126 a1 false false true false V U p q) u := by
    intro l V U p q u hl hw
    subst hl
    refine wpAnyH_all (rs := [3, 9]) (by kernel_rfl) (by simp) ?_
    intro i hi
    simp only [List.mem_cons, List.not_mem_nil, or_false] at hi
    rcases hi with rfl | rfl
    · refine op_call (i126_3 ps) rfl 155 cf155 _ _ _ rfl A _ (by simp [cn126, ev_ne, ev_eq, sz_put, g0, g2, g4, g6]) (by simp [cn126, ev_ne, ev_eq, sz_put, g0, g2, g4, g6]) _ (H3 u (sB hw.st) hw.g) ?_
      rintro e u' ⟨V', rfl, hv', hg', hs'⟩
      refine ⟨_, rfl, HS _ (hw.st.trans hs'), ?_⟩
      rw [show (o126_3 ps).dst = some 15 from rfl, cn126_3]
      exact T_110 _ V' U p q u' (by kernel_rfl) hv' (hw.call hbase hg' hs')
    · refine op_wp (i126_9 ps) rfl ?_
      unfold Oper.wp
      rw [run_al236 rfl, Oper.upon_value]
      refine ⟨HS _ (hw.st.trans (Stay.alloc _ _ _)), ?_⟩
      rw [show (o126_9 ps).dst = some 6 from rfl, cn126_9]
      exact T_011 _ V U p _ _ (by kernel_rfl) (hw.al9 hbase (HG _) rfl)
  have T_000 : ∀ l V U p q u, l = #[true, true, true, false, true, true, true, false, false, false, false, false] → WI base w (G 0) Z126 236 false false p q u → wpAnyH Tryz.prog .any (ops126 ps).toArray (NoPanic Q) (fun u => Bx u B #[.int .i64 X, .int .i64 Y] 96) 6 l (cn126 a1 false false false false V U p q) u := by
    intro l V U p q u hl hw
    subst hl
    refine wpAnyH_all (rs := [3, 8, 9]) (by kernel_rfl) (by simp) ?_
    intro i hi
    simp only [List.mem_cons, List.not_mem_nil, or_false] at hi
    rcases hi with rfl | rfl | rfl
    · refine op_call (i126_3 ps) rfl 155 cf155 _ _ _ rfl A _ (by simp [cn126, ev_ne, ev_eq, sz_put, g0, g2, g4, g6]) (by simp [cn126, ev_ne, ev_eq, sz_put, g0, g2, g4, g6]) _ (H3 u (sB hw.st) hw.g) ?_
      rintro e u' ⟨V', rfl, hv', hg', hs'⟩
      refine ⟨_, rfl, HS _ (hw.st.trans hs'), ?_⟩
      rw [show (o126_3 ps).dst = some 15 from rfl, cn126_3]
      exact T_100 _ V' U p q u' (by kernel_rfl) hv' (hw.call hbase hg' hs')
    · refine op_wp (i126_8 ps) rfl ?_
      unfold Oper.wp
      rw [run_al236 rfl, Oper.upon_value]
      refine ⟨HS _ (hw.st.trans (Stay.alloc _ _ _)), ?_⟩
      rw [show (o126_8 ps).dst = some 5 from rfl, cn126_8]
      exact T_010 _ V U _ q _ (by kernel_rfl) (hw.al8 hbase (HG _) rfl)
    · refine op_wp (i126_9 ps) rfl ?_
      unfold Oper.wp
      rw [run_al236 rfl, Oper.upon_value]
      refine ⟨HS _ (hw.st.trans (Stay.alloc _ _ _)), ?_⟩
      rw [show (o126_9 ps).dst = some 6 from rfl, cn126_9]
      exact T_001 _ V U p _ _ (by kernel_rfl) (hw.al9 hbase (HG _) rfl)
  exact T_000 _ #[] #[] 0 0 _ (by kernel_rfl) ⟨HG 0 w _ hG0 (Below.refl _ _).drew, ⟨Nat.le_refl _, fun _ _ _ => rfl⟩, (by simp), (by simp), (by simp)⟩

theorem info26q : (Tryz.prog.info? 26).map (·.size) = some 6 := by kernel_rfl
def o88_0 (ps : String) : Oper := { dst := some 7, op := .move (.tmp 0), type := 192, pos := ps, after := #[], guard := none }
def o88_1 (ps : String) : Oper := { dst := some 8, op := .fieldAddr 96 (.tmp 3) 0, type := 0, pos := ps, after := #[], guard := none }
def o88_2 (ps : String) : Oper := { dst := some 9, op := .load 3 (.tmp 8), type := 3, pos := ps, after := #[{ on := 1, ground := .data }], guard := none }
def o88_3 (ps : String) : Oper := { dst := some 10, op := .call { callee := .value (.func 118), args := #[.tmp 7, .tmp 9], argTypes := #[192, 3] }, type := 26, pos := ps, after := #[{ on := 0, ground := .data }, { on := 2, ground := .data }], guard := none }
def o88_4 (ps : String) : Oper := { dst := some 11, op := .move (.tmp 0), type := 192, pos := ps, after := #[], guard := none }
def o88_5 (ps : String) : Oper := { dst := some 12, op := .fieldAddr 96 (.tmp 3) 1, type := 0, pos := ps, after := #[], guard := none }
def o88_6 (ps : String) : Oper := { dst := some 13, op := .load 3 (.tmp 12), type := 3, pos := ps, after := #[{ on := 5, ground := .data }], guard := none }
def o88_7 (ps : String) : Oper := { dst := some 14, op := .call { callee := .value (.func 118), args := #[.tmp 11, .tmp 13], argTypes := #[192, 3] }, type := 26, pos := ps, after := #[{ on := 4, ground := .data }, { on := 6, ground := .data }, { on := 3, ground := .chain }], guard := none }
def o88_8 (ps : String) : Oper := { dst := some 5, op := .alloc 26, type := 0, pos := ps, after := #[], guard := none }
def o88_9 (ps : String) : Oper := { dst := some 6, op := .alloc 26, type := 0, pos := ps, after := #[], guard := none }
def o88_10 (ps : String) : Oper := { dst := none, op := .store 26 (.tmp 5) (.tmp 10), type := 0, pos := ps, after := #[{ on := 8, ground := .data }, { on := 3, ground := .data }, { on := 7, ground := .chain }, { on := 0, ground := .phase }, { on := 1, ground := .phase }, { on := 2, ground := .phase }, { on := 3, ground := .phase }, { on := 4, ground := .textOnly .lateStores }, { on := 5, ground := .textOnly .lateStores }, { on := 6, ground := .textOnly .lateStores }, { on := 7, ground := .textOnly .lateStoresUnsure }, { on := 8, ground := .phase }, { on := 9, ground := .phase }], guard := none }
def o88_11 (ps : String) : Oper := { dst := none, op := .store 26 (.tmp 6) (.tmp 14), type := 0, pos := ps, after := #[{ on := 9, ground := .data }, { on := 7, ground := .data }, { on := 10, ground := .chain }, { on := 0, ground := .phase }, { on := 1, ground := .phase }, { on := 2, ground := .phase }, { on := 3, ground := .phase }, { on := 4, ground := .phase }, { on := 5, ground := .phase }, { on := 6, ground := .phase }, { on := 7, ground := .phase }, { on := 8, ground := .phase }, { on := 9, ground := .phase }, { on := 10, ground := .phase }], guard := none }
def ops88 (ps : String) : List Oper := [o88_0 ps, o88_1 ps, o88_2 ps, o88_3 ps, o88_4 ps, o88_5 ps, o88_6 ps, o88_7 ps, o88_8 ps, o88_9 ps, o88_10 ps, o88_11 ps]
theorem i88_0 (ps : String) : (ops88 ps).toArray[0]? = some (o88_0 ps) := rfl
theorem i88_1 (ps : String) : (ops88 ps).toArray[1]? = some (o88_1 ps) := rfl
theorem i88_2 (ps : String) : (ops88 ps).toArray[2]? = some (o88_2 ps) := rfl
theorem i88_3 (ps : String) : (ops88 ps).toArray[3]? = some (o88_3 ps) := rfl
theorem i88_4 (ps : String) : (ops88 ps).toArray[4]? = some (o88_4 ps) := rfl
theorem i88_5 (ps : String) : (ops88 ps).toArray[5]? = some (o88_5 ps) := rfl
theorem i88_6 (ps : String) : (ops88 ps).toArray[6]? = some (o88_6 ps) := rfl
theorem i88_7 (ps : String) : (ops88 ps).toArray[7]? = some (o88_7 ps) := rfl
theorem i88_8 (ps : String) : (ops88 ps).toArray[8]? = some (o88_8 ps) := rfl
theorem i88_9 (ps : String) : (ops88 ps).toArray[9]? = some (o88_9 ps) := rfl
theorem i88_10 (ps : String) : (ops88 ps).toArray[10]? = some (o88_10 ps) := rfl
theorem i88_11 (ps : String) : (ops88 ps).toArray[11]? = some (o88_11 ps) := rfl
def cn88 (a : Act) (c3 c7 f8 f9 : Bool) (V U : Array Value) (p q : Nat) : Act :=
  let a1 := if c3 then a.put (some 10) (.agg V) else a
  let a2 := if c7 then a1.put (some 14) (.agg U) else a1
  let a3 := if f8 then a2.put (some 5) (.pointer (some ⟨p, 0, none⟩)) else a2
  if f9 then a3.put (some 6) (.pointer (some ⟨q, 0, none⟩)) else a3
def Z88 : Array Value := #[.int .i64 0, .int .i64 0, .string ⟨#[]⟩, .slice none 0 0, .slice none 0 0, .slice none 0 0]
theorem cn88_3 (a : Act) (f8 f9 : Bool) (V U V' : Array Value) (p q : Nat) : (cn88 a false false f8 f9 V U p q).put (some 10) (.agg V') = cn88 a true false f8 f9 V' U p q := by
  cases f8 <;> cases f9 <;> simp only [cn88, if_true, if_false, Bool.false_eq_true]
  · rw [pc _ (show 6 ≠ 10 by decide)]
  · rw [pc _ (show 5 ≠ 10 by decide)]
  · rw [pc _ (show 6 ≠ 10 by decide), pc _ (show 5 ≠ 10 by decide)]
theorem cn88_7 (a : Act) (f8 f9 : Bool) (V U V' : Array Value) (p q : Nat) : (cn88 a true false f8 f9 V U p q).put (some 14) (.agg V') = cn88 a true true f8 f9 V V' p q := by
  cases f8 <;> cases f9 <;> simp only [cn88, if_true, if_false, Bool.false_eq_true]
  · rw [pc _ (show 6 ≠ 14 by decide)]
  · rw [pc _ (show 5 ≠ 14 by decide)]
  · rw [pc _ (show 6 ≠ 14 by decide), pc _ (show 5 ≠ 14 by decide)]
theorem cn88_8 (a : Act) (c3 c7 f9 : Bool) (V U : Array Value) (p q n : Nat) : (cn88 a c3 c7 false f9 V U p q).put (some 5) (.pointer (some ⟨n, 0, none⟩)) = cn88 a c3 c7 true f9 V U n q := by
  cases f9 <;> simp only [cn88, if_true, if_false, Bool.false_eq_true]
  rw [pc _ (show 6 ≠ 5 by decide)]
theorem cn88_9 (a : Act) (c3 c7 f8 : Bool) (V U : Array Value) (p q n : Nat) : (cn88 a c3 c7 f8 false V U p q).put (some 6) (.pointer (some ⟨n, 0, none⟩)) = cn88 a c3 c7 f8 true V U p n := by
  simp only [cn88, if_true, if_false, Bool.false_eq_true]
theorem two88 (ps : String) {Q : Exit → Act → World → Prop} {a : Act} {w : World} {id : Nat} (base B : Nat) (A : Value) (X Y : Int) (G : Nat → World → Prop) (PV PU : Array Value → Prop)
    (hsz : 20 ≤ a.tmps.size) (e0 : a.eval (.tmp 0) = A) (e3 : a.eval (.tmp 3) = .pointer (some ⟨B, 0, none⟩)) (hB : base ≤ B) (hbox : Bx w B #[.int .i64 X, .int .i64 Y] 96) (hbase : base ≤ w.heap.size) (hG0 : G 0 w)
    (HG : ∀ c u u', G c u → Below base u u' → G c u')
    (H3 : ∀ u, base ≤ u.heap.size → G 0 u → Calls Tryz.prog 118 #[A, .int .i64 X] u fun e u' => ∃ V, e = .returned (.agg V) ∧ PV V ∧ G 1 u' ∧ Stay base u u')
    (H7 : ∀ u, base ≤ u.heap.size → G 1 u → Calls Tryz.prog 118 #[A, .int .i64 Y] u fun e u' => ∃ V, e = .returned (.agg V) ∧ PU V ∧ G 2 u' ∧ Stay base u u')
    (hPV : ∀ V, PV V → V.size = 6 ∧ V.all (·.oneCell') = true) (hPU : ∀ V, PU V → V.size = 6 ∧ V.all (·.oneCell') = true)
    (hQ : ∀ V U p q u, PV V → PU U → w.heap.size ≤ p → w.heap.size ≤ q → p ≠ q → Bx u p V 26 → Bx u q U 26 → G 2 u → Stay base w u → Q .normal (cn88 ((((((a.put (some 7) A).put (some 8) (.pointer (some ⟨B, 0, none⟩))).put (some 9) (.int .i64 X)).put (some 11) A).put (some 12) (.pointer (some ⟨B, 1, none⟩))).put (some 13) (.int .i64 Y)) true true true true V U p q) u) :
    (Code.region id (ops88 ps).toArray true).wp Tryz.prog Q a w := by
  refine wp_region_noPanic ?_
  refine wp_region_held (S := fun u => Bx u B #[.int .i64 X, .int .i64 Y] 96) (by kernel_rfl) ?_
  have hQn : ∀ (dst : Option Tmp) (v : Value) (c : List PanicEntry) (a : Act) (w : World), NoPanic Q (.panic c) (a.put dst v) w → NoPanic Q (.panic c) a w := fun _ _ _ _ _ h => h
  have hs : ∀ d, d < 20 → d < a.tmps.size := fun d h => by omega
  have hS0 : Bx { w with drawn := w.drawn + 1 } B #[.int .i64 X, .int .i64 Y] 96 := hbox
  refine wpAnyH_take (i := 0) (v := A) (i88_0 ps) (by kernel_rfl) (by kernel_rfl) (by kernel_rfl) (hQn _ _) (.inl ⟨by rfl, fun u hu => ?_⟩) hS0 ?_
  · have k0 := Bx.cell hu 0 rfl; have k1 := Bx.cell hu 1 rfl
    exact run_mv _ rfl _ (by simp [o88_0, o88_1, o88_2, o88_3, o88_4, o88_5, o88_6, ev_ne, ev_eq, sz_put, e0, e3, hs])
  refine wpAnyH_take (i := 1) (v := (.pointer (some ⟨B, 0, none⟩))) (i88_1 ps) (by kernel_rfl) (by kernel_rfl) (by kernel_rfl) (hQn _ _) (.inl ⟨by rfl, fun u hu => ?_⟩) hS0 ?_
  · have k0 := Bx.cell hu 0 rfl; have k1 := Bx.cell hu 1 rfl
    exact run_fa0 _ rfl B (by simp [o88_0, o88_1, o88_2, o88_3, o88_4, o88_5, o88_6, ev_ne, ev_eq, sz_put, e0, e3, hs])
  refine wpAnyH_take (i := 2) (v := (.int .i64 X)) (i88_2 ps) (by kernel_rfl) (by kernel_rfl) (by kernel_rfl) (hQn _ _) (.inl ⟨by rfl, fun u hu => ?_⟩) hS0 ?_
  · have k0 := Bx.cell hu 0 rfl; have k1 := Bx.cell hu 1 rfl
    exact run_ld _ rfl B 0 X (by simp [o88_0, o88_1, o88_2, o88_3, o88_4, o88_5, o88_6, ev_ne, ev_eq, sz_put, e0, e3, hs]) k0
  refine wpAnyH_take (i := 4) (v := A) (i88_4 ps) (by kernel_rfl) (by kernel_rfl) (by kernel_rfl) (hQn _ _) (.inl ⟨by rfl, fun u hu => ?_⟩) hS0 ?_
  · have k0 := Bx.cell hu 0 rfl; have k1 := Bx.cell hu 1 rfl
    exact run_mv _ rfl _ (by simp [o88_0, o88_1, o88_2, o88_3, o88_4, o88_5, o88_6, ev_ne, ev_eq, sz_put, e0, e3, hs])
  refine wpAnyH_take (i := 5) (v := (.pointer (some ⟨B, 1, none⟩))) (i88_5 ps) (by kernel_rfl) (by kernel_rfl) (by kernel_rfl) (hQn _ _) (.inl ⟨by rfl, fun u hu => ?_⟩) hS0 ?_
  · have k0 := Bx.cell hu 0 rfl; have k1 := Bx.cell hu 1 rfl
    exact run_fa1 _ rfl B (by simp [o88_0, o88_1, o88_2, o88_3, o88_4, o88_5, o88_6, ev_ne, ev_eq, sz_put, e0, e3, hs])
  refine wpAnyH_take (i := 6) (v := (.int .i64 Y)) (i88_6 ps) (by kernel_rfl) (by kernel_rfl) (by kernel_rfl) (hQn _ _) (.inl ⟨by rfl, fun u hu => ?_⟩) hS0 ?_
  · have k0 := Bx.cell hu 0 rfl; have k1 := Bx.cell hu 1 rfl
    exact run_ld _ rfl B 1 Y (by simp [o88_0, o88_1, o88_2, o88_3, o88_4, o88_5, o88_6, ev_ne, ev_eq, sz_put, e0, e3, hs]) k1
  change wpAnyH _ _ _ _ _ _ _ ((((((a.put (some 7) A).put (some 8) (.pointer (some ⟨B, 0, none⟩))).put (some 9) (.int .i64 X)).put (some 11) A).put (some 12) (.pointer (some ⟨B, 1, none⟩))).put (some 13) (.int .i64 Y)) _
  obtain ⟨a1, ha1⟩ : ∃ a1, ((((((a.put (some 7) A).put (some 8) (.pointer (some ⟨B, 0, none⟩))).put (some 9) (.int .i64 X)).put (some 11) A).put (some 12) (.pointer (some ⟨B, 1, none⟩))).put (some 13) (.int .i64 Y)) = a1 := ⟨_, rfl⟩
  have g0 : a1.eval (.tmp 7) = A := by rw [← ha1]; simp [ev_ne, ev_eq, sz_put, hs]
  have g2 : a1.eval (.tmp 9) = .int .i64 X := by rw [← ha1]; simp [ev_ne, ev_eq, sz_put, hs]
  have g4 : a1.eval (.tmp 11) = A := by rw [← ha1]; simp [ev_ne, ev_eq, sz_put, hs]
  have g6 : a1.eval (.tmp 13) = .int .i64 Y := by rw [← ha1]; simp [ev_ne, ev_eq, sz_put, hs]
  have gs : ∀ d, d < 20 → d < a1.tmps.size := by rw [← ha1]; simpa [sz_put] using hs
  rw [ha1] at hQ ⊢
  have HS : ∀ u, Stay base w u → Bx u B #[.int .i64 X, .int .i64 Y] 96 := fun u h => h.bx hB hbox
  have sB : ∀ {u}, Stay base w u → base ≤ u.heap.size := fun h => Nat.le_trans hbase h.size
  have T_end : ∀ l V U p q u, l = #[true, true, true, true, true, true, true, true, true, true, false, false] → PV V → PU U → w.heap.size ≤ p → w.heap.size ≤ q → p ≠ q → G 2 u → Stay base w u → Bx u p Z88 26 → Bx u q Z88 26 → wpAnyH Tryz.prog .any (ops88 ps).toArray (NoPanic Q) (fun u => Bx u B #[.int .i64 X, .int .i64 Y] 96) 2 l (cn88 a1 true true true true V U p q) u := by
    intro l V U p q u hl hv hu hp hq hpq hg hst hbp hbq
    subst hl
    refine wpAnyH_all (rs := [10]) (by kernel_rfl) (by simp) ?_
    intro i hi
    simp only [List.mem_singleton] at hi
    subst hi
    have st1 := hst.row hp V
    have iV : (Tryz.prog.info? 26).map (·.size) = some V.size := by rw [(hPV V hv).1]; exact info26q
    have iU : (Tryz.prog.info? 26).map (·.size) = some U.size := by rw [(hPU U hu).1]; exact info26q
    have oV : Z88.size = V.size := by rw [(hPV V hv).1]; rfl
    have oU : Z88.size = U.size := by rw [(hPU U hu).1]; rfl
    refine op_wp (i88_10 ps) rfl ?_
    refine wp_store_row (P := Tryz.prog) 26 (.tmp 5) (.tmp 10) rfl p V ?_ ?_ 26 Z88 hbp iV oV (hPV V hv).2 ?_
    · simp [cn88, ev_ne, ev_eq, sz_put, gs]
    · simp [cn88, ev_ne, ev_eq, sz_put, gs]
    refine ⟨HS _ st1, ?_⟩
    have hb1 : Bx (u.setRow p V) p V 26 := setRow_at hbp
    have hb2 : Bx (u.setRow p V) q Z88 26 := (heap_setRow_ne u p q V (fun e => hpq e.symm)).trans hbq
    refine wpAnyH_all (rs := [11]) (by kernel_rfl) (by simp) ?_
    intro i hi
    simp only [List.mem_singleton] at hi
    subst hi
    have st2 := st1.row hq U
    refine op_wp (i88_11 ps) rfl ?_
    refine wp_store_row (P := Tryz.prog) 26 (.tmp 6) (.tmp 14) rfl q U ?_ ?_ 26 Z88 hb2 iU oU (hPU U hu).2 ?_
    · simp [cn88, o88_10, Act.put_none, ev_ne, ev_eq, sz_put, gs]
    · simp [cn88, o88_10, Act.put_none, ev_ne, ev_eq, sz_put, gs]
    refine ⟨HS _ st2, ?_⟩
    refine wpAnyH_done (by kernel_rfl) ?_ _
    refine hQ V U p q _ hv hu hp hq hpq ((heap_setRow_ne _ q p U hpq).trans hb1) (setRow_at hb2) (HG 2 u _ hg ?_) st2
    exact bel_row (bel_row (Below.refl _ _) (Nat.le_trans hbase hp) V) (Nat.le_trans hbase hq) U
  have T_211 : ∀ l V U p q u, l = #[true, true, true, true, true, true, true, true, true, true, false, false] → PV V → PU U → WI base w (G 2) Z88 26 true true p q u → wpAnyH Tryz.prog .any (ops88 ps).toArray (NoPanic Q) (fun u => Bx u B #[.int .i64 X, .int .i64 Y] 96) 2 l (cn88 a1 true true true true V U p q) u := by
    intro l V U p q u hl hv hu hw
    subst hl
    exact T_end _ V U p q u rfl hv hu (hw.hp rfl).1 (hw.hq rfl).1 (hw.ne rfl rfl) hw.g hw.st (hw.hp rfl).2 (hw.hq rfl).2
  have T_201 : ∀ l V U p q u, l = #[true, true, true, true, true, true, true, true, false, true, false, false] → PV V → PU U → WI base w (G 2) Z88 26 false true p q u → wpAnyH Tryz.prog .any (ops88 ps).toArray (NoPanic Q) (fun u => Bx u B #[.int .i64 X, .int .i64 Y] 96) 3 l (cn88 a1 true true false true V U p q) u := by
    intro l V U p q u hl hv hu hw
    subst hl
    refine wpAnyH_all (rs := [8]) (by kernel_rfl) (by simp) ?_
    intro i hi
    simp only [List.mem_cons, List.not_mem_nil, or_false] at hi
    subst hi
    · refine op_wp (i88_8 ps) rfl ?_
      unfold Oper.wp
      rw [run_al26 rfl, Oper.upon_value]
      refine ⟨HS _ (hw.st.trans (Stay.alloc _ _ _)), ?_⟩
      rw [show (o88_8 ps).dst = some 5 from rfl, cn88_8]
      exact T_211 _ V U _ q _ (by kernel_rfl) hv hu (hw.al8 hbase (HG _) rfl)
  have T_210 : ∀ l V U p q u, l = #[true, true, true, true, true, true, true, true, true, false, false, false] → PV V → PU U → WI base w (G 2) Z88 26 true false p q u → wpAnyH Tryz.prog .any (ops88 ps).toArray (NoPanic Q) (fun u => Bx u B #[.int .i64 X, .int .i64 Y] 96) 3 l (cn88 a1 true true true false V U p q) u := by
    intro l V U p q u hl hv hu hw
    subst hl
    refine wpAnyH_all (rs := [9]) (by kernel_rfl) (by simp) ?_
    intro i hi
    simp only [List.mem_cons, List.not_mem_nil, or_false] at hi
    subst hi
    · refine op_wp (i88_9 ps) rfl ?_
      unfold Oper.wp
      rw [run_al26 rfl, Oper.upon_value]
      refine ⟨HS _ (hw.st.trans (Stay.alloc _ _ _)), ?_⟩
      rw [show (o88_9 ps).dst = some 6 from rfl, cn88_9]
      exact T_211 _ V U p _ _ (by kernel_rfl) hv hu (hw.al9 hbase (HG _) rfl)
  have T_200 : ∀ l V U p q u, l = #[true, true, true, true, true, true, true, true, false, false, false, false] → PV V → PU U → WI base w (G 2) Z88 26 false false p q u → wpAnyH Tryz.prog .any (ops88 ps).toArray (NoPanic Q) (fun u => Bx u B #[.int .i64 X, .int .i64 Y] 96) 4 l (cn88 a1 true true false false V U p q) u := by
    intro l V U p q u hl hv hu hw
    subst hl
    refine wpAnyH_all (rs := [8, 9]) (by kernel_rfl) (by simp) ?_
    intro i hi
    simp only [List.mem_cons, List.not_mem_nil, or_false] at hi
    rcases hi with rfl | rfl
    · refine op_wp (i88_8 ps) rfl ?_
      unfold Oper.wp
      rw [run_al26 rfl, Oper.upon_value]
      refine ⟨HS _ (hw.st.trans (Stay.alloc _ _ _)), ?_⟩
      rw [show (o88_8 ps).dst = some 5 from rfl, cn88_8]
      exact T_210 _ V U _ q _ (by kernel_rfl) hv hu (hw.al8 hbase (HG _) rfl)
    · refine op_wp (i88_9 ps) rfl ?_
      unfold Oper.wp
      rw [run_al26 rfl, Oper.upon_value]
      refine ⟨HS _ (hw.st.trans (Stay.alloc _ _ _)), ?_⟩
      rw [show (o88_9 ps).dst = some 6 from rfl, cn88_9]
      exact T_201 _ V U p _ _ (by kernel_rfl) hv hu (hw.al9 hbase (HG _) rfl)
  have T_111 : ∀ l V U p q u, l = #[true, true, true, true, true, true, true, false, true, true, false, false] → PV V → WI base w (G 1) Z88 26 true true p q u → wpAnyH Tryz.prog .any (ops88 ps).toArray (NoPanic Q) (fun u => Bx u B #[.int .i64 X, .int .i64 Y] 96) 3 l (cn88 a1 true false true true V U p q) u := by
    intro l V U p q u hl hv hw
    subst hl
    refine wpAnyH_all (rs := [7]) (by kernel_rfl) (by simp) ?_
    intro i hi
    simp only [List.mem_cons, List.not_mem_nil, or_false] at hi
    subst hi
    · refine op_call (i88_7 ps) rfl 118 cf118 _ _ _ rfl A _ (by simp [cn88, ev_ne, ev_eq, sz_put, g0, g2, g4, g6]) (by simp [cn88, ev_ne, ev_eq, sz_put, g0, g2, g4, g6]) _ (H7 u (sB hw.st) hw.g) ?_
      rintro e u' ⟨V', rfl, hv', hg', hs'⟩
      refine ⟨_, rfl, HS _ (hw.st.trans hs'), ?_⟩
      rw [show (o88_7 ps).dst = some 14 from rfl, cn88_7]
      exact T_211 _ V V' p q u' (by kernel_rfl) hv hv' (hw.call hbase hg' hs')
  have T_101 : ∀ l V U p q u, l = #[true, true, true, true, true, true, true, false, false, true, false, false] → PV V → WI base w (G 1) Z88 26 false true p q u → wpAnyH Tryz.prog .any (ops88 ps).toArray (NoPanic Q) (fun u => Bx u B #[.int .i64 X, .int .i64 Y] 96) 4 l (cn88 a1 true false false true V U p q) u := by
    intro l V U p q u hl hv hw
    subst hl
    refine wpAnyH_all (rs := [7, 8]) (by kernel_rfl) (by simp) ?_
    intro i hi
    simp only [List.mem_cons, List.not_mem_nil, or_false] at hi
    rcases hi with rfl | rfl
    · refine op_call (i88_7 ps) rfl 118 cf118 _ _ _ rfl A _ (by simp [cn88, ev_ne, ev_eq, sz_put, g0, g2, g4, g6]) (by simp [cn88, ev_ne, ev_eq, sz_put, g0, g2, g4, g6]) _ (H7 u (sB hw.st) hw.g) ?_
      rintro e u' ⟨V', rfl, hv', hg', hs'⟩
      refine ⟨_, rfl, HS _ (hw.st.trans hs'), ?_⟩
      rw [show (o88_7 ps).dst = some 14 from rfl, cn88_7]
      exact T_201 _ V V' p q u' (by kernel_rfl) hv hv' (hw.call hbase hg' hs')
    · refine op_wp (i88_8 ps) rfl ?_
      unfold Oper.wp
      rw [run_al26 rfl, Oper.upon_value]
      refine ⟨HS _ (hw.st.trans (Stay.alloc _ _ _)), ?_⟩
      rw [show (o88_8 ps).dst = some 5 from rfl, cn88_8]
      exact T_111 _ V U _ q _ (by kernel_rfl) hv (hw.al8 hbase (HG _) rfl)
  have T_110 : ∀ l V U p q u, l = #[true, true, true, true, true, true, true, false, true, false, false, false] → PV V → WI base w (G 1) Z88 26 true false p q u → wpAnyH Tryz.prog .any (ops88 ps).toArray (NoPanic Q) (fun u => Bx u B #[.int .i64 X, .int .i64 Y] 96) 4 l (cn88 a1 true false true false V U p q) u := by
    intro l V U p q u hl hv hw
    subst hl
    refine wpAnyH_all (rs := [7, 9]) (by kernel_rfl) (by simp) ?_
    intro i hi
    simp only [List.mem_cons, List.not_mem_nil, or_false] at hi
    rcases hi with rfl | rfl
    · refine op_call (i88_7 ps) rfl 118 cf118 _ _ _ rfl A _ (by simp [cn88, ev_ne, ev_eq, sz_put, g0, g2, g4, g6]) (by simp [cn88, ev_ne, ev_eq, sz_put, g0, g2, g4, g6]) _ (H7 u (sB hw.st) hw.g) ?_
      rintro e u' ⟨V', rfl, hv', hg', hs'⟩
      refine ⟨_, rfl, HS _ (hw.st.trans hs'), ?_⟩
      rw [show (o88_7 ps).dst = some 14 from rfl, cn88_7]
      exact T_210 _ V V' p q u' (by kernel_rfl) hv hv' (hw.call hbase hg' hs')
    · refine op_wp (i88_9 ps) rfl ?_
      unfold Oper.wp
      rw [run_al26 rfl, Oper.upon_value]
      refine ⟨HS _ (hw.st.trans (Stay.alloc _ _ _)), ?_⟩
      rw [show (o88_9 ps).dst = some 6 from rfl, cn88_9]
      exact T_111 _ V U p _ _ (by kernel_rfl) hv (hw.al9 hbase (HG _) rfl)
  have T_100 : ∀ l V U p q u, l = #[true, true, true, true, true, true, true, false, false, false, false, false] → PV V → WI base w (G 1) Z88 26 false false p q u → wpAnyH Tryz.prog .any (ops88 ps).toArray (NoPanic Q) (fun u => Bx u B #[.int .i64 X, .int .i64 Y] 96) 5 l (cn88 a1 true false false false V U p q) u := by
    intro l V U p q u hl hv hw
    subst hl
    refine wpAnyH_all (rs := [7, 8, 9]) (by kernel_rfl) (by simp) ?_
    intro i hi
    simp only [List.mem_cons, List.not_mem_nil, or_false] at hi
    rcases hi with rfl | rfl | rfl
    · refine op_call (i88_7 ps) rfl 118 cf118 _ _ _ rfl A _ (by simp [cn88, ev_ne, ev_eq, sz_put, g0, g2, g4, g6]) (by simp [cn88, ev_ne, ev_eq, sz_put, g0, g2, g4, g6]) _ (H7 u (sB hw.st) hw.g) ?_
      rintro e u' ⟨V', rfl, hv', hg', hs'⟩
      refine ⟨_, rfl, HS _ (hw.st.trans hs'), ?_⟩
      rw [show (o88_7 ps).dst = some 14 from rfl, cn88_7]
      exact T_200 _ V V' p q u' (by kernel_rfl) hv hv' (hw.call hbase hg' hs')
    · refine op_wp (i88_8 ps) rfl ?_
      unfold Oper.wp
      rw [run_al26 rfl, Oper.upon_value]
      refine ⟨HS _ (hw.st.trans (Stay.alloc _ _ _)), ?_⟩
      rw [show (o88_8 ps).dst = some 5 from rfl, cn88_8]
      exact T_110 _ V U _ q _ (by kernel_rfl) hv (hw.al8 hbase (HG _) rfl)
    · refine op_wp (i88_9 ps) rfl ?_
      unfold Oper.wp
      rw [run_al26 rfl, Oper.upon_value]
      refine ⟨HS _ (hw.st.trans (Stay.alloc _ _ _)), ?_⟩
      rw [show (o88_9 ps).dst = some 6 from rfl, cn88_9]
      exact T_101 _ V U p _ _ (by kernel_rfl) hv (hw.al9 hbase (HG _) rfl)
  have T_011 : ∀ l V U p q u, l = #[true, true, true, false, true, true, true, false, true, true, false, false] → WI base w (G 0) Z88 26 true true p q u → wpAnyH Tryz.prog .any (ops88 ps).toArray (NoPanic Q) (fun u => Bx u B #[.int .i64 X, .int .i64 Y] 96) 4 l (cn88 a1 false false true true V U p q) u := by
    intro l V U p q u hl hw
    subst hl
    refine wpAnyH_all (rs := [3]) (by kernel_rfl) (by simp) ?_
    intro i hi
    simp only [List.mem_cons, List.not_mem_nil, or_false] at hi
    subst hi
    · refine op_call (i88_3 ps) rfl 118 cf118 _ _ _ rfl A _ (by simp [cn88, ev_ne, ev_eq, sz_put, g0, g2, g4, g6]) (by simp [cn88, ev_ne, ev_eq, sz_put, g0, g2, g4, g6]) _ (H3 u (sB hw.st) hw.g) ?_
      rintro e u' ⟨V', rfl, hv', hg', hs'⟩
      refine ⟨_, rfl, HS _ (hw.st.trans hs'), ?_⟩
      rw [show (o88_3 ps).dst = some 10 from rfl, cn88_3]
      exact T_111 _ V' U p q u' (by kernel_rfl) hv' (hw.call hbase hg' hs')
  have T_001 : ∀ l V U p q u, l = #[true, true, true, false, true, true, true, false, false, true, false, false] → WI base w (G 0) Z88 26 false true p q u → wpAnyH Tryz.prog .any (ops88 ps).toArray (NoPanic Q) (fun u => Bx u B #[.int .i64 X, .int .i64 Y] 96) 5 l (cn88 a1 false false false true V U p q) u := by
    intro l V U p q u hl hw
    subst hl
    refine wpAnyH_all (rs := [3, 8]) (by kernel_rfl) (by simp) ?_
    intro i hi
    simp only [List.mem_cons, List.not_mem_nil, or_false] at hi
    rcases hi with rfl | rfl
    · refine op_call (i88_3 ps) rfl 118 cf118 _ _ _ rfl A _ (by simp [cn88, ev_ne, ev_eq, sz_put, g0, g2, g4, g6]) (by simp [cn88, ev_ne, ev_eq, sz_put, g0, g2, g4, g6]) _ (H3 u (sB hw.st) hw.g) ?_
      rintro e u' ⟨V', rfl, hv', hg', hs'⟩
      refine ⟨_, rfl, HS _ (hw.st.trans hs'), ?_⟩
      rw [show (o88_3 ps).dst = some 10 from rfl, cn88_3]
      exact T_101 _ V' U p q u' (by kernel_rfl) hv' (hw.call hbase hg' hs')
    · refine op_wp (i88_8 ps) rfl ?_
      unfold Oper.wp
      rw [run_al26 rfl, Oper.upon_value]
      refine ⟨HS _ (hw.st.trans (Stay.alloc _ _ _)), ?_⟩
      rw [show (o88_8 ps).dst = some 5 from rfl, cn88_8]
      exact T_011 _ V U _ q _ (by kernel_rfl) (hw.al8 hbase (HG _) rfl)
  have T_010 : ∀ l V U p q u, l = #[true, true, true, false, true, true, true, false, true, false, false, false] → WI base w (G 0) Z88 26 true false p q u → wpAnyH Tryz.prog .any (ops88 ps).toArray (NoPanic Q) (fun u => Bx u B #[.int .i64 X, .int .i64 Y] 96) 5 l (cn88 a1 false false true false V U p q) u := by
    intro l V U p q u hl hw
    subst hl
    refine wpAnyH_all (rs := [3, 9]) (by kernel_rfl) (by simp) ?_
    intro i hi
    simp only [List.mem_cons, List.not_mem_nil, or_false] at hi
    rcases hi with rfl | rfl
    · refine op_call (i88_3 ps) rfl 118 cf118 _ _ _ rfl A _ (by simp [cn88, ev_ne, ev_eq, sz_put, g0, g2, g4, g6]) (by simp [cn88, ev_ne, ev_eq, sz_put, g0, g2, g4, g6]) _ (H3 u (sB hw.st) hw.g) ?_
      rintro e u' ⟨V', rfl, hv', hg', hs'⟩
      refine ⟨_, rfl, HS _ (hw.st.trans hs'), ?_⟩
      rw [show (o88_3 ps).dst = some 10 from rfl, cn88_3]
      exact T_110 _ V' U p q u' (by kernel_rfl) hv' (hw.call hbase hg' hs')
    · refine op_wp (i88_9 ps) rfl ?_
      unfold Oper.wp
      rw [run_al26 rfl, Oper.upon_value]
      refine ⟨HS _ (hw.st.trans (Stay.alloc _ _ _)), ?_⟩
      rw [show (o88_9 ps).dst = some 6 from rfl, cn88_9]
      exact T_011 _ V U p _ _ (by kernel_rfl) (hw.al9 hbase (HG _) rfl)
  have T_000 : ∀ l V U p q u, l = #[true, true, true, false, true, true, true, false, false, false, false, false] → WI base w (G 0) Z88 26 false false p q u → wpAnyH Tryz.prog .any (ops88 ps).toArray (NoPanic Q) (fun u => Bx u B #[.int .i64 X, .int .i64 Y] 96) 6 l (cn88 a1 false false false false V U p q) u := by
    intro l V U p q u hl hw
    subst hl
    refine wpAnyH_all (rs := [3, 8, 9]) (by kernel_rfl) (by simp) ?_
    intro i hi
    simp only [List.mem_cons, List.not_mem_nil, or_false] at hi
    rcases hi with rfl | rfl | rfl
    · refine op_call (i88_3 ps) rfl 118 cf118 _ _ _ rfl A _ (by simp [cn88, ev_ne, ev_eq, sz_put, g0, g2, g4, g6]) (by simp [cn88, ev_ne, ev_eq, sz_put, g0, g2, g4, g6]) _ (H3 u (sB hw.st) hw.g) ?_
      rintro e u' ⟨V', rfl, hv', hg', hs'⟩
      refine ⟨_, rfl, HS _ (hw.st.trans hs'), ?_⟩
      rw [show (o88_3 ps).dst = some 10 from rfl, cn88_3]
      exact T_100 _ V' U p q u' (by kernel_rfl) hv' (hw.call hbase hg' hs')
    · refine op_wp (i88_8 ps) rfl ?_
      unfold Oper.wp
      rw [run_al26 rfl, Oper.upon_value]
      refine ⟨HS _ (hw.st.trans (Stay.alloc _ _ _)), ?_⟩
      rw [show (o88_8 ps).dst = some 5 from rfl, cn88_8]
      exact T_010 _ V U _ q _ (by kernel_rfl) (hw.al8 hbase (HG _) rfl)
    · refine op_wp (i88_9 ps) rfl ?_
      unfold Oper.wp
      rw [run_al26 rfl, Oper.upon_value]
      refine ⟨HS _ (hw.st.trans (Stay.alloc _ _ _)), ?_⟩
      rw [show (o88_9 ps).dst = some 6 from rfl, cn88_9]
      exact T_001 _ V U p _ _ (by kernel_rfl) (hw.al9 hbase (HG _) rfl)
  exact T_000 _ #[] #[] 0 0 _ (by kernel_rfl) ⟨HG 0 w _ hG0 (Below.refl _ _).drew, ⟨Nat.le_refl _, fun _ _ _ => rfl⟩, (by simp), (by simp), (by simp)⟩

end Go.Proofs.YtapnnbgcdijfpaaGreatDoor
