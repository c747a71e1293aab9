/- tree.Find's function value under a plain function; the law TreeFinds, walked. -/
import Derived.BigQuiet
import Derived.BigRegionIn
import Derived.Deep.Onto
import Derived.LoopIn
import Derived.LoopN
import Derived.LoopNIn
import Derived.OwnWalk
import Derived.OwnWalkIn
import Derived.RangeFuncBound
import Derived.RangeFuncCalls
import Derived.RangeFuncLeaves
import Derived.RangeFuncNested
import Derived.Scope
import Derived.Shelf.RegionOpen
import Derived.TacticsInMore
import Derived.Test.YtoffpbaddehncaaGreatDoorGA
import Derived.Test.YtoffpbaddehncaaGreatDoorTH
import Derived.Test.YtoffpbaddehncaaGreatDoorTR
import Derived.Test.YtoffpbaddehncaaGreatDoorUG
/- tree.Find's function value: the region that reads a node's kind. -/
namespace Go.Proofs.YtoffpbaddehncaaGreatDoor
set_option linter.unusedSimpArgs false
set_option linter.unusedVariables false
open Go.RowKit Go.Shelf
attribute [local go_sem] Oper.semAt_some

def ops10 : Array Oper := #[{ dst := some 26, op := Op.load 27 (Operand.tmp 3), type := 27, pos := "tree.go:172", after := #[], guard := none }, { dst := some 27, op := Op.move (Operand.tmp 8), type := 3, pos := "tree.go:172", after := #[], guard := none }, { dst := some 28, op := Op.indexAddr 27 (Operand.tmp 26) (Operand.tmp 27), type := 0, pos := "tree.go:172", after := #[{ on := 0, ground := Ground.data }, { on := 1, ground := Ground.data }], guard := none }, { dst := some 29, op := Op.load 3 (Operand.tmp 28), type := 3, pos := "tree.go:172", after := #[{ on := 2, ground := Ground.data }], guard := none }, { dst := some 30, op := Op.load 3 (Operand.tmp 4), type := 3, pos := "tree.go:172", after := #[], guard := none }, { dst := some 31, op := Op.binOp BinOp.neq 3 (Operand.tmp 29) (Operand.tmp 30) 3, type := 4, pos := "tree.go:172", after := #[{ on := 3, ground := Ground.data }, { on := 4, ground := Ground.data }], guard := none }]

set_option maxRecDepth 100000 in
set_option maxHeartbeats 4000000 in
theorem look_region (lp : Nat) (Q : Exit → Act → World → Prop) (A : World) (Bk ck Bq len i : Nat) (k kd : Int) (t0 t1 t2 t5 t6 t7 t9 t10 t11 t12 t13 t14 t15 t16 t17 t18 t19 t20 t21 t22 t23 t24 t25 : Value)
    (ckb : A.cell? ⟨Bk, 0, none⟩ = some (.slice (some ⟨ck, 0, none⟩) len len)) (ckr : A.cell? ⟨ck, i, none⟩ = some (.int .i64 k)) (cq : A.cell? ⟨Bq, 0, none⟩ = some (.int .i64 kd)) (hi : (i : Int) < len)
    (hQ : Q .normal { tmps := #[t0, t1, t2, .pointer (some ⟨Bk, 0, none⟩), .pointer (some ⟨Bq, 0, none⟩), t5, t6, t7, .int .i64 (i : Int), t9, t10, t11, t12, t13, t14, t15, t16, t17, t18, t19, t20, t21, t22, t23, t24, t25, .slice (some ⟨ck, 0, none⟩) len len, .int .i64 (i : Int), .pointer (some ⟨ck, i, none⟩), .int .i64 k, .int .i64 kd, .bool (k != kd), undef, undef, undef, undef, undef], defers := [] } A.drew) :
    (Code.region 10 ops10 true).wpIn (Fence.wide.inRound lp) 7 Tryz.prog Q { tmps := #[t0, t1, t2, .pointer (some ⟨Bk, 0, none⟩), .pointer (some ⟨Bq, 0, none⟩), t5, t6, t7, .int .i64 (i : Int), t9, t10, t11, t12, t13, t14, t15, t16, t17, t18, t19, t20, t21, t22, t23, t24, t25, undef, undef, undef, undef, undef, undef, undef, undef, undef, undef, undef], defers := [] } A := by
  have HQ := hide hQ
  clear hQ
  unfold ops10
  gi_region
  all_goals exact unhide HQ
end Go.Proofs.YtoffpbaddehncaaGreatDoor

/- tree.Find's function value under a plain function: the walk. -/
namespace Go.Proofs.YtoffpbaddehncaaGreatDoor
set_option linter.unusedSimpArgs false
set_option linter.unusedVariables false
open Go.RowKit Go.Shelf
attribute [local go_sem] Oper.semAt_some

/-- What Find's function value reads. -/
structure FixF (l : List Nd) (n : Nat) (kd : Int) (Ba Bx c Bn Bk ck Bq : Nat) (A : World) : Prop where
  all : Boxed A Ba 35 (.func (.func 35) #[] #[.pointer (some ⟨Bx, 0, none⟩)])
  cnt : Boxed A Bx 27 (.slice (some ⟨c, 0, none⟩) l.length l.length)
  row : A.ownsRow 0 3 1 (.slice (some ⟨c, 0, none⟩) l.length l.length) l.length (mixF (cntV l) l.length l.length)
  nb : Boxed A Bn 3 (.int .i64 (n : Int))
  kb : Boxed A Bk 27 (.slice (some ⟨ck, 0, none⟩) l.length l.length)
  kr : ∀ j, j < l.length → A.cell? ⟨ck, j, none⟩ = some (kndV l j)
  qb : Boxed A Bq 3 (.int .i64 kd)
theorem FixF.keep {l : List Nd} {n : Nat} {kd : Int} {Ba Bx c Bn Bk ck Bq : Nat} {A B : World} (h : FixF l n kd Ba Bx c Bn Bk ck Bq A) (hk : ∀ k, k = Ba ∨ k = Bx ∨ k = c ∨ k = Bn ∨ k = Bk ∨ k = ck ∨ k = Bq → B.heap[k]? = A.heap[k]?) : FixF l n kd Ba Bx c Bn Bk ck Bq B where
  all := (hk Ba (by simp)).trans h.all
  cnt := (hk Bx (by simp)).trans h.cnt
  row := ownsRow_heap h.row (fun g hg => hk g (by cases hg; simp))
  nb := (hk Bn (by simp)).trans h.nb
  kb := (hk Bk (by simp)).trans h.kb
  kr := fun j hj => (World.cell?_of_block (w := A) (hk ck (by simp))).trans (h.kr j hj)
  qb := (hk Bq (by simp)).trans h.qb

theorem wpIn_scope_wide {n : Nat} {P : Program} {Q : Exit → Act → World → Prop} {a : Act} {w : World} {c : Code} (h : c.wpIn Fence.wide n P (Exit.noGoto Q) a w) : (Code.scope c).wpIn Fence.wide n P Q a w :=
  wpIn_wide.2 (wp_scope_straight (wpIn_wide.1 h))
/-- Between two rounds of Find. -/
def FJ (l : List Nd) (n : Nat) (kd : Int) (Ba Bx c Bn Bk ck Bq Bf lp D N : Nat) (fv : Value) (rc : Loop) (Y : List Nat → World → Prop) (i : Nat) (A : World) : Prop :=
  ∃ tp fd done rest, A.heap[lp]? = some (.loop rc) ∧ A.heap[D]? = some (.deferred (some [])) ∧ Boxed A Bf 43 fv ∧ Boxed A (Bf + 1) 3 (.int .i64 tp) ∧ Boxed A (Bf + 1 + 1) 3 (.int .i64 fd) ∧
    PreF l n kd i tp fd done rest ∧ done ++ rest = frA l n kd (n + 1) ∧ Y done A ∧ FixF l n kd Ba Bx c Bn Bk ck Bq A ∧ N ≤ A.heap.size
/-- A round of Find has left. -/
def FX (l : List Nd) (n : Nat) (kd : Int) (lp D N : Nat) (rc : Loop) (Y Yx : List Nat → World → Prop) (i : Nat) (A : World) : Prop :=
  A.heap[lp]? = some (.loop { rc with state := .done, pending := some .ret }) ∧ A.heap[D]? = some (.deferred (some [])) ∧ (Y (frA l n kd (n + 1)) A ∨ ∃ d r, d ++ r = frA l n kd (n + 1) ∧ Yx d A) ∧ N ≤ A.heap.size

set_option maxRecDepth 100000 in
set_option maxHeartbeats 4000000 in
theorem find2_fn (f : Nat) (ey : ∀ args w, (callFunc f args).run Tryz.prog w = .ok (.enter f args) w) (caps : Array Value) (l : List Nd) (n : Nat) (kd : Int) (Ba Bx c Bn Bk ck Bq : Nat) (W : World) (hfx : FixF l n kd Ba Bx c Bn Bk ck Bq W) (hlow : Ba < W.heap.size ∧ Bx < W.heap.size ∧ c < W.heap.size ∧ Bn < W.heap.size ∧ Bk < W.heap.size ∧ ck < W.heap.size ∧ Bq < W.heap.size)
    (hl : ∀ j, j < l.length → (nd l j).kids.length ≤ 17592186044416) (hlen : l.length ≤ 2199023255552) (hf : ∀ m, m < l.length → Fine l m) (hn : n < l.length)
    (Y Yx : List Nat → World → Prop)
    (hYb : ∀ d A B, Y d A → Below W.heap.size A B → Y d B) (hYxb : ∀ d A B, Yx d A → Below W.heap.size A B → Yx d B)
    (hYf : ∀ d x A, Y d A → FixF l n kd Ba Bx c Bn Bk ck Bq A → (∃ r, d ++ x :: r = frA l n kd (n + 1)) → W.heap.size ≤ A.heap.size → Calls Tryz.prog f (#[.int .i64 (x : Int)] ++ caps) A fun e A' =>
      (∀ k, (W.heap.size ≤ k ∧ k < A.heap.size) ∨ k = Ba ∨ k = Bx ∨ k = c ∨ k = Bn ∨ k = Bk ∨ k = ck ∨ k = Bq → A'.heap[k]? = A.heap[k]?) ∧ A.heap.size ≤ A'.heap.size ∧ ((e = .returned (.bool true) ∧ Y (d ++ [x]) A') ∨ (e = .returned (.bool false) ∧ Yx (d ++ [x]) A')))
    (h0 : Y [] W) :
    CallsIn Fence.wide 9 Tryz.prog 39 #[.func (.func f) #[] caps, .pointer (some ⟨Ba, 0, none⟩), .pointer (some ⟨Bn, 0, none⟩), .pointer (some ⟨Bk, 0, none⟩), .pointer (some ⟨Bq, 0, none⟩)] W fun e W' => (∃ v, e = .returned v) ∧ (Y (frA l n kd (n + 1)) W' ∨ ∃ d r, d ++ r = frA l n kd (n + 1) ∧ Yx d W') := by
  obtain ⟨l1, l2, l3, l4, l5, l6, l7⟩ := hlow
  have hba := hfx.all
  have HFX := hide hfx
  have HYB := hide hYb
  have HYXB := hide hYxb
  have HYF := hide hYf
  have HY0 := hide h0
  have HKD := hide hl
  have HF := hide hf
  clear hfx hYb hYxb hYf h0 hba hl hf
  obtain ⟨fv, hfv⟩ : ∃ fv : Value, fv = .func (.func f) #[] caps := ⟨_, rfl⟩
  obtain ⟨W2, hW2⟩ : ∃ W2, ((W.alloc (.cells #[.func (.func f) #[] caps] 43)).alloc (.cells #[.int .i64 0] 3)).alloc (.cells #[.int .i64 9223372036854775807] 3) = W2 := ⟨_, rfl⟩
  have hB2 : Below W.heap.size W W2 := by rw [← hW2]; exact (((Below.refl _ W).alloc (Nat.le_refl _) _).alloc (by simp) _).alloc (by simp; omega) _
  have hz2 : W2.heap.size = W.heap.size + 1 + 1 + 1 := by rw [← hW2]; simp
  have f2 : Boxed W2 W.heap.size 43 fv := by rw [← hW2, hfv]; exact ((Boxed.new W 43 _).alloc _).alloc _
  have t2 : Boxed W2 (W.heap.size + 1) 3 (.int .i64 0) := by
    have := Boxed.new (W.alloc (.cells #[.func (.func f) #[] caps] 43)) 3 (.int .i64 0)
    rw [World.size_alloc] at this
    rw [← hW2]; exact this.alloc _
  have d2 : Boxed W2 (W.heap.size + 1 + 1) 3 (.int .i64 9223372036854775807) := by
    have := Boxed.new ((W.alloc (.cells #[.func (.func f) #[] caps] 43)).alloc (.cells #[.int .i64 0] 3)) 3 (.int .i64 9223372036854775807)
    rw [World.size_alloc, World.size_alloc] at this
    rw [← hW2]; exact this
  have x2 : FixF l n kd Ba Bx c Bn Bk ck Bq W2 := (unhide HFX).keep (fun k hk => hB2.block k (by omega))
  have y2 : Y [] W2 := unhide HYB _ _ _ (unhide HY0) hB2
  have cba := x2.all.cell
  have HX2 := hide x2
  have HY2 := hide y2
  have HFV := hide hfv
  clear x2 y2 hfv
  refine callsIn_of_wp_marks Tryz.func39 rfl trivial ?_ rfl
  simp only [Tryz.ntmps39, List.size_toArray, List.length_cons, List.length_nil, Nat.reduceAdd, Nat.reduceSub, Array.replicate_succ, Array.replicate_zero, List.push_toArray, List.append_toArray, List.nil_append, List.cons_append]
  gi_wp2
  refine wpIn_scope_wide ?_
  gi_wp2
  refine wpIn_label ?_
  clear hW2
  gi_wp2
  refine range_enter rfl (by omega) (gf := 35) (lb := #[.pointer (some ⟨Bx, 0, none⟩)]) rfl trivial enter35 ?_
  intro fn hfn
  generalize hrc : recOf fn _ _ _ _ _ _ _ = rc
  obtain ⟨W3, hW3⟩ : ∃ W3, ranged W2 rc = W3 := ⟨_, rfl⟩
  have hz3 : W3.heap.size = W2.heap.size + 1 + 1 := by rw [← hW3]; exact ranged_size W2 rc
  have hB3 : Below W2.heap.size W2 W3 := by rw [← hW3]; exact ranged_below W2 rc
  have hl3 : W3.heap[W2.heap.size + 1]? = some (.loop rc) := by rw [← hW3]; exact ranged_l W2 rc
  have hd3 : W3.heap[W2.heap.size]? = some (.deferred (some [])) := by rw [← hW3]; exact ranged_d W2 rc
  rw [hW3]
  clear hW3
  have hx3 : FixF l n kd Ba Bx c Bn Bk ck Bq W3 := (unhide HX2).keep (fun k hk => hB3.block k (by omega))
  have hj0 : FJ l n kd Ba Bx c Bn Bk ck Bq W.heap.size (W2.heap.size + 1) W2.heap.size W3.heap.size fv rc Y 0 W3 :=
    ⟨0, 9223372036854775807, [], frA l n kd (n + 1), hl3, hd3, (hB3.block _ (by omega)).trans f2, (hB3.block _ (by omega)).trans t2, (hB3.block _ (by omega)).trans d2, by simp [PreF], rfl, unhide HYB _ _ _ (unhide HY2) (hB3.mono (by omega)), hx3, Nat.le_refl _⟩
  refine (walk2_in 8 (by omega) (W2.heap.size + 1) Bx c l (unhide HKD) hlen W3 (FJ l n kd Ba Bx c Bn Bk ck Bq W.heap.size (W2.heap.size + 1) W2.heap.size W3.heap.size fv rc Y) (FX l n kd (W2.heap.size + 1) W2.heap.size W3.heap.size rc Y Yx) hx3.cnt hx3.row ?hJ ?hY hj0).mono ?post
  case hJ =>
    rintro i A C ⟨tp, fd, dn, rs, a1, a2, a3, a4, a5, a6, a7, a8, a9, a10⟩ hb
    exact ⟨tp, fd, dn, rs, (hb.block _ (by omega)).trans a1, (hb.block _ (by omega)).trans a2, (hb.block _ (by omega)).trans a3, (hb.block _ (by omega)).trans a4, (hb.block _ (by omega)).trans a5, a6, a7, unhide HYB _ _ _ a8 (hb.mono (by omega)), a9.keep (fun k hk => hb.block k (by omega)), Nat.le_trans a10 hb.size⟩
  case hY =>
    rintro i A ⟨tp, fd, dn, rs, a1, a2, a3, a4, a5, a6, a7, a8, a9, a10⟩ hi hA
    rw [← hrc] at a1
    refine yield_round (W₁ := A) hfn a1 rfl ?a1 a1 ?hassign ?hbody
    case hassign =>
      intro K hK
      gi_wp2
      exact hK
    case hbody =>
      have hrb : { (recOf fn _ _ _ _ _ .busy none : Loop) with state := .ready, pending := none } = rc := hrc
      generalize recOf fn _ _ _ _ _ .busy none = rb at hrb ⊢
      have hla : W2.heap.size + 1 < A.heap.size := (Array.getElem?_eq_some_iff.1 a1).1
      obtain ⟨A1, hA1⟩ : ∃ A1, A.putObj (W2.heap.size + 1) (.loop rb) = A1 := ⟨_, rfl⟩
      have hk1 : ∀ k, k ≠ W2.heap.size + 1 → A1.heap[k]? = A.heap[k]? := fun k hn => by rw [← hA1]; exact World.putObj_heap_other hn
      have hl1 : A1.heap[W2.heap.size + 1]? = some (.loop rb) := by rw [← hA1]; exact World.putObj_heap_same hla
      have hzA1 : A1.heap.size = A.heap.size := by rw [← hA1]; simp
      have hBA : Below W.heap.size A A1 := by
        rw [← hA1]
        exact (Below.refl _ A).grown (grownBy_putObj' A (W2.heap.size + 1) _) (by omega) (fun k e => by cases e; omega)
      rw [hA1]
      clear hA1
      have b3 : Boxed A1 W.heap.size 43 fv := (hk1 _ (by omega)).trans a3
      have b4 : Boxed A1 (W.heap.size + 1) 3 (.int .i64 tp) := (hk1 _ (by omega)).trans a4
      have b5 : Boxed A1 (W.heap.size + 1 + 1) 3 (.int .i64 fd) := (hk1 _ (by omega)).trans a5
      have b2 : A1.heap[W2.heap.size]? = some (.deferred (some [])) := (hk1 _ (by omega)).trans a2
      have b8 : Y dn A1 := unhide HYB _ _ _ a8 hBA
      have b9 : FixF l n kd Ba Bx c Bn Bk ck Bq A1 := a9.keep (fun k hk => hk1 k (by omega))
      clear a1 a2 a3 a4 a5 a8 a9
      have c3 := b3.cell
      have c4 := b4.cell
      have g4 := b4.frozen
      have c5 := b5.cell
      have g5 := b5.frozen
      have cn := b9.nb.cell
      have H9 := hide b9
      have H8 := hide b8
      clear b9 b8
      -- what a round leaves that goes on, and one that leaves
      have GO : Hid (∀ (A6 : World) tp' fd' dn' rs', A6.heap[W2.heap.size + 1]? = some (.loop rb) → A6.heap[W2.heap.size]? = some (.deferred (some [])) → Boxed A6 W.heap.size 43 fv → Boxed A6 (W.heap.size + 1) 3 (.int .i64 tp') → Boxed A6 (W.heap.size + 1 + 1) 3 (.int .i64 fd') → PreF l n kd (i + 1) tp' fd' dn' rs' → dn' ++ rs' = frA l n kd (n + 1) → Y dn' A6 → FixF l n kd Ba Bx c Bn Bk ck Bq A6 → A.heap.size ≤ A6.heap.size → (∀ k, (W3.heap.size ≤ k ∧ k < A.heap.size) → A6.heap[k]? = A.heap[k]?) → A6.heap[Bx]? = A.heap[Bx]? → A6.heap[c]? = A.heap[c]? →
          ∃ v w', (Instr.endRound (W2.heap.size + 1) none).run Tryz.prog A6 = .ok v w' ∧ (fun e A' => (∀ k, (W3.heap.size ≤ k ∧ k < A.heap.size) ∨ k = Bx ∨ k = c → A'.heap[k]? = A.heap[k]?) ∧ A.heap.size ≤ A'.heap.size ∧ ((e = .returned (.bool true) ∧ FJ l n kd Ba Bx c Bn Bk ck Bq W.heap.size (W2.heap.size + 1) W2.heap.size W3.heap.size fv rc Y (i + 1) A') ∨ (e = .returned (.bool false) ∧ FX l n kd (W2.heap.size + 1) W2.heap.size W3.heap.size rc Y Yx (i + 1) A'))) (Ending.returned v) w') := by
        intro A6 tp' fd' dn' rs' e1 e2 e3 e4 e5 e6 e7 e8 e9 e10 e11 e12 e13
        have ho : ∀ k, k ≠ W2.heap.size + 1 → (A6.putObj (W2.heap.size + 1) (.loop { rb with state := .ready, pending := none })).heap[k]? = A6.heap[k]? := fun k hk => World.putObj_heap_other hk
        refine ⟨_, _, run_endRound none e1, ?_, by simp; omega, .inl ⟨rfl, tp', fd', dn', rs', ?_, (ho _ (by omega)).trans e2, (ho _ (by omega)).trans e3, (ho _ (by omega)).trans e4, (ho _ (by omega)).trans e5, e6, e7, ?_, e9.keep (fun k hk => ho k (by omega)), by simp; omega⟩⟩
        · intro k hk
          rcases hk with hk | rfl | rfl
          · exact (ho k (by omega)).trans (e11 k hk)
          · exact (ho _ (by omega)).trans e12
          · exact (ho _ (by omega)).trans e13
        · rw [show rc = { rb with state := .ready, pending := none } from hrb.symm]; exact World.putObj_heap_same (by omega)
        · exact unhide HYB _ _ _ e8 ((Below.refl _ A6).grown (grownBy_putObj' A6 (W2.heap.size + 1) _) (by omega) (fun k e => by cases e; omega))
      have OFF : Hid (∀ (A6 : World), A6.heap[W2.heap.size + 1]? = some (.loop rb) → A6.heap[W2.heap.size]? = some (.deferred (some [])) → (Y (frA l n kd (n + 1)) A6 ∨ ∃ d r, d ++ r = frA l n kd (n + 1) ∧ Yx d A6) → A.heap.size ≤ A6.heap.size → (∀ k, (W3.heap.size ≤ k ∧ k < A.heap.size) → A6.heap[k]? = A.heap[k]?) → A6.heap[Bx]? = A.heap[Bx]? → A6.heap[c]? = A.heap[c]? →
          ∃ v w', (Instr.endRound (W2.heap.size + 1) (some .ret)).run Tryz.prog A6 = .ok v w' ∧ (fun e A' => (∀ k, (W3.heap.size ≤ k ∧ k < A.heap.size) ∨ k = Bx ∨ k = c → A'.heap[k]? = A.heap[k]?) ∧ A.heap.size ≤ A'.heap.size ∧ ((e = .returned (.bool true) ∧ FJ l n kd Ba Bx c Bn Bk ck Bq W.heap.size (W2.heap.size + 1) W2.heap.size W3.heap.size fv rc Y (i + 1) A') ∨ (e = .returned (.bool false) ∧ FX l n kd (W2.heap.size + 1) W2.heap.size W3.heap.size rc Y Yx (i + 1) A'))) (Ending.returned v) w') := by
        intro A6 e1 e2 e3 e10 e11 e12 e13
        have ho : ∀ k, k ≠ W2.heap.size + 1 → (A6.putObj (W2.heap.size + 1) (.loop { rb with state := .done, pending := some .ret })).heap[k]? = A6.heap[k]? := fun k hk => World.putObj_heap_other hk
        have hB : Below W.heap.size A6 (A6.putObj (W2.heap.size + 1) (.loop { rb with state := .done, pending := some .ret })) := (Below.refl _ A6).grown (grownBy_putObj' A6 (W2.heap.size + 1) _) (by omega) (fun k e => by cases e; omega)
        refine ⟨_, _, run_endRound (some .ret) e1, ?_, by simp; omega, .inr ⟨rfl, ?_, (ho _ (by omega)).trans e2, ?_, by simp; omega⟩⟩
        · intro k hk
          rcases hk with hk | rfl | rfl
          · exact (ho k (by omega)).trans (e11 k hk)
          · exact (ho _ (by omega)).trans e12
          · exact (ho _ (by omega)).trans e13
        · rw [show rc = { rb with state := .ready, pending := none } from hrb.symm]; exact World.putObj_heap_same (by omega)
        · rcases e3 with h | ⟨d, r, e, h⟩
          · exact .inl (unhide HYB _ _ _ h hB)
          · exact .inr ⟨d, r, e, unhide HYXB _ _ _ h hB⟩
      have hk1' : ∀ k, (W3.heap.size ≤ k ∧ k < A.heap.size) → A1.heap[k]? = A.heap[k]? := fun k hk => hk1 k (by omega)
      have hx1 : A1.heap[Bx]? = A.heap[Bx]? := hk1 _ (by omega)
      have hc1 : A1.heap[c]? = A.heap[c]? := hk1 _ (by omega)
      clear hk1 hBA hrb
      by_cases q1 : i ≤ n
      · have q1' : (i : Int) ≤ (n : Int) := by omega
        have HP := hide (pre_low (unhide HF) hn a6 q1)
        gi_wp2
        rw [← hz2, ← hz3]
        refine unhide GO _ _ _ _ _ ((Below.heap_setCell _ _ _ _ (by simp; omega)).trans hl1) ((Below.heap_setCell _ _ _ _ (by simp; omega)).trans b2) (b3.other (by omega) _) (b4.set _) (b5.other (by omega) _) (unhide HP) a7 (unhide HYB _ _ _ (unhide H8) ?_) ((unhide H9).keep ?_) (by simp; omega) ?_ ((Below.heap_setCell _ _ _ _ (by simp; omega)).trans hx1) ((Below.heap_setCell _ _ _ _ (by simp; omega)).trans hc1)
        · exact (Below.refl _ A1).setCell (p := ⟨W.heap.size + 1, 0, none⟩) (by simp) _
        · exact fun k hk => Below.heap_setCell _ _ _ _ (by simp; omega)
        · exact fun k hk => (Below.heap_setCell _ _ _ _ (by simp; omega)).trans (hk1' k hk)
      · have q1' : ¬ (i : Int) ≤ (n : Int) := by omega
        have q1n : n < i := by omega
        by_cases q2 : (depAt l i : Int) ≤ tp
        · have HP := hide (pre_stop (unhide HF) hn a6 q1n q2)
          gi_wp2
          rw [← hz2, ← hz3]
          refine unhide OFF _ hl1 b2 (.inl ?_) (by omega) hk1' hx1 hc1
          rw [unhide HP, List.append_nil] at a7
          rw [← a7]; exact unhide H8
        · have hin := pre_in (unhide HF) hn a6 q1n hi q2
          by_cases q3 : fd < (depAt l i : Int)
          · have HP := hide (pre_skip (unhide HF) hn a6 q1n hi hin hlen q3)
            gi_wp2
            rw [← hz2, ← hz3]
            exact unhide GO _ _ _ _ _ hl1 b2 b3 b4 b5 (unhide HP) a7 (unhide H8) (unhide H9) (by omega) hk1' hx1 hc1
          · obtain ⟨hrs, htp⟩ := pre_look (unhide HF) hn a6 q1n hi hin q3
            obtain ⟨A2, hA2⟩ : ∃ A2, A1.setCell ⟨W.heap.size + 1 + 1, 0, none⟩ (.int .i64 9223372036854775807) = A2 := ⟨_, rfl⟩
            have hk2 : ∀ k, k ≠ W.heap.size + 1 + 1 → A2.heap[k]? = A1.heap[k]? := fun k hk => by rw [← hA2]; exact Below.heap_setCell _ _ _ _ hk
            have hz22 : A2.heap.size = A1.heap.size := setCell_size hA2
            have hB22 : Below W.heap.size A1 A2 := by rw [← hA2]; exact (Below.refl _ A1).setCell (p := ⟨W.heap.size + 1 + 1, 0, none⟩) (by simp; omega) _
            have n5 : Boxed A2 (W.heap.size + 1 + 1) 3 (.int .i64 9223372036854775807) := by rw [← hA2]; exact b5.set _
            have x9 : FixF l n kd Ba Bx c Bn Bk ck Bq A2 := (unhide H9).keep (fun k hk => hk2 k (by omega))
            have ckb := x9.kb.cell
            have ckr : A2.cell? ⟨ck, i, none⟩ = some (.int .i64 (nd l i).kind) := x9.kr i hi
            have cq := x9.qb.cell
            have n3 : Boxed A2 W.heap.size 43 fv := (hk2 _ (by omega)).trans b3
            have m3 := n3.cell
            have m5 := n5.cell
            have mf5 := n5.frozen
            have hi' : (i : Int) < l.length := by omega
            have lck : ck < A2.heap.size := by omega
            by_cases q4 : (nd l i).kind = kd
            · have q4' : ((nd l i).kind != kd) = false := by simpa using q4
              obtain ⟨hfr, hpr⟩ := pre_yes (done := dn ++ [i]) (unhide HF) hn q1n hin q4
              have HP := hide hpr
              have HE : Hid ((dn ++ [i]) ++ frA l n kd (en l i) = frA l n kd (n + 1)) := by show _ = _; rw [← a7, hrs, hfr]; simp
              clear q4 hpr
              have m3' : A2.cell? ⟨W.heap.size, 0, none⟩ = some (.func (.func f) #[] caps) := by rw [m3]; exact congrArg some (unhide HFV)
              obtain ⟨A3, hA3⟩ : ∃ A3, A2.drew.setCell ⟨W.heap.size + 1 + 1, 0, none⟩ (.int .i64 (depAt l i : Int)) = A3 := ⟨_, rfl⟩
              have hk3 : ∀ k, k ≠ W.heap.size + 1 + 1 → A3.heap[k]? = A2.heap[k]? := fun k hk => by rw [← hA3]; exact Below.heap_setCell _ _ _ _ hk
              have hz33 : A3.heap.size = A2.heap.size := (setCell_size hA3 : A3.heap.size = A2.drew.heap.size)
              have hB33 : Below W.heap.size A1 A3 := by rw [← hA3]; exact hB22.drew.setCell (p := ⟨W.heap.size + 1 + 1, 0, none⟩) (by simp; omega) _
              have p5 : Boxed A3 (W.heap.size + 1 + 1) 3 (.int .i64 (depAt l i : Int)) := by rw [← hA3]; exact n5.set _
              have p3 : Boxed A3 W.heap.size 43 fv := (hk3 _ (by omega)).trans n3
              have p3' : A3.cell? ⟨W.heap.size, 0, none⟩ = some (.func (.func f) #[] caps) := by rw [p3.cell]; exact congrArg some (unhide HFV)
              have y9 : FixF l n kd Ba Bx c Bn Bk ck Bq A3 := x9.keep (fun k hk => hk3 k (by omega))
              have HC := hide (unhide HYF dn i A3 (unhide HYB _ _ _ (unhide H8) hB33) y9 ⟨_, by rw [← a7, hrs, hfr]⟩ (by omega))
              clear hB22 m3 x9
              gi_wp2
              refine look_region _ _ _ _ _ _ _ _ _ _ _ _ _ _ _ _ _ _ _ _ _ _ _ _ _ _ _ _ _ _ _ _ _ ckb ckr cq hi' ?_
              dsimp only
              rw [q4']
              gi_wp2
              refine ⟨trivial, (CallsIn.inRound _ (callsIn_wide.2 (unhide HC))).mono ?_⟩
              rintro x A6 ⟨k6, z6, (⟨rfl, y6⟩ | ⟨rfl, y6⟩)⟩
              · have HY6 := hide y6
                have K6 := hide k6
                clear y6 k6
                gi_wp2
                try rw [← hz2, ← hz3]
                have kk : ∀ k, k ≠ W.heap.size + 1 + 1 → W.heap.size ≤ k → k < A3.heap.size → A6.heap[k]? = A1.heap[k]? := fun k h1 h2 h3 => (unhide K6 k (.inl ⟨h2, h3⟩)).trans ((hk3 k h1).trans (hk2 k h1))
                refine unhide GO A6 tp _ _ _ ((kk _ (by omega) (by omega) (by omega)).trans hl1) ((kk _ (by omega) (by omega) (by omega)).trans b2) ((kk _ (by omega) (by omega) (by omega)).trans b3) ((kk _ (by omega) (by omega) (by omega)).trans b4) ((unhide K6 _ (.inl ⟨by omega, by omega⟩)).trans p5) (by rw [htp]; exact unhide HP) (unhide HE) (unhide HY6) (y9.keep (fun k hk => unhide K6 k (.inr hk))) (by omega) (fun k hk => (kk k (by omega) (by omega) (by omega)).trans (hk1' k hk)) ?_ ?_
                · exact (unhide K6 Bx (by simp)).trans ((hk3 _ (by omega)).trans ((hk2 _ (by omega)).trans hx1))
                · exact (unhide K6 c (by simp)).trans ((hk3 _ (by omega)).trans ((hk2 _ (by omega)).trans hc1))
              · have HY6 := hide y6
                have K6 := hide k6
                clear y6 k6
                gi_wp2
                try rw [← hz2, ← hz3]
                have kk : ∀ k, k ≠ W.heap.size + 1 + 1 → W.heap.size ≤ k → k < A3.heap.size → A6.heap[k]? = A1.heap[k]? := fun k h1 h2 h3 => (unhide K6 k (.inl ⟨h2, h3⟩)).trans ((hk3 k h1).trans (hk2 k h1))
                refine unhide OFF A6 ((kk _ (by omega) (by omega) (by omega)).trans hl1) ((kk _ (by omega) (by omega) (by omega)).trans b2) (.inr ⟨_, _, unhide HE, unhide HY6⟩) (by omega) (fun k hk => (kk k (by omega) (by omega) (by omega)).trans (hk1' k hk)) ?_ ?_
                · exact (unhide K6 Bx (by simp)).trans ((hk3 _ (by omega)).trans ((hk2 _ (by omega)).trans hx1))
                · exact (unhide K6 c (by simp)).trans ((hk3 _ (by omega)).trans ((hk2 _ (by omega)).trans hc1))
            · have q4' : ((nd l i).kind != kd) = true := by simpa using q4
              have HP := hide (pre_no (done := dn) (unhide HF) hn q1n hin q4)
              clear q4
              gi_wp2
              refine look_region _ _ _ _ _ _ _ _ _ _ _ _ _ _ _ _ _ _ _ _ _ _ _ _ _ _ _ _ _ _ _ _ _ ckb ckr cq hi' ?_
              dsimp only
              rw [q4']
              gi_wp2
              refine unhide GO A2.drew tp _ _ _ ((hk2 _ (by omega)).trans hl1) ((hk2 _ (by omega)).trans b2) n3 ((hk2 _ (by omega)).trans b4) n5 (by rw [htp]; exact unhide HP) (by rw [← hrs]; exact a7) (unhide HYB _ _ _ (unhide H8) hB22.drew) (x9.keep (fun _ _ => rfl)) (by show _ ≤ A2.heap.size; omega) (fun k hk => (hk2 k (by omega)).trans (hk1' k hk)) ((hk2 _ (by omega)).trans hx1) ((hk2 _ (by omega)).trans hc1)
  case post =>
    rintro e W' ⟨⟨u, rfl⟩, (⟨tp, fd, dn, rs, a1, a2, a3, a4, a5, a6, a7, a8, a9, a10⟩ | ⟨i, _, a1, a2, a3, a4⟩)⟩
    · have hrs := pre_done (unhide HF) hn a6
      rw [hrs, List.append_nil] at a7
      rw [a7] at a8
      have hpe : rc.pending = none := by rw [← hrc]; rfl
      have hne : rc.state ≠ .busy := by rw [← hrc]; simp [recOf]
      have hend := run_endLoop (P := Tryz.prog) a1 hne
      rw [hpe] at hend
      refine ⟨none, _, hend, ?_⟩
      obtain ⟨W7, hW7⟩ : ∃ W7, W'.putObj (W2.heap.size + 1) (.loop { rc with state := .exhausted, pending := none }) = W7 := ⟨_, rfl⟩
      have hk7 : ∀ k, k ≠ W2.heap.size + 1 → W7.heap[k]? = W'.heap[k]? := fun k hk => by rw [← hW7]; exact World.putObj_heap_other hk
      have hB7 : Below W.heap.size W' W7 := by
        rw [← hW7]
        exact (Below.refl _ W').grown (grownBy_putObj' W' (W2.heap.size + 1) _) (by omega) (fun k e => by cases e; omega)
      rw [hW7]
      clear hW7 hend
      dsimp only
      have hd7 : W7.heap[W2.heap.size]? = some (.deferred (some [])) := (hk7 _ (by omega)).trans a2
      have hy7 : Y (frA l n kd (n + 1)) W7 := unhide HYB _ _ _ a8 hB7
      have HY7 := hide hy7
      clear hy7 a8 a9 a6
      gi_wp2
      rw [← hz2]
      refine ⟨by simp, .inl ⟨_, _, rfl, run_takeDeferred hd7, ?_⟩⟩
      refine ⟨.tuple #[], results_none rfl _ _ _, ⟨_, rfl⟩, .inl (unhide HYB _ _ _ (unhide HY7) ?_)⟩
      exact (Below.refl _ W7).grown (grownBy_putObj' W7 W2.heap.size _) (by have := hB7.size; omega) (fun k e => by cases e; omega)
    · have hend := run_endLoop (P := Tryz.prog) a1 (by simp)
      refine ⟨some .ret, _, hend, ?_⟩
      obtain ⟨W7, hW7⟩ : ∃ W7, W'.putObj (W2.heap.size + 1) (.loop { rc with state := .exhausted, pending := some .ret }) = W7 := ⟨_, rfl⟩
      have hk7 : ∀ k, k ≠ W2.heap.size + 1 → W7.heap[k]? = W'.heap[k]? := fun k hk => by rw [← hW7]; exact World.putObj_heap_other hk
      have hB7 : Below W.heap.size W' W7 := by
        rw [← hW7]
        exact (Below.refl _ W').grown (grownBy_putObj' W' (W2.heap.size + 1) _) (by omega) (fun k e => by cases e; omega)
      have hd7 : W7.heap[W2.heap.size]? = some (.deferred (some [])) := (hk7 _ (by omega)).trans a2
      have hB8 : Below W.heap.size W' (W7.putObj W2.heap.size (.deferred none)) := hB7.trans ((Below.refl _ W7).grown (grownBy_putObj' W7 W2.heap.size _) (by have := hB7.size; omega) (fun k e => by cases e; omega))
      have HY7 : Hid (Y (frA l n kd (n + 1)) (W7.putObj W2.heap.size (.deferred none)) ∨ ∃ d r, d ++ r = frA l n kd (n + 1) ∧ Yx d (W7.putObj W2.heap.size (.deferred none))) := by
        rcases a3 with h | ⟨d, r, e, h⟩
        · exact .inl (unhide HYB _ _ _ h hB8)
        · exact .inr ⟨d, r, e, unhide HYXB _ _ _ h hB8⟩
      clear a3
      dsimp only
      rw [hW7]
      clear hW7 hend
      gi_wp2
      rw [← hz2]
      refine ⟨by simp, .inl ⟨_, _, rfl, run_takeDeferred hd7, ?_⟩⟩
      exact ⟨.tuple #[], results_none rfl _ _ _, ⟨_, rfl⟩, unhide HY7⟩
end Go.Proofs.YtoffpbaddehncaaGreatDoor

/- tree.Find's function values of what is no tree; the law's two function values under Find. -/
namespace Go.Proofs.YtoffpbaddehncaaGreatDoor
set_option linter.unusedSimpArgs false
set_option linter.unusedVariables false
open Go.RowKit Go.Shelf
attribute [local go_sem] Oper.semAt_some

theorem enter22 : ∀ args w, (callFunc 22 args).run Tryz.prog w = .ok (.enter 22 args) w := enters_of Tryz.func22 (by kernel_rfl) rfl
theorem enter23 : ∀ args w, (callFunc 23 args).run Tryz.prog w = .ok (.enter 23 args) w := enters_of Tryz.func23 (by kernel_rfl) rfl
theorem enter38 : ∀ args w, (callFunc 38 args).run Tryz.prog w = .ok (.enter 38 args) w := enters_of Tryz.func38 (by kernel_rfl) rfl
theorem enter39 : ∀ args w, (callFunc 39 args).run Tryz.prog w = .ok (.enter 39 args) w := enters_of Tryz.func39 (by kernel_rfl) rfl
set_option maxRecDepth 100000 in
theorem find1_in (n : Nat) (y : Value) (W : World) : CallsIn Fence.wide n Tryz.prog 38 #[y] W fun e W' => (∃ v, e = .returned v) ∧ W' = W := by
  refine callsIn_of_wp Tryz.func38 rfl trivial ?_ rfl
  simp only [Tryz.ntmps38, List.size_toArray, List.length_cons, List.length_nil, Nat.reduceAdd, Nat.reduceSub, Array.replicate_succ, Array.replicate_zero, List.push_toArray, List.append_toArray, List.nil_append, List.cons_append]
  gi_wp2
  simp only [bodyPost]
  exact ⟨trivial, _, results_none rfl _ _ _, ⟨_, rfl⟩, trivial⟩
theorem find1_any (y : Value) (W : World) : Calls Tryz.prog 38 #[y] W fun e W' => (∃ v, e = .returned v) ∧ W' = W := callsIn_wide.1 (find1_in 1 y W)

set_option maxRecDepth 100000 in
set_option maxHeartbeats 4000000 in
theorem find2_bad (f : Nat) (caps : Array Value) (Ba Bn Bk Bq : Nat) (W : World) (hba : Boxed W Ba 35 (.func (.func 34) #[] #[])) :
    CallsIn Fence.wide 9 Tryz.prog 39 #[.func (.func f) #[] caps, .pointer (some ⟨Ba, 0, none⟩), .pointer (some ⟨Bn, 0, none⟩), .pointer (some ⟨Bk, 0, none⟩), .pointer (some ⟨Bq, 0, none⟩)] W fun e W' => (∃ v, e = .returned v) ∧ Below W.heap.size W W' := by
  have hbl := hba.lt
  obtain ⟨W2, hW2⟩ : ∃ W2, ((W.alloc (.cells #[.func (.func f) #[] caps] 43)).alloc (.cells #[.int .i64 0] 3)).alloc (.cells #[.int .i64 9223372036854775807] 3) = W2 := ⟨_, rfl⟩
  have hB2 : Below W.heap.size W W2 := by rw [← hW2]; exact (((Below.refl _ W).alloc (Nat.le_refl _) _).alloc (by simp) _).alloc (by simp; omega) _
  have hz2 : W2.heap.size = W.heap.size + 1 + 1 + 1 := by rw [← hW2]; simp
  have x2 : Boxed W2 Ba 35 (.func (.func 34) #[] #[]) := (hB2.block Ba hbl).trans hba
  have cba := x2.cell
  clear hba x2
  refine callsIn_of_wp_marks Tryz.func39 rfl trivial ?_ rfl
  simp only [Tryz.ntmps39, List.size_toArray, List.length_cons, List.length_nil, Nat.reduceAdd, Nat.reduceSub, Array.replicate_succ, Array.replicate_zero, List.push_toArray, List.append_toArray, List.nil_append, List.cons_append]
  gi_wp2
  refine wpIn_scope_wide ?_
  gi_wp2
  refine wpIn_label ?_
  clear hW2
  gi_wp2
  refine range_enter rfl (by omega) (gf := 34) (lb := #[]) rfl trivial enter34 ?_
  intro fn hfn
  generalize hrc : recOf fn _ _ _ _ _ _ _ = rc
  obtain ⟨W3, hW3⟩ : ∃ W3, ranged W2 rc = W3 := ⟨_, rfl⟩
  have hz3 : W3.heap.size = W2.heap.size + 1 + 1 := by rw [← hW3]; exact ranged_size W2 rc
  have hB3 : Below W2.heap.size W2 W3 := by rw [← hW3]; exact ranged_below W2 rc
  have hl3 : W3.heap[W2.heap.size + 1]? = some (.loop rc) := by rw [← hW3]; exact ranged_l W2 rc
  have hd3 : W3.heap[W2.heap.size]? = some (.deferred (some [])) := by rw [← hW3]; exact ranged_d W2 rc
  rw [hW3]
  clear hW3
  refine (walk1_in 8 _ W3).mono ?post
  case post =>
    rintro e W' ⟨⟨u, rfl⟩, rfl⟩
    have hpe : rc.pending = none := by rw [← hrc]; rfl
    have hne : rc.state ≠ .busy := by rw [← hrc]; simp [recOf]
    have hend := run_endLoop (P := Tryz.prog) hl3 hne
    rw [hpe] at hend
    refine ⟨none, _, hend, ?_⟩
    obtain ⟨W7, hW7⟩ : ∃ W7, W'.putObj (W2.heap.size + 1) (.loop { rc with state := .exhausted, pending := none }) = W7 := ⟨_, rfl⟩
    have hk7 : ∀ k, k ≠ W2.heap.size + 1 → W7.heap[k]? = W'.heap[k]? := fun k hk => by rw [← hW7]; exact World.putObj_heap_other hk
    have hB7 : Below W.heap.size W W7 := by
      rw [← hW7]
      exact (hB2.trans (hB3.mono (by omega))).trans ((Below.refl _ W').grown (grownBy_putObj' W' (W2.heap.size + 1) _) (by omega) (fun k e => by cases e; omega))
    rw [hW7]
    clear hW7 hend
    dsimp only
    have hd7 : W7.heap[W2.heap.size]? = some (.deferred (some [])) := (hk7 _ (by omega)).trans hd3
    gi_wp2
    rw [← hz2]
    refine ⟨by simp, .inl ⟨_, _, rfl, run_takeDeferred hd7, ?_⟩⟩
    refine ⟨.tuple #[], results_none rfl _ _ _, ⟨_, rfl⟩, hB7.trans ?_⟩
    exact (Below.refl _ W7).grown (grownBy_putObj' W7 W2.heap.size _) (by have := hB7.size; omega) (fun k e => by cases e; omega)

/-- The first function value, where all is as it should be. -/
theorem fn22_any (i L cp c2 Bo Bn Bw : Nat) (d : Int) (hL : L ≤ 2199023255552) (hi : i < L) (A : World) (ho : Boxed A Bo 4 (.bool true)) (hn : Boxed A Bn 3 (.int .i64 (i : Int))) (hw : Boxed A Bw 27 (.slice (some ⟨c2, 0, none⟩) L cp)) (hc : A.cell? ⟨c2, i, none⟩ = some (.int .i64 d))
    (h1 : Bo ≠ Bn) (h2 : Bo ≠ Bw) (h4 : Bn ≠ Bw) (h7 : Bo ≠ c2) (h8 : Bn ≠ c2) :
    Calls Tryz.prog 22 #[.int .i64 d, .pointer (some ⟨Bo, 0, none⟩), .pointer (some ⟨Bn, 0, none⟩), .pointer (some ⟨Bw, 0, none⟩)] A fun e A' => e = .returned (.bool true) ∧ Boxed A' Bo 4 (.bool true) ∧ Boxed A' Bn 3 (.int .i64 ((i + 1 : Nat) : Int)) ∧ (∀ k, k ≠ Bo → k ≠ Bn → A'.heap[k]? = A.heap[k]?) ∧ A'.heap.size = A.heap.size ∧ (∀ N, N ≤ Bo → N ≤ Bn → Below N A A') := by
  have co := ho.cell
  have cn := hn.cell
  have cw := hw.cell
  have fo := ho.frozen
  have fn := hn.frozen
  have lo := ho.lt
  have ln := hn.lt
  have lw := hw.lt
  have hi' : (i : Int) < L := by omega
  have hi0 : (0 : Int) ≤ (i : Int) := by omega
  have h1' := h1.symm
  have lc : c2 < A.heap.size := by
    rcases Nat.lt_or_ge c2 A.heap.size with h | h
    · exact h
    · exfalso
      have : A.heap[c2]? = none := Array.getElem?_eq_none h
      simp [World.cell?, this] at hc
  have HO := hide ho
  have HN := hide hn
  clear ho hn hw
  go_enter Tryz.func22, Tryz.ntmps22
  go_wp2
  go_ret
  obtain ⟨A1, hA1⟩ : ∃ A1, A.setCell ⟨Bo, 0, none⟩ (.bool true) = A1 := ⟨_, rfl⟩
  have p1 : ∀ k, k ≠ Bo → A1.heap[k]? = A.heap[k]? := fun k hk => by rw [← hA1]; exact Below.heap_setCell _ _ _ _ hk
  have b1 : Boxed A1 Bo 4 (.bool true) := by rw [← hA1]; exact (unhide HO).set _
  have z1 : A1.heap.size = A.heap.size := setCell_size hA1
  have B1 : ∀ N, N ≤ Bo → Below N A A1 := fun N h => by rw [← hA1]; exact (Below.refl _ _).setCell (p := ⟨Bo, 0, none⟩) h _
  rw [hA1]
  obtain ⟨A3, hA3⟩ : ∃ A3, A1.setCell ⟨Bn, 0, none⟩ (.int .i64 ((i : Int) + 1)) = A3 := ⟨_, rfl⟩
  have p3 : ∀ k, k ≠ Bn → A3.heap[k]? = A1.heap[k]? := fun k hk => by rw [← hA3]; exact Below.heap_setCell _ _ _ _ hk
  have b3 : Boxed A3 Bn 3 (.int .i64 ((i : Int) + 1)) := by rw [← hA3]; exact (show Boxed A1 Bn 3 (.int .i64 (i : Int)) from (p1 Bn h1.symm).trans (unhide HN)).set _
  have z3 : A3.heap.size = A1.heap.size := setCell_size hA3
  have B3 : ∀ N, N ≤ Bn → Below N A1 A3 := fun N h => by rw [← hA3]; exact (Below.refl _ _).setCell (p := ⟨Bn, 0, none⟩) h _
  rw [hA3]
  exact ⟨rfl, (p3 Bo h1).trans b1, by simpa using b3, fun k k1 k2 => (p3 k k2).trans (p1 k k1), by omega, fun N n1 n2 => (B1 N n1).trans (B3 N n2)⟩

/-- The second function value. -/
theorem fn23_any (i Bn Bs : Nat) (k st : Int) (hi : i ≤ 2199023255552) (A : World) (hn : Boxed A Bn 3 (.int .i64 (i : Int))) (hs : Boxed A Bs 3 (.int .i64 st)) (h1 : Bn ≠ Bs) :
    Calls Tryz.prog 23 #[.int .i64 k, .pointer (some ⟨Bn, 0, none⟩), .pointer (some ⟨Bs, 0, none⟩)] A fun e A' => e = .returned (.bool (decide (((i + 1 : Nat) : Int) < st))) ∧ Boxed A' Bn 3 (.int .i64 ((i + 1 : Nat) : Int)) ∧ (∀ k, k ≠ Bn → A'.heap[k]? = A.heap[k]?) ∧ A'.heap.size = A.heap.size ∧ (∀ N, N ≤ Bn → Below N A A') := by
  have cn := hn.cell
  have cs := hs.cell
  have fn := hn.frozen
  have ln := hn.lt
  have ls := hs.lt
  have h1' := h1.symm
  have HN := hide hn
  clear hn hs
  go_enter Tryz.func23, Tryz.ntmps23
  go_wp2
  go_ret
  obtain ⟨A3, hA3⟩ : ∃ A3, A.setCell ⟨Bn, 0, none⟩ (.int .i64 ((i : Int) + 1)) = A3 := ⟨_, rfl⟩
  have p3 : ∀ k, k ≠ Bn → A3.heap[k]? = A.heap[k]? := fun k hk => by rw [← hA3]; exact Below.heap_setCell _ _ _ _ hk
  have b3 : Boxed A3 Bn 3 (.int .i64 ((i : Int) + 1)) := by rw [← hA3]; exact (unhide HN).set _
  have z3 : A3.heap.size = A.heap.size := setCell_size hA3
  have B3 : ∀ N, N ≤ Bn → Below N A A3 := fun N h => by rw [← hA3]; exact (Below.refl _ _).setCell (p := ⟨Bn, 0, none⟩) h _
  rw [hA3]
  exact ⟨by simp, by simpa using b3, p3, z3, B3⟩
end Go.Proofs.YtoffpbaddehncaaGreatDoor

/- The law TreeFinds over a tree. -/
namespace Go.Proofs.YtoffpbaddehncaaGreatDoor
set_option linter.unusedSimpArgs false
set_option linter.unusedVariables false
open Go.RowKit Go.Shelf

theorem fnn41 (f : Nat) (caps : Array Value) (w : World) : (binOp .eql 41 (.func (.func f) #[] caps) .nilFunc).run Tryz.prog w = .ok (.bool false) w := by kernel_rfl
/-- A function value that hands xs over, one by one, to whatever plain function it is given. -/
def IterOk (g : Nat) (gc : Array Value) (xs : List Nat) (N : Nat) (w5 : World) : Prop :=
  (∀ args w, (callFunc g args).run Tryz.prog w = .ok (.enter g args) w) ∧ ∀ (W : World) (f : Nat) (caps : Array Value) (Y Yx : List Nat → World → Prop), Below N w5 W → N ≤ W.heap.size → (∀ args w, (callFunc f args).run Tryz.prog w = .ok (.enter f args) w) →
    (∀ d A B, Y d A → Below W.heap.size A B → Y d B) → (∀ d A B, Yx d A → Below W.heap.size A B → Yx d B) →
    (∀ d x A, Y d A → (∃ r, d ++ x :: r = xs) → W.heap.size ≤ A.heap.size → Calls Tryz.prog f (#[.int .i64 (x : Int)] ++ caps) A fun e A' =>
      (∀ k, (W.heap.size ≤ k ∧ k < A.heap.size) ∨ k < N → A'.heap[k]? = A.heap[k]?) ∧ A.heap.size ≤ A'.heap.size ∧ ((e = .returned (.bool true) ∧ Y (d ++ [x]) A') ∨ (e = .returned (.bool false) ∧ Yx (d ++ [x]) A'))) →
    Y [] W → Calls Tryz.prog g (#[.func (.func f) #[] caps] ++ gc) W fun e W' => (∃ v, e = .returned v) ∧ (Y xs W' ∨ ∃ d r, d ++ r = xs ∧ Yx d W')

theorem iter_out (N : Nat) (w5 : World) : IterOk 38 #[] [] N w5 :=
  ⟨enter38, fun W f caps Y Yx _ _ _ _ _ _ h0 => (find1_any _ W).mono fun e W' ⟨h1, h2⟩ => ⟨h1, .inl (by rw [h2]; exact h0)⟩⟩
theorem iter_bad {Ba Bn Bk Bq : Nat} {w5 : World} (h : Boxed w5 Ba 35 (.func (.func 34) #[] #[])) : IterOk 39 #[.pointer (some ⟨Ba, 0, none⟩), .pointer (some ⟨Bn, 0, none⟩), .pointer (some ⟨Bk, 0, none⟩), .pointer (some ⟨Bq, 0, none⟩)] [] w5.heap.size w5 :=
  ⟨enter39, fun W f caps Y Yx hB _ _ hb _ _ h0 => (callsIn_wide.1 (find2_bad f caps Ba Bn Bk Bq W ((hB.block Ba h.lt).trans h))).mono fun e W' ⟨h1, h2⟩ => ⟨h1, .inl (hb _ _ _ h0 h2)⟩⟩
theorem iter_good {Ba Bx c Bn Bk ck Bq n : Nat} {kd : Int} {l : List Nd} {w5 : World} (h : FixF l n kd Ba Bx c Bn Bk ck Bq w5) (hck : ck < w5.heap.size) (hl : ∀ j, j < l.length → (nd l j).kids.length ≤ 17592186044416) (hlen : l.length ≤ 2199023255552) (hf : ∀ m, m < l.length → Fine l m) (hn : n < l.length) :
    IterOk 39 #[.pointer (some ⟨Ba, 0, none⟩), .pointer (some ⟨Bn, 0, none⟩), .pointer (some ⟨Bk, 0, none⟩), .pointer (some ⟨Bq, 0, none⟩)] (frA l n kd (n + 1)) w5.heap.size w5 := by
  have l1 := h.all.lt
  have l2 := h.cnt.lt
  have l3 := (h.row.lt c rfl).2
  have l4 := h.nb.lt
  have l5 := h.kb.lt
  have l7 := h.qb.lt
  refine ⟨enter39, fun W f caps Y Yx hB hz ey hb hxb hY h0 => callsIn_wide.1 (find2_fn f ey caps l n kd Ba Bx c Bn Bk ck Bq W (h.keep fun k hk => hB.block k (by omega)) (by omega) hl hlen hf hn Y Yx hb hxb ?_ h0)⟩
  intro d x A y1 _ hr hA
  refine (hY d x A y1 hr hA).mono fun e A' ⟨k1, k2, k3⟩ => ⟨fun k hk => k1 k (by omega), k2, k3⟩
end Go.Proofs.YtoffpbaddehncaaGreatDoor

/- The law TreeFinds over a tree: its walk. -/
namespace Go.Proofs.YtoffpbaddehncaaGreatDoor
set_option linter.unusedSimpArgs false
set_option linter.unusedVariables false
open Go.RowKit Go.Shelf

theorem box_new (w : World) (v : Value) (t : TypeId) : Boxed (w.alloc (.cells #[v] t)) w.heap.size t v := Boxed.new w t v
theorem at_next {d r xs : List Nat} {x : Nat} (h : d ++ x :: r = xs) : d.length < xs.length ∧ xs[d.length]? = some x := by
  subst h
  refine ⟨by simp, ?_⟩
  rw [List.getElem?_append_right (Nat.le_refl _)]; simp
/-- What was wanted lies in a row. -/
structure WantAt (Bw : Nat) (xs : List Nat) (a : Option Addr) (cp : Nat) (w : World) : Prop where
  box : Boxed w Bw 27 (.slice a xs.length cp)
  row : ∀ m x : Nat, xs[m]? = some x → ∃ c2, a = some ⟨c2, 0, none⟩ ∧ c2 < Bw ∧ w.cell? ⟨c2, m, none⟩ = some (.int .i64 (x : Int))
theorem WantAt.keep {Bw : Nat} {xs : List Nat} {a : Option Addr} {cp N : Nat} {w w' : World} (h : WantAt Bw xs a cp w) (hB : Below N w w') (hw : Bw < N) : WantAt Bw xs a cp w' where
  box := (hB.block Bw hw).trans h.box
  row := fun m x hx => by
    obtain ⟨c2, h1, h2, h3⟩ := h.row m x hx
    exact ⟨c2, h1, h2, (hB.cell (p := ⟨c2, m, none⟩) (show c2 < N by omega)).trans h3⟩
theorem want_new {w3 : World} {N : Nat} {xs : List Nat} {v : Value} (h : w3.ownsRow N 3 1 v xs.length (nvs xs)) : ∃ a cp, v = .slice a xs.length cp ∧ WantAt w3.heap.size xs a cp (w3.alloc (.cells #[v] 27)) := by
  have hh := h
  rcases h.2 with ⟨h1, h2⟩ | ⟨g, cap, cur, h1, h2⟩
  · have h2' : xs.length = 0 := by omega
    refine ⟨none, 0, by rw [h1, h2'], by rw [h1]; have := box_new w3 (.slice none 0 0) 27; rw [h2']; exact this, fun m x hx => ?_⟩
    have := (List.getElem?_eq_some_iff.1 hx).1
    omega
  · refine ⟨some ⟨g, 0, none⟩, cap, h1, by rw [h1]; exact box_new w3 _ 27, fun m x hx => ⟨g, rfl, (h.lt g (by rw [h1]; rfl)).2, ?_⟩⟩
    have hm := (List.getElem?_eq_some_iff.1 hx).1
    have hg := (h.lt g (by rw [h1]; rfl)).2
    rw [((Below.refl _ w3).alloc (Nat.le_refl _) _).cell (p := ⟨g, m, none⟩) hg]
    subst h1
    rw [h.cellAt m (by omega)]
    simp [nvs, hx]

set_option maxRecDepth 100000 in
set_option maxHeartbeats 8000000 in
theorem finds_core (W : World) (M : Nat) (v : Value) (l : List Nd) (n kd st : Int) (xs : List Nat) (hN : Nodes W M v l) (hM : M ≤ W.heap.size) (hs : szN l l.length ≤ 3000) (hx : xs.length ≤ 3000)
    (hR : ∀ w, Below W.heap.size W w → Calls Tryz.prog 20 #[.agg #[v], .int .i64 n, .int .i64 kd] w (FindQ xs w))
    (hT : ∀ w, Below W.heap.size W w → Calls Tryz.prog 21 #[.agg #[v], .int .i64 n, .int .i64 kd] w fun e w' => ∃ gf gc, e = .returned (.func (.func gf) #[] gc) ∧ IterOk gf gc xs w'.heap.size w' ∧ Below w.heap.size w w') :
    Calls Tryz.prog 6 #[.agg #[v], .int .i64 n, .int .i64 kd, .int .i64 st] W fun e w' => e = .returned (.bool true) ∧ Below W.heap.size W w' := by
  obtain ⟨W1, hW1⟩ : ∃ W1, (W.alloc (.cells #[v] 24)).alloc (.cells #[.int .i64 st] 3) = W1 := ⟨_, rfl⟩
  have hz1 : W1.heap.size = W.heap.size + 1 + 1 := by rw [← hW1]; simp
  have hB1 : Below W.heap.size W W1 := by rw [← hW1]; exact ((Below.refl _ W).alloc (Nat.le_refl _) _).alloc (by simp) _
  have t1 : W1.cell? ⟨W.heap.size, 0, none⟩ = some v := by
    rw [← hW1, Lib.cell_of_heap (rat_a2 W _ _)]; rfl
  have s1 : Boxed W1 (W.heap.size + 1) 3 (.int .i64 st) := by rw [← hW1]; exact rat_a3 W _ _
  have HNW : Hid (∀ w, Below W.heap.size W w → Nodes w M v l ∧ M ≤ w.heap.size) := fun w hw => ⟨hN.keep hw hM, Nat.le_trans hM hw.size⟩
  have HG : Hid (Calls Tryz.prog 9 #[.agg #[v]] W1 fun e w2 => e = .returned (.bool false) ∧ Below W1.heap.size W1 w2) := by
    have := great_any W1 M v l (unhide HNW W1 hB1).1 (unhide HNW W1 hB1).2
    rwa [show decide (3000 < szN l l.length) = false from decide_eq_false (by omega)] at this
  have HR := hide hR
  have HTT := hide hT
  have HKN : Hid (∀ w, Calls Tryz.prog 13 #[] w fun e w2 => e = .returned (.bool true) ∧ Below w.heap.size w w2) := fun w => known3_any w
  have HT1 := hide t1
  have HS1 := hide s1
  have HB1 := hide hB1
  obtain ⟨va, vc, rfl, hvc, _⟩ := hN.len
  have hst0 : W.heap.size < W1.heap.size := by omega
  clear hN hs hB1 s1 hR hT
  have HF1 := hide (fun (w : World) (hw : Below W1.heap.size W1 w) => (⟨(unhide HB1).trans (hw.mono (by omega)), (hw.cell (p := ⟨W.heap.size, 0, none⟩) hst0).trans (unhide HT1), by have := hw.size; omega⟩ : Below W.heap.size W w ∧ w.cell? ⟨W.heap.size, 0, none⟩ = some (.slice va l.length vc) ∧ W.heap.size < w.heap.size))
  have fnn := fnn41
  go_enter Tryz.func6, Tryz.ntmps6
  go_wp2_with (first
    | (go_at_call 9; refine (unhide HG).mono ?_; rintro e w2 ⟨rfl, hB2⟩; obtain ⟨a2, b2, c2'⟩ := unhide HF1 w2 hB2)
    | (go_at_call 20; refine (unhide HR w2 a2).mono ?_; rintro e w3 ⟨wv, rfl, ho3, hB3⟩; have hB3' := hB2.trans (hB3.mono hB2.size); obtain ⟨a3, b3, c3'⟩ := unhide HF1 w3 hB3'; obtain ⟨wa, wcp, rfl, hwn⟩ := want_new ho3; have HWN := hide hwn; clear ho3 hwn; have hB4 : Below W1.heap.size W1 (w3.alloc (.cells #[.slice wa xs.length wcp] 27)) := hB3'.alloc hB3'.size _; obtain ⟨a4, b4, c4'⟩ := unhide HF1 _ hB4)
    | (go_at_call 21; refine (unhide HTT _ a4).mono ?_; rintro e w5 ⟨gf, gc, rfl, ⟨hen, hit⟩, hB5⟩; have HIT := hide hit; clear hit))
  have hz5 := hB5.size
  simp only [World.size_alloc] at hz5
  have z3 := hB3'.size
  have HW5 : Hid (WantAt w3.heap.size xs wa wcp w5) := (unhide HWN).keep hB5 (by simp)
  have HS5 : Hid (Boxed w5 (W.heap.size + 1) 3 (.int .i64 st)) := ((hB4.trans (hB5.mono hB4.size)).block _ (by omega)).trans (unhide HS1)
  have HB5 : Hid (Below W.heap.size W w5) := a4.trans (hB5.mono a4.size)
  obtain ⟨N, hNN⟩ : ∃ N, w5.heap.size = N := ⟨_, rfl⟩
  obtain ⟨Bw, hBw⟩ : ∃ Bw, w3.heap.size = Bw := ⟨_, rfl⟩
  obtain ⟨w6, hw6⟩ : ∃ w6, (w5.alloc (.cells #[.int .i64 0] 3)).alloc (.cells #[.bool true] 4) = w6 := ⟨_, rfl⟩
  have hz6 : w6.heap.size = N + 1 + 1 := by rw [← hw6, ← hNN]; simp
  have hB6 : Below N w5 w6 := by rw [← hw6, ← hNN]; exact ((Below.refl _ w5).alloc (Nat.le_refl _) _).alloc (by simp) _
  have k6 : Boxed w6 N 3 (.int .i64 0) := by rw [← hw6, ← hNN]; exact rat_a2 w5 _ _
  have o6 : Boxed w6 (N + 1) 4 (.bool true) := by rw [← hw6, ← hNN]; exact rat_a3 w5 _ _
  rw [hw6, hNN, hBw]
  rw [hBw] at HW5
  have hl1 : W.heap.size + 1 < N := by omega
  have hl2 : Bw < N := by omega
  have HHD : Hid (∀ w, Below N w5 w → WantAt Bw xs wa wcp w ∧ Boxed w (W.heap.size + 1) 3 (.int .i64 st) ∧ Below W.heap.size W w) := fun w hw => ⟨(unhide HW5).keep hw hl2, (hw.block _ hl1).trans (unhide HS5), (unhide HB5).trans (hw.mono (by omega))⟩
  rw [hNN] at HIT
  have HC1 : Hid (Calls Tryz.prog gf (#[.func (.func 22) #[] #[.pointer (some ⟨N + 1, 0, none⟩), .pointer (some ⟨N, 0, none⟩), .pointer (some ⟨Bw, 0, none⟩)]] ++ gc) w6 fun e W' => (∃ v, e = .returned v) ∧ Boxed W' (N + 1) 4 (.bool true) ∧ Boxed W' N 3 (.int .i64 (xs.length : Int)) ∧ Below N w5 W' ∧ w6.heap.size ≤ W'.heap.size) := by
    refine (unhide HIT w6 22 _ (fun d A => Boxed A (N + 1) 4 (.bool true) ∧ Boxed A N 3 (.int .i64 (d.length : Int)) ∧ Below N w5 A ∧ w6.heap.size ≤ A.heap.size) (fun _ _ => False) hB6 (by omega) enter22 ?_ ?_ ?_ ⟨o6, k6, hB6, Nat.le_refl _⟩).mono ?_
    · rintro d A B ⟨j1, j2, j3, j4⟩ hb
      exact ⟨(hb.block _ (by omega)).trans j1, (hb.block _ (by omega)).trans j2, j3.trans (hb.mono (by omega)), Nat.le_trans j4 hb.size⟩
    · exact fun _ _ _ h _ => h
    · rintro d x A ⟨j1, j2, j3, j4⟩ ⟨r, hr⟩ hA
      obtain ⟨q1, q2⟩ := at_next hr
      obtain ⟨hwA, _, _⟩ := unhide HHD A j3
      obtain ⟨c2, hc2, hlc, hcc⟩ := hwA.row _ _ q2
      have hwb := hwA.box
      rw [hc2] at hwb
      refine (fn22_any d.length xs.length wcp c2 (N + 1) N Bw (x : Int) (by omega) q1 A j1 j2 hwb hcc (by omega) (by omega) (by omega) (by omega) (by omega)).mono ?_
      rintro e A' ⟨rfl, g1, g2, g3, g4, g5⟩
      exact ⟨fun k hk => g3 k (by omega) (by omega), by omega, .inl ⟨rfl, g1, by rw [List.length_append]; exact g2, j3.trans (g5 N (by omega) (Nat.le_refl _)), by omega⟩⟩
    · rintro e W' ⟨hr, (⟨j1, j2, j3, j4⟩ | ⟨_, _, _, hx⟩)⟩
      · exact ⟨hr, j1, j2, j3, j4⟩
      · exact hx.elim
  have HC2 : Hid (∀ w, Below N w5 w → Boxed w N 3 (.int .i64 0) → N + 1 ≤ w.heap.size → Calls Tryz.prog gf (#[.func (.func 23) #[] #[.pointer (some ⟨N, 0, none⟩), .pointer (some ⟨W.heap.size + 1, 0, none⟩)]] ++ gc) w fun e W' => (∃ v, e = .returned v) ∧ Boxed W' N 3 (.int .i64 (min (xs.length : Int) (max 1 st))) ∧ Below N w5 W') := by
    intro w hw hk hwz
    refine (unhide HIT w 23 _ (fun d A => Boxed A N 3 (.int .i64 (d.length : Int)) ∧ (d.length = 0 ∨ (d.length : Int) < st) ∧ Below N w5 A ∧ w.heap.size ≤ A.heap.size) (fun d A => Boxed A N 3 (.int .i64 (d.length : Int)) ∧ 1 ≤ d.length ∧ st ≤ (d.length : Int) ∧ (d.length = 1 ∨ (d.length : Int) - 1 < st) ∧ Below N w5 A ∧ w.heap.size ≤ A.heap.size) hw (by omega) enter23 ?_ ?_ ?_ ⟨hk, .inl rfl, hw, Nat.le_refl _⟩).mono ?_
    · rintro d A B ⟨j1, j2, j3, j4⟩ hb
      exact ⟨(hb.block _ (by omega)).trans j1, j2, j3.trans (hb.mono (by omega)), Nat.le_trans j4 hb.size⟩
    · rintro d A B ⟨j1, j2, j3, j4, j5, j6⟩ hb
      exact ⟨(hb.block _ (by omega)).trans j1, j2, j3, j4, j5.trans (hb.mono (by omega)), Nat.le_trans j6 hb.size⟩
    · rintro d x A ⟨j1, j2, j3, j4⟩ ⟨r, hr⟩ hA
      obtain ⟨q1, q2⟩ := at_next hr
      obtain ⟨_, hsA, _⟩ := unhide HHD A j3
      refine (fn23_any d.length N (W.heap.size + 1) (x : Int) st (by omega) A j1 hsA (by omega)).mono ?_
      rintro e A' ⟨rfl, g2, g3, g4, g5⟩
      refine ⟨fun k hk => g3 k (by omega), by omega, ?_⟩
      have hdl : (d ++ [x]).length = d.length + 1 := by simp
      rw [hdl]
      by_cases hst : ((d.length + 1 : Nat) : Int) < st
      · exact .inl ⟨by rw [decide_eq_true hst], g2, .inr hst, j3.trans (g5 _ (Nat.le_refl _)), by omega⟩
      · exact .inr ⟨by rw [decide_eq_false hst], g2, by omega, by omega, by omega, j3.trans (g5 _ (Nat.le_refl _)), by omega⟩
    · rintro e W' ⟨hr, (⟨j1, j2, j3, j4⟩ | ⟨d, r, hd, j1, j2, j3, j4, j5, j6⟩)⟩
      · refine ⟨hr, ?_, j3⟩
        rwa [show (xs.length : Int) = min (xs.length : Int) (max 1 st) by omega] at j1
      · have hle : d.length ≤ xs.length := by rw [← hd, List.length_append]; omega
        refine ⟨hr, ?_, j5⟩
        rwa [show (d.length : Int) = min (xs.length : Int) (max 1 st) by omega] at j1
  clear hw6 k6 o6 hB6 hB5 hB4 a4 b4 c4' a3 b3 c3' hB3' hB3 a2 b2 c2' hB2 hz5 hNN hBw
  refine (unhide HC1).mono ?_
  rintro e w8 ⟨⟨u, rfl⟩, e1, e2, e3, e4⟩
  have f1 := e1.cell
  have f2 := e2.cell
  have g2 := e2.frozen
  have g1 := e1.lt
  have gg2 := e2.lt
  obtain ⟨h1, h2, h3⟩ := unhide HHD w8 e3
  have f3 := h1.box.cell
  have g3 := h1.box.lt
  obtain ⟨w9, hw9⟩ : ∃ w9, w8.setCell ⟨N, 0, none⟩ (.int .i64 0) = w9 := ⟨_, rfl⟩
  have hB9 : Below N w8 w9 := by rw [← hw9]; exact (Below.refl _ w8).setCell (p := ⟨N, 0, none⟩) (by simp) _
  have k9 : Boxed w9 N 3 (.int .i64 0) := by rw [← hw9]; exact e2.set _
  have HC3 := hide (unhide HC2 w9 (e3.trans hB9) k9 (by have := hB9.size; omega))
  clear h1 h2 h3 e1 e2 hB9 k9
  go_wp2
  refine (unhide HC3).mono ?_
  rintro e w10 ⟨⟨u2, rfl⟩, q1, q2⟩
  have c1 := q1.cell
  obtain ⟨h1, h2, h3⟩ := unhide HHD w10 q2
  have c2 := h1.box.cell
  have c3 := h2.cell
  have HF := hide h3
  clear h1 h2 h3 hw9
  go_wp2_with (go_at_call 13; refine (unhide HKN _).mono ?_; rintro e w11 ⟨rfl, hB11⟩)
  go_ret
  exact ⟨rfl, (unhide HF).trans (hB11.mono (unhide HF).size)⟩
end Go.Proofs.YtoffpbaddehncaaGreatDoor

/- The law TreeFinds over a tree: its cases. -/
namespace Go.Proofs.YtoffpbaddehncaaGreatDoor
set_option linter.unusedSimpArgs false
set_option linter.unusedVariables false
open Go.RowKit Go.Shelf

theorem frL_len (l : List Nd) (n : Nat) (kd : Int) : ∀ f i, (frL l n kd f i).length ≤ f
  | 0, _ => Nat.le_refl _
  | f + 1, i => by
    simp only [frL]
    split
    · split
      · have := frL_len l n kd f (en l i); simp; omega
      · have := frL_len l n kd f (i + 1); omega
    · simp

theorem finds_good (W : World) (M : Nat) (v : Value) (l : List Nd) (n : Nat) (kd st : Int) (hN : Nodes W M v l) (hM : M ≤ W.heap.size) (hs : szN l l.length ≤ 3000) (hc : (chkP l).2 = 0) (hn : n < l.length) :
    Calls Tryz.prog 6 #[.agg #[v], .int .i64 (n : Int), .int .i64 kd, .int .i64 st] W fun e w' => e = .returned (.bool true) ∧ Below W.heap.size W w' := by
  have hl3 : l.length ≤ 3000 := by have := szN_len l l.length; omega
  have htx : ∀ m, m < l.length → (nd l m).text.size ≤ 1048576 := fun m hm => by have := szN_at l hm; omega
  have hkd : ∀ j, j < l.length → (nd l j).kids.length ≤ 17592186044416 := fun j hj => (hN.2.1 j hj).2
  refine finds_core W M v l n kd st (frA l n kd (n + 1)) hN hM hs (by have := frL_len l n kd (l.length + 1 - (n + 1)) (n + 1); unfold frA; omega) (fun w hw => rfind_good w M v l n kd (hN.keep hw hM) (Nat.le_trans hM hw.size) htx hc hn hl3) (fun w hw => ?_)
  refine (find_in w M v l n kd (hN.keep hw hM) (Nat.le_trans hM hw.size) hn (fun wf wc w => wf = 35 ∧ ∃ Bx c, wc = #[.pointer (some ⟨Bx, 0, none⟩)] ∧ Boxed w Bx 27 (.slice (some ⟨c, 0, none⟩) l.length l.length) ∧ w.ownsRow 0 3 1 (.slice (some ⟨c, 0, none⟩) l.length l.length) l.length (mixF (cntV l) l.length l.length)) ?_ ?_).mono ?_
  · intro w1 hw1
    have hw2 := hw.trans (hw1.mono hw.size)
    refine (walk_good w1 M v l (hN.keep hw2 hM) (Nat.le_trans hM hw2.size) hc).mono ?_
    rintro e w' ⟨Bx, c, rfl, h1, h2, h3, h4⟩
    exact ⟨_, _, rfl, ⟨rfl, Bx, c, rfl, h1, h2.mono (Nat.zero_le _)⟩, h4⟩
  · rintro wf wc w1 w2 ⟨rfl, Bx, c, rfl, h1, h2⟩ hb
    exact ⟨rfl, Bx, c, rfl, (hb.block Bx h1.lt).trans h1, ownsRow_heap h2 (fun g hg => hb.block g (h2.lt g hg).2)⟩
  · rintro e w' ⟨Ba, Bk, ck, wf, wc, rfl, h1, h2, h3, h4, h5, ⟨rfl, Bx, c, rfl, h6, h7⟩, h8, h9⟩
    exact ⟨_, _, rfl, iter_good ⟨h1, h6, h7, h2, h4, h5, h3⟩ h8 hkd (by omega) (fun m hm => chk_all hc hm) hn, h9⟩

theorem finds_bad (W : World) (M : Nat) (v : Value) (l : List Nd) (n kd st : Int) (hN : Nodes W M v l) (hM : M ≤ W.heap.size) (hs : szN l l.length ≤ 3000) (hc : ¬ ((chkP l).2 = 0 ∧ ins l n = true)) :
    Calls Tryz.prog 6 #[.agg #[v], .int .i64 n, .int .i64 kd, .int .i64 st] W fun e w' => e = .returned (.bool true) ∧ Below W.heap.size W w' := by
  have htx : ∀ m, m < l.length → (nd l m).text.size ≤ 1048576 := fun m hm => by have := szN_at l hm; omega
  refine finds_core W M v l n kd st [] hN hM hs (by simp) (fun w hw => rfind_bad w M v l n kd (hN.keep hw hM) (Nat.le_trans hM hw.size) htx hc) (fun w hw => ?_)
  cases hi : ins l n with
  | false =>
    refine (find_out w M v l n kd (hN.keep hw hM) (Nat.le_trans hM hw.size) hi).mono ?_
    rintro e w' ⟨rfl, h⟩
    exact ⟨_, _, rfl, iter_out _ _, h⟩
  | true =>
    have hbad : ¬ (chkP l).2 = 0 := fun h => hc ⟨h, hi⟩
    obtain ⟨i1, i2⟩ := ins_iff'.1 hi
    obtain ⟨m, rfl⟩ : ∃ m : Nat, n = (m : Int) := ⟨n.toNat, by omega⟩
    refine (find_in w M v l m kd (hN.keep hw hM) (Nat.le_trans hM hw.size) (by omega) (fun wf wc _ => wf = 34 ∧ wc = #[]) ?_ ?_).mono ?_
    · intro w1 hw1
      have hw2 := hw.trans (hw1.mono hw.size)
      refine (walk_bad w1 M v l (hN.keep hw2 hM) (Nat.le_trans hM hw2.size) hbad).mono ?_
      rintro e w' ⟨rfl, h4⟩
      exact ⟨_, _, rfl, ⟨rfl, rfl⟩, h4⟩
    · exact fun _ _ _ _ h _ => h
    · rintro e w' ⟨Ba, Bk, ck, wf, wc, rfl, h1, h2, h3, h4, h5, ⟨rfl, rfl⟩, h8, h9⟩
      exact ⟨_, _, rfl, iter_bad h1, h9⟩

set_option maxRecDepth 100000 in
set_option maxHeartbeats 4000000 in
theorem finds_law (W : World) (M : Nat) (v : Value) (l : List Nd) (n kd st : Int) (hN : NodesR W M v l) (hM : M ≤ W.heap.size) :
    Calls Tryz.prog 6 #[.agg #[v], .int .i64 n, .int .i64 kd, .int .i64 st] W fun e w' => e = .returned (.bool true) ∧ Below W.heap.size W w' := by
  obtain ⟨W1, hW1⟩ : ∃ W1, (W.alloc (.cells #[v] 24)).alloc (.cells #[.int .i64 st] 3) = W1 := ⟨_, rfl⟩
  have hB1 : Below W.heap.size W W1 := by rw [← hW1]; exact ((Below.refl _ W).alloc (Nat.le_refl _) _).alloc (by simp) _
  have t1 : W1.cell? ⟨W.heap.size, 0, none⟩ = some v := by
    rw [← hW1, Lib.cell_of_heap (rat_a2 W _ _)]; rfl
  have hz1 : W.heap.size < W1.heap.size := by rw [← hW1]; simp; omega
  have HG := hide (great_reach W1 M v l (hN.keep hB1 hM) (Nat.le_trans hM hB1.size))
  have HB1 := hide hB1
  have HN := hide hN
  cases ha : decide (3000 < szN l l.length) with
  | true =>
    rw [ha] at HG
    obtain ⟨va, vc, rfl, hvc, _⟩ := hN.len
    clear ha hN hB1
    go_enter Tryz.func6, Tryz.ntmps6
    go_wp2_with (go_at_call 9; refine (unhide HG).mono ?_; rintro e w2 ⟨rfl, hB2⟩)
    go_ret
    exact ⟨rfl, (unhide HB1).trans (hB2.mono (by omega))⟩
  | false =>
    have hal : szN l l.length ≤ 3000 := by simpa using ha
    have hNn := hN.nodes hal
    by_cases hc : (chkP l).2 = 0 ∧ ins l n = true
    · obtain ⟨i1, i2⟩ := ins_iff'.1 hc.2
      obtain ⟨m, rfl⟩ : ∃ m : Nat, n = (m : Int) := ⟨n.toNat, by omega⟩
      exact finds_good W M v l m kd st hNn hM hal hc.1 (by omega)
    · exact finds_bad W M v l n kd st hNn hM hal hc
end Go.Proofs.YtoffpbaddehncaaGreatDoor
