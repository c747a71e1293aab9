/- Towards the law: TE TF TG. -/
import Derived.Laws.EntriesVeiled
import Derived.Lib.Slices
import Derived.LoopN
import Derived.RangeFuncBox
import Derived.Shelf.Abstract
import Derived.Test.YtofgphapjjofnaaGreatDoorZA
import Derived.Test.YtofgphapjjofnaaGreatDoorZD
import Derived.Test.YtofgphapjjofnaaGreatDoorZF
set_option linter.unusedSimpArgs false
set_option linter.unusedVariables false
set_option maxRecDepth 100000
set_option maxHeartbeats 8000000
namespace Go.Proofs.YtofgphapjjofnaaGreatDoor.Tr
section
open Go.RowKit
attribute [local go_sem] run_store_fv
def tabTL : List (Int × RowV) := [(1, ⟨none, none, none, none, none, none, none, none⟩), (2, ⟨none, none, none, none, none, none, some 74, none⟩), (3, ⟨none, none, none, none, none, none, some 75, none⟩), (80, ⟨some 76, none, some 77, none, none, none, none, none⟩), (81, ⟨none, some 78, none, none, none, none, none, none⟩), (82, ⟨some 79, none, none, none, none, none, none, none⟩), (83, ⟨none, none, some 80, none, none, none, none, none⟩), (84, ⟨none, none, none, none, none, none, some 81, none⟩), (85, ⟨some 82, some 83, some 80, none, none, none, none, none⟩), (86, ⟨none, none, some 84, some 80, none, none, none, none⟩), (87, ⟨none, none, none, none, none, none, some 80, some 85⟩)]
def tabT (k : Int) : Option RowV := match tabTL.lookup k with | some r => some r | none => tabE k
def tabTK : List Int := [1, 2, 3, 80, 81, 82, 83, 84, 85, 86, 87]
theorem tabT_not {k : Int} (h : k ∉ tabTK) : tabT k = tabE k := by
 have e : tabTL.lookup k = none := lookup_none (show k ∉ tabTL.map (·.1) from h);simp only [tabT, e]
theorem table_in (k : Int) (hk : k ∈ tabTK) (W : World) : Calls Tryz.prog 33 #[.int .i64 k] W (TabA (tabT k) W) := by
 simp only [tabTK, List.mem_cons, List.not_mem_nil, or_false] at hk;rcases hk with rfl | rfl | rfl | rfl | rfl | rfl | rfl | rfl | rfl | rfl | rfl
 · go_enter Tryz.func33, Tryz.ntmps33
   go_wp2;refine bodyPost_ret (v := .tuple #[.agg #[.nilFunc, .nilFunc, .nilFunc, .nilFunc, .nilFunc, .nilFunc, .nilFunc, .nilFunc], .bool true]) ?_ rfl ⟨rfl, (Below.refl _ W).alloc NL _⟩;simp [results, Tryz.results33, go_sem]
 · go_enter Tryz.func33, Tryz.ntmps33
   go_wp2;refine bodyPost_ret (v := .tuple #[.agg #[.nilFunc, .nilFunc, .nilFunc, .nilFunc, .nilFunc, .nilFunc, .func (.func 74) #[] #[], .nilFunc], .bool true]) ?_ rfl ⟨rfl, (Below.refl _ W).alloc NL _⟩;simp [results, Tryz.results33, go_sem]
 · go_enter Tryz.func33, Tryz.ntmps33
   go_wp2;refine bodyPost_ret (v := .tuple #[.agg #[.nilFunc, .nilFunc, .nilFunc, .nilFunc, .nilFunc, .nilFunc, .func (.func 75) #[] #[], .nilFunc], .bool true]) ?_ rfl ⟨rfl, (Below.refl _ W).alloc NL _⟩;simp [results, Tryz.results33, go_sem]
 · go_enter Tryz.func33, Tryz.ntmps33
   go_wp2;refine bodyPost_ret (v := .tuple #[.agg #[.func (.func 76) #[] #[], .nilFunc, .func (.func 77) #[] #[], .nilFunc, .nilFunc, .nilFunc, .nilFunc, .nilFunc], .bool true]) ?_ rfl ⟨rfl, (Below.refl _ W).alloc NL _⟩;simp [results, Tryz.results33, go_sem]
 · go_enter Tryz.func33, Tryz.ntmps33
   go_wp2;refine bodyPost_ret (v := .tuple #[.agg #[.nilFunc, .func (.func 78) #[] #[], .nilFunc, .nilFunc, .nilFunc, .nilFunc, .nilFunc, .nilFunc], .bool true]) ?_ rfl ⟨rfl, (Below.refl _ W).alloc NL _⟩;simp [results, Tryz.results33, go_sem]
 · go_enter Tryz.func33, Tryz.ntmps33
   go_wp2;refine bodyPost_ret (v := .tuple #[.agg #[.func (.func 79) #[] #[], .nilFunc, .nilFunc, .nilFunc, .nilFunc, .nilFunc, .nilFunc, .nilFunc], .bool true]) ?_ rfl ⟨rfl, (Below.refl _ W).alloc NL _⟩;simp [results, Tryz.results33, go_sem]
 · go_enter Tryz.func33, Tryz.ntmps33
   go_wp2;refine bodyPost_ret (v := .tuple #[.agg #[.nilFunc, .nilFunc, .func (.func 80) #[] #[], .nilFunc, .nilFunc, .nilFunc, .nilFunc, .nilFunc], .bool true]) ?_ rfl ⟨rfl, (Below.refl _ W).alloc NL _⟩;simp [results, Tryz.results33, go_sem]
 · go_enter Tryz.func33, Tryz.ntmps33
   go_wp2;refine bodyPost_ret (v := .tuple #[.agg #[.nilFunc, .nilFunc, .nilFunc, .nilFunc, .nilFunc, .nilFunc, .func (.func 81) #[] #[], .nilFunc], .bool true]) ?_ rfl ⟨rfl, (Below.refl _ W).alloc NL _⟩;simp [results, Tryz.results33, go_sem]
 · go_enter Tryz.func33, Tryz.ntmps33
   go_wp2;refine bodyPost_ret (v := .tuple #[.agg #[.func (.func 82) #[] #[], .func (.func 83) #[] #[], .func (.func 80) #[] #[], .nilFunc, .nilFunc, .nilFunc, .nilFunc, .nilFunc], .bool true]) ?_ rfl ⟨rfl, (Below.refl _ W).alloc NL _⟩;simp [results, Tryz.results33, go_sem]
 · go_enter Tryz.func33, Tryz.ntmps33
   go_wp2;refine bodyPost_ret (v := .tuple #[.agg #[.nilFunc, .nilFunc, .func (.func 84) #[] #[], .func (.func 80) #[] #[], .nilFunc, .nilFunc, .nilFunc, .nilFunc], .bool true]) ?_ rfl ⟨rfl, (Below.refl _ W).alloc NL _⟩;simp [results, Tryz.results33, go_sem]
 · go_enter Tryz.func33, Tryz.ntmps33
   go_wp2;refine bodyPost_ret (v := .tuple #[.agg #[.nilFunc, .nilFunc, .nilFunc, .nilFunc, .nilFunc, .nilFunc, .func (.func 80) #[] #[], .func (.func 85) #[] #[]], .bool true]) ?_ rfl ⟨rfl, (Below.refl _ W).alloc NL _⟩;simp [results, Tryz.results33, go_sem]
theorem table_out (k : Int) (hk : k ∉ tabTK) (W : World) : Calls Tryz.prog 33 #[.int .i64 k] W (TabA (tabT k) W) := by
 rw [tabT_not hk];have q0 : (k == 1) = false := by simp only [beq_eq_false_iff_ne, ne_eq]; intro e; subst e; exact absurd hk (by decide)
 have q1 : (k == 2) = false := by simp only [beq_eq_false_iff_ne, ne_eq]; intro e; subst e; exact absurd hk (by decide)
 have q2 : (k == 3) = false := by simp only [beq_eq_false_iff_ne, ne_eq]; intro e; subst e; exact absurd hk (by decide)
 have q3 : (k == 80) = false := by simp only [beq_eq_false_iff_ne, ne_eq]; intro e; subst e; exact absurd hk (by decide)
 have q4 : (k == 81) = false := by simp only [beq_eq_false_iff_ne, ne_eq]; intro e; subst e; exact absurd hk (by decide)
 have q5 : (k == 82) = false := by simp only [beq_eq_false_iff_ne, ne_eq]; intro e; subst e; exact absurd hk (by decide)
 have q6 : (k == 83) = false := by simp only [beq_eq_false_iff_ne, ne_eq]; intro e; subst e; exact absurd hk (by decide)
 have q7 : (k == 84) = false := by simp only [beq_eq_false_iff_ne, ne_eq]; intro e; subst e; exact absurd hk (by decide)
 have q8 : (k == 85) = false := by simp only [beq_eq_false_iff_ne, ne_eq]; intro e; subst e; exact absurd hk (by decide)
 have q9 : (k == 86) = false := by simp only [beq_eq_false_iff_ne, ne_eq]; intro e; subst e; exact absurd hk (by decide)
 have q10 : (k == 87) = false := by simp only [beq_eq_false_iff_ne, ne_eq]; intro e; subst e; exact absurd hk (by decide)
 clear hk;obtain ⟨r0, r1, r2, r3, r4, r5, r6, r7, b, hf⟩ := tabA_form (tabE k);have HC : Hid (∀ W, Calls Tryz.prog 86 #[.int .i64 k] W fun e w' => e = .returned (.tuple #[.agg #[fv r0, fv r1, fv r2, fv r3, fv r4, fv r5, fv r6, fv r7], .bool b]) ∧ Below W.heap.size W w') := fun W => (exprTable_any k W).mono fun e w' h => (hf W e w').1 h
 refine Calls.mono (?_ : Calls Tryz.prog 33 #[.int .i64 k] W fun e w' => e = .returned (.tuple #[.agg #[fv r0, fv r1, fv r2, fv r3, fv r4, fv r5, fv r6, fv r7], .bool b]) ∧ Below W.heap.size W w') fun e w' h => (hf W e w').2 h
 clear hf;go_enter Tryz.func33, Tryz.ntmps33;go_wp2_with (go_at_call 86; refine (U HC _).mono ?_; rintro e w2 ⟨rfl, hB⟩; have hr2 := (hB.block W.heap.size (by simp)).trans (World.alloc_heap_new W _); obtain ⟨c0, c1, c2, c3, c4, c5, c6, c7⟩ := cells8 hr2; obtain ⟨f0, f1, f2, f3, f4, f5, f6, f7⟩ := frozen8 hr2; have hl2 : W.heap.size < w2.heap.size := Nat.lt_of_lt_of_le (by simp) hB.size; have HR2 := Hi hr2; clear hr2);have hrf := put8_heap (U HR2) (fv r0) (fv r1) (fv r2) (fv r3) (fv r4) (fv r5) (fv r6) (fv r7);obtain ⟨g0, g1, g2, g3, g4, g5, g6, g7⟩ := cells8 hrf;refine bodyPost_ret (v := .tuple #[.agg #[fv r0, fv r1, fv r2, fv r3, fv r4, fv r5, fv r6, fv r7], .bool b]) ?_ rfl ⟨rfl, ((Below.refl _ W).alloc NL _).trans ((hB.mono (by simp)).trans (put8_below NL _ _ _ _ _ _ _ _))⟩;simp [results, Tryz.results33, go_sem, g0, g1, g2, g3, g4, g5, g6, g7]
theorem table_any (k : Int) (W : World) : Calls Tryz.prog 33 #[.int .i64 k] W (TabA (tabT k) W) := by
 by_cases hk : k ∈ tabTK
 · exact table_in k hk W
 · exact table_out k hk W
end
section
open Go.RowKit Go.Shelf
def Ent (f : Nat) : Prop := ∀ args w, (callFunc f args).run Tryz.prog w = .ok (.enter f args) w
theorem fnn70 (f : Nat) (caps : Array Value) (w : World) : (binOp .eql 75 (.func (.func f) #[] caps) .nilFunc).run Tryz.prog w = .ok (.bool false) w := by kernel_rfl
theorem fnm70 (f : Nat) (caps : Array Value) (w : World) : (binOp .neq 75 (.func (.func f) #[] caps) .nilFunc).run Tryz.prog w = .ok (.bool true) w := by kernel_rfl
theorem nln70 (w : World) : (binOp .eql 75 .nilFunc .nilFunc).run Tryz.prog w = .ok (.bool true) w := by kernel_rfl
theorem nlm70 (w : World) : (binOp .neq 75 .nilFunc .nilFunc).run Tryz.prog w = .ok (.bool false) w := by kernel_rfl
theorem fnn43 (f : Nat) (caps : Array Value) (w : World) : (binOp .eql 76 (.func (.func f) #[] caps) .nilFunc).run Tryz.prog w = .ok (.bool false) w := by kernel_rfl
theorem fnm43 (f : Nat) (caps : Array Value) (w : World) : (binOp .neq 76 (.func (.func f) #[] caps) .nilFunc).run Tryz.prog w = .ok (.bool true) w := by kernel_rfl
theorem nln43 (w : World) : (binOp .eql 76 .nilFunc .nilFunc).run Tryz.prog w = .ok (.bool true) w := by kernel_rfl
theorem nlm43 (w : World) : (binOp .neq 76 .nilFunc .nilFunc).run Tryz.prog w = .ok (.bool false) w := by kernel_rfl
theorem fnn71 (f : Nat) (caps : Array Value) (w : World) : (binOp .eql 77 (.func (.func f) #[] caps) .nilFunc).run Tryz.prog w = .ok (.bool false) w := by kernel_rfl
theorem fnm71 (f : Nat) (caps : Array Value) (w : World) : (binOp .neq 77 (.func (.func f) #[] caps) .nilFunc).run Tryz.prog w = .ok (.bool true) w := by kernel_rfl
theorem nln71 (w : World) : (binOp .eql 77 .nilFunc .nilFunc).run Tryz.prog w = .ok (.bool true) w := by kernel_rfl
theorem nlm71 (w : World) : (binOp .neq 77 .nilFunc .nilFunc).run Tryz.prog w = .ok (.bool false) w := by kernel_rfl
theorem fnn73 (f : Nat) (caps : Array Value) (w : World) : (binOp .eql 79 (.func (.func f) #[] caps) .nilFunc).run Tryz.prog w = .ok (.bool false) w := by kernel_rfl
theorem fnm73 (f : Nat) (caps : Array Value) (w : World) : (binOp .neq 79 (.func (.func f) #[] caps) .nilFunc).run Tryz.prog w = .ok (.bool true) w := by kernel_rfl
theorem nln73 (w : World) : (binOp .eql 79 .nilFunc .nilFunc).run Tryz.prog w = .ok (.bool true) w := by kernel_rfl
theorem nlm73 (w : World) : (binOp .neq 79 .nilFunc .nilFunc).run Tryz.prog w = .ok (.bool false) w := by kernel_rfl
attribute [local go_sem] fnn70 fnm70 nln70 nlm70 fnn43 fnm43 nln43 nlm43 fnn71 fnm71 nln71 nlm71 fnn73 fnm73 nln73 nlm73
theorem takesText_some (f : Nat) (p : ByteArray → Bool) (hf : TextOk f p) (ey : Ent f) (x1 x2 x3 x4 x5 x6 x7 : Value) (s : ByteArray) (hs : s.size ≤ 4294967280) (W : World) :
 Calls Tryz.prog 34 #[.agg #[.func (.func f) #[] #[], x1, x2, x3, x4, x5, x6, x7], .string s] W fun e w' => e = .returned (.bool (p s)) ∧ Below W.heap.size W w' := by
 have ey' : ∀ args w, (callFunc f args).run Tryz.prog w = .ok (.enter f args) w := ey;have HF := Hi hf;clear hf;go_enter Tryz.func34, Tryz.ntmps34;go_wp2_with (refine (U HF _ s hs).mono ?_; rintro e w2 ⟨rfl, hB⟩);go_ret;exact ⟨rfl, ((Below.refl _ W).alloc NL _).trans (hB.mono (by simp))⟩
theorem takesText_none (x1 x2 x3 x4 x5 x6 x7 : Value) (s : ByteArray) (W : World) :
 Calls Tryz.prog 34 #[.agg #[.nilFunc, x1, x2, x3, x4, x5, x6, x7], .string s] W fun e w' => e = .returned (.bool s.toList.isEmpty) ∧ Below W.heap.size W w' := by
 go_enter Tryz.func34, Tryz.ntmps34;go_wp2;go_ret;exact ⟨rfl, (Below.refl _ W).alloc NL _⟩
theorem takesNum_some (f : Nat) (p : Int → Bool) (hf : IntOk f p) (ey : Ent f) (x0 x2 x3 x4 x5 x6 x7 : Value) (n : Int) (W : World) :
 Calls Tryz.prog 35 #[.agg #[x0, .func (.func f) #[] #[], x2, x3, x4, x5, x6, x7], .int .i64 n] W fun e w' => e = .returned (.bool (p n)) ∧ Below W.heap.size W w' := by
 have ey' : ∀ args w, (callFunc f args).run Tryz.prog w = .ok (.enter f args) w := ey;have HF := Hi hf;clear hf;go_enter Tryz.func35, Tryz.ntmps35;go_wp2_with (refine (U HF _ n).mono ?_; rintro e w2 ⟨rfl, hB⟩);go_ret;exact ⟨rfl, ((Below.refl _ W).alloc NL _).trans (hB.mono (by simp))⟩
theorem takesNum_none (x0 x2 x3 x4 x5 x6 x7 : Value) (n : Int) (W : World) :
 Calls Tryz.prog 35 #[.agg #[x0, .nilFunc, x2, x3, x4, x5, x6, x7], .int .i64 n] W fun e w' => e = .returned (.bool (n == 0)) ∧ Below W.heap.size W w' := by
 go_enter Tryz.func35, Tryz.ntmps35;go_wp2;go_ret;exact ⟨rfl, (Below.refl _ W).alloc NL _⟩
theorem placeOf_more (f : Nat) (x0 x1 x2 x3 x4 x5 x7 : Value) (i : Int) (W : World) :
 Calls Tryz.prog 87 #[.agg #[x0, x1, x2, x3, x4, x5, .func (.func f) #[] #[], x7], .int .i64 i] W fun e w' => e = .returned (.func (.func f) #[] #[]) ∧ Below W.heap.size W w' := by
 go_enter Tryz.func87, Tryz.ntmps87;go_wp2;go_ret;exact ⟨rfl, (Below.refl _ W).alloc NL _⟩
theorem placeOf_at (x0 x1 x2 x3 x4 x5 x7 : Value) (i : Nat) (W : World) :
 Calls Tryz.prog 87 #[.agg #[x0, x1, x2, x3, x4, x5, .nilFunc, x7], .int .i64 (i : Int)] W fun e w' => e = .returned ([x2, x3, x4, x5].getD i .nilFunc) ∧ Below W.heap.size W w' := by
 by_cases h4 : i < 4
 · rcases (by omega : i = 0 ∨ i = 1 ∨ i = 2 ∨ i = 3) with rfl | rfl | rfl | rfl
   all_goals (
    go_enter Tryz.func87, Tryz.ntmps87;go_wp2;go_ret
    exact ⟨rfl, (Below.refl _ W).alloc NL _⟩)
 · have h4' : ¬ (i : Int) < 4 := by omega
   have HR : Hid ([x2, x3, x4, x5].getD i .nilFunc = .nilFunc) := by
    show [x2, x3, x4, x5].getD i .nilFunc = .nilFunc
    rw [List.getD_eq_getElem?_getD, List.getElem?_eq_none (by simp; omega)]; rfl
   rw [U HR];go_enter Tryz.func87, Tryz.ntmps87;go_wp2;go_ret;exact ⟨rfl, (Below.refl _ W).alloc NL _⟩
end
section
open Go.RowKit Go.Shelf
attribute [local go_sem] fv fnn70 fnm70 nln70 nlm70 fnn43 fnm43 nln43 nlm43 fnn71 fnm71 nln71 nlm71 fnn73 fnm73 nln73 nlm73
def upQ (l : List Nd) (ks : List Int) (pf : Nat → Option Nat) (pp : Nat → Plc) : Nat → Bool
 | 0 => true
 | i + 1 => upQ l ks pf pp i && ((pf i).isSome && (ins l (ks.getD i 0) && pp i l (ks.getD i 0).toNat))
theorem upQ_le {l : List Nd} {ks : List Int} {pf : Nat → Option Nat} {pp : Nat → Plc} {i : Nat} (h : upQ l ks pf pp i = false) : ∀ {j}, i ≤ j → upQ l ks pf pp j = false
 | 0, hj => by obtain rfl : i = 0 := by omega
               exact h
 | j + 1, hj => by
   by_cases e : i = j + 1
   · subst e; exact h
   · show (upQ l ks pf pp j && _) = false
     rw [upQ_le h (by omega)]; rfl
theorem upQ_false {l : List Nd} {ks : List Int} {pf : Nat → Option Nat} {pp : Nat → Plc} {i n : Nat} (hi : i < n) (h : ((pf i).isSome && (ins l (ks.getD i 0) && pp i l (ks.getD i 0).toNat)) = false) : upQ l ks pf pp n = false :=
 upQ_le (i := i + 1) (by show (upQ l ks pf pp i && _) = false; rw [h]; simp) hi
theorem upQ_ins {l : List Nd} {ks : List Int} {pf : Nat → Option Nat} {pp : Nat → Plc} : ∀ {n}, upQ l ks pf pp n = true → ∀ i, i < n → ins l (ks.getD i 0) = true
 | 0, _, i, hi => by omega
 | n + 1, h, i, hi => by
   have h' : (upQ l ks pf pp n && ((pf n).isSome && (ins l (ks.getD n 0) && pp n l (ks.getD n 0).toNat))) = true := h;simp only [Bool.and_eq_true] at h';by_cases e : i = n
   · subst e; exact h'.2.2.1
   · exact upQ_ins h'.1 i (by omega)
theorem upQ_some {l : List Nd} {ks : List Int} {pf : Nat → Option Nat} {pp : Nat → Plc} : ∀ {n}, upQ l ks pf pp n = true → ∀ i, i < n → (pf i).isSome = true
 | 0, _, i, hi => by omega
 | n + 1, h, i, hi => by
   have h' : (upQ l ks pf pp n && ((pf n).isSome && (ins l (ks.getD n 0) && pp n l (ks.getD n 0).toNat))) = true := h;simp only [Bool.and_eq_true] at h';by_cases e : i = n
   · subst e; exact h'.2.1
   · exact upQ_some h'.1 i (by omega)
theorem takesKids_any (x0 x1 x2 x3 x4 x5 : Value) (mo : Option Nat) (ao : Option Nat) (aq : List Nd → List Int → Bool) (am : Nat) (pf : Nat → Option Nat) (pp : Nat → Plc) (W : World) (M : Nat) (v : Value) (l : List Nd) (ks : List Int) (a : Option Addr) (cap : Nat)
 (hN : Nodes W M v l) (hK : KidsAt W M a ks) (hlen : ks.length ≤ 17592186044416) (hcap : ks.length ≤ cap) (hcm : cap ≤ maxLen) (hM : M ≤ W.heap.size)
 (hP : ∀ (i : Nat) (W : World), Calls Tryz.prog 87 #[.agg #[x0, x1, x2, x3, x4, x5, fv mo, fv ao], .int .i64 (i : Int)] W fun e w' => e = .returned (fv (pf i)) ∧ Below W.heap.size W w')
 (hF : ∀ i f, pf i = some f → PlOk f (pp i) ∧ Ent f) (hA : ∀ f, ao = some f → AllOk f am aq ∧ Ent f) (ham : mo = none → pf ks.length = none → (∀ i, i < ks.length → (pf i).isSome = true) → am ≤ ks.length) (ham' : ∀ f, mo = some f → am = 0) :
 Calls Tryz.prog 36 #[.agg #[x0, x1, x2, x3, x4, x5, fv mo, fv ao], v, .slice a ks.length cap] W fun e w' => e = .returned (.bool (upQ l ks pf pp ks.length && (mo.isSome || (pf ks.length).isNone) && (ao.isNone || aq l ks))) ∧ Below W.heap.size W w' := by
 have HN := Hi hN;have HK := Hi hK;have HP := Hi hP;have HF := Hi hF;have HA := Hi hA;have HAM := Hi ham;have HAM' := Hi ham';obtain ⟨va, vc, rfl, _, _⟩ := hN.len;have hB0 : Below W.heap.size W (W.alloc (.cells #[x0, x1, x2, x3, x4, x5, fv mo, fv ao] 81)) := (Below.refl _ W).alloc NL _;have hr0 := World.alloc_heap_new W (.cells #[x0, x1, x2, x3, x4, x5, fv mo, fv ao] 81);have hs0 : (W.alloc (.cells #[x0, x1, x2, x3, x4, x5, fv mo, fv ao] 81)).heap.size = W.heap.size + 1 := by simp
 obtain ⟨mv, hmv⟩ : ∃ mv, fv mo = mv := ⟨_, rfl⟩;obtain ⟨av, hav⟩ : ∃ av, fv ao = av := ⟨_, rfl⟩;rw [hmv, hav] at hB0 hr0 hs0 HP ⊢;obtain ⟨W1, hW1⟩ : ∃ W1, W.alloc (.cells #[x0, x1, x2, x3, x4, x5, mv, av] 81) = W1 := ⟨_, rfl⟩;rw [hW1] at hB0 hr0 hs0;have HMV := Hi hmv;have HAV := Hi hav;have HR0 := Hi hr0;have HS0 := Hi hs0;clear hN hK hP hF hA ham ham' hmv hav hr0 hs0;go_enter Tryz.func36, Tryz.ntmps36;go_wp2;clear hW1;go_loopw [12] (fun t wr => ∃ i : Nat, i ≤ ks.length ∧ t = .int .i64 (i : Int) ∧ upQ l ks pf pp i = true ∧ Below (W.heap.size + 1) W1 wr) (fun t _ => ks.length - (intOf t).toNat)
 case atStart => exact ⟨0, Nat.zero_le _, rfl, rfl, Below.refl _ _⟩
 case round =>
  obtain ⟨i, hi, rfl, hu, hB⟩ := hrel;have HU := Hi hu;have hBW : Below W.heap.size W wr := hB0.trans (hB.mono (by omega));obtain ⟨c0, c1, c2, c3, c4, c5, c6, c7⟩ := cells8 ((hB.block W.heap.size (by omega)).trans (U HR0));have hwl : W.heap.size < wr.heap.size := by have := hB.size; have := U HS0; omega
  clear hu;by_cases hil : i < ks.length
  · have hil' : (i : Int) < ks.length := by omega
    rcases U HK with hkk | ⟨kb, ko, rfl, hkb, hkc⟩
    · subst hkk; simp at hil
    have dk := (hBW.cell (p := ⟨kb, ko + i, none⟩) (Nat.lt_of_lt_of_le hkb hM)).trans (hkc i hil);obtain ⟨k, hkv⟩ : ∃ k, ks.getD i 0 = k := ⟨_, rfl⟩;rw [hkv] at dk;have HKV := Hi hkv;have HIL := Hi hil;have hCP := U HP i wr;have hFi := U HF i;clear hkc hkv;cases hpf : pf i with
    | none =>
      have HFL : Hid ((upQ l ks pf pp ks.length && (mo.isSome || (pf ks.length).isNone) && (ao.isNone || aq l ks)) = false) := by
       show (_ && _ && _) = false
       rw [upQ_false hil (by rw [hpf]; rfl)]; rfl
      rw [hpf] at hCP;have HCP := Hi hCP;clear hCP hFi hpf;go_wp2_with (go_at_call 87; refine (U HCP).mono ?_; rintro e w2 ⟨rfl, hB2⟩);go_ret;exact ⟨ret_b (U HFL).symm, hBW.trans (hB2.mono hBW.size)⟩
    | some f =>
      obtain ⟨hpl, hent⟩ := hFi f hpf;have ey' : ∀ args w, (callFunc f args).run Tryz.prog w = .ok (.enter f args) w := hent;rw [hpf] at hCP;have HCP := Hi hCP;have HPF := Hi hpf;have HPL := Hi hpl;clear hCP hFi hpf hpl hent;cases hins : ins l k with
      | false =>
        have HFL : Hid ((upQ l ks pf pp ks.length && (mo.isSome || (pf ks.length).isNone) && (ao.isNone || aq l ks)) = false) := by
         show (_ && _ && _) = false
         rw [upQ_false hil (by rw [U HKV, hins]; simp)]; rfl
        go_wp2_with (first | (go_at_call 87; refine (U HCP).mono ?_; rintro e w2 ⟨rfl, hB2⟩) | (go_at_call 88; refine (within_ok ((U HN).keep (hBW.trans (hB2.mono hBW.size)) hM) _).mono ?_; rintro e w3 ⟨rfl, rfl⟩));go_ret;exact ⟨ret_b (U HFL).symm, hBW.trans (hB2.mono hBW.size)⟩
      | true =>
        obtain ⟨hk0, hk1⟩ := ins_iff.1 hins
        have HCL : Hid (∀ w2, Below W.heap.size W w2 → Calls Tryz.prog f #[.slice va l.length vc, .int .i64 k] w2 fun e w' => e = .returned (.bool (pp i l k.toNat)) ∧ Below w2.heap.size w2 w') := fun w2 hw2 => by
         have := U HPL w2 M _ l k.toNat ((U HN).keep hw2 hM) hk1 (Nat.le_trans hM hw2.size);rw [Int.toNat_of_nonneg hk0] at this;exact this
        have HINS := Hi hins;clear hk0 hk1;cases hq : pp i l k.toNat with
        | false =>
          have HFL : Hid ((upQ l ks pf pp ks.length && (mo.isSome || (pf ks.length).isNone) && (ao.isNone || aq l ks)) = false) := by
           show (_ && _ && _) = false
           rw [upQ_false hil (by rw [U HKV, hq]; simp)]; rfl
          have HQ := Hi hq;clear hq;go_wp2_with (first | (go_at_call 87; refine (U HCP).mono ?_; rintro e w2 ⟨rfl, hB2⟩; have hBW2 := hBW.trans (hB2.mono hBW.size)) | (go_at_call 88; refine (within_ok ((U HN).keep hBW2 hM) _).mono ?_; rintro e w3 ⟨rfl, rfl⟩) | (refine (U HCL _ hBW2).mono ?_; rintro e w4 ⟨he, hB4⟩; rw [U HQ] at he; subst he));go_ret;exact ⟨ret_b (U HFL).symm, hBW2.trans (hB4.mono hBW2.size)⟩
        | true =>
          have HUU : Hid (upQ l ks pf pp (i + 1) = true) := by
           show (upQ l ks pf pp i && ((pf i).isSome && (ins l (ks.getD i 0) && pp i l (ks.getD i 0).toNat))) = true
           rw [U HU, U HKV, U HPF, hins, hq]; rfl
          have HQ := Hi hq;clear hq;go_wp2_with (first | (go_at_call 87; refine (U HCP).mono ?_; rintro e w2 ⟨rfl, hB2⟩; have hBW2 := hBW.trans (hB2.mono hBW.size)) | (go_at_call 88; refine (within_ok ((U HN).keep hBW2 hM) _).mono ?_; rintro e w3 ⟨rfl, rfl⟩) | (refine (U HCL _ hBW2).mono ?_; rintro e w4 ⟨he, hB4⟩; rw [U HQ] at he; subst he));have z1 := hB2.size;refine ⟨⟨i + 1, by omega, by go_num, U HUU, hB.trans ((hB2.mono (by omega)).trans (hB4.mono (by omega)))⟩, by simp [intOf]; omega⟩
  · have hil' : ¬ (i : Int) < ks.length := by omega
    obtain rfl : i = ks.length := by omega
    have HINS : Hid (∀ k ∈ ks, ins l k = true) := fun k hk => by
     obtain ⟨j, hj⟩ := List.getElem?_of_mem hk;have hjl := (List.getElem?_eq_some_iff.1 hj).1;have := upQ_ins (U HU) j hjl;rw [List.getD_eq_getElem?_getD, hj] at this;exact this
    have HCP := Hi (U HP ks.length wr);cases mo with
    | some fm =>
      obtain rfl := U HMV;have ham := U HAM' fm rfl;have HPN : True := trivial;cases ao with
      | none =>
        obtain rfl := U HAV;go_wp2;go_ret;exact ⟨ret_b (by simp [U HU, HPN]), hBW⟩
      | some fa =>
        obtain rfl := U HAV;obtain ⟨hall, hent⟩ := U HA fa rfl;have ey' : ∀ args w, (callFunc fa args).run Tryz.prog w = .ok (.enter fa args) w := hent;have HAL := Hi hall;clear hall hent;go_wp2_with (refine (U HAL _ M _ l ks a cap ((U HN).keep hBW hM) ((U HK).keep hBW hM) hlen (by omega) hcap hcm (U HINS) (Nat.le_trans hM hBW.size)).mono ?_; rintro e w4 ⟨rfl, hB4⟩);go_ret;exact ⟨ret_b (by simp [U HU, HPN]), hBW.trans (hB4.mono hBW.size)⟩
    | none =>
      obtain rfl := U HMV;cases hpl : pf ks.length with
      | some f =>
        have HCP2 := U HCP;rw [hpl] at HCP2;have HCP := Hi HCP2;clear HCP2;have HR : Hid ((upQ l ks pf pp ks.length && ((none : Option Nat).isSome || (pf ks.length).isNone) && (ao.isNone || aq l ks)) = false) := by show (_ && _ && _) = false; rw [hpl]; simp
        go_wp2_with (go_at_call 87; refine (U HCP).mono ?_; rintro e w2 ⟨rfl, hB2⟩);go_ret;exact ⟨ret_b (U HR).symm, hBW.trans (hB2.mono hBW.size)⟩
      | none =>
        have ham := U HAM rfl hpl (upQ_some (U HU));have HPN0 := Hi hpl;have HCP2 := U HCP;rw [hpl] at HCP2;have HCP := Hi HCP2;clear HCP2 hpl;cases ao with
        | none =>
          obtain rfl := U HAV;go_wp2_with (go_at_call 87; refine (U HCP).mono ?_; rintro e w2 ⟨rfl, hB2⟩; have d7 := (hB2.cell (p := ⟨W.heap.size, 7, none⟩) hwl).trans c7);go_ret;exact ⟨ret_b (by simp [U HU, U HPN0]), hBW.trans (hB2.mono hBW.size)⟩
        | some fa =>
          obtain rfl := U HAV;obtain ⟨hall, hent⟩ := U HA fa rfl;have ey' : ∀ args w, (callFunc fa args).run Tryz.prog w = .ok (.enter fa args) w := hent;have HAL := Hi hall;clear hall hent;go_wp2_with (first | (go_at_call 87; refine (U HCP).mono ?_; rintro e w2 ⟨rfl, hB2⟩; have hBW2 := hBW.trans (hB2.mono hBW.size); have d7 := (hB2.cell (p := ⟨W.heap.size, 7, none⟩) hwl).trans c7) | (refine (U HAL _ M _ l ks a cap ((U HN).keep hBW2 hM) ((U HK).keep hBW2 hM) hlen ham hcap hcm (U HINS) (Nat.le_trans hM hBW2.size)).mono ?_; rintro e w4 ⟨rfl, hB4⟩));go_ret;exact ⟨ret_b (by simp [U HU, U HPN0]), hBW2.trans (hB4.mono hBW2.size)⟩
end
end Go.Proofs.YtofgphapjjofnaaGreatDoor.Tr
