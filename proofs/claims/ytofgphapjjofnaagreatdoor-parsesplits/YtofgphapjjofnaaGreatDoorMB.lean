/- Towards the law: CV X1 X2 X4 X5 X6 X7 X8 X9 XA. -/
import Derived.BigQuiet
import Derived.Deep.QuietTactic
import Derived.Deep.RegionWith
import Derived.Laws.BytesArg
import Derived.Lib.OthersKept
import Derived.LoopN
import Derived.RangeFuncBox
import Derived.WalkMore
import Derived.Test.YtofgphapjjofnaaGreatDoorM0
import Derived.Test.YtofgphapjjofnaaGreatDoorMA
set_option linter.unusedSimpArgs false
set_option linter.unusedVariables false
set_option maxRecDepth 100000
set_option maxHeartbeats 8000000
namespace Go.Proofs.YtofgphapjjofnaaGreatDoor
section
open Go.RowKit Go.Shelf
theorem gS_nums (g : Nat → Int) (hg : ∀ j, 0 ≤ g j ∧ g j ≤ 255) (len j : Nat) (hj : j < len) : gS (strOfNums (upto g len)) j = g j := by
 have h := hg j;have hj' : j < (upto g len).length := by rw [upto_length]; exact hj
 have e : (upto g len)[j]? = some (g j) := by simp [upto, hj]
 simp only [gS, strOfNums, List.getElem?_toArray, List.getElem?_map, e, Option.map_some, Option.getD_some];rw [UInt8.toNat_ofNat'];omega
theorem conv_run {a : Option Addr} {len cap : Nat} {g : Nat → Int} {w : World} (hR : Src w (.slice a len cap) len g) : (convert 22 9 (.slice a len cap)).run Tryz.prog w = .ok (.string (strOfNums (upto g len))) w := by
 rcases hR with ⟨h, rfl⟩ | ⟨ad, cap', h, hc⟩
 · cases h
   exact run_convert_bytes_nil w 22 5 Tryz.underlying22 Tryz.underlying5 0 0 9 Tryz.underlying9
 · cases h
   have hl : (loadCells ad len).run Tryz.prog w = .ok ((upto g len).map (Value.int .u8)).toArray w := by
    have := run_loadCells_list (P := Tryz.prog) w ad ((upto g len).map (Value.int .u8)) (fun j v hj => by
     have hjl : j < len := by
      have := (List.getElem?_eq_some_iff.1 hj).1;simpa [upto] using this
     rw [hc j hjl, ← hj]
     simp [upto, hjl])
    simpa [upto] using this
   rw [run_convert_bytes_string w 22 9 5 _ len cap Tryz.underlying22 Tryz.underlying5 Tryz.underlying9, run_bytesToString w _ len cap (upto g len) hl, foldl_push_bytes];simp [strOfNums, ByteArray.empty, ByteArray.emptyWithCapacity];rfl
theorem size5 (w : World) : (sizeOf 5).run Tryz.prog w = .ok 1 w := by kernel_rfl
theorem under22 : Tryz.prog.underlying 22 = some (.slice (Tryz.prog.elem 22)) := by kernel_rfl
theorem elem22 : Tryz.prog.elem 22 = 5 := by kernel_rfl
theorem cut_conv {W : World} {c : Nat} {a : Option Addr} {len cap : Nat} {g : Nat → Int} {xf xt : Nat} (hS : Sl W c (.slice a len cap) len g) (h1 : xf ≤ xt) (h2 : xt ≤ len) :
 ∃ sv', (∀ W', (Instr.slice 22 (.slice a len cap) (some (.int .i64 (xf : Int))) (some (.int .i64 (xt : Int))) none).run Tryz.prog W' = .ok sv' W') ∧
   ∀ W', Sl W' c (.slice a len cap) len g → (convert 22 9 sv').run Tryz.prog W' = .ok (.string (strOfNums (sub g xf xt))) W' := by
 have hcap : xt ≤ cap := by
  rcases hS with ⟨a', cap', h, h0⟩ | ⟨off, cap', h, _, h3, _⟩
  · cases h; omega
  · cases h; omega
 refine ⟨sliced a xf xt cap 1, fun W' => ?_, fun W' hS' => ?_⟩
 · rw [run_slice_lh W' 22 a len cap under22 .i64 .i64 xf xt (by omega) (by omega) (by omega), elem22, size5]
   rfl
 · unfold sliced
   rcases hS' with ⟨a', cap', h, h0⟩ | ⟨off, cap', h, h3, h4, h5, hc⟩
   · cases h
     obtain rfl : xt = 0 := by omega
     obtain rfl : xf = 0 := by omega
     cases a with
     | none =>
       have e : (if cap = 0 then none else Option.map (fun x => Addr.add x (0 * 1)) none : Option Addr) = none := by split <;> rfl
       rw [e];exact run_convert_bytes_nil W' 22 5 Tryz.underlying22 Tryz.underlying5 _ _ 9 Tryz.underlying9
     | some ad =>
       obtain ⟨ad', e⟩ : ∃ ad', (if cap = 0 then some ad else Option.map (fun x => Addr.add x (0 * 1)) (some ad) : Option Addr) = some ad' := by split <;> exact ⟨_, rfl⟩
       rw [e];exact conv_run (g := fun j => g (0 + j)) (.inr ⟨ad', _, rfl, fun j hj => by omega⟩)
   · cases h
     by_cases hcx : cap = xf
     · rw [if_pos hcx]
       exact conv_run (g := fun j => g (xf + j)) (.inr ⟨_, _, rfl, fun j hj => by omega⟩)
     · rw [if_neg hcx]
       refine conv_run (g := fun j => g (xf + j)) (.inr ⟨_, _, rfl, fun j hj => ?_⟩);have := hc (xf + j) (by omega);simp only [Nat.mul_one, Addr.add_lit, Nat.add_assoc];exact this
structure Fr (S0 : Nat → Prop) (W A : World) : Prop where
 os : A.os = W.os
 tape : A.tape = W.tape
 output : A.output = W.output
 size : W.heap.size ≤ A.heap.size
 block : ∀ k, k < W.heap.size → ¬ S0 k → A.heap[k]? = W.heap[k]?
theorem Fr.refl (S0 : Nat → Prop) (W : World) : Fr S0 W W := ⟨rfl, rfl, rfl, NL, fun _ _ _ => rfl⟩
theorem Fr.trans {S0 : Nat → Prop} {A B C : World} (h : Fr S0 A B) (k : Fr S0 B C) : Fr S0 A C :=
 ⟨k.os.trans h.os, k.tape.trans h.tape, k.output.trans h.output, Nat.le_trans h.size k.size, fun i hi hs => (k.block i (Nat.lt_of_lt_of_le hi h.size) hs).trans (h.block i hi hs)⟩
theorem Fr.below {S0 : Nat → Prop} {A B C : World} (h : Fr S0 A B) (k : Below A.heap.size B C) : Fr S0 A C :=
 ⟨k.os.trans h.os, k.tape.trans h.tape, k.output.trans h.output, Nat.le_trans h.size k.size, fun i hi hs => (k.block i hi).trans (h.block i hi hs)⟩
theorem Fr.setCell {S0 : Nat → Prop} {A B : World} (h : Fr S0 A B) (b : Nat) (v : Value) (hb : S0 b) : Fr S0 A (B.setCell ⟨b, 0, none⟩ v) :=
 ⟨h.os, h.tape, h.output, by simpa [World.setCell] using h.size, fun i hi hs => (Below.heap_setCell B ⟨b, 0, none⟩ v i (fun e => hs (by have e' : i = b := e; subst e'; exact hb))).trans (h.block i hi hs)⟩
theorem Fr.alloc {S0 : Nat → Prop} {A B : World} (h : Fr S0 A B) (o : Obj) : Fr S0 A (B.alloc o) := h.below ((Below.refl _ B).alloc h.size o)
theorem Fr.mono {S0 S1 : Nat → Prop} {A B : World} (h : Fr S0 A B) (hs : ∀ k, k < A.heap.size → S0 k → S1 k) : Fr S1 A B := ⟨h.os, h.tape, h.output, h.size, fun i hi hn => h.block i hi (fun e => hn (hs i hi e))⟩
theorem Fr.toBelow {S0 : Nat → Prop} {A B : World} (h : Fr S0 A B) {n : Nat} (hn : n ≤ A.heap.size) (hs : ∀ k, k < n → ¬ S0 k) : Below n A B := ⟨h.os, h.tape, h.output, h.size, fun k hk => h.block k (by omega) (hs k hk)⟩
theorem boxed_fr {S0 : Nat → Prop} {W A : World} {B : Nat} {t : TypeId} {v : Value} (h : Boxed W B t v) (hf : Fr S0 W A) (hn : ¬ S0 B) : Boxed A B t v := (hf.block B h.lt hn).trans h
theorem boxed_below {W A : World} {n B : Nat} {t : TypeId} {v : Value} (h : Boxed W B t v) (hf : Below n W A) (hn : B < n) : Boxed A B t v := (hf.block B hn).trans h
end
section
open Go.RowKit
def isB (c : Int) : Bool := c == 9 || c == 10 || c == 13 || c == 32
def isL (c : Int) : Bool := decide (65 ≤ c ∧ c ≤ 90) || decide (97 ≤ c ∧ c ≤ 122) || c == 95 || c == 36
def isD (c : Int) : Bool := decide (48 ≤ c ∧ c ≤ 57)
theorem isBlank_any (c : Int) (w : World) : Calls Tryz.prog 89 #[.int .u8 c] w fun e w' => e = .returned (.bool (isB c)) ∧ w' = w := by
 by_cases h1 : c = 9
 · subst h1
   go_enter Tryz.func89, Tryz.ntmps89;go_wp2;go_ret;exact ⟨rfl, rfl⟩
 by_cases h2 : c = 10
 · subst h2
   go_enter Tryz.func89, Tryz.ntmps89;go_wp2;go_ret;exact ⟨rfl, rfl⟩
 by_cases h3 : c = 13
 · subst h3
   go_enter Tryz.func89, Tryz.ntmps89;go_wp2;go_ret;exact ⟨rfl, rfl⟩
 by_cases h4 : c = 32
 · subst h4
   go_enter Tryz.func89, Tryz.ntmps89;go_wp2;go_ret;exact ⟨rfl, rfl⟩
 have a1 : (c == 9) = false := by simpa using h1
 have a2 : (c == 10) = false := by simpa using h2
 have a3 : (c == 13) = false := by simpa using h3
 have a4 : (c == 32) = false := by simpa using h4
 have HR : Hid (isB c = false) := by show isB c = false; simp [isB, h1, h2, h3, h4]
 clear h1 h2 h3 h4;go_enter Tryz.func89, Tryz.ntmps89;go_wp2;go_ret;rw [U HR];exact ⟨rfl, rfl⟩
theorem isDigit_any (c : Int) (w : World) : Calls Tryz.prog 143 #[.int .u8 c] w fun e w' => e = .returned (.bool (isD c)) ∧ w' = w := by
 have HR : Hid (isD c = (decide (48 ≤ c) && decide (c ≤ 57))) := by show isD c = _; simp [isD]
 by_cases h1 : 48 ≤ c
 · have a1 : decide (48 ≤ c) = true := by simpa using h1
   go_enter Tryz.func143, Tryz.ntmps143;go_wp2;go_ret;rw [U HR, a1];exact ⟨rfl, rfl⟩
 · have a1 : decide (48 ≤ c) = false := by simpa using h1
   go_enter Tryz.func143, Tryz.ntmps143;go_wp2;go_ret;rw [U HR, a1];exact ⟨rfl, rfl⟩
theorem isLetter_any (c : Int) (w : World) : Calls Tryz.prog 141 #[.int .u8 c] w fun e w' => e = .returned (.bool (isL c)) ∧ w' = w := by
 by_cases b1 : 65 ≤ c ∧ c ≤ 90
 · have a1 : decide (65 ≤ c) = true := by simpa using b1.1
   have a2 : decide (c ≤ 90) = true := by simpa using b1.2
   have n1 : 65 ≤ c := b1.1;have n2 : c ≤ 90 := b1.2;have m3 : ¬ 97 ≤ c := by omega
   have m4 : c ≤ 122 := by omega
   have HR : Hid (isL c = true) := by show isL c = true; simp [isL, b1]
   clear b1;go_enter Tryz.func141, Tryz.ntmps141;go_wp2;go_ret;rw [U HR];exact ⟨rfl, rfl⟩
 by_cases b2 : 97 ≤ c ∧ c ≤ 122
 · have a1 : decide (97 ≤ c) = true := by simpa using b2.1
   have a2 : decide (c ≤ 122) = true := by simpa using b2.2
   have n1 : 97 ≤ c := b2.1;have n2 : c ≤ 122 := b2.2;have n3 : 65 ≤ c := by omega
   have n4 : ¬ c ≤ 90 := by omega
   have HR : Hid (isL c = true) := by show isL c = true; simp [isL, b2]
   clear b1 b2;go_enter Tryz.func141, Tryz.ntmps141;go_wp2;go_ret;rw [U HR];exact ⟨rfl, rfl⟩
 by_cases h3 : c = 95
 · subst h3
   have HR : Hid (isL 95 = true) := by show isL 95 = true; rfl
   go_enter Tryz.func141, Tryz.ntmps141;go_wp2;go_ret;rw [U HR];exact ⟨rfl, rfl⟩
 by_cases h4 : c = 36
 · subst h4
   have HR : Hid (isL 36 = true) := by show isL 36 = true; rfl
   go_enter Tryz.func141, Tryz.ntmps141;go_wp2;go_ret;rw [U HR];exact ⟨rfl, rfl⟩
 have a3 : (c == 95) = false := by simpa using h3
 have a4 : (c == 36) = false := by simpa using h4
 have HR : Hid (isL c = false) := by show isL c = false; simp [isL, h3, h4]; omega
 by_cases c1 : 65 ≤ c
 · have c2 : ¬ c ≤ 90 := fun h => b1 ⟨c1, h⟩
   by_cases c3 : 97 ≤ c
   · have c4 : ¬ c ≤ 122 := fun h => b2 ⟨c3, h⟩
     clear b1 b2 h3 h4;go_enter Tryz.func141, Tryz.ntmps141;go_wp2;go_ret;rw [U HR];exact ⟨rfl, rfl⟩
   · clear b1 b2 h3 h4
     go_enter Tryz.func141, Tryz.ntmps141;go_wp2;go_ret;rw [U HR];exact ⟨rfl, rfl⟩
 · have c3 : ¬ 97 ≤ c := by omega
   clear b1 b2 h3 h4;go_enter Tryz.func141, Tryz.ntmps141;go_wp2;go_ret;rw [U HR];exact ⟨rfl, rfl⟩
end
section
open Go.RowKit Go.Shelf
def MAt (W : World) (M : Nat) (bv : Value) (at' : Int) (ov : Value) : Prop := W.heap[M]? = some (.cells #[bv, .int .i64 at', ov] 87)
theorem MAt.lt {W : World} {M : Nat} {bv ov : Value} {at' : Int} (h : MAt W M bv at' ov) : M < W.heap.size := (Array.getElem?_eq_some_iff.1 h).1
theorem MAt.c0 {W : World} {M : Nat} {bv ov : Value} {at' : Int} (h : MAt W M bv at' ov) : W.cell? ⟨M, 0, none⟩ = some bv := by rw [Lib.cell_of_heap h]; rfl
theorem MAt.c1 {W : World} {M : Nat} {bv ov : Value} {at' : Int} (h : MAt W M bv at' ov) : W.cell? ⟨M, 1, none⟩ = some (.int .i64 at') := by rw [Lib.cell_of_heap h]; rfl
theorem MAt.c2 {W : World} {M : Nat} {bv ov : Value} {at' : Int} (h : MAt W M bv at' ov) : W.cell? ⟨M, 2, none⟩ = some ov := by rw [Lib.cell_of_heap h]; rfl
theorem MAt.frozen {W : World} {M : Nat} {bv ov : Value} {at' : Int} (h : MAt W M bv at' ov) (j : Nat) : W.frozen? ⟨M, j, none⟩ = false := Lib.frozen_of_heap h j
theorem MAt.set1 {W : World} {M : Nat} {bv ov : Value} {at' : Int} (h : MAt W M bv at' ov) (x : Int) : MAt (W.setCell ⟨M, 1, none⟩ (.int .i64 x)) M bv x ov := by
 unfold MAt at *;simp [World.setCell, Array.getElem?_modify, h]
theorem MAt.set2 {W : World} {M : Nat} {bv ov : Value} {at' : Int} (h : MAt W M bv at' ov) (v : Value) : MAt (W.setCell ⟨M, 2, none⟩ v) M bv at' v := by
 unfold MAt at *;simp [World.setCell, Array.getElem?_modify, h]
theorem MAt.below {W W' : World} {M n : Nat} {bv ov : Value} {at' : Int} (h : MAt W M bv at' ov) (hb : Below n W W') (hn : M < n) : MAt W' M bv at' ov := (hb.block M hn).trans h
theorem Fr.set {S0 : Nat → Prop} {A B : World} (h : Fr S0 A B) (b j : Nat) (v : Value) (hb : S0 b) : Fr S0 A (B.setCell ⟨b, j, none⟩ v) :=
 ⟨h.os, h.tape, h.output, by simpa [World.setCell] using h.size, fun i hi hs => (Below.heap_setCell B ⟨b, j, none⟩ v i (fun e => hs (by have e' : i = b := e; subst e'; exact hb))).trans (h.block i hi hs)⟩
def tokV (kind : Int) (text : ByteArray) (at' e : Int) : Value := .agg #[.int .i64 kind, .string text, .int .i64 at', .int .i64 e]
theorem take_any (M : Nat) (bv ov : Value) (at' kind e : Int) (text : ByteArray) (W : World) (h : MAt W M bv at' ov) :
 Calls Tryz.prog 194 #[.pointer (some ⟨M, 0, none⟩), .int .i64 kind, .string text, .int .i64 e] W fun e' W' => e' = .returned (tokV kind text at' e) ∧ MAt W' M bv e ov ∧ Fr (fun k => k = M) W W' := by
 have c1 := h.c1;have f1 := h.frozen 1;have hl := h.lt;go_enter Tryz.func194, Tryz.ntmps194;go_wp2;exact bodyPost_ret (v := tokV kind text at' e) (by simp [results, Tryz.results194, go_sem, tokV]) rfl ⟨rfl, (h.set1 e).below (((Below.refl _ _).alloc NL _).alloc (by simp) _) (by simpa [World.setCell] using hl), (((Fr.refl (fun k => k = M) W).set M 1 _ rfl).alloc _).alloc _⟩
theorem conv_sl {W : World} {c : Nat} {a : Option Addr} {len cap : Nat} {g : Nat → Int} (hS : Sl W c (.slice a len cap) len g) : (convert 22 9 (.slice a len cap)).run Tryz.prog W = .ok (.string (strOfNums (upto g len))) W := by
 rcases hS with ⟨a', cap', h, rfl⟩ | ⟨off, cap', h, h0, h1, h2, hc⟩
 · cases a with
   | none => exact run_convert_bytes_nil W 22 5 Tryz.underlying22 Tryz.underlying5 _ _ 9 Tryz.underlying9
   | some ad => exact conv_run (.inr ⟨ad, _, rfl, fun j hj => by omega⟩)
 · cases h
   exact conv_run (.inr ⟨_, _, rfl, fun j hj => by rw [Addr.add_lit]; exact hc j hj⟩)
theorem cut_sl {W : World} {c : Nat} {a : Option Addr} {len cap : Nat} {g : Nat → Int} (hS : Sl W c (.slice a len cap) len g) {lo hi : Nat} (h1 : lo ≤ hi) (h2 : hi ≤ len) : Sl W c (sliced a lo hi cap 1) (hi - lo) (fun j => g (lo + j)) := by
 unfold sliced;by_cases he : hi - lo = 0
 · exact .inl ⟨_, _, by rw [he], he⟩
 rcases hS with ⟨a', cap', h, h0⟩ | ⟨off, cap', h, h3, h4, h5, hc⟩
 · omega
 · cases h
   rw [if_neg (by omega)];refine .inr ⟨off + lo, cap - lo, by simp [Addr.add], by omega, by omega, by omega, fun j hj => ?_⟩;have := hc (lo + j) (by omega);rw [← Nat.add_assoc] at this;exact this
theorem slice_from {W : World} {c : Nat} {a : Option Addr} {len cap : Nat} {g : Nat → Int} (hS : Sl W c (.slice a len cap) len g) {lo : Nat} (h : lo ≤ len) :
 ∃ a' c', (∀ W', (Instr.slice 22 (.slice a len cap) (some (.int .i64 (lo : Int))) none none).run Tryz.prog W' = .ok (.slice a' (len - lo) c') W') ∧ ∀ W', Sl W' c (.slice a len cap) len g → Sl W' c (.slice a' (len - lo) c') (len - lo) (fun j => g (lo + j)) := by
 refine ⟨_, _, fun W' => ?_, fun W' hS' => cut_sl hS' h NL⟩;rw [run_slice_l W' 22 a len cap under22 .i64 lo (by omega) (by omega), elem22, size5];rfl
theorem slice_to {W : World} {c : Nat} {a : Option Addr} {len cap : Nat} {g : Nat → Int} (hS : Sl W c (.slice a len cap) len g) {hi : Nat} (h : hi ≤ len) :
 ∃ a' c', (∀ W', (Instr.slice 22 (.slice a len cap) none (some (.int .i64 (hi : Int))) none).run Tryz.prog W' = .ok (.slice a' hi c') W') ∧ ∀ W', Sl W' c (.slice a len cap) len g → Sl W' c (.slice a' hi c') hi g := by
 have hcap : hi ≤ cap := by
  rcases hS with ⟨a', cap', h, h0⟩ | ⟨off, cap', h, _, h3, _⟩
  · cases h; omega
  · cases h; omega
 refine ⟨_, _, fun W' => ?_, fun W' hS' => by have := cut_sl hS' (Nat.zero_le hi) h; simpa [sliced] using this⟩;rw [run_slice_h W' 22 a len cap under22 .i64 hi (by omega) (by omega), elem22, size5];simp [sliced, Result.andThen]
def hpB (g : Nat → Int) (len : Nat) (g2 : Nat → Int) (l2 : Nat) : Bool := decide (l2 ≤ len) && ((strOfNums (upto g l2)).toList == (strOfNums (upto g2 l2)).toList)
theorem equal_any {c c' : Nat} {a b : Option Addr} {l1 c1 l2 c2 : Nat} {g1 g2 : Nat → Int} {W : World} (h1 : Sl W c (.slice a l1 c1) l1 g1) (h2 : Sl W c' (.slice b l2 c2) l2 g2) :
 Calls Tryz.prog 192 #[.slice a l1 c1, .slice b l2 c2] W fun e W' => e = .returned (.bool ((strOfNums (upto g1 l1)).toList == (strOfNums (upto g2 l2)).toList)) ∧ W' = W := by
 have k1 := conv_sl h1;have k2 := conv_sl h2;clear h1 h2;go_enter Tryz.func192, Tryz.ntmps192;go_wp2;go_ret;exact ⟨rfl, rfl⟩
theorem hasPrefix_any {c c' : Nat} {a b : Option Addr} {len c1 l2 c2 : Nat} {g g2 : Nat → Int} {W : World} (h1 : Sl W c (.slice a len c1) len g) (h2 : Sl W c' (.slice b l2 c2) l2 g2) (hl : len ≤ 1099511627776) (hl2 : l2 ≤ 1099511627776) :
 Calls Tryz.prog 140 #[.slice a len c1, .slice b l2 c2] W fun e W' => e = .returned (.bool (hpB g len g2 l2)) ∧ W' = W := by
 by_cases h : l2 ≤ len
 · obtain ⟨a', c3, hs, hk⟩ := slice_to h1 h
   have HE := Hi (equal_any (hk _ h1) h2);have HR : Hid (hpB g len g2 l2 = ((strOfNums (upto g l2)).toList == (strOfNums (upto g2 l2)).toList)) := by show hpB g len g2 l2 = _; simp [hpB, h]
   have n1 : (l2 : Int) ≤ len := by omega
   clear h1 h2 hk;go_enter Tryz.func140, Tryz.ntmps140;go_wp2_with (go_at_call 192; refine (U HE).mono ?_; rintro e w' ⟨rfl, rfl⟩);go_ret;rw [U HR];exact ⟨rfl, rfl⟩
 · have HR : Hid (hpB g len g2 l2 = false) := by show hpB g len g2 l2 = _; simp [hpB, h]
   have n1 : ¬ (l2 : Int) ≤ len := by omega
   have n2 : decide (l2 ≤ len) = false := by simpa using h
   have n3 : decide ((l2 : Int) ≤ len) = false := by simpa using n1
   clear h1 h2;go_enter Tryz.func140, Tryz.ntmps140;go_wp2;go_ret;rw [U HR];exact ⟨rfl, rfl⟩
end
section
open Go.RowKit Go.Shelf
def Stop (p : Int → Bool) (g : Nat → Int) (len i e : Nat) : Prop := i ≤ e ∧ e ≤ len ∧ (∀ j, i ≤ j → j < e → p (g j) = true) ∧ (e = len ∨ p (g e) = false)
def isLD (c : Int) : Bool := isL c || isD c
theorem put4_heap {W : World} {R : Nat} {x0 x1 x2 x3 : Value} (h : W.heap[R]? = some (.cells #[x0, x1, x2, x3] 40)) (y0 y1 y2 y3 : Value) : ((((W.setCell ⟨R, 0, none⟩ y0).setCell ⟨R, 1, none⟩ y1).setCell ⟨R, 2, none⟩ y2).setCell ⟨R, 3, none⟩ y3).heap[R]? = some (.cells #[y0, y1, y2, y3] 40) := by
 simp [World.setCell, Array.getElem?_modify, h]
theorem put4_below {W : World} {R n : Nat} (hn : n ≤ R) (y0 y1 y2 y3 : Value) : Below n W ((((W.setCell ⟨R, 0, none⟩ y0).setCell ⟨R, 1, none⟩ y1).setCell ⟨R, 2, none⟩ y2).setCell ⟨R, 3, none⟩ y3) :=
 ((((Below.refl n W).setCell (p := ⟨R, 0, none⟩) hn _).setCell (p := ⟨R, 1, none⟩) hn _).setCell (p := ⟨R, 2, none⟩) hn _).setCell (p := ⟨R, 3, none⟩) hn _
theorem tok_cells {W : World} {R : Nat} {y0 y1 y2 y3 : Value} (h : W.heap[R]? = some (.cells #[y0, y1, y2, y3] 40)) : W.cell? ⟨R, 0, none⟩ = some y0 ∧ W.cell? ⟨R, 1, none⟩ = some y1 ∧ W.cell? ⟨R, 2, none⟩ = some y2 ∧ W.cell? ⟨R, 3, none⟩ = some y3 := by
 refine ⟨?_, ?_, ?_, ?_⟩ <;> (rw [Lib.cell_of_heap h]; rfl)
attribute [local go_sem] tokV
theorem word_any (M c : Nat) (a : Option Addr) (len cap : Nat) (g : Nat → Int) (at' e : Nat) (ov : Value) (rv : Bool) (W : World) (h : MAt W M (.slice a len cap) at' ov) (hS : Sl W c (.slice a len cap) len g) (hc : c < W.heap.size) (hat : at' < len) (hlen : len ≤ 1099511627776)
 (he : Stop isLD g len (at' + 1) e) (hres : ∀ W : World, Calls Tryz.prog 193 #[.string (strOfNums (sub g at' e))] W fun x W' => x = .returned (.bool rv) ∧ W' = W) :
 Calls Tryz.prog 142 #[.pointer (some ⟨M, 0, none⟩)] W fun x W' => x = .returned (tokV (if rv then 2 else 1) (strOfNums (sub g at' e)) at' e) ∧ MAt W' M (.slice a len cap) e ov ∧ Fr (fun k => k = M) W W' := by
 obtain ⟨W1, hW1⟩ : ∃ W1, W.alloc (.cells #[.int .i64 0, .string ⟨#[]⟩, .int .i64 0, .int .i64 0] 40) = W1 := ⟨_, rfl⟩;have hB1 : Below W.heap.size W W1 := by rw [← hW1]; exact (Below.refl _ W).alloc NL _
 have hz1 : W1.heap.size = W.heap.size + 1 := by rw [← hW1]; simp
 have hr1 : W1.heap[W.heap.size]? = some (.cells #[.int .i64 0, .string ⟨#[]⟩, .int .i64 0, .int .i64 0] 40) := by rw [← hW1]; exact World.alloc_heap_new W _
 have hM1 := h.below hB1 h.lt;have hS1 := hS.keep (B := W1) (fun k e => by subst e; exact hB1.block k hc);have c0 := hM1.c0;have c1 := hM1.c1;have hml := h.lt;obtain ⟨sv', hsl, hcv0⟩ := cut_conv hS1 (by have := he.1; omega : at' ≤ e) he.2.1;have hcv : ∀ N, (convert 22 9 sv').run Tryz.prog (W1.drewN N) = .ok (.string (strOfNums (sub g at' e))) (W1.drewN N) := fun N => hcv0 _ (hS1.keep (fun _ _ => rfl))
 obtain ⟨off, cap', hv, h0, h1, h2, hcs⟩ : ∃ off cap', Value.slice a len cap = .slice (some ⟨c, off, none⟩) len cap' ∧ 0 < len ∧ len ≤ cap' ∧ cap' ≤ maxLen ∧ ∀ j, j < len → W1.cell? ⟨c, off + j, none⟩ = some (.int .u8 (g j)) := by
  rcases hS1 with ⟨_, _, h, h0⟩ | h
  · omega
  · exact h
 cases hv;unfold maxLen at h2;have HCS := Hi hcs;have HE := Hi he;have hek : e ≤ len := he.2.1;have HRS := Hi hres;clear hS hS1 hcv0 hcs he hres;go_enter Tryz.func142, Tryz.ntmps142;go_wp2;clear hW1;go_loopw [3] (fun t wr => ∃ k : Nat, at' + 1 ≤ k ∧ k ≤ e ∧ t = .int .i64 (k : Int) ∧ wr = W1) (fun t _ => len - (intOf t).toNat)
 case atStart => exact ⟨at' + 1, NL, (U HE).1, rfl, rfl⟩
 case round =>
  obtain ⟨k, hk1, hk2, rfl, hw⟩ := hrel;subst wr;by_cases hlt : k < len
  · have hlt' : (k : Int) < len := by omega
    have hck := U HCS k hlt;by_cases hke : k < e
    · have hp := (U HE).2.2.1 k hk1 hke
      unfold isLD at hp;cases hL : isL (g k) with
      | true =>
        go_wp2_with (first | (go_at_call 141; refine (isLetter_any _ _).mono ?_; rintro x w' ⟨rfl, hw⟩; subst w') | (go_at_call 143; refine (isDigit_any _ _).mono ?_; rintro x w' ⟨rfl, hw⟩; subst w'));exact ⟨⟨k + 1, by omega, by omega, by go_num, trivial⟩, by simp [intOf]; omega⟩
      | false =>
        have hD : isD (g k) = true := by rw [hL] at hp; simpa using hp
        go_wp2_with (first | (go_at_call 141; refine (isLetter_any _ _).mono ?_; rintro x w' ⟨rfl, hw⟩; subst w') | (go_at_call 143; refine (isDigit_any _ _).mono ?_; rintro x w' ⟨rfl, hw⟩; subst w'));exact ⟨⟨k + 1, by omega, by omega, by go_num, trivial⟩, by simp [intOf]; omega⟩
    · obtain rfl : k = e := by omega
      have hp : isLD (g k) = false := by
       rcases (U HE).2.2.2 with h | h
       · omega
       · exact h
      unfold isLD at hp;have hL : isL (g k) = false := by cases h : isL (g k) <;> simp [h] at hp ⊢
      have hD : isD (g k) = false := by cases h : isD (g k) <;> simp [h] at hp ⊢
      go_wp2_with (first | (go_at_call 141; refine (isLetter_any _ _).mono ?_; rintro x w' ⟨rfl, hw⟩; subst w') | (go_at_call 143; refine (isDigit_any _ _).mono ?_; rintro x w' ⟨rfl, hw⟩; subst w'));go_quiet (fail)
      cases rv with
      | true =>
        go_wp2_with (first | (go_at_call 193; refine (U HRS _).mono ?_; rintro x w' ⟨rfl, hw⟩; subst w') | (go_at_call 194; refine (take_any M _ ov at' 2 _ _ (W1.drewN nq) hM1).mono ?_; rintro x W2 ⟨rfl, hM2, hF2⟩; have hr2 : W2.heap[W.heap.size]? = some (.cells #[.int .i64 0, .string ⟨#[]⟩, .int .i64 0, .int .i64 0] 40) := (hF2.block W.heap.size (by show W.heap.size < W1.heap.size; omega) (by omega)).trans hr1; have d0 : W2.cell? ⟨W.heap.size, 0, none⟩ = some (.int .i64 0) := (by rw [Lib.cell_of_heap hr2]; rfl); have d1 : W2.cell? ⟨W.heap.size, 1, none⟩ = some (.string ⟨#[]⟩) := (by rw [Lib.cell_of_heap hr2]; rfl); have d2 : W2.cell? ⟨W.heap.size, 2, none⟩ = some (.int .i64 0) := (by rw [Lib.cell_of_heap hr2]; rfl); have d3 : W2.cell? ⟨W.heap.size, 3, none⟩ = some (.int .i64 0) := (by rw [Lib.cell_of_heap hr2]; rfl); have d4 := Lib.frozen_of_heap hr2; have d5 : W2.shape? W.heap.size = some (40, 4) := (by simp [World.shape?, hr2])));have hB4 := put4_below (W := W2) (Nat.le_refl W.heap.size) (.int .i64 2) (.string (strOfNums (sub g at' k))) (.int .i64 (at' : Int)) (.int .i64 (k : Int));have hr4 := put4_heap hr2 (.int .i64 2) (.string (strOfNums (sub g at' k))) (.int .i64 (at' : Int)) (.int .i64 (k : Int));obtain ⟨W4, hW4⟩ : ∃ W4, ((((W2.setCell ⟨W.heap.size, 0, none⟩ (.int .i64 2)).setCell ⟨W.heap.size, 1, none⟩ (.string (strOfNums (sub g at' k)))).setCell ⟨W.heap.size, 2, none⟩ (.int .i64 (at' : Int))).setCell ⟨W.heap.size, 3, none⟩ (.int .i64 (k : Int))) = W4 := ⟨_, rfl⟩
        rw [hW4] at hB4 hr4 ⊢;clear hW4;obtain ⟨e0, e1, e2, e3⟩ := tok_cells hr4;have hF1 : Fr (fun k => k = M) W (W1.drewN nq) := (Fr.refl _ W).below (hB1.trans ⟨rfl, rfl, rfl, NL, fun _ _ => rfl⟩);refine bodyPost_ret (v := .agg #[.int .i64 2, .string (strOfNums (sub g at' k)), .int .i64 (at' : Int), .int .i64 (k : Int)]) ?_ rfl ⟨rfl, hM2.below hB4 hml, (hF1.trans hF2).below hB4⟩;clear d0 d1 d2 d3 d4 d5;simp [results, Tryz.results142, go_sem, e0, e1, e2, e3]
      | false =>
        go_wp2_with (first | (go_at_call 193; refine (U HRS _).mono ?_; rintro x w' ⟨rfl, hw⟩; subst w') | (go_at_call 194; refine (take_any M _ ov at' 1 _ _ (W1.drewN nq) hM1).mono ?_; rintro x W2 ⟨rfl, hM2, hF2⟩; have hr2 : W2.heap[W.heap.size]? = some (.cells #[.int .i64 0, .string ⟨#[]⟩, .int .i64 0, .int .i64 0] 40) := (hF2.block W.heap.size (by show W.heap.size < W1.heap.size; omega) (by omega)).trans hr1; have d0 : W2.cell? ⟨W.heap.size, 0, none⟩ = some (.int .i64 0) := (by rw [Lib.cell_of_heap hr2]; rfl); have d1 : W2.cell? ⟨W.heap.size, 1, none⟩ = some (.string ⟨#[]⟩) := (by rw [Lib.cell_of_heap hr2]; rfl); have d2 : W2.cell? ⟨W.heap.size, 2, none⟩ = some (.int .i64 0) := (by rw [Lib.cell_of_heap hr2]; rfl); have d3 : W2.cell? ⟨W.heap.size, 3, none⟩ = some (.int .i64 0) := (by rw [Lib.cell_of_heap hr2]; rfl); have d4 := Lib.frozen_of_heap hr2; have d5 : W2.shape? W.heap.size = some (40, 4) := (by simp [World.shape?, hr2])));have hB4 := put4_below (W := W2) (Nat.le_refl W.heap.size) (.int .i64 1) (.string (strOfNums (sub g at' k))) (.int .i64 (at' : Int)) (.int .i64 (k : Int));have hr4 := put4_heap hr2 (.int .i64 1) (.string (strOfNums (sub g at' k))) (.int .i64 (at' : Int)) (.int .i64 (k : Int));obtain ⟨W4, hW4⟩ : ∃ W4, ((((W2.setCell ⟨W.heap.size, 0, none⟩ (.int .i64 1)).setCell ⟨W.heap.size, 1, none⟩ (.string (strOfNums (sub g at' k)))).setCell ⟨W.heap.size, 2, none⟩ (.int .i64 (at' : Int))).setCell ⟨W.heap.size, 3, none⟩ (.int .i64 (k : Int))) = W4 := ⟨_, rfl⟩
        rw [hW4] at hB4 hr4 ⊢;clear hW4;obtain ⟨e0, e1, e2, e3⟩ := tok_cells hr4;have hF1 : Fr (fun k => k = M) W (W1.drewN nq) := (Fr.refl _ W).below (hB1.trans ⟨rfl, rfl, rfl, NL, fun _ _ => rfl⟩);refine bodyPost_ret (v := .agg #[.int .i64 1, .string (strOfNums (sub g at' k)), .int .i64 (at' : Int), .int .i64 (k : Int)]) ?_ rfl ⟨rfl, hM2.below hB4 hml, (hF1.trans hF2).below hB4⟩;clear d0 d1 d2 d3 d4 d5;simp [results, Tryz.results142, go_sem, e0, e1, e2, e3]
  · have hlt' : ¬ (k : Int) < len := by omega
    have hltb : decide ((k : Int) < len) = false := by simpa using hlt'
    have hltn : decide (k < len) = false := by simpa using hlt
    obtain rfl : k = e := by omega
    go_wp2;go_quiet (fail)
    cases rv with
    | true =>
      go_wp2_with (first | (go_at_call 193; refine (U HRS _).mono ?_; rintro x w' ⟨rfl, hw⟩; subst w') | (go_at_call 194; refine (take_any M _ ov at' 2 _ _ (W1.drewN nq) hM1).mono ?_; rintro x W2 ⟨rfl, hM2, hF2⟩; have hr2 : W2.heap[W.heap.size]? = some (.cells #[.int .i64 0, .string ⟨#[]⟩, .int .i64 0, .int .i64 0] 40) := (hF2.block W.heap.size (by show W.heap.size < W1.heap.size; omega) (by omega)).trans hr1; have d0 : W2.cell? ⟨W.heap.size, 0, none⟩ = some (.int .i64 0) := (by rw [Lib.cell_of_heap hr2]; rfl); have d1 : W2.cell? ⟨W.heap.size, 1, none⟩ = some (.string ⟨#[]⟩) := (by rw [Lib.cell_of_heap hr2]; rfl); have d2 : W2.cell? ⟨W.heap.size, 2, none⟩ = some (.int .i64 0) := (by rw [Lib.cell_of_heap hr2]; rfl); have d3 : W2.cell? ⟨W.heap.size, 3, none⟩ = some (.int .i64 0) := (by rw [Lib.cell_of_heap hr2]; rfl); have d4 := Lib.frozen_of_heap hr2; have d5 : W2.shape? W.heap.size = some (40, 4) := (by simp [World.shape?, hr2])));have hB4 := put4_below (W := W2) (Nat.le_refl W.heap.size) (.int .i64 2) (.string (strOfNums (sub g at' k))) (.int .i64 (at' : Int)) (.int .i64 (k : Int));have hr4 := put4_heap hr2 (.int .i64 2) (.string (strOfNums (sub g at' k))) (.int .i64 (at' : Int)) (.int .i64 (k : Int));obtain ⟨W4, hW4⟩ : ∃ W4, ((((W2.setCell ⟨W.heap.size, 0, none⟩ (.int .i64 2)).setCell ⟨W.heap.size, 1, none⟩ (.string (strOfNums (sub g at' k)))).setCell ⟨W.heap.size, 2, none⟩ (.int .i64 (at' : Int))).setCell ⟨W.heap.size, 3, none⟩ (.int .i64 (k : Int))) = W4 := ⟨_, rfl⟩;rw [hW4] at hB4 hr4 ⊢
      clear hW4;obtain ⟨e0, e1, e2, e3⟩ := tok_cells hr4;have hF1 : Fr (fun k => k = M) W (W1.drewN nq) := (Fr.refl _ W).below (hB1.trans ⟨rfl, rfl, rfl, NL, fun _ _ => rfl⟩);refine bodyPost_ret (v := .agg #[.int .i64 2, .string (strOfNums (sub g at' k)), .int .i64 (at' : Int), .int .i64 (k : Int)]) ?_ rfl ⟨rfl, hM2.below hB4 hml, (hF1.trans hF2).below hB4⟩;clear d0 d1 d2 d3 d4 d5;simp [results, Tryz.results142, go_sem, e0, e1, e2, e3]
    | false =>
      go_wp2_with (first | (go_at_call 193; refine (U HRS _).mono ?_; rintro x w' ⟨rfl, hw⟩; subst w') | (go_at_call 194; refine (take_any M _ ov at' 1 _ _ (W1.drewN nq) hM1).mono ?_; rintro x W2 ⟨rfl, hM2, hF2⟩; have hr2 : W2.heap[W.heap.size]? = some (.cells #[.int .i64 0, .string ⟨#[]⟩, .int .i64 0, .int .i64 0] 40) := (hF2.block W.heap.size (by show W.heap.size < W1.heap.size; omega) (by omega)).trans hr1; have d0 : W2.cell? ⟨W.heap.size, 0, none⟩ = some (.int .i64 0) := (by rw [Lib.cell_of_heap hr2]; rfl); have d1 : W2.cell? ⟨W.heap.size, 1, none⟩ = some (.string ⟨#[]⟩) := (by rw [Lib.cell_of_heap hr2]; rfl); have d2 : W2.cell? ⟨W.heap.size, 2, none⟩ = some (.int .i64 0) := (by rw [Lib.cell_of_heap hr2]; rfl); have d3 : W2.cell? ⟨W.heap.size, 3, none⟩ = some (.int .i64 0) := (by rw [Lib.cell_of_heap hr2]; rfl); have d4 := Lib.frozen_of_heap hr2; have d5 : W2.shape? W.heap.size = some (40, 4) := (by simp [World.shape?, hr2])));have hB4 := put4_below (W := W2) (Nat.le_refl W.heap.size) (.int .i64 1) (.string (strOfNums (sub g at' k))) (.int .i64 (at' : Int)) (.int .i64 (k : Int));have hr4 := put4_heap hr2 (.int .i64 1) (.string (strOfNums (sub g at' k))) (.int .i64 (at' : Int)) (.int .i64 (k : Int));obtain ⟨W4, hW4⟩ : ∃ W4, ((((W2.setCell ⟨W.heap.size, 0, none⟩ (.int .i64 1)).setCell ⟨W.heap.size, 1, none⟩ (.string (strOfNums (sub g at' k)))).setCell ⟨W.heap.size, 2, none⟩ (.int .i64 (at' : Int))).setCell ⟨W.heap.size, 3, none⟩ (.int .i64 (k : Int))) = W4 := ⟨_, rfl⟩;rw [hW4] at hB4 hr4 ⊢
      clear hW4;obtain ⟨e0, e1, e2, e3⟩ := tok_cells hr4;have hF1 : Fr (fun k => k = M) W (W1.drewN nq) := (Fr.refl _ W).below (hB1.trans ⟨rfl, rfl, rfl, NL, fun _ _ => rfl⟩);refine bodyPost_ret (v := .agg #[.int .i64 1, .string (strOfNums (sub g at' k)), .int .i64 (at' : Int), .int .i64 (k : Int)]) ?_ rfl ⟨rfl, hM2.below hB4 hml, (hF1.trans hF2).below hB4⟩;clear d0 d1 d2 d3 d4 d5;simp [results, Tryz.results142, go_sem, e0, e1, e2, e3]
end
section
open Go.RowKit Go.Shelf
def Txts (W : World) (b off : Nat) (l : List ByteArray) : Prop := ∀ j s, l[j]? = some s → W.cell? ⟨b, off + j, none⟩ = some (.string s)
def hasT (l : List ByteArray) (v : ByteArray) : Bool := l.any fun s => v.toList == s.toList
theorem hasT_yes {l : List ByteArray} {v s : ByteArray} {k : Nat} (h : l[k]? = some s) (e : (v.toList == s.toList) = true) : hasT l v = true :=
 List.any_eq_true.2 ⟨s, List.mem_of_getElem? h, e⟩
theorem hasT_no {l : List ByteArray} {v : ByteArray} (h : ∀ (j : Nat) (s : ByteArray), l[j]? = some s → (v.toList == s.toList) = false) : hasT l v = false := by
 refine List.any_eq_false.2 fun s hs => ?_
 obtain ⟨j, hj⟩ := List.getElem?_of_mem hs;rw [h j s hj];decide
theorem index_any (b off n cap : Nat) (l : List ByteArray) (v : ByteArray) (W : World) (hT : Txts W b off l) (hn : n = l.length) (hl : l.length ≤ cap) (hc : cap ≤ 1048576) :
 Calls Tryz.prog 206 #[.slice (some ⟨b, off, none⟩) n cap, .string v] W fun e W' => (∃ i : Int, e = .returned (.int .i64 i) ∧ decide (0 ≤ i) = hasT l v) ∧ W' = W := by
 subst hn;have HT := Hi hT;clear hT;go_enter Tryz.func206, Tryz.ntmps206;go_wp2;go_loopw [8] (fun t wr => ∃ k : Nat, k ≤ l.length ∧ t = .int .i64 (k : Int) ∧ (∀ j s, j < k → l[j]? = some s → (v.toList == s.toList) = false) ∧ wr = W) (fun t _ => l.length - (intOf t).toNat)
 case atStart => exact ⟨0, Nat.zero_le _, rfl, fun j s h => by omega, rfl⟩
 case round =>
  obtain ⟨k, hk, rfl, hno, hw⟩ := hrel;subst wr;have HNO := Hi hno;clear hno;by_cases hlt : k < l.length
  · have hlt' : (k : Int) < l.length := by omega
    obtain ⟨s, hs⟩ : ∃ s, l[k]? = some s := ⟨_, List.getElem?_eq_getElem hlt⟩;have hcell := U HT k s hs;have HS := Hi hs;clear hs;cases he : (v.toList == s.toList) with
    | true =>
      go_wp2;go_ret;refine ⟨⟨_, rfl, ?_⟩, rfl⟩;rw [hasT_yes (U HS) he];simp
    | false =>
      go_wp2;refine ⟨⟨k + 1, by omega, by go_num, fun j s' hj hs' => ?_, trivial⟩, by simp [intOf]; omega⟩;by_cases hjk : j = k
      · subst hjk
        have := hs'.symm.trans (U HS);cases this;exact he
      · exact U HNO j s' (by omega) hs'
  · have hlt' : ¬ (k : Int) < l.length := by omega
    go_wp2;go_ret;refine ⟨⟨_, rfl, ?_⟩, rfl⟩;rw [hasT_no fun j s hs => U HNO j s (by have := (List.getElem?_eq_some_iff.1 hs).1; omega) hs];rfl
theorem contains_any (b off n cap : Nat) (l : List ByteArray) (v : ByteArray) (W : World) (hT : Txts W b off l) (hn : n = l.length) (hl : l.length ≤ cap) (hc : cap ≤ 1048576) :
 Calls Tryz.prog 160 #[.slice (some ⟨b, off, none⟩) n cap, .string v] W fun e W' => e = .returned (.bool (hasT l v)) ∧ W' = W := by
 subst hn;have HC := Hi (index_any b off _ cap l v W hT rfl hl hc);clear hT;go_enter Tryz.func160, Tryz.ntmps160;go_wp2_with (go_at_call 206; refine (U HC).mono ?_; rintro x w' ⟨⟨i, rfl, hi⟩, hw⟩; subst w'; have HI := Hi hi; clear hi);go_ret;rw [← U HI];exact ⟨rfl, rfl⟩
def sgn1 : List ByteArray := [⟨#[123]⟩, ⟨#[125]⟩, ⟨#[40]⟩, ⟨#[41]⟩, ⟨#[91]⟩, ⟨#[93]⟩, ⟨#[46]⟩, ⟨#[44]⟩, ⟨#[59]⟩, ⟨#[58]⟩, ⟨#[63]⟩, ⟨#[61]⟩, ⟨#[43]⟩, ⟨#[45]⟩, ⟨#[42]⟩, ⟨#[37]⟩, ⟨#[33]⟩, ⟨#[126]⟩, ⟨#[60]⟩, ⟨#[62]⟩, ⟨#[38]⟩, ⟨#[124]⟩, ⟨#[94]⟩]
def sgn2 : List ByteArray := [⟨#[61, 62]⟩, ⟨#[43, 61]⟩, ⟨#[45, 61]⟩, ⟨#[42, 61]⟩, ⟨#[37, 61]⟩, ⟨#[60, 61]⟩, ⟨#[62, 61]⟩, ⟨#[60, 60]⟩, ⟨#[62, 62]⟩, ⟨#[38, 38]⟩, ⟨#[124, 124]⟩]
def sgn3 : List ByteArray := [⟨#[61, 61, 61]⟩, ⟨#[33, 61, 61]⟩, ⟨#[62, 62, 62]⟩]
def sgnL (L : Nat) : List ByteArray := if L = 1 then sgn1 else if L = 2 then sgn2 else sgn3
def lsg (g : Nat → Int) : Nat → ByteArray
 | 0 => ⟨#[]⟩
 | L + 1 => if hasT (sgnL (L + 1)) (strOfNums (upto g (L + 1))) then strOfNums (upto g (L + 1)) else lsg g L
def signW (W : World) : World := (((W.alloc (.cells #[.string ⟨#[123]⟩, .string ⟨#[125]⟩, .string ⟨#[40]⟩, .string ⟨#[41]⟩, .string ⟨#[91]⟩, .string ⟨#[93]⟩, .string ⟨#[46]⟩, .string ⟨#[44]⟩, .string ⟨#[59]⟩, .string ⟨#[58]⟩, .string ⟨#[63]⟩, .string ⟨#[61]⟩, .string ⟨#[43]⟩, .string ⟨#[45]⟩, .string ⟨#[42]⟩, .string ⟨#[37]⟩, .string ⟨#[33]⟩, .string ⟨#[126]⟩, .string ⟨#[60]⟩, .string ⟨#[62]⟩, .string ⟨#[38]⟩, .string ⟨#[124]⟩, .string ⟨#[94]⟩] 9)).alloc (.cells #[.string ⟨#[61, 62]⟩, .string ⟨#[43, 61]⟩, .string ⟨#[45, 61]⟩, .string ⟨#[42, 61]⟩, .string ⟨#[37, 61]⟩, .string ⟨#[60, 61]⟩, .string ⟨#[62, 61]⟩, .string ⟨#[60, 60]⟩, .string ⟨#[62, 62]⟩, .string ⟨#[38, 38]⟩, .string ⟨#[124, 124]⟩] 9)).alloc (.cells #[.string ⟨#[61, 61, 61]⟩, .string ⟨#[33, 61, 61]⟩, .string ⟨#[62, 62, 62]⟩] 9)).alloc (.cells #[.slice none 0 0, .slice (some ⟨W.heap.size, 0, none⟩) 23 23, .slice (some ⟨W.heap.size + 1, 0, none⟩) 11 11, .slice (some ⟨W.heap.size + 1 + 1, 0, none⟩) 3 3] 154)
theorem signW_below (W : World) : Below W.heap.size W (signW W) := ((((Below.refl _ W).alloc NL _).alloc (by simp) _).alloc (by simp <;> omega) _).alloc (by simp <;> omega) _
theorem signW_h0 (W : World) : (signW W).heap[W.heap.size]? = some (.cells #[.string ⟨#[123]⟩, .string ⟨#[125]⟩, .string ⟨#[40]⟩, .string ⟨#[41]⟩, .string ⟨#[91]⟩, .string ⟨#[93]⟩, .string ⟨#[46]⟩, .string ⟨#[44]⟩, .string ⟨#[59]⟩, .string ⟨#[58]⟩, .string ⟨#[63]⟩, .string ⟨#[61]⟩, .string ⟨#[43]⟩, .string ⟨#[45]⟩, .string ⟨#[42]⟩, .string ⟨#[37]⟩, .string ⟨#[33]⟩, .string ⟨#[126]⟩, .string ⟨#[60]⟩, .string ⟨#[62]⟩, .string ⟨#[38]⟩, .string ⟨#[124]⟩, .string ⟨#[94]⟩] 9) := by
 unfold signW;rw [Below.heap_alloc _ _ _ (by simp <;> omega), Below.heap_alloc _ _ _ (by simp <;> omega), Below.heap_alloc _ _ _ (by simp)];exact World.alloc_heap_new W _
theorem signW_h1 (W : World) : (signW W).heap[W.heap.size + 1]? = some (.cells #[.string ⟨#[61, 62]⟩, .string ⟨#[43, 61]⟩, .string ⟨#[45, 61]⟩, .string ⟨#[42, 61]⟩, .string ⟨#[37, 61]⟩, .string ⟨#[60, 61]⟩, .string ⟨#[62, 61]⟩, .string ⟨#[60, 60]⟩, .string ⟨#[62, 62]⟩, .string ⟨#[38, 38]⟩, .string ⟨#[124, 124]⟩] 9) := by
 unfold signW;rw [Below.heap_alloc _ _ _ (by simp <;> omega), Below.heap_alloc _ _ _ (by simp)];have := World.alloc_heap_new (W.alloc (.cells #[.string ⟨#[123]⟩, .string ⟨#[125]⟩, .string ⟨#[40]⟩, .string ⟨#[41]⟩, .string ⟨#[91]⟩, .string ⟨#[93]⟩, .string ⟨#[46]⟩, .string ⟨#[44]⟩, .string ⟨#[59]⟩, .string ⟨#[58]⟩, .string ⟨#[63]⟩, .string ⟨#[61]⟩, .string ⟨#[43]⟩, .string ⟨#[45]⟩, .string ⟨#[42]⟩, .string ⟨#[37]⟩, .string ⟨#[33]⟩, .string ⟨#[126]⟩, .string ⟨#[60]⟩, .string ⟨#[62]⟩, .string ⟨#[38]⟩, .string ⟨#[124]⟩, .string ⟨#[94]⟩] 9)) (.cells #[.string ⟨#[61, 62]⟩, .string ⟨#[43, 61]⟩, .string ⟨#[45, 61]⟩, .string ⟨#[42, 61]⟩, .string ⟨#[37, 61]⟩, .string ⟨#[60, 61]⟩, .string ⟨#[62, 61]⟩, .string ⟨#[60, 60]⟩, .string ⟨#[62, 62]⟩, .string ⟨#[38, 38]⟩, .string ⟨#[124, 124]⟩] 9);rw [World.size_alloc] at this;exact this
theorem signW_h2 (W : World) : (signW W).heap[W.heap.size + 1 + 1]? = some (.cells #[.string ⟨#[61, 61, 61]⟩, .string ⟨#[33, 61, 61]⟩, .string ⟨#[62, 62, 62]⟩] 9) := by
 unfold signW;rw [Below.heap_alloc _ _ _ (by simp)];have := World.alloc_heap_new ((W.alloc (.cells #[.string ⟨#[123]⟩, .string ⟨#[125]⟩, .string ⟨#[40]⟩, .string ⟨#[41]⟩, .string ⟨#[91]⟩, .string ⟨#[93]⟩, .string ⟨#[46]⟩, .string ⟨#[44]⟩, .string ⟨#[59]⟩, .string ⟨#[58]⟩, .string ⟨#[63]⟩, .string ⟨#[61]⟩, .string ⟨#[43]⟩, .string ⟨#[45]⟩, .string ⟨#[42]⟩, .string ⟨#[37]⟩, .string ⟨#[33]⟩, .string ⟨#[126]⟩, .string ⟨#[60]⟩, .string ⟨#[62]⟩, .string ⟨#[38]⟩, .string ⟨#[124]⟩, .string ⟨#[94]⟩] 9)).alloc (.cells #[.string ⟨#[61, 62]⟩, .string ⟨#[43, 61]⟩, .string ⟨#[45, 61]⟩, .string ⟨#[42, 61]⟩, .string ⟨#[37, 61]⟩, .string ⟨#[60, 61]⟩, .string ⟨#[62, 61]⟩, .string ⟨#[60, 60]⟩, .string ⟨#[62, 62]⟩, .string ⟨#[38, 38]⟩, .string ⟨#[124, 124]⟩] 9)) (.cells #[.string ⟨#[61, 61, 61]⟩, .string ⟨#[33, 61, 61]⟩, .string ⟨#[62, 62, 62]⟩] 9);rw [World.size_alloc, World.size_alloc] at this;exact this
theorem signW_h3 (W : World) : (signW W).heap[W.heap.size + 1 + 1 + 1]? = some (.cells #[.slice none 0 0, .slice (some ⟨W.heap.size, 0, none⟩) 23 23, .slice (some ⟨W.heap.size + 1, 0, none⟩) 11 11, .slice (some ⟨W.heap.size + 1 + 1, 0, none⟩) 3 3] 154) := by
 unfold signW;have := World.alloc_heap_new (((W.alloc (.cells #[.string ⟨#[123]⟩, .string ⟨#[125]⟩, .string ⟨#[40]⟩, .string ⟨#[41]⟩, .string ⟨#[91]⟩, .string ⟨#[93]⟩, .string ⟨#[46]⟩, .string ⟨#[44]⟩, .string ⟨#[59]⟩, .string ⟨#[58]⟩, .string ⟨#[63]⟩, .string ⟨#[61]⟩, .string ⟨#[43]⟩, .string ⟨#[45]⟩, .string ⟨#[42]⟩, .string ⟨#[37]⟩, .string ⟨#[33]⟩, .string ⟨#[126]⟩, .string ⟨#[60]⟩, .string ⟨#[62]⟩, .string ⟨#[38]⟩, .string ⟨#[124]⟩, .string ⟨#[94]⟩] 9)).alloc (.cells #[.string ⟨#[61, 62]⟩, .string ⟨#[43, 61]⟩, .string ⟨#[45, 61]⟩, .string ⟨#[42, 61]⟩, .string ⟨#[37, 61]⟩, .string ⟨#[60, 61]⟩, .string ⟨#[62, 61]⟩, .string ⟨#[60, 60]⟩, .string ⟨#[62, 62]⟩, .string ⟨#[38, 38]⟩, .string ⟨#[124, 124]⟩] 9)).alloc (.cells #[.string ⟨#[61, 61, 61]⟩, .string ⟨#[33, 61, 61]⟩, .string ⟨#[62, 62, 62]⟩] 9)) (.cells #[.slice none 0 0, .slice (some ⟨W.heap.size, 0, none⟩) 23 23, .slice (some ⟨W.heap.size + 1, 0, none⟩) 11 11, .slice (some ⟨W.heap.size + 1 + 1, 0, none⟩) 3 3] 154);rw [World.size_alloc, World.size_alloc, World.size_alloc] at this;exact this
theorem txts_of {W : World} {b : Nat} {l : List ByteArray} {cs : Array Value} {fr : Nat × Nat} (h : W.heap[b]? = some (.cells cs 9 fr)) (hc : cs = (l.map Value.string).toArray) : Txts W b 0 l := by
 intro j s hs;rw [Lib.cell_of_heap h, hc, Nat.zero_add];simp [hs]
theorem lsign_any (c : Nat) (a : Option Addr) (len cap : Nat) (g : Nat → Int) (W : World) (hS : Sl W c (.slice a len cap) len g) (hc : c < W.heap.size) (hlen : len ≤ 1099511627776) :
 Calls Tryz.prog 199 #[.slice a len cap] W fun x W' => x = .returned (.string (lsg g (min 3 len))) ∧ Below W.heap.size W W' := by
 obtain ⟨W4, hW4⟩ : ∃ W4, signW W = W4 := ⟨_, rfl⟩;have hB4 := signW_below W;have k0 := contains_any W.heap.size 0 23 23 sgn1;have k1 := contains_any (W.heap.size + 1) 0 11 11 sgn2;have k2 := contains_any (W.heap.size + 1 + 1) 0 3 3 sgn3;have t0 : Txts W4 W.heap.size 0 sgn1 := by rw [← hW4]; exact txts_of (signW_h0 W) rfl
 have t1 : Txts W4 (W.heap.size + 1) 0 sgn2 := by rw [← hW4]; exact txts_of (signW_h1 W) rfl
 have t2 : Txts W4 (W.heap.size + 1 + 1) 0 sgn3 := by rw [← hW4]; exact txts_of (signW_h2 W) rfl
 have H0 := Hi (fun v => k0 v W4 t0 rfl (by decide) (by decide));have H1 := Hi (fun v => k1 v W4 t1 rfl (by decide) (by decide));have H2 := Hi (fun v => k2 v W4 t2 rfl (by decide) (by decide));have h3 := signW_h3 W;rw [hW4] at hB4 h3;have r1 : W4.cell? ⟨W.heap.size + 1 + 1 + 1, 1, none⟩ = some (.slice (some ⟨W.heap.size, 0, none⟩) 23 23) := by rw [Lib.cell_of_heap h3]; rfl
 have r2 : W4.cell? ⟨W.heap.size + 1 + 1 + 1, 2, none⟩ = some (.slice (some ⟨W.heap.size + 1, 0, none⟩) 11 11) := by rw [Lib.cell_of_heap h3]; rfl
 have r3 : W4.cell? ⟨W.heap.size + 1 + 1 + 1, 3, none⟩ = some (.slice (some ⟨W.heap.size + 1 + 1, 0, none⟩) 3 3) := by rw [Lib.cell_of_heap h3]; rfl
 have HS4 := Hi (hS.keep (B := W4) (fun k e => by subst e; exact hB4.block k hc));clear hS k0 k1 k2 t0 t1 t2 h3;unfold signW at hW4;go_enter Tryz.func199, Tryz.ntmps199;go_wp2;clear hW4;have HMN : Hid (Value.int .i64 (min 3 (len : Int)) = .int .i64 ((min 3 len : Nat) : Int)) := congrArg _ (by omega);go_loopw [4] (fun t wr => ∃ L : Nat, L ≤ min 3 len ∧ t = .int .i64 (L : Int) ∧ lsg g (min 3 len) = lsg g L ∧ wr = W4) (fun t _ => (intOf t).toNat)
 case atStart => exact ⟨_, NL, U HMN, rfl, rfl⟩
 case round =>
  obtain ⟨L, hL, rfl, hls, hw⟩ := hrel;subst wr;have HLS := Hi hls;clear hls;by_cases hL0 : L = 0
  · subst hL0
    go_wp2;go_ret;exact ⟨by rw [U HLS]; rfl, hB4⟩
  · obtain ⟨L', rfl⟩ : ∃ L', L = L' + 1 := ⟨L - 1, by omega⟩
    have hle : L' + 1 ≤ len := by omega
    obtain ⟨a', c', hsl, hk⟩ := slice_to (U HS4) hle;have hcv := conv_sl (hk _ (U HS4));clear hk;have HU : Hid (lsg g (L' + 1) = if hasT (sgnL (L' + 1)) (strOfNums (upto g (L' + 1))) then strOfNums (upto g (L' + 1)) else lsg g L') := rfl;have hp : (0 : Int) < (L' : Int) + 1 := by omega
    have hL3 : L' < 3 := by omega
    obtain ⟨S, hSe⟩ : ∃ S, strOfNums (upto g (L' + 1)) = S := ⟨_, rfl⟩;rw [hSe] at HU hcv;clear hSe;rcases (by omega : L' = 0 ∨ L' = 1 ∨ L' = 2) with rfl | rfl | rfl
    · have hslk : ∀ W', (Instr.slice 22 (.slice a len cap) none (some (.int .i64 1)) none).run Tryz.prog W' = .ok (.slice a' 1 c') W' := hsl
      have hcvk : (convert 22 9 (.slice a' 1 c')).run Tryz.prog W4 = .ok (.string S) W4 := hcv;clear hsl hcv hp;cases hh : hasT (sgnL (0 + 1)) S with
      | true =>
        have hh' : hasT sgn1 S = true := hh;rw [hh] at HU;go_wp2_with (go_at_call 160; refine (U H0 _).mono ?_; rintro x w' ⟨rfl, hw⟩; subst w');go_ret;refine ⟨?_, hB4⟩;rw [U HLS, U HU];rfl
      | false =>
        have hh' : hasT sgn1 S = false := hh;rw [hh] at HU;go_wp2_with (go_at_call 160; refine (U H0 _).mono ?_; rintro x w' ⟨rfl, hw⟩; subst w');have HN : Hid (lsg g (min 3 len) = lsg g 0) := by show lsg g (min 3 len) = lsg g 0; rw [U HLS, U HU]; rfl
        exact ⟨⟨0, by omega, rfl, U HN, trivial⟩, by simp [intOf]⟩
    · have hslk : ∀ W', (Instr.slice 22 (.slice a len cap) none (some (.int .i64 2)) none).run Tryz.prog W' = .ok (.slice a' 2 c') W' := hsl
      have hcvk : (convert 22 9 (.slice a' 2 c')).run Tryz.prog W4 = .ok (.string S) W4 := hcv;clear hsl hcv hp;cases hh : hasT (sgnL (1 + 1)) S with
      | true =>
        have hh' : hasT sgn2 S = true := hh;rw [hh] at HU;go_wp2_with (go_at_call 160; refine (U H1 _).mono ?_; rintro x w' ⟨rfl, hw⟩; subst w');go_ret;refine ⟨?_, hB4⟩;rw [U HLS, U HU];rfl
      | false =>
        have hh' : hasT sgn2 S = false := hh;rw [hh] at HU;go_wp2_with (go_at_call 160; refine (U H1 _).mono ?_; rintro x w' ⟨rfl, hw⟩; subst w');have HN : Hid (lsg g (min 3 len) = lsg g 1) := by show lsg g (min 3 len) = lsg g 1; rw [U HLS, U HU]; rfl
        exact ⟨⟨1, by omega, rfl, U HN, trivial⟩, by simp [intOf]⟩
    · have hslk : ∀ W', (Instr.slice 22 (.slice a len cap) none (some (.int .i64 3)) none).run Tryz.prog W' = .ok (.slice a' 3 c') W' := hsl
      have hcvk : (convert 22 9 (.slice a' 3 c')).run Tryz.prog W4 = .ok (.string S) W4 := hcv;clear hsl hcv hp;cases hh : hasT (sgnL (2 + 1)) S with
      | true =>
        have hh' : hasT sgn3 S = true := hh;rw [hh] at HU;go_wp2_with (go_at_call 160; refine (U H2 _).mono ?_; rintro x w' ⟨rfl, hw⟩; subst w');go_ret;refine ⟨?_, hB4⟩;rw [U HLS, U HU];rfl
      | false =>
        have hh' : hasT sgn3 S = false := hh;rw [hh] at HU;go_wp2_with (go_at_call 160; refine (U H2 _).mono ?_; rintro x w' ⟨rfl, hw⟩; subst w');have HN : Hid (lsg g (min 3 len) = lsg g 2) := by show lsg g (min 3 len) = lsg g 2; rw [U HLS, U HU]; rfl
        exact ⟨⟨2, by omega, rfl, U HN, trivial⟩, by simp [intOf]⟩
end
section
open Go.RowKit Go.Shelf
attribute [local go_sem] tokV
theorem sign_plain (M c : Nat) (a : Option Addr) (len cap : Nat) (g : Nat → Int) (at' : Nat) (ov : Value) (S : ByteArray) (W : World) (h : MAt W M (.slice a len cap) at' ov) (hS : Sl W c (.slice a len cap) len g) (hc : c < W.heap.size) (hat : at' < len) (hlen : len ≤ 1099511627776)
 (he : lsg (fun j => g (at' + j)) (min 3 (len - at')) = S) (hs3 : S.size ≤ 3) (hn1 : (S.toList == []) = false) (hn2 : (S.toList == [123]) = false) (hn3 : (S.toList == [125]) = false) :
 Calls Tryz.prog 149 #[.pointer (some ⟨M, 0, none⟩)] W fun x W' => x = .returned (.tuple #[tokV 9 S at' (at' + S.size), .bool true]) ∧ MAt W' M (.slice a len cap) (at' + S.size) ov ∧ Fr (fun k => k = M) W W' := by
 obtain ⟨W1, hW1⟩ : ∃ W1, W.alloc (.cells #[.int .i64 0, .string ⟨#[]⟩, .int .i64 0, .int .i64 0] 40) = W1 := ⟨_, rfl⟩;have hB1 : Below W.heap.size W W1 := by rw [← hW1]; exact (Below.refl _ W).alloc NL _
 have hz1 : W1.heap.size = W.heap.size + 1 := by rw [← hW1]; simp
 have hr1 : W1.heap[W.heap.size]? = some (.cells #[.int .i64 0, .string ⟨#[]⟩, .int .i64 0, .int .i64 0] 40) := by rw [← hW1]; exact World.alloc_heap_new W _
 have hM1 := h.below hB1 h.lt;have hS1 := hS.keep (B := W1) (fun k e => by subst e; exact hB1.block k hc);have c0 := hM1.c0;have c1 := hM1.c1;have hml := h.lt;obtain ⟨a', c', hsl, hk⟩ := slice_from hS1 (Nat.le_of_lt hat);have HLS := Hi (lsign_any c a' (len - at') c' _ W1.drew (hk _ (hS1.keep (B := W1.drew) (fun _ _ => rfl))) (by show c < W1.heap.size; omega) (by omega));rw [he] at HLS;clear hS hS1 hk;go_enter Tryz.func149, Tryz.ntmps149;go_wp2;go_region_with (go_at_call 199; refine (U HLS).mono ?_; rintro x W2 ⟨rfl, hB2⟩)
 all_goals (
  have hB2' : Below W1.heap.size W1 W2 := (⟨rfl, rfl, rfl, NL, fun _ _ => rfl⟩ : Below W1.heap.size W1 W1.drew).trans hB2;have hM2 := hM1.below hB2' hM1.lt;have hr2 := (hB2'.block W.heap.size (by omega)).trans hr1;have hz2 := hB2'.size;have c1 := hM2.c1;have c0 := hM2.c0;clear hsl;go_wp2_with (go_at_call 194; refine (take_any M _ ov at' 9 _ S W2 hM2).mono ?_; rintro x W3 ⟨rfl, hM3, hF3⟩; have hr3 : W3.heap[W.heap.size]? = some (.cells #[.int .i64 0, .string ⟨#[]⟩, .int .i64 0, .int .i64 0] 40) := (hF3.block W.heap.size (by omega) (by omega)).trans hr2; obtain ⟨d0, d1, d2, d3⟩ := tok_cells hr3; have d4 := Lib.frozen_of_heap hr3; have d5 : W3.shape? W.heap.size = some (40, 4) := (by simp [World.shape?, hr3]));have hB4 := put4_below (W := W3) (Nat.le_refl W.heap.size) (.int .i64 9) (.string S) (.int .i64 (at' : Int)) (.int .i64 ((at' : Int) + S.size));have hr4 := put4_heap hr3 (.int .i64 9) (.string S) (.int .i64 (at' : Int)) (.int .i64 ((at' : Int) + S.size));obtain ⟨W4, hW4⟩ : ∃ W4, ((((W3.setCell ⟨W.heap.size, 0, none⟩ (.int .i64 9)).setCell ⟨W.heap.size, 1, none⟩ (.string S)).setCell ⟨W.heap.size, 2, none⟩ (.int .i64 (at' : Int))).setCell ⟨W.heap.size, 3, none⟩ (.int .i64 ((at' : Int) + S.size))) = W4 := ⟨_, rfl⟩;rw [hW4] at hB4 hr4 ⊢;clear hW4;obtain ⟨e0, e1, e2, e3⟩ := tok_cells hr4;have hF1 : Fr (fun k => k = M) W W2 := (Fr.refl _ W).below (hB1.trans (hB2'.mono hB1.size));refine bodyPost_ret (v := .tuple #[.agg #[.int .i64 9, .string S, .int .i64 (at' : Int), .int .i64 ((at' : Int) + S.size)], .bool true]) ?_ rfl ⟨rfl, hM3.below hB4 hml, (hF1.trans hF3).below hB4⟩
  clear d0 d1 d2 d3 d4 d5
  simp [results, Tryz.results149, go_sem, e0, e1, e2, e3])
end
section
open Go.RowKit Go.Shelf
theorem apr_ascii (B : Nat) (v : Value) (n : Nat) (xs : List Value) (r : Int) (w : World) (hown : w.ownsRow B 5 1 v n xs) (h0 : 0 ≤ r) (h1 : r < 128) (hn : n + 1 ≤ 140737488355328) (hB : B ≤ w.heap.size) :
 Calls Tryz.prog 221 #[v, .int .i32 r] w fun e w' => ∃ v', e = .returned v' ∧ w'.ownsRow B 5 1 v' (n + 1) (xs ++ [.int .u8 r]) ∧ (∀ k, k < w.heap.size → v.ownBlock ≠ some k → w'.heap[k]? = w.heap[k]?) ∧ Below B w w' := by
 obtain ⟨i0, hi, hz0, hz1, hz2⟩ := info_parts infoByte
 have k1 : IntKind.u32.wrap r = r := by
  have : r % 4294967296 = r := by omega
  unfold IntKind.wrap;simp [IntKind.bits, IntKind.signed, this]
 have k2 : IntKind.u8.wrap r = r := by
  have : r % 256 = r := by omega
  unfold IntKind.wrap;simp [IntKind.bits, IntKind.signed, this]
 have h127 : r ≤ 127 := by omega
 have h127b : decide (r ≤ 127) = true := by simpa using h127
 go_enter Tryz.func221, Tryz.ntmps221;go_wp2_with (at_builtin; refine wpList_append_own _ rfl _ _ 22 rfl B 5 i0 (.int .u8 0) 1 1 Tryz.underlying22 hi hz0 hz1 hz2 rfl (by decide) _ _ _ rfl (hown.alloc _) ⟨w.heap.size, 0, none⟩ 1 1 [.int .u8 r] rfl rfl ?c1 ?c2 ?c3 ?c4 ?c5 ?_)
 case c1 =>
  intro j u hj;match j, hj with
  | 0, hj => simp at hj; subst hj; simp [Addr.add]
 case c2 => intro u hu; simp at hu; subst hu; rfl
 case c3 => unfold maxLen; omega
 case c4 => omega
 case c5 => simp; omega
 intro v' w2 hown' hgrow _;go_wp2;go_ret;refine ⟨v', rfl, hown', fun k hk hkv => ?_, ((Below.refl B w).alloc hB _).grown hgrow (by simp; omega) (fun k hk => (hown.lt k hk).1)⟩;rw [hgrow.block k (by simp; omega) (fun e => hkv e.symm), Lib.alloc_old w _ k hk]
end
section
open Go.RowKit Go.Shelf
theorem dec_low {g : Nat → Int} (hg : ∀ j, 0 ≤ g j ∧ g j ≤ 255) {len i : Nat} (hi : i < len) (h : g i < 128) : dRune g len i = g i ∧ dSize g len i = 1 ∧ dGood g len i = true := by
 have hw : wid (g i) = 1 := by simp [wid, h]
 have hd : dig (g i) = g i := by simp [dig, h]
 have hl : lst (g i) = 0 := by simp [lst, h]
 have h0 := (hg i).1
 have hgd : good g len i = true := by
  simp only [good, hw, hl, Bool.and_eq_true, decide_eq_true_eq];refine ⟨⟨⟨⟨by omega, by omega⟩, rfl⟩, ?_⟩, ?_⟩
  · show 0 ≤ dig (g i)
    omega
  · show alw (dig (g i)) = true
    rw [hd];simp [alw];omega
 obtain ⟨e1, e2, e3⟩ := dYes hi hgd;rw [hw] at e1 e2;refine ⟨?_, by simpa using e2, e3⟩;rw [e1];exact hd
attribute [local go_sem] tokV
end
section
open Go.RowKit Go.Shelf
attribute [local go_sem] tokV
theorem tok_word (M c : Nat) (a : Option Addr) (len cap : Nat) (g : Nat → Int) (at' : Nat) (ov : Value) (kd e' : Int) (S : ByteArray) (W : World) (h : MAt W M (.slice a len cap) at' ov) (hS : Sl W c (.slice a len cap) len g) (hc : c < W.heap.size) (hat : at' < len) (hlen : len ≤ 1099511627776) (hL : isL (g at') = true)
 (hw : ∀ W, MAt W M (.slice a len cap) at' ov → Sl W c (.slice a len cap) len g → c < W.heap.size → Calls Tryz.prog 142 #[.pointer (some ⟨M, 0, none⟩)] W fun x W' => x = .returned (tokV kd S at' e') ∧ MAt W' M (.slice a len cap) e' ov ∧ Fr (fun k => k = M) W W') :
 Calls Tryz.prog 91 #[.pointer (some ⟨M, 0, none⟩)] W fun x W' => x = .returned (.tuple #[tokV kd S at' e', .bool true]) ∧ MAt W' M (.slice a len cap) e' ov ∧ Fr (fun k => k = M) W W' := by
 have HW : Hid (∀ W', Below W.heap.size W W' → Calls Tryz.prog 142 #[.pointer (some ⟨M, 0, none⟩)] W' fun x W'' => x = .returned (tokV kd S at' e') ∧ MAt W'' M (.slice a len cap) e' ov ∧ Fr (fun k => k = M) W' W'') := fun W' hb => hw W' (h.below hb h.lt) (hS.keep (fun k e => by subst e; exact hb.block k hc)) (Nat.lt_of_lt_of_le hc hb.size)
 clear hw;obtain ⟨W1, hW1⟩ : ∃ W1, W.alloc (.cells #[.int .i64 0, .string ⟨#[]⟩, .int .i64 0, .int .i64 0] 40) = W1 := ⟨_, rfl⟩;have hB1 : Below W.heap.size W W1 := by rw [← hW1]; exact (Below.refl _ W).alloc NL _
 have hz1 : W1.heap.size = W.heap.size + 1 := by rw [← hW1]; simp
 have hr1 : W1.heap[W.heap.size]? = some (.cells #[.int .i64 0, .string ⟨#[]⟩, .int .i64 0, .int .i64 0] 40) := by rw [← hW1]; exact World.alloc_heap_new W _
 have hM1 := h.below hB1 h.lt;have hml := h.lt;have c0 := hM1.c0;have c1 := hM1.c1
 obtain ⟨off, cap', hv, h0, h1, h2, hcs⟩ : ∃ off cap', Value.slice a len cap = .slice (some ⟨c, off, none⟩) len cap' ∧ 0 < len ∧ len ≤ cap' ∧ cap' ≤ maxLen ∧ ∀ j, j < len → W1.cell? ⟨c, off + j, none⟩ = some (.int .u8 (g j)) := by
  rcases hS.keep (B := W1) (fun k e => by subst e; exact hB1.block k hc) with ⟨_, _, h, h0⟩ | h
  · omega
  · exact h
 cases hv;unfold maxLen at h2;have hck := hcs at' hat;have n1 : (at' : Int) < len := by omega
 clear hcs hS;go_enter Tryz.func91, Tryz.ntmps91;go_wp2;clear hW1;go_quiet (fail)
 go_wp2_with (first | (go_at_call 141; refine (isLetter_any _ _).mono ?_; rintro x w' ⟨rfl, hw⟩; subst w') | (go_at_call 142; refine (U HW (W1.drewN nq) (hB1.trans ⟨rfl, rfl, rfl, NL, fun _ _ => rfl⟩)).mono ?_; rintro x W3 ⟨rfl, hM3, hF3⟩; have hr3 : W3.heap[W.heap.size]? = some (.cells #[.int .i64 0, .string ⟨#[]⟩, .int .i64 0, .int .i64 0] 40) := (hF3.block W.heap.size (by show W.heap.size < W1.heap.size; omega) (by omega)).trans hr1; obtain ⟨d0, d1, d2, d3⟩ := tok_cells hr3; have d4 := Lib.frozen_of_heap hr3; have d5 : W3.shape? W.heap.size = some (40, 4) := (by simp [World.shape?, hr3])));have hB4 := put4_below (W := W3) (Nat.le_refl W.heap.size) (.int .i64 kd) (.string S) (.int .i64 (at' : Int)) (.int .i64 e');have hr4 := put4_heap hr3 (.int .i64 kd) (.string S) (.int .i64 (at' : Int)) (.int .i64 e');obtain ⟨W4, hW4⟩ : ∃ W4, ((((W3.setCell ⟨W.heap.size, 0, none⟩ (.int .i64 kd)).setCell ⟨W.heap.size, 1, none⟩ (.string S)).setCell ⟨W.heap.size, 2, none⟩ (.int .i64 (at' : Int))).setCell ⟨W.heap.size, 3, none⟩ (.int .i64 e')) = W4 := ⟨_, rfl⟩;rw [hW4] at hB4 hr4 ⊢;clear hW4;obtain ⟨e0, e1, e2, e3⟩ := tok_cells hr4;have hF1 : Fr (fun k => k = M) W (W1.drewN nq) := (Fr.refl _ W).below (hB1.trans ⟨rfl, rfl, rfl, NL, fun _ _ => rfl⟩);refine bodyPost_ret (v := .tuple #[.agg #[.int .i64 kd, .string S, .int .i64 (at' : Int), .int .i64 e'], .bool true]) ?_ rfl ⟨rfl, hM3.below hB4 hml, (hF1.trans hF3).below hB4⟩;clear d0 d1 d2 d3 d4 d5;simp [results, Tryz.results91, go_sem, e0, e1, e2, e3]
end
end Go.Proofs.YtofgphapjjofnaaGreatDoor
