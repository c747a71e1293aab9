/- Bytes turned into strings; what has turned in memory. -/
import Derived.Laws.BytesArg
import Derived.Lib.OthersKept
import Derived.RangeFuncBox
import Derived.Test.YtpdkeggiokebmaaDoorF2
import Derived.Test.YtpdkeggiokebmaaDoorK0
import Derived.Test.YtpdkeggiokebmaaDoorD1
namespace Go.Proofs.YtpdkeggiokebmaaDoor
set_option linter.unusedSimpArgs false
set_option linter.unusedVariables false
open Go.RowKit Go.Shelf

theorem gS_nums (g : Nat → Int) (hg : ∀ j, 0 ≤ g j ∧ g j ≤ 255) (len j : Nat) (hj : j < len) : gS (strOfNums (upto g len)) j = g j := by
  have h := hg j
  have hj' : j < (upto g len).length := by rw [upto_length]; exact hj
  have e : (upto g len)[j]? = some (g j) := by simp [upto, hj]
  simp only [gS, strOfNums, List.getElem?_toArray, List.getElem?_map, e, Option.map_some, Option.getD_some]
  rw [UInt8.toNat_ofNat']
  omega
theorem conv_run {a : Option Addr} {len cap : Nat} {g : Nat → Int} {w : World} (hR : Src w (.slice a len cap) len g) : (convert 22 9 (.slice a len cap)).run Tryd.prog w = .ok (.string (strOfNums (upto g len))) w := by
  rcases hR with ⟨h, rfl⟩ | ⟨ad, cap', h, hc⟩
  · cases h
    exact run_convert_bytes_nil w 22 5 Tryd.underlying22 Tryd.underlying5 0 0 9 Tryd.underlying9
  · cases h
    have hl : (loadCells ad len).run Tryd.prog w = .ok ((upto g len).map (Value.int .u8)).toArray w := by
      have := run_loadCells_list (P := Tryd.prog) w ad ((upto g len).map (Value.int .u8)) (fun j v hj => by
        have hjl : j < len := by
          have := (List.getElem?_eq_some_iff.1 hj).1
          simpa [upto] using this
        rw [hc j hjl, ← hj]
        simp [upto, hjl])
      simpa [upto] using this
    rw [run_convert_bytes_string w 22 9 5 _ len cap Tryd.underlying22 Tryd.underlying5 Tryd.underlying9, run_bytesToString w _ len cap (upto g len) hl, foldl_push_bytes]
    simp [strOfNums, ByteArray.empty, ByteArray.emptyWithCapacity]
    rfl

theorem size5 (w : World) : (sizeOf 5).run Tryd.prog w = .ok 1 w := by kernel_rfl
theorem under22 : Tryd.prog.underlying 22 = some (.slice (Tryd.prog.elem 22)) := by kernel_rfl
theorem elem22 : Tryd.prog.elem 22 = 5 := by kernel_rfl

theorem cut_conv {W : World} {c : Nat} {a : Option Addr} {len cap : Nat} {g : Nat → Int} {xf xt : Nat} (hS : Sl W c (.slice a len cap) len g) (h1 : xf ≤ xt) (h2 : xt ≤ len) :
    ∃ sv', (∀ W', (Instr.slice 22 (.slice a len cap) (some (.int .i64 (xf : Int))) (some (.int .i64 (xt : Int))) none).run Tryd.prog W' = .ok sv' W') ∧
      ∀ W', Sl W' c (.slice a len cap) len g → (convert 22 9 sv').run Tryd.prog W' = .ok (.string (strOfNums (sub g xf xt))) W' := by
  have hcap : xt ≤ cap := by
    rcases hS with ⟨a', cap', h, h0⟩ | ⟨off, cap', h, _, h3, _⟩
    · cases h; omega
    · cases h; omega
  refine ⟨sliced a xf xt cap 1, fun W' => ?_, fun W' hS' => ?_⟩
  · rw [run_slice_lh W' 22 a len cap under22 .i64 .i64 xf xt (by omega) (by omega) (by omega), elem22, size5]
    rfl
  · unfold sliced
    rcases hS' with ⟨a', cap', h, h0⟩ | ⟨off, cap', h, h3, h4, h5, hc⟩
    · cases h
      obtain rfl : xt = 0 := by omega
      obtain rfl : xf = 0 := by omega
      cases a with
      | none =>
        have e : (if cap = 0 then none else Option.map (fun x => Addr.add x (0 * 1)) none : Option Addr) = none := by split <;> rfl
        rw [e]
        exact run_convert_bytes_nil W' 22 5 Tryd.underlying22 Tryd.underlying5 _ _ 9 Tryd.underlying9
      | some ad =>
        obtain ⟨ad', e⟩ : ∃ ad', (if cap = 0 then some ad else Option.map (fun x => Addr.add x (0 * 1)) (some ad) : Option Addr) = some ad' := by split <;> exact ⟨_, rfl⟩
        rw [e]
        exact conv_run (g := fun j => g (0 + j)) (.inr ⟨ad', _, rfl, fun j hj => by omega⟩)
    · cases h
      by_cases hcx : cap = xf
      · rw [if_pos hcx]
        exact conv_run (g := fun j => g (xf + j)) (.inr ⟨_, _, rfl, fun j hj => by omega⟩)
      · rw [if_neg hcx]
        refine conv_run (g := fun j => g (xf + j)) (.inr ⟨_, _, rfl, fun j hj => ?_⟩)
        have := hc (xf + j) (by omega)
        simp only [Nat.mul_one, Addr.add_lit, Nat.add_assoc]
        exact this
/-- All blocks of W but those of S stand in A; nothing else has turned. -/
structure Fr (S0 : Nat → Prop) (W A : World) : Prop where
  os : A.os = W.os
  tape : A.tape = W.tape
  output : A.output = W.output
  size : W.heap.size ≤ A.heap.size
  block : ∀ k, k < W.heap.size → ¬ S0 k → A.heap[k]? = W.heap[k]?
theorem Fr.refl (S0 : Nat → Prop) (W : World) : Fr S0 W W := ⟨rfl, rfl, rfl, Nat.le_refl _, fun _ _ _ => rfl⟩
theorem Fr.trans {S0 : Nat → Prop} {A B C : World} (h : Fr S0 A B) (k : Fr S0 B C) : Fr S0 A C :=
  ⟨k.os.trans h.os, k.tape.trans h.tape, k.output.trans h.output, Nat.le_trans h.size k.size, fun i hi hs => (k.block i (Nat.lt_of_lt_of_le hi h.size) hs).trans (h.block i hi hs)⟩
theorem Fr.below {S0 : Nat → Prop} {A B C : World} (h : Fr S0 A B) (k : Below A.heap.size B C) : Fr S0 A C :=
  ⟨k.os.trans h.os, k.tape.trans h.tape, k.output.trans h.output, Nat.le_trans h.size k.size, fun i hi hs => (k.block i hi).trans (h.block i hi hs)⟩
theorem Fr.setCell {S0 : Nat → Prop} {A B : World} (h : Fr S0 A B) (b : Nat) (v : Value) (hb : S0 b) : Fr S0 A (B.setCell ⟨b, 0, none⟩ v) :=
  ⟨h.os, h.tape, h.output, by simpa [World.setCell] using h.size, fun i hi hs => (Below.heap_setCell B ⟨b, 0, none⟩ v i (fun e => hs (by have e' : i = b := e; subst e'; exact hb))).trans (h.block i hi hs)⟩
theorem Fr.alloc {S0 : Nat → Prop} {A B : World} (h : Fr S0 A B) (o : Obj) : Fr S0 A (B.alloc o) := h.below ((Below.refl _ B).alloc h.size o)
theorem Fr.mono {S0 S1 : Nat → Prop} {A B : World} (h : Fr S0 A B) (hs : ∀ k, k < A.heap.size → S0 k → S1 k) : Fr S1 A B := ⟨h.os, h.tape, h.output, h.size, fun i hi hn => h.block i hi (fun e => hn (hs i hi e))⟩
theorem Fr.toBelow {S0 : Nat → Prop} {A B : World} (h : Fr S0 A B) {n : Nat} (hn : n ≤ A.heap.size) (hs : ∀ k, k < n → ¬ S0 k) : Below n A B := ⟨h.os, h.tape, h.output, h.size, fun k hk => h.block k (by omega) (hs k hk)⟩
/-- Where the turned blocks are cells, whatever is no cells stands. -/
theorem Fr.others {S0 : Nat → Prop} {A B : World} (h : Fr S0 A B) (hs : ∀ k o, S0 k → A.heap[k]? = some o → o.isCells = true) : KeepsOthers A B :=
  ⟨h.size, fun k o ho hc => (h.block k (Array.getElem?_eq_some_iff.1 ho).1 (fun e => by have := hs k o e ho; rw [hc] at this; cases this)).trans ho⟩
theorem boxed_cells {W : World} {B : Nat} {t : TypeId} {v : Value} (h : Boxed W B t v) {o : Obj} (ho : W.heap[B]? = some o) : o.isCells = true := by
  rw [show W.heap[B]? = _ from h] at ho; cases ho; rfl
theorem boxed_fr {S0 : Nat → Prop} {W A : World} {B : Nat} {t : TypeId} {v : Value} (h : Boxed W B t v) (hf : Fr S0 W A) (hn : ¬ S0 B) : Boxed A B t v := (hf.block B h.lt hn).trans h
theorem boxed_below {W A : World} {n B : Nat} {t : TypeId} {v : Value} (h : Boxed W B t v) (hf : Below n W A) (hn : B < n) : Boxed A B t v := (hf.block B hn).trans h
end Go.Proofs.YtpdkeggiokebmaaDoor
