/- Towards the law: ZP2 N5 AR QT QU N7 N8 OP LPI. -/
import Derived.BigQuiet
import Derived.Deep.AppendLies
import Derived.Deep.QuietTactic
import Derived.Deep.RegionWith
import Derived.Laws.Runes
import Derived.Lib.RuneBytes
import Derived.LoopN
import Derived.Shelf.Utf8.AppendRune
import Derived.WalkMore
import Derived.WalkSmall
import Derived.Test.YtofgphapjjofnaaGreatDoorMA
import Derived.Test.YtofgphapjjofnaaGreatDoorMB
import Derived.Test.YtofgphapjjofnaaGreatDoorMD
set_option linter.unusedSimpArgs false
set_option linter.unusedVariables false
set_option maxRecDepth 100000
set_option maxHeartbeats 8000000
namespace Go.Proofs.YtofgphapjjofnaaGreatDoor
section
open Go.Lib
def quoF (g : Nat → Int) (len : Nat) (mark : Int) : Nat → Nat → Option (List Int × Nat)
 | 0, _ => none
 | f + 1, i =>
   if ¬ i < len then none
   else if g i = 10 ∨ g i = 13 then none
   else if g i = mark then some ([], i + 1)
   else if g i = 92 then match escE g len i with
    | none => none
    | some (r, w) => match quoF g len mark f (i + w) with
      | none => none
      | some (t, e) => some (encodeRuneZ r ++ t, e)
   else match quoF g len mark f (i + stepN g len i) with
    | none => none
    | some (t, e) => some (encodeRuneZ (dRune g len i) ++ t, e)
def quoI (g : Nat → Int) (len : Nat) (mark : Int) (i : Nat) : Option (List Int × Nat) := quoF g len mark (len + 1 - i) i
theorem quoF_fuel {g : Nat → Int} {len : Nat} {mark : Int} : ∀ (f f' i : Nat), len - i < f → len - i < f' → quoF g len mark f i = quoF g len mark f' i
 | 0, _, i, h, _ => by omega
 | _ + 1, 0, i, _, h => by omega
 | f + 1, f' + 1, i, h, h' => by
   simp only [quoF];by_cases hl : i < len
   · have hl' : ¬ ¬ i < len := fun h => h hl
     rw [if_neg hl', if_neg hl'];by_cases h1 : g i = 10 ∨ g i = 13
     · rw [if_pos h1, if_pos h1]
     rw [if_neg h1, if_neg h1];by_cases h2 : g i = mark
     · rw [if_pos h2, if_pos h2]
     rw [if_neg h2, if_neg h2];by_cases h3 : g i = 92
     · rw [if_pos h3, if_pos h3]
       cases he : escE g len i with
       | none => rfl
       | some rw' =>
         obtain ⟨r, w⟩ := rw';have := (escE_w he).1;simp only;rw [quoF_fuel f f' (i + w) (by omega) (by omega)]
     · rw [if_neg h3, if_neg h3]
       have := step_pos (g := g) hl;rw [quoF_fuel f f' (i + stepN g len i) (by omega) (by omega)]
   · rw [if_pos hl, if_pos hl]
theorem quoI_end {g : Nat → Int} {len : Nat} {mark : Int} {i : Nat} (h : ¬ i < len) : quoI g len mark i = none := by
 unfold quoI;cases e : len + 1 - i with
 | zero => rfl
 | succ f => rw [quoF, if_pos h]
theorem quoI_line {g : Nat → Int} {len : Nat} {mark : Int} {i : Nat} (h : i < len) (h1 : g i = 10 ∨ g i = 13) : quoI g len mark i = none := by
 unfold quoI;rw [show len + 1 - i = (len - i) + 1 from by omega, quoF, if_neg (fun h' => h' h), if_pos h1]
theorem quoI_mark {g : Nat → Int} {len : Nat} {mark : Int} {i : Nat} (h : i < len) (h1 : ¬ (g i = 10 ∨ g i = 13)) (h2 : g i = mark) : quoI g len mark i = some ([], i + 1) := by
 unfold quoI;rw [show len + 1 - i = (len - i) + 1 from by omega, quoF, if_neg (fun h' => h' h), if_neg h1, if_pos h2]
theorem quoI_bad {g : Nat → Int} {len : Nat} {mark : Int} {i : Nat} (h : i < len) (h1 : ¬ (g i = 10 ∨ g i = 13)) (h2 : g i ≠ mark) (h3 : g i = 92) (he : escE g len i = none) : quoI g len mark i = none := by
 unfold quoI;rw [show len + 1 - i = (len - i) + 1 from by omega, quoF, if_neg (fun h' => h' h), if_neg h1, if_neg h2, if_pos h3, he]
def ahead1 (r : Int) (x : Option (List Int × Nat)) : Option (List Int × Nat) := match x with
 | none => none
 | some (t, e) => some (encodeRuneZ r ++ t, e)
theorem quoI_esc {g : Nat → Int} {len : Nat} {mark : Int} {i : Nat} {r : Int} {w : Nat} (h : i < len) (h1 : ¬ (g i = 10 ∨ g i = 13)) (h2 : g i ≠ mark) (h3 : g i = 92) (he : escE g len i = some (r, w)) : quoI g len mark i = ahead1 r (quoI g len mark (i + w)) := by
 have := (escE_w he).1;unfold quoI;rw [show len + 1 - i = (len - i) + 1 from by omega, quoF, if_neg (fun h' => h' h), if_neg h1, if_neg h2, if_pos h3, he];simp only;rw [quoF_fuel (len - i) (len + 1 - (i + w)) (i + w) (by omega) (by have := (escE_w he).2; omega)];rfl
theorem quoI_rune {g : Nat → Int} {len : Nat} {mark : Int} {i : Nat} (h : i < len) (h1 : ¬ (g i = 10 ∨ g i = 13)) (h2 : g i ≠ mark) (h3 : g i ≠ 92) : quoI g len mark i = ahead1 (dRune g len i) (quoI g len mark (i + stepN g len i)) := by
 have h4 := step_pos (g := g) h;have h5 := step_le (g := g) (len := len) (i := i) (by omega);unfold quoI;rw [show len + 1 - i = (len - i) + 1 from by omega, quoF, if_neg (fun h' => h' h), if_neg h1, if_neg h2, if_neg h3];rw [quoF_fuel (len - i) (len + 1 - (i + stepN g len i)) (i + stepN g len i) (by omega) (by omega)];rfl
def pieF (g : Nat → Int) (len : Nat) : Nat → Nat → Option (List Int × Bool × Nat)
 | 0, _ => none
 | f + 1, i =>
   if ¬ i < len then none
   else if g i = 96 then some ([], false, i + 1)
   else if g i = 36 ∧ i + 1 < len ∧ g (i + 1) = 123 then some ([], true, i + 2)
   else if g i = 92 then match escE g len i with
    | none => none
    | some (r, w) => match pieF g len f (i + w) with
      | none => none
      | some (t, e) => some (encodeRuneZ r ++ t, e)
   else match pieF g len f (i + stepN g len i) with
    | none => none
    | some (t, e) => some (encodeRuneZ (dRune g len i) ++ t, e)
def pieI (g : Nat → Int) (len : Nat) (i : Nat) : Option (List Int × Bool × Nat) := pieF g len (len + 1 - i) i
theorem pieF_fuel {g : Nat → Int} {len : Nat} : ∀ (f f' i : Nat), len - i < f → len - i < f' → pieF g len f i = pieF g len f' i
 | 0, _, i, h, _ => by omega
 | _ + 1, 0, i, _, h => by omega
 | f + 1, f' + 1, i, h, h' => by
   simp only [pieF];by_cases hl : i < len
   · have hl' : ¬ ¬ i < len := fun h => h hl
     rw [if_neg hl', if_neg hl'];by_cases h1 : g i = 96
     · rw [if_pos h1, if_pos h1]
     rw [if_neg h1, if_neg h1];by_cases h2 : g i = 36 ∧ i + 1 < len ∧ g (i + 1) = 123
     · rw [if_pos h2, if_pos h2]
     rw [if_neg h2, if_neg h2];by_cases h3 : g i = 92
     · rw [if_pos h3, if_pos h3]
       cases he : escE g len i with
       | none => rfl
       | some rw' =>
         obtain ⟨r, w⟩ := rw';have := (escE_w he).1;simp only;rw [pieF_fuel f f' (i + w) (by omega) (by omega)]
     · rw [if_neg h3, if_neg h3]
       have := step_pos (g := g) hl;rw [pieF_fuel f f' (i + stepN g len i) (by omega) (by omega)]
   · rw [if_pos hl, if_pos hl]
theorem pieI_end {g : Nat → Int} {len : Nat} {i : Nat} (h : ¬ i < len) : pieI g len i = none := by
 unfold pieI;cases e : len + 1 - i with
 | zero => rfl
 | succ f => rw [pieF, if_pos h]
theorem pieI_mark {g : Nat → Int} {len : Nat} {i : Nat} (h : i < len) (h1 : g i = 96) : pieI g len i = some ([], false, i + 1) := by
 unfold pieI;rw [show len + 1 - i = (len - i) + 1 from by omega, pieF, if_neg (fun h' => h' h), if_pos h1]
theorem pieI_hole {g : Nat → Int} {len : Nat} {i : Nat} (h : i + 1 < len) (h1 : g i = 36) (h2 : g (i + 1) = 123) : pieI g len i = some ([], true, i + 2) := by
 unfold pieI;rw [show len + 1 - i = (len - i) + 1 from by omega, pieF, if_neg (fun h' => h' (by omega)), if_neg (by omega), if_pos ⟨h1, h, h2⟩]
def aheadP (r : Int) (x : Option (List Int × Bool × Nat)) : Option (List Int × Bool × Nat) := match x with
 | none => none
 | some (t, e) => some (encodeRuneZ r ++ t, e)
theorem pieI_bad {g : Nat → Int} {len : Nat} {i : Nat} (h : i < len) (h3 : g i = 92) (he : escE g len i = none) : pieI g len i = none := by
 unfold pieI;rw [show len + 1 - i = (len - i) + 1 from by omega, pieF, if_neg (fun h' => h' h), if_neg (by omega), if_neg (by omega), if_pos h3, he]
theorem pieI_esc {g : Nat → Int} {len : Nat} {i : Nat} {r : Int} {w : Nat} (h : i < len) (h3 : g i = 92) (he : escE g len i = some (r, w)) : pieI g len i = aheadP r (pieI g len (i + w)) := by
 have := (escE_w he).1;unfold pieI;rw [show len + 1 - i = (len - i) + 1 from by omega, pieF, if_neg (fun h' => h' h), if_neg (by omega), if_neg (by omega), if_pos h3, he];simp only;rw [pieF_fuel (len - i) (len + 1 - (i + w)) (i + w) (by omega) (by have := (escE_w he).2; omega)];rfl
theorem pieI_rune {g : Nat → Int} {len : Nat} {i : Nat} (h : i < len) (h1 : g i ≠ 96) (h2 : ¬ (g i = 36 ∧ i + 1 < len ∧ g (i + 1) = 123)) (h3 : g i ≠ 92) : pieI g len i = aheadP (dRune g len i) (pieI g len (i + stepN g len i)) := by
 have h4 := step_pos (g := g) h;have h5 := step_le (g := g) (len := len) (i := i) (by omega);unfold pieI;rw [show len + 1 - i = (len - i) + 1 from by omega, pieF, if_neg (fun h' => h' h), if_neg h1, if_neg h2, if_neg h3];rw [pieF_fuel (len - i) (len + 1 - (i + stepN g len i)) (i + stepN g len i) (by omega) (by omega)];rfl
end
section
open Go.RowKit Go.Shelf
theorem ar_two (B : Nat) (v : Value) (n : Nat) (xs : List Value) (r : Int) (h0 : 128 ≤ r) (h1 : r ≤ 2047) (w : World) (hown : w.ownsRow B 5 1 v n xs) (hlen : n + 4 ≤ 140737488355328) (hBw : B ≤ w.heap.size) :
 Calls Tryz.prog 242 #[v, .int .i32 r] w fun e w' => ∃ v', e = .returned v' ∧ w'.ownsRow B 5 1 v' (n + 2) (xs ++ [.int .u8 (192 + r / 64), .int .u8 (128 + r % 64)]) ∧ ∃ o, (w.alloc o).grownBy w' v.ownBlock := by
 obtain ⟨i0, hi, hz0, hz1, hz2⟩ := info_parts infoByte;go_enter Tryz.func242, Tryz.ntmps242;go_wp2_with (at_builtin; refine wpList_append_own _ rfl _ _ 22 rfl B 5 i0 (.int .u8 0) 1 1 Tryz.underlying22 hi hz0 hz1 hz2 rfl (by decide) _ _ _ rfl (hown.alloc _) ⟨w.heap.size, 0, none⟩ 2 2 [.int .u8 (192 + r / 64), .int .u8 (128 + r % 64)] rfl rfl ?c1 ?c2 ?c3 ?c4 ?c5 ?_)
 case c1 =>
  intro j u hj;match j, hj with
  | 0, hj => simp at hj; subst hj; simp [Addr.add]
  | 1, hj => simp at hj; subst hj; simp [Addr.add]
  | (j + 2), hj => simp at hj
 case c2 => intro u hu; simp at hu; rcases hu with rfl | rfl <;> rfl
 case c3 => unfold maxLen; omega
 case c4 => omega
 case c5 => simp; omega
 intro v' w2 hown' hgrow _;go_wp2;go_ret;exact ⟨_, rfl, hown', _, hgrow⟩
theorem ar_three_lo (B : Nat) (v : Value) (n : Nat) (xs : List Value) (r : Int) (h0 : 2048 ≤ r) (h1 : r < 55296) (w : World) (hown : w.ownsRow B 5 1 v n xs) (hlen : n + 4 ≤ 140737488355328) (hBw : B ≤ w.heap.size) :
 Calls Tryz.prog 242 #[v, .int .i32 r] w fun e w' => ∃ v', e = .returned v' ∧ w'.ownsRow B 5 1 v' (n + 3) (xs ++ [.int .u8 (224 + r / 4096), .int .u8 (128 + r / 64 % 64), .int .u8 (128 + r % 64)]) ∧ ∃ o, (w.alloc o).grownBy w' v.ownBlock := by
 obtain ⟨i0, hi, hz0, hz1, hz2⟩ := info_parts infoByte;go_enter Tryz.func242, Tryz.ntmps242;go_wp2_with (at_builtin; refine wpList_append_own _ rfl _ _ 22 rfl B 5 i0 (.int .u8 0) 1 1 Tryz.underlying22 hi hz0 hz1 hz2 rfl (by decide) _ _ _ rfl (hown.alloc _) ⟨w.heap.size, 0, none⟩ 3 3 [.int .u8 (224 + r / 4096), .int .u8 (128 + r / 64 % 64), .int .u8 (128 + r % 64)] rfl rfl ?c1 ?c2 ?c3 ?c4 ?c5 ?_)
 case c1 =>
  intro j u hj;match j, hj with
  | 0, hj => simp at hj; subst hj; simp [Addr.add]
  | 1, hj => simp at hj; subst hj; simp [Addr.add]
  | 2, hj => simp at hj; subst hj; simp [Addr.add]
  | (j + 3), hj => simp at hj
 case c2 => intro u hu; simp at hu; rcases hu with rfl | rfl | rfl <;> rfl
 case c3 => unfold maxLen; omega
 case c4 => omega
 case c5 => simp; omega
 intro v' w2 hown' hgrow _;go_wp2;go_ret;exact ⟨_, rfl, hown', _, hgrow⟩
theorem ar_three_hi (B : Nat) (v : Value) (n : Nat) (xs : List Value) (r : Int) (h0 : 57343 < r) (h1 : r ≤ 65535) (w : World) (hown : w.ownsRow B 5 1 v n xs) (hlen : n + 4 ≤ 140737488355328) (hBw : B ≤ w.heap.size) :
 Calls Tryz.prog 242 #[v, .int .i32 r] w fun e w' => ∃ v', e = .returned v' ∧ w'.ownsRow B 5 1 v' (n + 3) (xs ++ [.int .u8 (224 + r / 4096), .int .u8 (128 + r / 64 % 64), .int .u8 (128 + r % 64)]) ∧ ∃ o, (w.alloc o).grownBy w' v.ownBlock := by
 obtain ⟨i0, hi, hz0, hz1, hz2⟩ := info_parts infoByte;go_enter Tryz.func242, Tryz.ntmps242;go_wp2_with (at_builtin; refine wpList_append_own _ rfl _ _ 22 rfl B 5 i0 (.int .u8 0) 1 1 Tryz.underlying22 hi hz0 hz1 hz2 rfl (by decide) _ _ _ rfl (hown.alloc _) ⟨w.heap.size, 0, none⟩ 3 3 [.int .u8 (224 + r / 4096), .int .u8 (128 + r / 64 % 64), .int .u8 (128 + r % 64)] rfl rfl ?c1 ?c2 ?c3 ?c4 ?c5 ?_)
 case c1 =>
  intro j u hj;match j, hj with
  | 0, hj => simp at hj; subst hj; simp [Addr.add]
  | 1, hj => simp at hj; subst hj; simp [Addr.add]
  | 2, hj => simp at hj; subst hj; simp [Addr.add]
  | (j + 3), hj => simp at hj
 case c2 => intro u hu; simp at hu; rcases hu with rfl | rfl | rfl <;> rfl
 case c3 => unfold maxLen; omega
 case c4 => omega
 case c5 => simp; omega
 intro v' w2 hown' hgrow _;go_wp2;go_ret;exact ⟨_, rfl, hown', _, hgrow⟩
theorem ar_four (B : Nat) (v : Value) (n : Nat) (xs : List Value) (r : Int) (h0 : 65536 ≤ r) (h1 : r ≤ 1114111) (w : World) (hown : w.ownsRow B 5 1 v n xs) (hlen : n + 4 ≤ 140737488355328) (hBw : B ≤ w.heap.size) :
 Calls Tryz.prog 242 #[v, .int .i32 r] w fun e w' => ∃ v', e = .returned v' ∧ w'.ownsRow B 5 1 v' (n + 4) (xs ++ [.int .u8 (240 + r / 262144), .int .u8 (128 + r / 4096 % 64), .int .u8 (128 + r / 64 % 64), .int .u8 (128 + r % 64)]) ∧ ∃ o, (w.alloc o).grownBy w' v.ownBlock := by
 obtain ⟨i0, hi, hz0, hz1, hz2⟩ := info_parts infoByte;go_enter Tryz.func242, Tryz.ntmps242;go_wp2_with (at_builtin; refine wpList_append_own _ rfl _ _ 22 rfl B 5 i0 (.int .u8 0) 1 1 Tryz.underlying22 hi hz0 hz1 hz2 rfl (by decide) _ _ _ rfl (hown.alloc _) ⟨w.heap.size, 0, none⟩ 4 4 [.int .u8 (240 + r / 262144), .int .u8 (128 + r / 4096 % 64), .int .u8 (128 + r / 64 % 64), .int .u8 (128 + r % 64)] rfl rfl ?c1 ?c2 ?c3 ?c4 ?c5 ?_)
 case c1 =>
  intro j u hj;match j, hj with
  | 0, hj => simp at hj; subst hj; simp [Addr.add]
  | 1, hj => simp at hj; subst hj; simp [Addr.add]
  | 2, hj => simp at hj; subst hj; simp [Addr.add]
  | 3, hj => simp at hj; subst hj; simp [Addr.add]
  | (j + 4), hj => simp at hj
 case c2 => intro u hu; simp at hu; rcases hu with rfl | rfl | rfl | rfl <;> rfl
 case c3 => unfold maxLen; omega
 case c4 => omega
 case c5 => simp; omega
 intro v' w2 hown' hgrow _;go_wp2;go_ret;exact ⟨_, rfl, hown', _, hgrow⟩
theorem cells_eq (r : Int) : Lib.runeCells r = (Lib.encodeRuneZ r).map fun x => Value.int .u8 x := rfl
def okR (r : Int) : Prop := 0 ≤ r ∧ alw r = true
theorem okR_cases {r : Int} (h : okR r) : (0 ≤ r ∧ r < 128) ∨ (128 ≤ r ∧ r ≤ 2047) ∨ (2048 ≤ r ∧ r < 55296) ∨ (57343 < r ∧ r ≤ 65535) ∨ (65536 ≤ r ∧ r ≤ 1114111) := by
 obtain ⟨h0, h1⟩ := h;simp only [alw, decide_eq_true_eq] at h1;omega
theorem rune_len (r : Int) : (Lib.runeCells r).length ≤ 4 := by
 rw [cells_eq, List.length_map];unfold Lib.encodeRuneZ
 (repeat' split) <;> simp
theorem ar_any (B : Nat) (v : Value) (n : Nat) (xs : List Value) (r : Int) (hr : okR r) (h128 : 128 ≤ r) (w : World) (hown : w.ownsRow B 5 1 v n xs) (hlen : n + 4 ≤ 140737488355328) (hBw : B ≤ w.heap.size) :
 Calls Tryz.prog 242 #[v, .int .i32 r] w fun e w' => ∃ v', e = .returned v' ∧ w'.ownsRow B 5 1 v' (n + (Lib.runeCells r).length) (xs ++ Lib.runeCells r) ∧ (∀ k, k < w.heap.size → v.ownBlock ≠ some k → w'.heap[k]? = w.heap[k]?) ∧ Below B w w' := by
 have hfin : ∀ (w' : World) (o : Obj), (w.alloc o).grownBy w' v.ownBlock → (∀ k, k < w.heap.size → v.ownBlock ≠ some k → w'.heap[k]? = w.heap[k]?) ∧ Below B w w' := fun w' o hgrow =>
  ⟨fun k hk hkv => by rw [hgrow.block k (by simp; omega) (fun e => hkv e.symm), Lib.alloc_old w _ k hk], ((Below.refl B w).alloc hBw _).grown hgrow (by simp; omega) (fun k hk => (hown.lt k hk).1)⟩
 rcases okR_cases hr with h | h | h | h | h
 · omega
 · have e : Lib.runeCells r = [.int .u8 (192 + r / 64), .int .u8 (128 + r % 64)] := by rw [cells_eq, Lib.encodeRuneZ, if_neg (by omega), if_pos h]; rfl
   rw [e];exact (ar_two B v n xs r h.1 h.2 w hown hlen hBw).mono fun x w' ⟨v', hx, ho, o, hg⟩ => ⟨v', hx, ho, hfin w' o hg⟩
 · have e : Lib.runeCells r = [.int .u8 (224 + r / 4096), .int .u8 (128 + r / 64 % 64), .int .u8 (128 + r % 64)] := by rw [cells_eq, Lib.encodeRuneZ, if_neg (by omega), if_neg (by omega), if_pos (.inl h)]; rfl
   rw [e];exact (ar_three_lo B v n xs r h.1 h.2 w hown hlen hBw).mono fun x w' ⟨v', hx, ho, o, hg⟩ => ⟨v', hx, ho, hfin w' o hg⟩
 · have e : Lib.runeCells r = [.int .u8 (224 + r / 4096), .int .u8 (128 + r / 64 % 64), .int .u8 (128 + r % 64)] := by rw [cells_eq, Lib.encodeRuneZ, if_neg (by omega), if_neg (by omega), if_pos (.inr h)]; rfl
   rw [e];exact (ar_three_hi B v n xs r h.1 h.2 w hown hlen hBw).mono fun x w' ⟨v', hx, ho, o, hg⟩ => ⟨v', hx, ho, hfin w' o hg⟩
 · have e : Lib.runeCells r = [.int .u8 (240 + r / 262144), .int .u8 (128 + r / 4096 % 64), .int .u8 (128 + r / 64 % 64), .int .u8 (128 + r % 64)] := by rw [cells_eq, Lib.encodeRuneZ, if_neg (by omega), if_neg (by omega), if_neg (by omega), if_pos h]; rfl
   rw [e];exact (ar_four B v n xs r h.1 h.2 w hown hlen hBw).mono fun x w' ⟨v', hx, ho, o, hg⟩ => ⟨v', hx, ho, hfin w' o hg⟩
theorem apr_any (B : Nat) (v : Value) (n : Nat) (xs : List Value) (r : Int) (hr : okR r) (w : World) (hown : w.ownsRow B 5 1 v n xs) (hn : n + 4 ≤ 140737488355328) (hB : B ≤ w.heap.size) :
 Calls Tryz.prog 221 #[v, .int .i32 r] w fun e w' => ∃ v', e = .returned v' ∧ w'.ownsRow B 5 1 v' (n + (Lib.runeCells r).length) (xs ++ Lib.runeCells r) ∧ (∀ k, k < w.heap.size → v.ownBlock ≠ some k → w'.heap[k]? = w.heap[k]?) ∧ Below B w w' := by
 by_cases h128 : r < 128
 · have e : Lib.runeCells r = [.int .u8 r] := by rw [cells_eq, Lib.encodeRuneZ, if_pos ⟨hr.1, by omega⟩]; rfl
   rw [e];exact apr_ascii B v n xs r w hown hr.1 h128 (by omega) hB
 · have HA := Hi (ar_any B v n xs r hr (by omega) w hown hn hB)
   obtain ⟨hr0, hr1⟩ : 0 ≤ r ∧ r ≤ 1114111 := by have := okR_cases hr; omega
   have k1 : IntKind.u32.wrap r = r := by
    have : r % 4294967296 = r := by omega
    unfold IntKind.wrap;simp [IntKind.bits, IntKind.signed, this]
   have h127 : ¬ r ≤ 127 := by omega
   have h127b : decide (r ≤ 127) = false := by simpa using h127
   clear hown hr;go_enter Tryz.func221, Tryz.ntmps221;go_wp2_with (go_at_call 242; refine (U HA).mono ?_; rintro x w2 ⟨v', rfl, ho⟩; have HO := Hi ho; clear ho);go_ret;exact ⟨v', rfl, U HO⟩
theorem wr_any (B b : Nat) (p v : Value) (bs : List Value) (r : Int) (hr : okR r) (w : World) (hp : p = .pointer none ∨ p = .pointer (some ⟨b, 0, none⟩)) (h : BAt B b p v bs w) (hlen : bs.length + 4 ≤ 140737488355328) (hBw : B ≤ w.heap.size) :
 Calls Tryz.prog 197 #[.pointer (some ⟨b, 0, none⟩), .int .i32 r] w fun e w' => (∃ u, e = .returned u) ∧ ∃ v', BAt B b (.pointer (some ⟨b, 0, none⟩)) v' (bs ++ Lib.runeCells r) w' ∧ Below B w w' := by
 have HP := Hi hp;have hrl := rune_len r
 have hrp : 0 < (Lib.runeCells r).length := by
  rw [cells_eq, List.length_map];unfold Lib.encodeRuneZ
  (repeat' split) <;> simp
 have HAP : Hid (∀ (v : Value) (w : World), w.ownsRow B 5 1 v bs.length bs → B ≤ w.heap.size → Calls Tryz.prog 221 #[v, .int .i32 r] w fun e w' => ∃ v', e = .returned v' ∧ w'.ownsRow B 5 1 v' (bs.length + (Lib.runeCells r).length) (bs ++ Lib.runeCells r) ∧ (∀ k, k < w.heap.size → v.ownBlock ≠ some k → w'.heap[k]? = w.heap[k]?) ∧ Below B w w') := fun v w ho hb => apr_any B v bs.length bs r hr w ho hlen hb
 obtain ⟨rc, hrc⟩ : ∃ rc, Lib.runeCells r = rc := ⟨_, rfl⟩;rw [hrc] at HAP hrl hrp ⊢;have HRL := Hi hrl;have HRP := Hi hrp;clear hrc hrl hrp hp hr;go_enter Tryz.func197, Tryz.ntmps197;go_wp2_with (go_at_call 220; refine (cc_any B b p v bs _ (U HP) h).mono ?_);rintro e w1 ⟨rfl, ⟨hB, hbk, hown, hne⟩, hg1, hs1⟩;have HS1 := Hi hs1;clear hs1;have c0 : w1.cell? ⟨b, 0, none⟩ = some (.pointer (some ⟨b, 0, none⟩)) := by rw [Lib.cell_of_heap hbk]; rfl
 have c1 : w1.cell? ⟨b, 1, none⟩ = some v := by rw [Lib.cell_of_heap hbk]; rfl
 obtain ⟨ao, cv, rfl⟩ : ∃ ao cv, v = .slice ao bs.length cv := by
  rcases hown.2 with ⟨h, h0⟩ | ⟨gw, cap, cur, h, _⟩
  · exact ⟨none, 0, by rw [h, h0]⟩
  · exact ⟨_, cap, h⟩
 have hbl : b < w1.heap.size := BAt.lt ⟨hB, hbk, hown, hne⟩;have HA := Hi (U HAP _ w1 hown (by have := U HS1; omega));go_wp2_with (go_at_call 221; refine (U HA).mono ?_; rintro x w2 ⟨v', rfl, hown2, hkeep, hB2⟩; have hb2 := (hkeep b hbl hne).trans hbk; have d0 : w2.cell? ⟨b, 0, none⟩ = some (.pointer (some ⟨b, 0, none⟩)) := (by rw [Lib.cell_of_heap hb2]; rfl); have d1 : w2.cell? ⟨b, 1, none⟩ = some (.slice ao bs.length cv) := (by rw [Lib.cell_of_heap hb2]; rfl); have f1 : w2.frozen? ⟨b, 1, none⟩ = false := Lib.frozen_of_heap hb2 1; obtain ⟨ao', cv', rfl⟩ : ∃ ao' cv', v' = .slice ao' (bs.length + rc.length) cv' := (by have := U HRP; rcases hown2.2 with ⟨h, h0⟩ | ⟨gw, cap, cur, h, _⟩ <;> first | omega | exact ⟨_, cap, h⟩); have HO2 := Hi hown2; have HK := Hi hkeep; clear hown2 hkeep);go_ret2
 refine ⟨⟨_, rfl⟩, _, BAt.put hB hb2 (bs' := bs ++ rc) (by simpa using U HO2), ?_⟩;exact (((Below.refl B w).grown hg1 hBw (fun k e => by cases e; exact hB)).trans hB2).setCell (p := ⟨b, 1, none⟩) hB _
theorem dr_low {g : Nat → Int} (hg : ∀ j, 0 ≤ g j ∧ g j ≤ 255) {len i : Nat} (hi : i < len) (h : g i < 128) : dRune g len i = g i ∧ stepN g len i = 1 := by
 have hw : wid (g i) = 1 := by simp [wid, h]
 have hd : dig (g i) = g i := by simp [dig, h]
 have hl : lst (g i) = 0 := by simp [lst, h]
 have h0 := (hg i).1
 have hgd : good g len i = true := by
  simp only [good, hw, hl, Bool.and_eq_true, decide_eq_true_eq];refine ⟨⟨⟨⟨by omega, by omega⟩, rfl⟩, ?_⟩, ?_⟩
  · show 0 ≤ dig (g i)
    omega
  · show alw (dig (g i)) = true
    rw [hd];simp [alw];omega
 obtain ⟨e1, e2, e3⟩ := dYes hi hgd;rw [hw] at e1 e2;refine ⟨by rw [e1]; exact hd, ?_⟩;rw [dSize_nat] at e2;exact_mod_cast e2
theorem good_parts {g : Nat → Int} {len i : Nat} (h : good g len i = true) : wid (g i) ≠ 0 ∧ i + wid (g i) ≤ len ∧ conts g i (wid (g i) - 1) = true ∧ lst (g i) ≤ acc g i (wid (g i) - 1) ∧ alw (acc g i (wid (g i) - 1)) = true := by
 simp only [good, Bool.and_eq_true, decide_eq_true_eq] at h;exact ⟨h.1.1.1.1, h.1.1.1.2, h.1.1.2, h.1.2, h.2⟩
theorem dr_ok {g : Nat → Int} (hg : ∀ j, 0 ≤ g j ∧ g j ≤ 255) {len i : Nat} (hi : i < len) : okR (dRune g len i) := by
 cases hgd : good g len i with
 | false =>
   rw [(dBad hi hgd).1];exact ⟨by decide, by decide⟩
 | true =>
   obtain ⟨_, _, hc, _, ha⟩ := good_parts hgd;rw [(dYes hi hgd).1];exact ⟨(acc_bd (hg i).1 hc).1, ha⟩
theorem dr_hi {g : Nat → Int} (hg : ∀ j, 0 ≤ g j ∧ g j ≤ 255) {len i : Nat} (hi : i < len) (h : 128 ≤ g i) : 128 ≤ dRune g len i := by
 cases hgd : good g len i with
 | false =>
   rw [(dBad hi hgd).1];decide
 | true =>
   obtain ⟨hw, _, _, hl, _⟩ := good_parts hgd;rw [(dYes hi hgd).1];refine Int.le_trans ?_ hl;revert hw
   unfold wid lst
   (repeat' split) <;> intros <;> omega
theorem dr_eq {g : Nat → Int} (hg : ∀ j, 0 ≤ g j ∧ g j ≤ 255) {len i : Nat} (hi : i < len) {x : Int} (hx : x < 128) : dRune g len i = x ↔ g i = x := by
 rcases Int.lt_or_le (g i) 128 with h | h
 · rw [(dr_low hg hi h).1]
 · have := dr_hi hg hi h
   constructor <;> intro e <;> omega
theorem enc_bd {r : Int} (h : okR r) : ∀ x ∈ Lib.encodeRuneZ r, 0 ≤ x ∧ x ≤ 255 := by
 intro x hx;rcases okR_cases h with h1 | h1 | h1 | h1 | h1
 · rw [Lib.encodeRuneZ, if_pos (by omega)] at hx
   simp at hx; omega
 · rw [Lib.encodeRuneZ, if_neg (by omega), if_pos h1] at hx
   simp at hx; omega
 · rw [Lib.encodeRuneZ, if_neg (by omega), if_neg (by omega), if_pos (.inl h1)] at hx
   simp at hx; omega
 · rw [Lib.encodeRuneZ, if_neg (by omega), if_neg (by omega), if_pos (.inr h1)] at hx
   simp at hx; omega
 · rw [Lib.encodeRuneZ, if_neg (by omega), if_neg (by omega), if_neg (by omega), if_pos h1] at hx
   simp at hx; omega
theorem esc_ok {g : Nat → Int} (hg : ∀ j, 0 ≤ g j ∧ g j ≤ 255) {len i : Nat} {r : Int} {w : Nat} (h : escE g len i = some (r, w)) : okR r := by
 unfold escE at h;by_cases h0 : ¬ i + 1 < len
 · rw [if_pos h0] at h; cases h
 rw [if_neg h0] at h
 have key : ∀ {x : Int}, (some (x, 2) : Option (Int × Nat)) = some (r, w) → 0 ≤ x ∧ x < 128 → okR r := fun e hx => by
  injection e with e
  injection e with e _
  subst e;exact ⟨hx.1, by simp [alw]; omega⟩
 by_cases e1 : g (i + 1) = 110
 · rw [if_pos e1] at h; exact key h (by decide)
 rw [if_neg e1] at h;by_cases e2 : g (i + 1) = 114
 · rw [if_pos e2] at h; exact key h (by decide)
 rw [if_neg e2] at h;by_cases e3 : g (i + 1) = 116
 · rw [if_pos e3] at h; exact key h (by decide)
 rw [if_neg e3] at h;by_cases e4 : g (i + 1) = 48
 · rw [if_pos e4] at h; exact key h (by decide)
 rw [if_neg e4] at h;by_cases e5 : g (i + 1) = 92 ∨ g (i + 1) = 34 ∨ g (i + 1) = 39 ∨ g (i + 1) = 36 ∨ g (i + 1) = 96
 · rw [if_pos e5] at h; exact key h (by omega)
 rw [if_neg e5] at h;unfold numE at h;split at h
 · rename_i hc
   injection h with h
   injection h with h _
   subst h;have hs := stopI_spec (p := hexB) (g := g) (len := len) (i := i + 3) (by omega);exact ⟨(hexV_bd fun j hj => hs.2.2.1 (i + 3 + j) (by omega) (by omega)).1, hc.2.2.2.2.2.2.2⟩
 · cases h
def pfx {α : Type} (pre : List Int) (x : Option (List Int × α)) : Option (List Int × α) := match x with
 | none => none
 | some (t, e) => some (pre ++ t, e)
theorem pfx_nil {α : Type} (x : Option (List Int × α)) : pfx [] x = x := by
 cases x with
 | none => rfl
 | some y => rfl
theorem pfx_one (pre : List Int) (r : Int) (x : Option (List Int × Nat)) : pfx pre (ahead1 r x) = pfx (pre ++ Lib.encodeRuneZ r) x := by
 cases x with
 | none => rfl
 | some y => simp [pfx, ahead1]
theorem pfx_oneP (pre : List Int) (r : Int) (x : Option (List Int × Bool × Nat)) : pfx pre (aheadP r x) = pfx (pre ++ Lib.encodeRuneZ r) x := by
 cases x with
 | none => rfl
 | some y => simp [pfx, aheadP]
def cellsZ (l : List Int) : List Value := l.map fun x => Value.int .u8 x
theorem cellsZ_len (l : List Int) : (cellsZ l).length = l.length := by simp [cellsZ]
theorem cellsZ_rune (pre : List Int) (r : Int) : cellsZ pre ++ Lib.runeCells r = cellsZ (pre ++ Lib.encodeRuneZ r) := by simp [cellsZ, cells_eq]
theorem cellsZ_bytes {l : List Int} (h : ∀ x ∈ l, 0 ≤ x ∧ x ≤ 255) : cellsZ l = Lib.byteCells (l.map fun n => UInt8.ofNat n.toNat) := by
 unfold cellsZ Lib.byteCells;rw [List.map_map];apply List.map_congr_left
 intro x hx;have := h x hx;show Value.int .u8 x = .int .u8 ((UInt8.ofNat x.toNat).toNat : Int)
 rw [UInt8.toNat_ofNat'];congr 1
 omega
theorem enc_len (r : Int) : (Lib.encodeRuneZ r).length ≤ 4 := by
 have := rune_len r;rw [cells_eq, List.length_map] at this;exact this
def tkR (at' : Nat) : Option (Int × List Int × Nat) → Value
 | none => .tuple #[tokV 0 ⟨#[]⟩ 0 0, .bool false]
 | some (k, t, e) => .tuple #[tokV k (strOfNums t) at' (e : Int), .bool true]
def tkA (at' : Nat) : Option (Int × List Int × Nat) → Int
 | none => at'
 | some (_, _, e) => e
def quoP (g : Nat → Int) (len : Nat) (mark : Int) (at' : Nat) : Option (Int × List Int × Nat) := (quoI g len mark (at' + 1)).map fun x => (4, x)
def TokPost (W : World) (M : Nat) (bv ov : Value) (at' : Nat) (q : Option (Int × List Int × Nat)) (x : Ending) (W' : World) : Prop :=
 x = .returned (tkR at' q) ∧ MAt W' M bv (tkA at' q) ov ∧ Fr (fun k => k = M) W W'
theorem ErrG.fr {S0 : Nat → Prop} {W W' : World} {i : Nat} (h : ErrG W i) (hf : Fr S0 W W') (hs : ¬ S0 i) : ErrG W' i := by
 obtain ⟨ev, hv, hev⟩ := h;exact ⟨ev, by rw [World.cell?_of_block (w := W) (hf.block i (Lib.lt_of_cell hv) hs)]; exact hv, hev⟩
theorem ErrG.below {n : Nat} {W W' : World} {i : Nat} (h : ErrG W i) (hf : Below n W W') (hs : i < n) : ErrG W' i := by
 obtain ⟨ev, hv, hev⟩ := h;exact ⟨ev, (hf.cell (show (⟨i, 0, none⟩ : Addr).block < n from hs)).trans hv, hev⟩
theorem ErrG.lt {W : World} {i : Nat} (h : ErrG W i) : i < W.heap.size := by
 obtain ⟨ev, hv, _⟩ := h;exact Lib.lt_of_cell hv
end
section
open Go.RowKit Go.Shelf
def Gath (B : Nat) (W1 : World) (pre : List Int) (i : Nat) (W' : World) : Prop :=
 (∃ p v, (p = .pointer none ∨ p = .pointer (some ⟨B, 0, none⟩)) ∧ BAt B B p v (cellsZ pre) W') ∧ (∀ x ∈ pre, 0 ≤ x ∧ x ≤ 255) ∧ pre.length ≤ 4 * i ∧ Below B W1 W'
theorem gath_put {B : Nat} {W1 W' : World} {pre : List Int} {i j : Nat} {r : Int} (h : Gath B W1 pre i W') (hr : okR r) (hij : i < j) (hi : i ≤ 1099511627776) (hB : B ≤ W1.heap.size) :
 Calls Tryz.prog 197 #[.pointer (some ⟨B, 0, none⟩), .int .i32 r] W' fun e w' => (∃ u, e = .returned u) ∧ Gath B W1 (pre ++ Lib.encodeRuneZ r) j w' := by
 obtain ⟨⟨p, v, hp, hb⟩, h1, h2, h3⟩ := h;have hz := h3.size;refine (wr_any B B p v (cellsZ pre) r hr W' hp hb (by rw [cellsZ_len]; omega) (by omega)).mono ?_;rintro e w' ⟨hu, v', hb', hB'⟩;rw [cellsZ_rune] at hb';refine ⟨hu, ⟨_, v', .inr rfl, hb'⟩, fun x hx => ?_, ?_, h3.trans hB'⟩
 · rcases List.mem_append.1 hx with h | h
   · exact h1 x h
   · exact enc_bd hr x h
 · rw [List.length_append]
   have := enc_len r;omega
theorem Gath.on {B : Nat} {W1 W' W'' : World} {pre : List Int} {i : Nat} (h : Gath B W1 pre i W') (hb : Below W'.heap.size W' W'') : Gath B W1 pre i W'' := by
 obtain ⟨⟨p, v, hp, hB⟩, h1, h2, h3⟩ := h;have hz := hB.lt;have hl := hB.1;exact ⟨⟨p, v, hp, hB.below hb⟩, h1, h2, h3.trans (hb.mono (by omega))⟩
theorem gath_string {B : Nat} {W1 W' : World} {pre : List Int} {i : Nat} (h : Gath B W1 pre i W') (hB : B ≤ W1.heap.size) :
 Calls Tryz.prog 198 #[.pointer (some ⟨B, 0, none⟩)] W' fun e w' => e = .returned (.string (strOfNums pre)) ∧ Below B W1 w' := by
 obtain ⟨⟨p, v, hp, hb⟩, h1, h2, h3⟩ := h;have hz := h3.size;rw [cellsZ_bytes h1] at hb
 have his : Lib.IsBuilder 139 5 B B (Lib.byteCells (pre.map fun n => UInt8.ofNat n.toNat)) W' := by
  rcases hp with rfl | rfl
  · exact .inl ⟨hb.1, v, hb.2⟩
  · exact .inr hb.is
 refine (Tryz.Builder_String_k B B _ W' his (by omega)).mono ?_;rintro e w' ⟨rfl, hB', _⟩;exact ⟨rfl, h3.trans hB'⟩
attribute [local go_sem] tokV
theorem quoted_any (M c : Nat) (a : Option Addr) (len cap : Nat) (g : Nat → Int) (hg : ∀ j, 0 ≤ g j ∧ g j ≤ 255) (at' : Nat) (ov : Value) (mark : Int) (hmk : mark = 34 ∨ mark = 39) (W : World) (h : MAt W M (.slice a len cap) at' ov) (hS : Sl W c (.slice a len cap) len g) (hc : c < W.heap.size) (hat : at' < len) (hlen : len ≤ 1099511627776) (hE : ErrG W 1) :
 Calls Tryz.prog 145 #[.pointer (some ⟨M, 0, none⟩), .int .i32 mark] W (TokPost W M (.slice a len cap) ov at' (quoP g len mark at')) := by
 obtain ⟨q, hq⟩ : ∃ q, quoI g len mark (at' + 1) = q := ⟨_, rfl⟩;have HQ := Hi hq;have hqp : quoP g len mark at' = q.map fun x => (4, x) := by unfold quoP; rw [hq]
 rw [hqp];clear hq hqp;obtain ⟨W1, hW1⟩ : ∃ W1, (W.alloc (.cells #[.int .i64 0, .string ⟨#[]⟩, .int .i64 0, .int .i64 0] 40)).alloc (.cells #[.pointer none, .slice none 0 0] 139) = W1 := ⟨_, rfl⟩;have hB1 : Below W.heap.size W W1 := by rw [← hW1]; exact ((Below.refl _ W).alloc NL _).alloc (by simp) _
 have hz1 : W1.heap.size = W.heap.size + 1 + 1 := by rw [← hW1]; simp
 have hr1 : W1.heap[W.heap.size]? = some (.cells #[.int .i64 0, .string ⟨#[]⟩, .int .i64 0, .int .i64 0] 40) := by rw [← hW1]; exact (Below.heap_alloc _ _ _ (by simp)).trans (World.alloc_heap_new W _)
 have hb1 : BAt (W.heap.size + 1) (W.heap.size + 1) (.pointer none) (.slice none 0 0) [] W1 := by
  refine ⟨NL, ?_, World.ownsRow_nil _ _ _ _, by simp [Value.ownBlock]⟩;have := World.alloc_heap_new (W.alloc (.cells #[.int .i64 0, .string ⟨#[]⟩, .int .i64 0, .int .i64 0] 40)) (.cells #[.pointer none, .slice none 0 0] 139);rw [World.size_alloc] at this;rw [← hW1]; exact this
 have hM1 := h.below hB1 h.lt;have hml := h.lt;have HSA : Hid (∀ W', Below W.heap.size W W' → Sl W' c (.slice a len cap) len g) := fun W' hb => hS.keep (fun k e => by subst e; exact hb.block k hc)
 have HEA : Hid (∀ W', Below W.heap.size W W' → ErrG W' 1) := fun W' hb => hE.below hb hE.lt
 have c0 := hM1.c0;have c1 := hM1.c1;have HG0 : Hid (Gath (W.heap.size + 1) W1 [] (at' + 1) W1) := ⟨⟨_, _, .inl rfl, hb1⟩, by simp, by simp, Below.refl _ _⟩;have HM1 := Hi hM1;have HB1 := Hi hB1;have HR1 := Hi hr1;have HZ1 := Hi hz1;clear hS hb1 hE hB1 hr1 hM1 hz1;go_enter Tryz.func145, Tryz.ntmps145;go_wp2;go_step3
 go_wp2;go_step3
 go_wp2;clear hW1 c0 c1;go_loopw [7] (fun t wr => ∃ (i : Nat) (pre : List Int), at' + 1 ≤ i ∧ i ≤ len ∧ t = .int .i64 (i : Int) ∧ Hid (Gath (W.heap.size + 1) W1 pre i wr) ∧ Hid (pfx pre (quoI g len mark i) = q)) (fun t _ => len - (intOf t).toNat)
 case atStart => exact ⟨at' + 1, [], NL, by omega, by go_num, U HG0, by show pfx [] _ = q; rw [pfx_nil]; exact U HQ⟩
 case round =>
  obtain ⟨i, pre, hi1, hi2, rfl, HG, HP⟩ := hrel;clear HQ HG0;have hBr : Below (W.heap.size + 1) W1 wr := (U HG).2.2.2;have hBw : Below W.heap.size W wr := (U HB1).trans (hBr.mono (by omega));have hMw := (U HM1).below hBr (by omega);have c0 := hMw.c0;have hz := hBr.size;have HZ := Hi hz;have HBR := Hi hBr;have HBW := Hi hBw;have HMW := Hi hMw;have HD0 := Hi (decode_sl hg (U HSA wr hBw) (i : Int));rw [dSize_nat] at HD0;clear hz hBr hBw hMw;by_cases hlt : i < len
  · have hok := dr_ok hg hlt
    have hsp := step_pos (g := g) hlt;have hsl := step_le (g := g) (len := len) (i := i) hi2;have hs4 := step_le4 g len i;have k10 := dr_eq hg hlt (x := 10) (by decide);have k13 := dr_eq hg hlt (x := 13) (by decide);have k92 := dr_eq hg hlt (x := 92) (by decide);have kmk := dr_eq hg hlt (x := mark) (by omega);have hrune := @quoI_rune g len mark i hlt;have hesc := @quoI_esc g len mark i;obtain ⟨r, hr⟩ : ∃ r, dRune g len i = r := ⟨_, rfl⟩;obtain ⟨s, hs⟩ : ∃ s, stepN g len i = s := ⟨_, rfl⟩;rw [hr] at HD0 hok k10 k13 k92 kmk hrune;rw [hs] at HD0 hsp hsl hs4 hrune;have HD := HD0;clear hr hs HD0;have bs0 : ((s : Int) == 0) = false := beq_eq_false_iff_ne.2 (by omega);have hq0 := U HP;have hBt := U HBR;have hMt := U HMW;have hz1 := U HZ1;have hml1 : M < W.heap.size + 1 := by omega
    by_cases e10 : r = 10
    · rw [quoI_line hlt (by have := k10.1 e10; omega)] at hq0
      subst e10;subst hq0;clear hrune hesc k10 k13 k92 kmk;have hr5 : wr.heap[W.heap.size]? = some (.cells #[.int .i64 0, .string ⟨#[]⟩, .int .i64 0, .int .i64 0] 40) := (hBt.block W.heap.size (by omega)).trans (U HR1);obtain ⟨d0, d1, d2, d3⟩ := tok_cells hr5;have d4 := Lib.frozen_of_heap hr5;have d5 : wr.shape? W.heap.size = some (40, 4) := by simp [World.shape?, hr5]
      clear hBt hMt hz1;go_wp2_with (go_at_call 121; refine (U HD).mono ?_; rintro x w' ⟨rfl, hw⟩; subst w');have hBt := U HBR;have hMt := U HMW;have hz1 := U HZ1;have hB6 := put4_below (W := wr) (Nat.le_refl W.heap.size) (.int .i64 0) (.string ⟨#[]⟩) (.int .i64 0) (.int .i64 0);have hr6 := put4_heap hr5 (.int .i64 0) (.string ⟨#[]⟩) (.int .i64 0) (.int .i64 0);obtain ⟨W6, hW6⟩ : ∃ W6, ((((wr.setCell ⟨W.heap.size, 0, none⟩ (.int .i64 0)).setCell ⟨W.heap.size, 1, none⟩ (.string ⟨#[]⟩)).setCell ⟨W.heap.size, 2, none⟩ (.int .i64 0)).setCell ⟨W.heap.size, 3, none⟩ (.int .i64 0)) = W6 := ⟨_, rfl⟩;rw [hW6] at hB6 hr6 ⊢;clear hW6;obtain ⟨e0, e1, e2, e3⟩ := tok_cells hr6;try rw [Exit.noGoto_ret]
      refine bodyPost_ret (v := .tuple #[.agg #[.int .i64 0, .string ⟨#[]⟩, .int .i64 0, .int .i64 0], .bool false]) ?_ rfl ⟨rfl, hMt.below hB6 hml, ((Fr.refl _ W).below ((U HB1).trans (hBt.mono (by omega)))).below hB6⟩;clear d0 d1 d2 d3 d4 d5;simp [results, Tryz.results145, go_sem, e0, e1, e2, e3]
    have b10 : (r == 10) = false := beq_eq_false_iff_ne.2 e10;by_cases e13 : r = 13
    · rw [quoI_line hlt (by have := k13.1 e13; omega)] at hq0
      subst e13;subst hq0;clear hrune hesc k10 k13 k92 kmk;have hr5 : wr.heap[W.heap.size]? = some (.cells #[.int .i64 0, .string ⟨#[]⟩, .int .i64 0, .int .i64 0] 40) := (hBt.block W.heap.size (by omega)).trans (U HR1);obtain ⟨d0, d1, d2, d3⟩ := tok_cells hr5;have d4 := Lib.frozen_of_heap hr5;have d5 : wr.shape? W.heap.size = some (40, 4) := by simp [World.shape?, hr5]
      clear hBt hMt hz1;go_wp2_with (go_at_call 121; refine (U HD).mono ?_; rintro x w' ⟨rfl, hw⟩; subst w');have hBt := U HBR;have hMt := U HMW;have hz1 := U HZ1;have hB6 := put4_below (W := wr) (Nat.le_refl W.heap.size) (.int .i64 0) (.string ⟨#[]⟩) (.int .i64 0) (.int .i64 0);have hr6 := put4_heap hr5 (.int .i64 0) (.string ⟨#[]⟩) (.int .i64 0) (.int .i64 0);obtain ⟨W6, hW6⟩ : ∃ W6, ((((wr.setCell ⟨W.heap.size, 0, none⟩ (.int .i64 0)).setCell ⟨W.heap.size, 1, none⟩ (.string ⟨#[]⟩)).setCell ⟨W.heap.size, 2, none⟩ (.int .i64 0)).setCell ⟨W.heap.size, 3, none⟩ (.int .i64 0)) = W6 := ⟨_, rfl⟩;rw [hW6] at hB6 hr6 ⊢;clear hW6;obtain ⟨e0, e1, e2, e3⟩ := tok_cells hr6;try rw [Exit.noGoto_ret]
      refine bodyPost_ret (v := .tuple #[.agg #[.int .i64 0, .string ⟨#[]⟩, .int .i64 0, .int .i64 0], .bool false]) ?_ rfl ⟨rfl, hMt.below hB6 hml, ((Fr.refl _ W).below ((U HB1).trans (hBt.mono (by omega)))).below hB6⟩;clear d0 d1 d2 d3 d4 d5;simp [results, Tryz.results145, go_sem, e0, e1, e2, e3]
    have b13 : (r == 13) = false := beq_eq_false_iff_ne.2 e13;by_cases emk : r = mark
    · rw [quoI_mark hlt (by omega) (kmk.1 emk)] at hq0
      have bmk : (r == mark) = true := beq_iff_eq.2 emk;have hq1 : some (pre ++ [], i + 1) = q := hq0;rw [List.append_nil] at hq1;subst hq1;clear hrune hesc k10 k13 k92 kmk hq0 hBt hMt hz1 e10 e13;have HST := Hi (gath_string (U HG) (by have := U HZ1; omega));go_wp2_with (first | (go_at_call 121; refine (U HD).mono ?_; rintro x w' ⟨rfl, hw⟩; subst w') | (go_at_call 198; refine (U HST).mono ?_; rintro x W4 ⟨rfl, hB4⟩; have hM4 := (U HM1).below hB4 (by omega); have hB4z := hB4.size) | (go_at_call 194; refine (take_any M _ ov at' 4 _ _ W4 hM4).mono ?_; rintro x W5 ⟨rfl, hM5, hF5⟩; have hr5 : W5.heap[W.heap.size]? = some (.cells #[.int .i64 0, .string ⟨#[]⟩, .int .i64 0, .int .i64 0] 40) := (hF5.block W.heap.size (by have := U HZ1; omega) (by omega)).trans ((hB4.block W.heap.size (by omega)).trans (U HR1)); obtain ⟨d0, d1, d2, d3⟩ := tok_cells hr5; have d4 := Lib.frozen_of_heap hr5; have d5 : W5.shape? W.heap.size = some (40, 4) := (by simp [World.shape?, hr5])));have hB6 := put4_below (W := W5) (Nat.le_refl W.heap.size) (.int .i64 4) (.string (strOfNums pre)) ((.int .i64 (at' : Int))) (.int .i64 ((i : Int) + 1));have hr6 := put4_heap hr5 (.int .i64 4) (.string (strOfNums pre)) ((.int .i64 (at' : Int))) (.int .i64 ((i : Int) + 1));obtain ⟨W6, hW6⟩ : ∃ W6, ((((W5.setCell ⟨W.heap.size, 0, none⟩ (.int .i64 4)).setCell ⟨W.heap.size, 1, none⟩ (.string (strOfNums pre))).setCell ⟨W.heap.size, 2, none⟩ ((.int .i64 (at' : Int)))).setCell ⟨W.heap.size, 3, none⟩ (.int .i64 ((i : Int) + 1))) = W6 := ⟨_, rfl⟩
      rw [hW6] at hB6 hr6 ⊢;clear hW6;obtain ⟨e0, e1, e2, e3⟩ := tok_cells hr6;try rw [Exit.noGoto_ret]
      refine bodyPost_ret (v := .tuple #[.agg #[.int .i64 4, .string (strOfNums pre), (.int .i64 (at' : Int)), .int .i64 ((i : Int) + 1)], .bool true]) ?_ rfl ⟨rfl, hM5.below hB6 hml, (((Fr.refl _ W).below ((U HB1).trans (hB4.mono (by omega)))).trans hF5).below hB6⟩;clear d0 d1 d2 d3 d4 d5;simp [results, Tryz.results145, go_sem, e0, e1, e2, e3]
    have bmk : (r == mark) = false := beq_eq_false_iff_ne.2 emk;by_cases e92 : r = 92
    · have g92 := k92.1 e92
      subst e92;obtain ⟨a', c', hsl', hk⟩ := slice_from (U HSA wr (U HBW)) (lo := i) hi2;have HES := Hi (escape_any c a' (len - i) c' (fun j => g (i + j)) (fun j => hg _) wr (hk _ (U HSA wr (U HBW))) (by have := U HZ; have := U HZ1; omega) (by omega) (by simpa using g92) (by omega) (U HEA wr (U HBW)));rw [escE_shift] at HES;clear hrune k10 k13 k92 kmk hBt hMt hz1 hk;cases he : escE g len i with
      | none =>
        rw [quoI_bad hlt (by omega) (by omega) g92 he] at hq0;subst hq0;rw [he] at HES;have HES2 : Hid (Calls Tryz.prog 196 #[.slice a' (len - i) c'] wr fun x W' => x = .returned (.tuple #[.int .i32 0, .int .i64 0]) ∧ Below wr.heap.size wr W') := U HES;clear hesc he HES g92;go_wp2_with (first | (go_at_call 121; refine (U HD).mono ?_; rintro x w' ⟨rfl, hw⟩; subst w') | (go_at_call 196; refine (U HES2).mono ?_; rintro x W4 ⟨rfl, hB4⟩; have hBt := (U HBR).trans (hB4.mono (by have := U HZ; have := U HZ1; omega)); have hMt := (U HM1).below hBt (by omega); have hr5 : W4.heap[W.heap.size]? = some (.cells #[.int .i64 0, .string ⟨#[]⟩, .int .i64 0, .int .i64 0] 40) := (hBt.block W.heap.size (by omega)).trans (U HR1); obtain ⟨d0, d1, d2, d3⟩ := tok_cells hr5; have d4 := Lib.frozen_of_heap hr5; have d5 : W4.shape? W.heap.size = some (40, 4) := (by simp [World.shape?, hr5])));have hB6 := put4_below (W := W4) (Nat.le_refl W.heap.size) (.int .i64 0) (.string ⟨#[]⟩) (.int .i64 0) (.int .i64 0);have hr6 := put4_heap hr5 (.int .i64 0) (.string ⟨#[]⟩) (.int .i64 0) (.int .i64 0);obtain ⟨W6, hW6⟩ : ∃ W6, ((((W4.setCell ⟨W.heap.size, 0, none⟩ (.int .i64 0)).setCell ⟨W.heap.size, 1, none⟩ (.string ⟨#[]⟩)).setCell ⟨W.heap.size, 2, none⟩ (.int .i64 0)).setCell ⟨W.heap.size, 3, none⟩ (.int .i64 0)) = W6 := ⟨_, rfl⟩;rw [hW6] at hB6 hr6 ⊢;clear hW6;obtain ⟨e0, e1, e2, e3⟩ := tok_cells hr6;try rw [Exit.noGoto_ret]
        refine bodyPost_ret (v := .tuple #[.agg #[.int .i64 0, .string ⟨#[]⟩, .int .i64 0, .int .i64 0], .bool false]) ?_ rfl ⟨rfl, hMt.below hB6 hml, ((Fr.refl _ W).below ((U HB1).trans (hBt.mono (by omega)))).below hB6⟩;clear d0 d1 d2 d3 d4 d5;simp [results, Tryz.results145, go_sem, e0, e1, e2, e3]
      | some y =>
        obtain ⟨x, wd⟩ := y;have hw2 := escE_w he;have hxo := esc_ok hg he;rw [hesc hlt (by omega) (by omega) g92 he, pfx_one] at hq0;have HQ1 := Hi hq0;rw [he] at HES;have HES2 : Hid (Calls Tryz.prog 196 #[.slice a' (len - i) c'] wr fun z W' => z = .returned (.tuple #[.int .i32 x, .int .i64 (wd : Int)]) ∧ Below wr.heap.size wr W') := U HES;have bw0 : ((wd : Int) == 0) = false := beq_eq_false_iff_ne.2 (by omega);have HX := Hi hxo;have HW2 := Hi hw2;have hwl := hw2.2;have hwk := hw2.1;clear hesc he HES g92 hq0 hxo hw2;go_wp2_with (first | (go_at_call 121; refine (U HD).mono ?_; rintro x w' ⟨rfl, hw⟩; subst w') | (go_at_call 196; refine (U HES2).mono ?_; rintro z W4 ⟨rfl, hB4⟩));refine (gath_put (B := W.heap.size + 1) (W1 := W1) (pre := pre) (i := i) (j := i + wd) (Gath.on (U HG) hB4) (U HX) (by have := U HW2; omega) (by omega) (by have := U HZ1; omega)).mono ?_;rintro z W5 ⟨⟨u, rfl⟩, hG5⟩;have HG5 := Hi hG5;clear hG5;go_wp2;exact ⟨⟨i + wd, pre ++ Lib.encodeRuneZ x, by omega, (U HW2).2, by go_num, HG5, HQ1⟩, by have := (U HW2).1; simp [intOf]; omega⟩
    have b92 : (r == 92) = false := beq_eq_false_iff_ne.2 e92;rw [hrune (by omega) (by omega) (by omega), pfx_one] at hq0;have HQ1 := Hi hq0;have HX := Hi hok;clear hrune hesc k10 k13 k92 kmk hBt hMt hz1 hq0 hok;go_wp2_with (go_at_call 121; refine (U HD).mono ?_; rintro x w' ⟨rfl, hw⟩; subst w');refine (gath_put (B := W.heap.size + 1) (W1 := W1) (pre := pre) (i := i) (j := i + s) (U HG) (U HX) (by omega) (by omega) (by have := U HZ1; omega)).mono ?_;rintro z W5 ⟨⟨u, rfl⟩, hG5⟩;have HG5 := Hi hG5;clear hG5;go_wp2;exact ⟨⟨i + s, pre ++ Lib.encodeRuneZ r, by omega, by omega, by go_num, HG5, HQ1⟩, by simp [intOf]; omega⟩
  · have hq0 := U HP
    rw [quoI_end hlt] at hq0;subst hq0;have hin : inside len (i : Int) = false := by simp [inside]; omega
    have hz0 : stepN g len i = 0 := by simp [stepN, hlt]
    rw [(dOut hin g).1, hz0] at HD0;have HD := HD0;have hBt := U HBR;have hMt := U HMW;have hz1 := U HZ1;clear HD0 hin hz0;have hr5 : wr.heap[W.heap.size]? = some (.cells #[.int .i64 0, .string ⟨#[]⟩, .int .i64 0, .int .i64 0] 40) := (hBt.block W.heap.size (by omega)).trans (U HR1);obtain ⟨d0, d1, d2, d3⟩ := tok_cells hr5;have d4 := Lib.frozen_of_heap hr5;have d5 : wr.shape? W.heap.size = some (40, 4) := by simp [World.shape?, hr5]
    clear hBt hMt hz1;go_wp2_with (go_at_call 121; refine (U HD).mono ?_; rintro x w' ⟨rfl, hw⟩; subst w');have hBt := U HBR;have hMt := U HMW;have hz1 := U HZ1;have hB6 := put4_below (W := wr) (Nat.le_refl W.heap.size) (.int .i64 0) (.string ⟨#[]⟩) (.int .i64 0) (.int .i64 0);have hr6 := put4_heap hr5 (.int .i64 0) (.string ⟨#[]⟩) (.int .i64 0) (.int .i64 0);obtain ⟨W6, hW6⟩ : ∃ W6, ((((wr.setCell ⟨W.heap.size, 0, none⟩ (.int .i64 0)).setCell ⟨W.heap.size, 1, none⟩ (.string ⟨#[]⟩)).setCell ⟨W.heap.size, 2, none⟩ (.int .i64 0)).setCell ⟨W.heap.size, 3, none⟩ (.int .i64 0)) = W6 := ⟨_, rfl⟩;rw [hW6] at hB6 hr6 ⊢;clear hW6;obtain ⟨e0, e1, e2, e3⟩ := tok_cells hr6;try rw [Exit.noGoto_ret]
    refine bodyPost_ret (v := .tuple #[.agg #[.int .i64 0, .string ⟨#[]⟩, .int .i64 0, .int .i64 0], .bool false]) ?_ rfl ⟨rfl, hMt.below hB6 hml, ((Fr.refl _ W).below ((U HB1).trans (hBt.mono (by omega)))).below hB6⟩;clear d0 d1 d2 d3 d4 d5;simp [results, Tryz.results145, go_sem, e0, e1, e2, e3]
end
section
open Go.RowKit Go.Shelf
def Opn (W : World) (ov : Value) (bs : List Bool) : Prop :=
 ∃ a cap, ov = .slice a bs.length cap ∧ bs.length ≤ cap ∧ cap ≤ maxLen ∧ (0 < bs.length → ∃ b o, a = some ⟨b, o, none⟩ ∧ ∀ j, j < bs.length → W.cell? ⟨b, o + j, none⟩ = some (.bool (bs.getD j false)))
def lastB (bs : List Bool) : Bool := decide (0 < bs.length) && bs.getD (bs.length - 1) false
theorem inHole_any (M : Nat) (bv ov : Value) (at' : Int) (bs : List Bool) (W : World) (h : MAt W M bv at' ov) (hO : Opn W ov bs) :
 Calls Tryz.prog 147 #[.pointer (some ⟨M, 0, none⟩)] W fun x W' => x = .returned (.bool (lastB bs)) ∧ Below W.heap.size W W' := by
 obtain ⟨a, cap, rfl, h1, h2, h3⟩ := hO;unfold maxLen at h2;have c2 := h.c2;have hml := h.lt;by_cases hn : 0 < bs.length
 · obtain ⟨b, o, rfl, hc⟩ := h3 hn
   have hl : W.cell? ⟨b, o + (bs.length - 1), none⟩ = some (.bool (bs.getD (bs.length - 1) false)) := hc _ (by omega);have hd : decide ((0 : Int) < (bs.length : Int)) = true := decide_eq_true (by omega);have HL : Hid (lastB bs = bs.getD (bs.length - 1) false) := by show _ = _; rw [lastB, decide_eq_true hn, Bool.true_and]
   obtain ⟨z, hz⟩ : ∃ z, bs.getD (bs.length - 1) false = z := ⟨_, rfl⟩;rw [hz] at hl HL;obtain ⟨m, hm⟩ : ∃ m, bs.length = m + 1 := ⟨bs.length - 1, by omega⟩;rw [hm, show m + 1 - 1 = m from rfl] at hl;rw [hm] at c2 hd h1;have hb : b < W.heap.size := World.block_lt_of_cell? W _ hl;clear h3 hc h hz;go_enter Tryz.func147, Tryz.ntmps147;go_wp2;go_quiet (fail)
   go_wp2;go_ret;rw [U HL];exact ⟨rfl, ⟨rfl, rfl, rfl, NL, fun _ _ => rfl⟩⟩
 · have hz : bs.length = 0 := by omega
   have hd : decide ((0 : Int) < (bs.length : Int)) = false := decide_eq_false (by omega);have HL : Hid (lastB bs = false) := by show _ = _; rw [lastB, decide_eq_false hn, Bool.false_and]
   rw [hz] at c2 hd;clear h3 h hz;go_enter Tryz.func147, Tryz.ntmps147;go_wp2;go_quiet (fail)
   go_wp2;go_ret;rw [U HL];exact ⟨rfl, ⟨rfl, rfl, rfl, NL, fun _ _ => rfl⟩⟩
theorem close_some (M : Nat) (bv : Value) (b o m cap : Nat) (at' : Int) (W : World) (h : MAt W M bv at' (.slice (some ⟨b, o, none⟩) (m + 1) cap)) (h1 : m + 1 ≤ cap) (h2 : cap ≤ maxLen) :
 Calls Tryz.prog 148 #[.pointer (some ⟨M, 0, none⟩)] W fun x W' => x = .returned (.tuple #[]) ∧ MAt W' M bv at' (.slice (some ⟨b, o, none⟩) m cap) ∧ Fr (fun k => k = M) W W' := by
 unfold maxLen at h2;have c2 := h.c2;have hfz := h.frozen;have hml := h.lt;have HH := Hi h;clear h;go_enter Tryz.func148, Tryz.ntmps148;go_wp2;go_region;have hm := (U HH).set2 (.slice (some ⟨b, o, none⟩) m cap);have hf : Fr (fun k => k = M) W (W.setCell ⟨M, 2, none⟩ (.slice (some ⟨b, o, none⟩) m cap)) := Fr.set (Fr.refl _ W) M 2 _ rfl;refine bodyPost_end (v := .tuple #[]) (by simp [results, Tryz.results148, go_sem]) rfl ⟨rfl, hm, hf.below ?_⟩;exact ⟨rfl, rfl, rfl, NL, fun _ _ => rfl⟩
theorem close_none (M : Nat) (bv : Value) (a : Option Addr) (cap : Nat) (at' : Int) (W : World) (h : MAt W M bv at' (.slice a 0 cap)) :
 Calls Tryz.prog 148 #[.pointer (some ⟨M, 0, none⟩)] W fun x W' => x = .returned (.tuple #[]) ∧ W' = W := by
 have c2 := h.c2;have hml := h.lt;clear h;go_enter Tryz.func148, Tryz.ntmps148;go_wp2;exact bodyPost_end (v := .tuple #[]) (by simp [results, Tryz.results148, go_sem]) rfl ⟨rfl, rfl⟩
def OwnO (W : World) (M : Nat) (ov : Value) (bs : List Bool) : Prop := W.ownsRow (M + 1) 4 1 ov bs.length (bs.map Value.bool)
def OB (W : World) (ov ov' : Value) : Prop := ov'.ownBlock = ov.ownBlock ∨ ∃ k, ov'.ownBlock = some k ∧ W.heap.size ≤ k
theorem infoBool : (Tryz.prog.info? 4).map (fun i => (i.zero, i.size, i.bytes)) = some (some (.bool false), 1, 1) := by kernel_rfl
theorem OwnO.lt {W : World} {M : Nat} {ov : Value} {bs : List Bool} (h : OwnO W M ov bs) {k : Nat} (hk : ov.ownBlock = some k) : M < k ∧ k < W.heap.size := by
 have := World.ownsRow.lt h k hk;omega
theorem row_keepx {W W' : World} {B : Nat} {t : TypeId} {s n : Nat} {v : Value} {xs : List Value} (h : W.ownsRow B t s v n xs) (hb : ∀ k, v.ownBlock = some k → W'.heap[k]? = W.heap[k]?) : W'.ownsRow B t s v n xs := by
 refine ⟨h.1, ?_⟩;rcases h.2 with h0 | ⟨g, cap, cur, hv, hg, hh, hr⟩
 · exact .inl h0
 · refine .inr ⟨g, cap, cur, hv, hg, ?_, hr⟩
   rw [hb g (by rw [hv]; rfl)];exact hh
theorem OwnO.keep {W W' : World} {M : Nat} {ov : Value} {bs : List Bool} (h : OwnO W M ov bs) (hb : ∀ k, ov.ownBlock = some k → W'.heap[k]? = W.heap[k]?) : OwnO W' M ov bs := row_keepx h hb
theorem OwnO.fr {W W' : World} {M : Nat} {ov : Value} {bs : List Bool} (h : OwnO W M ov bs) (hf : Fr (fun k => k = M) W W') : OwnO W' M ov bs := h.keep fun k hk => hf.block k (h.lt hk).2 (by have := (h.lt hk).1; omega)
theorem OwnO.below {W W' : World} {M n : Nat} {ov : Value} {bs : List Bool} (h : OwnO W M ov bs) (hf : Below n W W') (hn : W.heap.size ≤ n) : OwnO W' M ov bs := h.keep fun k hk => hf.block k (by have := (h.lt hk).2; omega)
theorem OB.refl (W : World) (ov : Value) : OB W ov ov := .inl rfl
theorem OB.trans {W W' : World} {a b c : Value} (h : OB W a b) (h' : OB W' b c) (hs : W.heap.size ≤ W'.heap.size) : OB W a c := by
 rcases h' with h' | ⟨k, hk, hl⟩
 · rcases h with h | ⟨k, hk, hl⟩
   · exact .inl (h'.trans h)
   · exact .inr ⟨k, h'.trans hk, hl⟩
 · exact .inr ⟨k, hk, Nat.le_trans hs hl⟩
theorem own_nil (W : World) (M : Nat) : OwnO W M (.slice none 0 0) [] := World.ownsRow_nil _ _ _ _
theorem OwnO.form {W : World} {M : Nat} {ov : Value} {bs : List Bool} (h : OwnO W M ov bs) : (ov = .slice none 0 0 ∧ bs = []) ∨ ∃ g cap cur, ov = .slice (some ⟨g, 0, none⟩) bs.length cap ∧ M + 1 ≤ g ∧ W.heap[g]? = some (.cells cur 4 (0, 0)) ∧ bs.length ≤ cap ∧ cap ≤ maxLen ∧ ∀ j, j < bs.length → W.cell? ⟨g, 0 + j, none⟩ = some (.bool (bs.getD j false)) := by
 rcases h.2 with ⟨h0, hn⟩ | ⟨g, cap, cur, hv, hg, hh, h1, h2, h3, h4⟩
 · exact .inl ⟨h0, List.length_eq_zero_iff.1 hn⟩
 · refine .inr ⟨g, cap, cur, hv, hg, hh, h1, h2, fun j hj => ?_⟩
   rw [Lib.cell_of_heap hh, Nat.zero_add];have e := congrArg (fun l : List Value => l[j]?) h4;simp only [Nat.mul_one, List.getElem?_take, hj, if_true, List.getElem?_map] at e;rw [List.getElem?_eq_getElem hj] at e;rw [List.getD_eq_getElem?_getD, List.getElem?_eq_getElem hj];simpa using e
theorem OwnO.opn {W : World} {M : Nat} {ov : Value} {bs : List Bool} (h : OwnO W M ov bs) : Opn W ov bs := by
 rcases h.form with ⟨rfl, rfl⟩ | ⟨g, cap, cur, hv, hg, hh, h1, h2, h3⟩
 · exact ⟨none, 0, rfl, NL, Nat.zero_le _, fun h => absurd h (by simp)⟩
 · exact ⟨_, cap, hv, h1, h2, fun _ => ⟨g, 0, rfl, h3⟩⟩
theorem closeO (M : Nat) (bv ov : Value) (at' : Int) (bs : List Bool) (W : World) (h : MAt W M bv at' ov) (hO : OwnO W M ov bs) :
 Calls Tryz.prog 148 #[.pointer (some ⟨M, 0, none⟩)] W fun x W' => ∃ ov', x = .returned (.tuple #[]) ∧ MAt W' M bv at' ov' ∧ OwnO W' M ov' bs.dropLast ∧ ov'.ownBlock = ov.ownBlock ∧ Fr (fun k => k = M) W W' := by
 rcases hO.form with ⟨rfl, rfl⟩ | ⟨g, cap, cur, rfl, hg, hh, h1, h2, h3⟩
 · refine (close_none M bv none 0 at' W h).mono ?_
   rintro x W' ⟨rfl, rfl⟩;exact ⟨_, rfl, h, hO, rfl, Fr.refl _ _⟩
 · rcases Nat.eq_zero_or_pos bs.length with hz | hp
   · have hb : bs = [] := List.length_eq_zero_iff.1 hz
     subst hb;refine (close_none M bv _ cap at' W h).mono ?_;rintro x W' ⟨rfl, rfl⟩;exact ⟨_, rfl, h, hO, rfl, Fr.refl _ _⟩
   · obtain ⟨m, hm⟩ : ∃ m, bs.length = m + 1 := ⟨bs.length - 1, by omega⟩
     have hne : bs ≠ [] := List.length_pos_iff.1 hp;have hdl : bs.dropLast.length = m := by rw [List.length_dropLast, hm]; rfl
     have hO2 : W.ownsRow (M + 1) 4 1 (.slice (some ⟨g, 0, none⟩) (m + 1) cap) (m + 1) (bs.dropLast.map Value.bool ++ [.bool (bs.getLast hne)]) := by
      have e : bs.dropLast.map Value.bool ++ [Value.bool (bs.getLast hne)] = bs.map Value.bool := by
       conv => rhs; rw [← List.dropLast_concat_getLast hne]
       simp
      rw [e, ← hm];exact hO
     have hO3 := ownsRow_pop (by rw [List.length_map, hdl, Nat.mul_one]) hO2;rw [hm] at h h1;refine (close_some M bv g 0 m cap at' W h h1 h2).mono ?_;rintro x W' ⟨rfl, hM, hF⟩;refine ⟨_, rfl, hM, ?_, rfl, hF⟩;have hgl : g < W.heap.size := (Array.getElem?_eq_some_iff.1 hh).1;have hO4 : OwnO W M (.slice (some ⟨g, 0, none⟩) m cap) bs.dropLast := by unfold OwnO; rw [hdl]; exact hO3
     exact hO4.fr hF
theorem Fr.grown {S0 : Nat → Prop} {A B C : World} {row : Option Nat} (h : Fr S0 A B) (hg : B.grownBy C row) (hs : ∀ k, row = some k → k < A.heap.size → S0 k) : Fr S0 A C :=
 ⟨hg.os.trans h.os, hg.tape.trans h.tape, hg.output.trans h.output, Nat.le_trans h.size hg.size, fun k hk hn => (hg.block k (Nat.lt_of_lt_of_le hk h.size) (fun e => hn (hs k e.symm hk))).trans (h.block k hk hn)⟩
theorem BAt.up {B b : Nat} {p v : Value} {bs : List Value} {w w' : World} (h : BAt B b p v bs w) (hk : ∀ k, B ≤ k → k < w.heap.size → w'.heap[k]? = w.heap[k]?) : BAt B b p v bs w' := by
 obtain ⟨h1, h2, h3, h4⟩ := h;refine ⟨h1, ?_, row_keepx h3 (fun k hv => ?_), h4⟩
 · rw [hk b h1 (Array.getElem?_eq_some_iff.1 h2).1]
   exact h2
 · have := World.ownsRow.lt h3 k hv
   exact hk k this.1 this.2
def TokO (W : World) (M : Nat) (bv ov : Value) (at' : Nat) (q : Option (Int × List Int × Nat × List Bool)) (x : Ending) (W' : World) : Prop := match q with
 | none => x = .returned (tkR at' none) ∧ Fr (fun k => k = M ∨ ov.ownBlock = some k) W W'
 | some (k, t, e, bs') => x = .returned (tkR at' (some (k, t, e))) ∧ (∃ ov', MAt W' M bv (e : Int) ov' ∧ OwnO W' M ov' bs' ∧ OB W ov ov') ∧ Fr (fun k => k = M ∨ ov.ownBlock = some k) W W'
theorem TokO.of {W : World} {M : Nat} {bv ov : Value} {at' : Nat} {bs : List Bool} {q : Option (Int × List Int × Nat)} {x : Ending} {W' : World} (hO : OwnO W M ov bs) (h : TokPost W M bv ov at' q x W') : TokO W M bv ov at' (q.map fun y => (y.1, y.2.1, y.2.2, bs)) x W' := by
 obtain ⟨h1, h2, h3⟩ := h;have hf : Fr (fun k => k = M ∨ ov.ownBlock = some k) W W' := h3.mono fun k _ e => .inl e
 cases q with
 | none => exact ⟨h1, hf⟩
 | some y => exact ⟨h1, ⟨ov, h2, hO.fr h3, OB.refl _ _⟩, hf⟩
end
section
open Go.RowKit Go.Shelf
def pieQ (whole holed : Int) (bs : List Bool) : Option (List Int × Bool × Nat) → Option (Int × List Int × Nat × List Bool)
 | none => none
 | some (t, true, e) => some (holed, t, e, bs ++ [true])
 | some (t, false, e) => some (whole, t, e, bs)
theorem bat_string {B : Nat} {W' : World} {p v : Value} {pre : List Int} (hp : p = .pointer none ∨ p = .pointer (some ⟨B, 0, none⟩)) (hb : BAt B B p v (cellsZ pre) W') (h1 : ∀ x ∈ pre, 0 ≤ x ∧ x ≤ 255) (hB : B ≤ W'.heap.size) :
 Calls Tryz.prog 198 #[.pointer (some ⟨B, 0, none⟩)] W' fun e w' => e = .returned (.string (strOfNums pre)) ∧ Below B W' w' ∧ Lib.OthersKept 5 (some B) W' w' := by
 rw [cellsZ_bytes h1] at hb
 have his : Lib.IsBuilder 139 5 B B (Lib.byteCells (pre.map fun n => UInt8.ofNat n.toNat)) W' := by
  rcases hp with rfl | rfl
  · exact .inl ⟨hb.1, v, hb.2⟩
  · exact .inr hb.is
 refine (Tryz.Builder_String_k B B _ W' his hB).mono ?_;rintro e w' ⟨rfl, hB', hk⟩;exact ⟨rfl, hB', hk⟩
theorem put4_keep {W : World} {R k : Nat} (hk : k ≠ R) (y0 y1 y2 y3 : Value) : ((((W.setCell ⟨R, 0, none⟩ y0).setCell ⟨R, 1, none⟩ y1).setCell ⟨R, 2, none⟩ y2).setCell ⟨R, 3, none⟩ y3).heap[k]? = W.heap[k]? := by
 rw [Below.heap_setCell _ ⟨R, 3, none⟩ _ k hk, Below.heap_setCell _ ⟨R, 2, none⟩ _ k hk, Below.heap_setCell _ ⟨R, 1, none⟩ _ k hk, Below.heap_setCell _ ⟨R, 0, none⟩ _ k hk]
attribute [local go_sem] tokV
theorem piece_any (M c : Nat) (a : Option Addr) (len cap : Nat) (g : Nat → Int) (hg : ∀ j, 0 ≤ g j ∧ g j ≤ 255) (at' : Nat) (ov : Value) (bs : List Bool) (whole holed : Int) (W : World) (h : MAt W M (.slice a len cap) at' ov) (hS : Sl W c (.slice a len cap) len g) (hO : OwnO W M ov bs) (hcM : c < M) (hat : at' < len) (hlen : len ≤ 1099511627776) (hbl : bs.length ≤ 1099511627776) (hE : ErrG W 1) :
 Calls Tryz.prog 146 #[.pointer (some ⟨M, 0, none⟩), .int .i64 whole, .int .i64 holed] W (TokO W M (.slice a len cap) ov at' (pieQ whole holed bs (pieI g len (at' + 1)))) := by
 obtain ⟨q, hq⟩ : ∃ q, pieI g len (at' + 1) = q := ⟨_, rfl⟩;have HQ := Hi hq;rw [hq];clear hq;have hc : c < W.heap.size := Nat.lt_trans hcM h.lt;obtain ⟨W1, hW1⟩ : ∃ W1, (W.alloc (.cells #[.int .i64 0, .string ⟨#[]⟩, .int .i64 0, .int .i64 0] 40)).alloc (.cells #[.pointer none, .slice none 0 0] 139) = W1 := ⟨_, rfl⟩;have hB1 : Below W.heap.size W W1 := by rw [← hW1]; exact ((Below.refl _ W).alloc NL _).alloc (by simp) _
 have hz1 : W1.heap.size = W.heap.size + 1 + 1 := by rw [← hW1]; simp
 have hr1 : W1.heap[W.heap.size]? = some (.cells #[.int .i64 0, .string ⟨#[]⟩, .int .i64 0, .int .i64 0] 40) := by rw [← hW1]; exact (Below.heap_alloc _ _ _ (by simp)).trans (World.alloc_heap_new W _)
 have hb1 : BAt (W.heap.size + 1) (W.heap.size + 1) (.pointer none) (.slice none 0 0) [] W1 := by
  refine ⟨NL, ?_, World.ownsRow_nil _ _ _ _, by simp [Value.ownBlock]⟩;have := World.alloc_heap_new (W.alloc (.cells #[.int .i64 0, .string ⟨#[]⟩, .int .i64 0, .int .i64 0] 40)) (.cells #[.pointer none, .slice none 0 0] 139);rw [World.size_alloc] at this;rw [← hW1]; exact this
 have hM1 := h.below hB1 h.lt;have hml := h.lt;have HSA : Hid (∀ W', Below W.heap.size W W' → Sl W' c (.slice a len cap) len g) := fun W' hb => hS.keep (fun k e => by subst e; exact hb.block k hc)
 have HEA : Hid (∀ W', Below W.heap.size W W' → ErrG W' 1) := fun W' hb => hE.below hb hE.lt
 have HO := Hi hO;have c0 := hM1.c0;have c1 := hM1.c1;have HG0 : Hid (Gath (W.heap.size + 1) W1 [] (at' + 1) W1) := ⟨⟨_, _, .inl rfl, hb1⟩, by simp, by simp, Below.refl _ _⟩;have HM1 := Hi hM1;have HB1 := Hi hB1;have HR1 := Hi hr1;have HZ1 := Hi hz1;clear hS hb1 hE hB1 hr1 hM1 hz1 hO h;go_enter Tryz.func146, Tryz.ntmps146;go_wp2;go_step3
 go_wp2;go_step3
 go_wp2;clear hW1 c0 c1;go_loopw [9] (fun t wr => ∃ (i : Nat) (pre : List Int), at' + 1 ≤ i ∧ i ≤ len ∧ t = .int .i64 (i : Int) ∧ Hid (Gath (W.heap.size + 1) W1 pre i wr) ∧ Hid (pfx pre (pieI g len i) = q)) (fun t _ => len - (intOf t).toNat)
 case atStart => exact ⟨at' + 1, [], NL, by omega, by go_num, U HG0, by show pfx [] _ = q; rw [pfx_nil]; exact U HQ⟩
 case round =>
  obtain ⟨i, pre, hi1, hi2, rfl, HG, HP⟩ := hrel;clear HQ HG0;have hBr : Below (W.heap.size + 1) W1 wr := (U HG).2.2.2;have hBw : Below W.heap.size W wr := (U HB1).trans (hBr.mono (by omega));have hMw := (U HM1).below hBr (by omega);have c0 := hMw.c0;have hz := hBr.size;have HZ := Hi hz;have HBR := Hi hBr;have HBW := Hi hBw;have HMW := Hi hMw;have HD0 := Hi (decode_sl hg (U HSA wr hBw) (i : Int));rw [dSize_nat] at HD0;clear hz hBr hBw hMw;by_cases hlt : i < len
  · have hok := dr_ok hg hlt
    have hsp := step_pos (g := g) hlt;have hsl := step_le (g := g) (len := len) (i := i) hi2;have hs4 := step_le4 g len i;have k96 := dr_eq hg hlt (x := 96) (by decide);have k36 := dr_eq hg hlt (x := 36) (by decide);have k92 := dr_eq hg hlt (x := 92) (by decide);have hrune := @pieI_rune g len i hlt;have hesc := @pieI_esc g len i;obtain ⟨r, hr⟩ : ∃ r, dRune g len i = r := ⟨_, rfl⟩;obtain ⟨s, hs⟩ : ∃ s, stepN g len i = s := ⟨_, rfl⟩;rw [hr] at HD0 hok k96 k36 k92 hrune;rw [hs] at HD0 hsp hsl hs4 hrune;have HD := HD0;clear hr hs HD0;have bs0 : ((s : Int) == 0) = false := beq_eq_false_iff_ne.2 (by omega);have hq0 := U HP;have hml1 : M < W.heap.size + 1 := by omega
    by_cases e96 : r = 96
    · rw [pieI_mark hlt (k96.1 e96)] at hq0
      have hq1 : some (pre ++ [], false, i + 1) = q := hq0;rw [List.append_nil] at hq1;subst hq1;subst e96;clear hrune hesc k96 k36 k92 hq0;have HST := Hi (gath_string (U HG) (by have := U HZ1; omega));go_wp2_with (first | (go_at_call 121; refine (U HD).mono ?_; rintro x w' ⟨rfl, hw⟩; subst w') | (go_at_call 198; refine (U HST).mono ?_; rintro x W4 ⟨rfl, hB4⟩; have hM4 := (U HM1).below hB4 (by omega); have hB4z := hB4.size) | (go_at_call 194; refine (take_any M _ ov at' whole _ _ W4 hM4).mono ?_; rintro x W5 ⟨rfl, hM5, hF5⟩; have hr5 : W5.heap[W.heap.size]? = some (.cells #[.int .i64 0, .string ⟨#[]⟩, .int .i64 0, .int .i64 0] 40) := (hF5.block W.heap.size (by have := U HZ1; omega) (by omega)).trans ((hB4.block W.heap.size (by omega)).trans (U HR1)); obtain ⟨d0, d1, d2, d3⟩ := tok_cells hr5; have d4 := Lib.frozen_of_heap hr5; have d5 : W5.shape? W.heap.size = some (40, 4) := (by simp [World.shape?, hr5])));have hFt : Fr (fun k => k = M) W W5 := ((Fr.refl _ W).below ((U HB1).trans (hB4.mono (by omega)))).trans hF5;have hB6 := put4_below (W := W5) (Nat.le_refl W.heap.size) (.int .i64 whole) (.string (strOfNums pre)) ((.int .i64 (at' : Int))) (.int .i64 ((i : Int) + 1));have hr6 := put4_heap hr5 (.int .i64 whole) (.string (strOfNums pre)) ((.int .i64 (at' : Int))) (.int .i64 ((i : Int) + 1));obtain ⟨W6, hW6⟩ : ∃ W6, ((((W5.setCell ⟨W.heap.size, 0, none⟩ (.int .i64 whole)).setCell ⟨W.heap.size, 1, none⟩ (.string (strOfNums pre))).setCell ⟨W.heap.size, 2, none⟩ ((.int .i64 (at' : Int)))).setCell ⟨W.heap.size, 3, none⟩ (.int .i64 ((i : Int) + 1))) = W6 := ⟨_, rfl⟩
      rw [hW6] at hB6 hr6 ⊢;clear hW6;obtain ⟨e0, e1, e2, e3⟩ := tok_cells hr6;try rw [Exit.noGoto_ret]
      refine bodyPost_ret (v := .tuple #[.agg #[.int .i64 whole, .string (strOfNums pre), (.int .i64 (at' : Int)), .int .i64 ((i : Int) + 1)], .bool true]) ?_ rfl ⟨rfl, ⟨ov, hM5.below hB6 hml, (U HO).fr (hFt.below hB6), OB.refl _ _⟩, (hFt.below hB6).mono (fun k _ e => .inl e)⟩;clear d0 d1 d2 d3 d4 d5;simp [results, Tryz.results146, go_sem, e0, e1, e2, e3]
    have b96 : (r == 96) = false := beq_eq_false_iff_ne.2 e96;by_cases e36 : r = 36 ∧ i + 1 < len ∧ g (i + 1) = 123
    · obtain ⟨e36, hi1l, g123⟩ := e36
      rw [pieI_hole hi1l (k36.1 e36) g123] at hq0;have hq1 : some (pre ++ [], true, i + 2) = q := hq0;rw [List.append_nil] at hq1;subst hq1;subst e36;have hi1d : decide ((i : Int) + 1 < len) = true := decide_eq_true (by omega);obtain ⟨off, rfl, hcp, hmx, hcs⟩ := U (sl_cells (U HSA wr (U HBW))) (by omega);unfold maxLen at hmx;have hci := hcs (i + 1) hi1l;rw [g123] at hci;have cM2 := (U HMW).c2;have fM2 := (U HMW).frozen 2;have hmw := (U HMW).lt;obtain ⟨i0, hinf, hz0, hzz1, hz2⟩ := info_parts infoBool;have hOw := (U HO).below (U HBW) NL;have HOL : Hid (∀ k, ov.ownBlock = some k → M < k ∧ k < W.heap.size) := fun k hk => (U HO).lt hk
      have HOW := Hi hOw;have hi1' : (i : Int) + 1 < len := by omega
      clear hrune hesc k96 k36 k92 hq0 hcs hOw g123;go_wp2_with (first | (go_at_call 121; refine (U HD).mono ?_; rintro x w' ⟨rfl, hw⟩; subst w') | (at_builtin; refine wpList_append_lies _ rfl _ _ 70 rfl (M + 1) 4 i0 (.bool false) 1 1 Tryz.underlying70 hinf hz0 hzz1 hz2 rfl (by decide) _ _ _ rfl (World.ownsRow.alloc (U HOW) _) ⟨wr.heap.size, 0, none⟩ 1 1 [.bool true] rfl rfl ?c1 ?c2 (by decide) ?c3 ?c4 ?c5 (wr.heap.size + 1) ?c6 ?_))
      case c1 =>
       intro j u hj;match j, hj with
       | 0, hj => simp at hj; subst hj; simp [Addr.add]
       | (j + 1), hj => simp at hj
      case c2 => intro u hu; simp at hu; subst hu; rfl
      case c3 => unfold maxLen; omega
      case c4 => omega
      case c5 => simp; omega
      case c6 => simp
      intro g1 cap1 w2 hown2 hgrow hwh hlt2;have hal : Below wr.heap.size wr (wr.alloc (.cells #[.bool true] 4)) := (Below.refl _ wr).alloc NL _;have hMk : ∀ k, k < wr.heap.size → ov.ownBlock ≠ some k → w2.heap[k]? = wr.heap[k]? := fun k hk hn => (hgrow.block k (by simp; omega) (fun e => hn e.symm)).trans (hal.block k hk)
      have hM2 : MAt w2 M (.slice (some ⟨c, off, none⟩) len cap) at' ov := (hMk M hmw (fun e => by have := (U HOL M e).1; omega)).trans (U HMW);have hzw := hgrow.size;rw [World.size_alloc] at hzw
      have hg1M : M + 1 ≤ g1 := by
       rcases hwh with hwh | hwh
       · exact (U HOL g1 hwh).1
       · omega
      have hM3 := hM2.set2 (.slice (some ⟨g1, 0, none⟩) (bs.length + 1) cap1)
      have hO3 : OwnO (w2.setCell ⟨M, 2, none⟩ (.slice (some ⟨g1, 0, none⟩) (bs.length + 1) cap1)) M (.slice (some ⟨g1, 0, none⟩) (bs.length + 1) cap1) (bs ++ [true]) := by
       have h0 : OwnO w2 M (.slice (some ⟨g1, 0, none⟩) (bs.length + 1) cap1) (bs ++ [true]) := by
        unfold OwnO;rw [List.length_append, List.map_append];exact hown2
       exact h0.keep fun k hk => Below.heap_setCell w2 ⟨M, 2, none⟩ _ k (fun e => by cases hk; have e' : g1 = M := e; omega)
      have hFw : Fr (fun k => k = M ∨ ov.ownBlock = some k) W w2 := (((Fr.refl _ W).below (U HBW)).below (hal.mono (U HBW).size)).grown hgrow (fun k e _ => .inr e);have hF3 := hFw.set M 2 (.slice (some ⟨g1, 0, none⟩) (bs.length + 1) cap1) (.inl rfl);obtain ⟨⟨pb, vb, hpb, hbb⟩, hb1, hb2, hb3⟩ := U HG
      have hup : ∀ k, W.heap.size + 1 ≤ k → k < wr.heap.size → (w2.setCell ⟨M, 2, none⟩ (.slice (some ⟨g1, 0, none⟩) (bs.length + 1) cap1)).heap[k]? = wr.heap[k]? := fun k hk hk2 =>
       (Below.heap_setCell w2 ⟨M, 2, none⟩ _ k (fun e => by have e' : k = M := e; omega)).trans (hMk k hk2 (fun e => by have := (U HOL k e).2; omega))
      have hbb3 := hbb.up hup
      have hr3 : (w2.setCell ⟨M, 2, none⟩ (.slice (some ⟨g1, 0, none⟩) (bs.length + 1) cap1)).heap[W.heap.size]? = some (.cells #[.int .i64 0, .string ⟨#[]⟩, .int .i64 0, .int .i64 0] 40) :=
       ((Below.heap_setCell w2 ⟨M, 2, none⟩ _ _ (fun e => by have e' : W.heap.size = M := e; omega)).trans (hMk _ (by have := U HZ; have := U HZ1; omega) (fun e => by have := (U HOL _ e).2; omega))).trans (((U HBR).block W.heap.size (by omega)).trans (U HR1))
      have hz3 : wr.heap.size + 1 ≤ (w2.setCell ⟨M, 2, none⟩ (.slice (some ⟨g1, 0, none⟩) (bs.length + 1) cap1)).heap.size := by simpa [World.setCell] using hzw
      have f2 := hM2.frozen 2;have c2 := hM2.c2;have hmw2 := hM2.lt;obtain ⟨W3, hW3⟩ : ∃ W3, w2.setCell ⟨M, 2, none⟩ (.slice (some ⟨g1, 0, none⟩) (bs.length + 1) cap1) = W3 := ⟨_, rfl⟩;rw [hW3] at hM3 hO3 hF3 hup hbb3 hr3 hz3;have HST := Hi (bat_string (B := W.heap.size + 1) (W' := W3) (pre := pre) hpb hbb3 hb1 (by have := U HZ; have := U HZ1; omega));have HM3 := Hi hM3;have HO3 := Hi hO3;have HF3 := Hi hF3;have HR3 := Hi hr3;have HZ3 := Hi hz3;have HWH := Hi hwh;clear hown2 hgrow hwh hlt2 hal hMk hM2 hzw hg1M hM3 hO3 hFw hF3 hpb hbb hb1 hb2 hb3 hup hbb3 hr3 hz3 hinf hz0 hzz1 hz2;go_wp2_with (first | (go_at_call 198; refine (U HST).mono ?_; rintro x W4 ⟨rfl, hB4, hK4⟩; have HK4 := Hi hK4; clear hK4; have hM4 := (U HM3).below hB4 (by omega); have hB4z := hB4.size) | (go_at_call 194; refine (take_any M _ _ at' holed _ _ W4 hM4).mono ?_; rintro x W5 ⟨rfl, hM5, hF5⟩; have hr5 : W5.heap[W.heap.size]? = some (.cells #[.int .i64 0, .string ⟨#[]⟩, .int .i64 0, .int .i64 0] 40) := (hF5.block W.heap.size (by have := U HZ; have := U HZ1; have := U HZ3; omega) (by omega)).trans ((hB4.block W.heap.size (by omega)).trans (U HR3)); obtain ⟨d0, d1, d2, d3⟩ := tok_cells hr5; have d4 := Lib.frozen_of_heap hr5; have d5 : W5.shape? W.heap.size = some (40, 4) := (by simp [World.shape?, hr5])));have hFt : Fr (fun k => k = M ∨ ov.ownBlock = some k) W W5 := ((U HF3).below (hB4.mono (by omega))).trans (hF5.mono (fun k _ e => .inl e))
      have hO5 : OwnO W5 M (.slice (some ⟨g1, 0, none⟩) (bs.length + 1) cap1) (bs ++ [true]) := by
       refine (U HO3).keep fun k hk => ?_
       obtain rfl : g1 = k := by injection hk
       obtain ⟨cur, hcur⟩ : ∃ cur, W3.heap[g1]? = some (.cells cur 4 (0, 0)) := by
        rcases (U HO3).form with ⟨h0, _⟩ | ⟨g', cap', cur, hv, _, hh, _⟩
        · cases h0
        · injection hv with hv1
          injection hv1 with hv2
          injection hv2 with hv3
          subst hv3;exact ⟨cur, hh⟩
       have hlo := (U HO3).lt (k := g1) rfl
       have hgB : g1 ≠ W.heap.size + 1 := by
        rcases U HWH with h | h
        · have := (U HOL g1 h).2; omega
        · have := U HZ; have := U HZ1; omega
       have h4 := U HK4 g1 _ hcur (fun e => hgB (by injection e)) (fun c' fz e => by injection e with _ e2; exact absurd e2 (by decide));have hl4 : g1 < W4.heap.size := (Array.getElem?_eq_some_iff.1 h4).1;rw [hF5.block g1 hl4 (by omega), h4, hcur]
      have hgR : g1 ≠ W.heap.size := by
       rcases U HWH with h | h
       · have := (U HOL g1 h).2; omega
       · have := U HZ; have := U HZ1; omega
      have hK6 : (((((W5.setCell ⟨W.heap.size, 0, none⟩ (.int .i64 holed)).setCell ⟨W.heap.size, 1, none⟩ (.string (strOfNums pre))).setCell ⟨W.heap.size, 2, none⟩ (.int .i64 (at' : Int))).setCell ⟨W.heap.size, 3, none⟩ (.int .i64 ((i : Int) + 2)))).heap[g1]? = W5.heap[g1]? := put4_keep hgR _ _ _ _
      have hOBt : OB W ov (.slice (some ⟨g1, 0, none⟩) (bs.length + 1) cap1) := by
       rcases U HWH with h | h
       · exact .inl h.symm
       · exact .inr ⟨g1, rfl, by have := U HZ; have := U HZ1; omega⟩
      have hB6 := put4_below (W := W5) (Nat.le_refl W.heap.size) (.int .i64 holed) (.string (strOfNums pre)) ((.int .i64 (at' : Int))) (.int .i64 ((i : Int) + 2));have hr6 := put4_heap hr5 (.int .i64 holed) (.string (strOfNums pre)) ((.int .i64 (at' : Int))) (.int .i64 ((i : Int) + 2));obtain ⟨W6, hW6⟩ : ∃ W6, ((((W5.setCell ⟨W.heap.size, 0, none⟩ (.int .i64 holed)).setCell ⟨W.heap.size, 1, none⟩ (.string (strOfNums pre))).setCell ⟨W.heap.size, 2, none⟩ ((.int .i64 (at' : Int)))).setCell ⟨W.heap.size, 3, none⟩ (.int .i64 ((i : Int) + 2))) = W6 := ⟨_, rfl⟩;rw [hW6] at hB6 hr6 hK6 ⊢;clear hW6;obtain ⟨e0, e1, e2, e3⟩ := tok_cells hr6;try rw [Exit.noGoto_ret]
      refine bodyPost_ret (v := .tuple #[.agg #[.int .i64 holed, .string (strOfNums pre), (.int .i64 (at' : Int)), .int .i64 ((i : Int) + 2)], .bool true]) ?_ rfl ⟨rfl, ⟨_, hM5.below hB6 hml, hO5.keep (fun k hk => by obtain rfl : g1 = k := (by injection hk); exact hK6), hOBt⟩, hFt.below hB6⟩;clear d0 d1 d2 d3 d4 d5;simp [results, Tryz.results146, go_sem, e0, e1, e2, e3]
    have e36' : ¬ (g i = 36 ∧ i + 1 < len ∧ g (i + 1) = 123) := fun h => e36 ⟨k36.2 h.1, h.2⟩
    by_cases e92 : r = 92
    · have g92 := k92.1 e92
      subst e92;obtain ⟨a', c', hsl', hk⟩ := slice_from (U HSA wr (U HBW)) (lo := i) hi2;have HES := Hi (escape_any c a' (len - i) c' (fun j => g (i + j)) (fun j => hg _) wr (hk _ (U HSA wr (U HBW))) (by have := U HZ; have := U HZ1; omega) (by omega) (by simpa using g92) (by omega) (U HEA wr (U HBW)));rw [escE_shift] at HES;clear hrune k96 k36 k92 hk e36 e36';cases he : escE g len i with
      | none =>
        rw [pieI_bad hlt g92 he] at hq0;subst hq0;rw [he] at HES;have HES2 : Hid (Calls Tryz.prog 196 #[.slice a' (len - i) c'] wr fun x W' => x = .returned (.tuple #[.int .i32 0, .int .i64 0]) ∧ Below wr.heap.size wr W') := U HES;clear hesc he HES g92;go_wp2_with (first | (go_at_call 121; refine (U HD).mono ?_; rintro x w' ⟨rfl, hw⟩; subst w') | (go_at_call 196; refine (U HES2).mono ?_; rintro x W4 ⟨rfl, hB4⟩; have hBt := (U HBR).trans (hB4.mono (by have := U HZ; have := U HZ1; omega)); have hMt := (U HM1).below hBt (by omega); have hr5 : W4.heap[W.heap.size]? = some (.cells #[.int .i64 0, .string ⟨#[]⟩, .int .i64 0, .int .i64 0] 40) := (hBt.block W.heap.size (by omega)).trans (U HR1); obtain ⟨d0, d1, d2, d3⟩ := tok_cells hr5; have d4 := Lib.frozen_of_heap hr5; have d5 : W4.shape? W.heap.size = some (40, 4) := (by simp [World.shape?, hr5])));have hB6 := put4_below (W := W4) (Nat.le_refl W.heap.size) (.int .i64 0) (.string ⟨#[]⟩) (.int .i64 0) (.int .i64 0);have hr6 := put4_heap hr5 (.int .i64 0) (.string ⟨#[]⟩) (.int .i64 0) (.int .i64 0);obtain ⟨W6, hW6⟩ : ∃ W6, ((((W4.setCell ⟨W.heap.size, 0, none⟩ (.int .i64 0)).setCell ⟨W.heap.size, 1, none⟩ (.string ⟨#[]⟩)).setCell ⟨W.heap.size, 2, none⟩ (.int .i64 0)).setCell ⟨W.heap.size, 3, none⟩ (.int .i64 0)) = W6 := ⟨_, rfl⟩;rw [hW6] at hB6 hr6 ⊢;clear hW6;obtain ⟨e0, e1, e2, e3⟩ := tok_cells hr6;try rw [Exit.noGoto_ret]
        refine bodyPost_ret (v := .tuple #[.agg #[.int .i64 0, .string ⟨#[]⟩, .int .i64 0, .int .i64 0], .bool false]) ?_ rfl ⟨rfl, ((Fr.refl _ W).below ((U HB1).trans (hBt.mono (by omega)))).below hB6⟩;clear d0 d1 d2 d3 d4 d5;simp [results, Tryz.results146, go_sem, e0, e1, e2, e3]
      | some y =>
        obtain ⟨x, wd⟩ := y;have hw2 := escE_w he;have hxo := esc_ok hg he;rw [hesc hlt g92 he, pfx_oneP] at hq0;have HQ1 := Hi hq0;rw [he] at HES;have HES2 : Hid (Calls Tryz.prog 196 #[.slice a' (len - i) c'] wr fun z W' => z = .returned (.tuple #[.int .i32 x, .int .i64 (wd : Int)]) ∧ Below wr.heap.size wr W') := U HES;have bw0 : ((wd : Int) == 0) = false := beq_eq_false_iff_ne.2 (by omega);have HX := Hi hxo;have HW2 := Hi hw2;have hwl := hw2.2;have hwk := hw2.1;clear hesc he HES g92 hq0 hxo hw2;go_wp2_with (first | (go_at_call 121; refine (U HD).mono ?_; rintro x w' ⟨rfl, hw⟩; subst w') | (go_at_call 196; refine (U HES2).mono ?_; rintro z W4 ⟨rfl, hB4⟩));refine (gath_put (B := W.heap.size + 1) (W1 := W1) (pre := pre) (i := i) (j := i + wd) (Gath.on (U HG) hB4) (U HX) (by have := U HW2; omega) (by omega) (by have := U HZ1; omega)).mono ?_;rintro z W5 ⟨⟨u, rfl⟩, hG5⟩;have HG5 := Hi hG5;clear hG5;go_wp2;exact ⟨⟨i + wd, pre ++ Lib.encodeRuneZ x, by omega, (U HW2).2, by go_num, HG5, HQ1⟩, by have := (U HW2).1; simp [intOf]; omega⟩
    have b92 : (r == 92) = false := beq_eq_false_iff_ne.2 e92;rw [hrune (fun h => e96 (k96.2 h)) e36' (fun h => e92 (k92.2 h)), pfx_oneP] at hq0;have HQ1 := Hi hq0;have HX := Hi hok;have HN36 := Hi e36;obtain ⟨off, rfl, hcp, hmx, hcs⟩ := U (sl_cells (U HSA wr (U HBW))) (by omega);unfold maxLen at hmx;have HCS := Hi hcs;clear hrune hesc k96 k36 k92 hq0 hok e36 e36' hcs;by_cases e36 : r = 36
    · have b36 : (r == 36) = true := beq_iff_eq.2 e36
      by_cases hi1l : i + 1 < len
      · have hi1d : decide ((i : Int) + 1 < len) = true := decide_eq_true (by omega)
        have hi1' : (i : Int) + 1 < len := by omega
        have hci := U HCS (i + 1) hi1l;have b123 : (g (i + 1) == 123) = false := beq_eq_false_iff_ne.2 (fun h => U HN36 ⟨e36, hi1l, h⟩);clear e36;go_wp2_with (go_at_call 121; refine (U HD).mono ?_; rintro x w' ⟨rfl, hw⟩; subst w');refine (gath_put (B := W.heap.size + 1) (W1 := W1) (pre := pre) (i := i) (j := i + s) (U HG) (U HX) (by omega) (by omega) (by have := U HZ1; omega)).mono ?_;rintro z W5 ⟨⟨u, rfl⟩, hG5⟩;have HG5 := Hi hG5;clear hG5;go_wp2;exact ⟨⟨i + s, pre ++ Lib.encodeRuneZ r, by omega, by omega, by go_num, HG5, HQ1⟩, by simp [intOf]; omega⟩
      · have hi1d : decide ((i : Int) + 1 < len) = false := decide_eq_false (by omega)
        clear e36;go_wp2_with (go_at_call 121; refine (U HD).mono ?_; rintro x w' ⟨rfl, hw⟩; subst w');refine (gath_put (B := W.heap.size + 1) (W1 := W1) (pre := pre) (i := i) (j := i + s) (U HG) (U HX) (by omega) (by omega) (by have := U HZ1; omega)).mono ?_;rintro z W5 ⟨⟨u, rfl⟩, hG5⟩;have HG5 := Hi hG5;clear hG5;go_wp2;exact ⟨⟨i + s, pre ++ Lib.encodeRuneZ r, by omega, by omega, by go_num, HG5, HQ1⟩, by simp [intOf]; omega⟩
    · have b36 : (r == 36) = false := beq_eq_false_iff_ne.2 e36
      go_wp2_with (go_at_call 121; refine (U HD).mono ?_; rintro x w' ⟨rfl, hw⟩; subst w');refine (gath_put (B := W.heap.size + 1) (W1 := W1) (pre := pre) (i := i) (j := i + s) (U HG) (U HX) (by omega) (by omega) (by have := U HZ1; omega)).mono ?_;rintro z W5 ⟨⟨u, rfl⟩, hG5⟩;have HG5 := Hi hG5;clear hG5;go_wp2;exact ⟨⟨i + s, pre ++ Lib.encodeRuneZ r, by omega, by omega, by go_num, HG5, HQ1⟩, by simp [intOf]; omega⟩
  · have hq0 := U HP
    rw [pieI_end hlt] at hq0;subst hq0;have hin : inside len (i : Int) = false := by simp [inside]; omega
    have hz0 : stepN g len i = 0 := by simp [stepN, hlt]
    rw [(dOut hin g).1, hz0] at HD0;have HD := HD0;have hBt := U HBR;have hz1 := U HZ1;clear HD0 hin hz0;have hr5 : wr.heap[W.heap.size]? = some (.cells #[.int .i64 0, .string ⟨#[]⟩, .int .i64 0, .int .i64 0] 40) := (hBt.block W.heap.size (by omega)).trans (U HR1);obtain ⟨d0, d1, d2, d3⟩ := tok_cells hr5;have d4 := Lib.frozen_of_heap hr5;have d5 : wr.shape? W.heap.size = some (40, 4) := by simp [World.shape?, hr5]
    clear hBt hz1;go_wp2_with (go_at_call 121; refine (U HD).mono ?_; rintro x w' ⟨rfl, hw⟩; subst w');have hBt := U HBR;have hz1 := U HZ1;have hB6 := put4_below (W := wr) (Nat.le_refl W.heap.size) (.int .i64 0) (.string ⟨#[]⟩) (.int .i64 0) (.int .i64 0);have hr6 := put4_heap hr5 (.int .i64 0) (.string ⟨#[]⟩) (.int .i64 0) (.int .i64 0);obtain ⟨W6, hW6⟩ : ∃ W6, ((((wr.setCell ⟨W.heap.size, 0, none⟩ (.int .i64 0)).setCell ⟨W.heap.size, 1, none⟩ (.string ⟨#[]⟩)).setCell ⟨W.heap.size, 2, none⟩ (.int .i64 0)).setCell ⟨W.heap.size, 3, none⟩ (.int .i64 0)) = W6 := ⟨_, rfl⟩;rw [hW6] at hB6 hr6 ⊢;clear hW6;obtain ⟨e0, e1, e2, e3⟩ := tok_cells hr6;try rw [Exit.noGoto_ret]
    refine bodyPost_ret (v := .tuple #[.agg #[.int .i64 0, .string ⟨#[]⟩, .int .i64 0, .int .i64 0], .bool false]) ?_ rfl ⟨rfl, ((Fr.refl _ W).below ((U HB1).trans (hBt.mono (by omega)))).below hB6⟩;clear d0 d1 d2 d3 d4 d5;simp [results, Tryz.results146, go_sem, e0, e1, e2, e3]
end
end Go.Proofs.YtofgphapjjofnaaGreatDoor
