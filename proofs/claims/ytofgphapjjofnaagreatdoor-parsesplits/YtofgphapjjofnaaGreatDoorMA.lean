/- Towards the law: A2 B0 B1 C1 A3 F1 F2 K0 Sh B2 B3 D1. -/
import Derived.BigQuiet
import Derived.Deep.QuietTactic
import Derived.Laws.AppendOwnNone
import Derived.Laws.BytesArg
import Derived.Laws.Externs
import Derived.Laws.IdiomStrings
import Derived.Lib.AppendStr
import Derived.Lib.Builder
import Derived.Lib.Slices
import Derived.Lib.Strings
import Derived.Lib.UnsafeStr
import Derived.Lib.Walk
import Derived.LoopIn
import Derived.LoopNIn
import Derived.OwnWalkIn
import Derived.RangeFuncBound
import Derived.RangeFuncBox
import Derived.RangeFuncCalls
import Derived.RangeFuncLeaves
import Derived.RangeFuncNested
import Derived.Scope
import Derived.Shelf.Abstract
import Derived.Shelf.LaysM
import Derived.Shelf.RegionOpen
import Derived.Shelf.Strings.Builder1
import Derived.Shelf.Strings.BuilderK
import Derived.TacticsInMore
import Derived.WalkKit
import Derived.Test.YtofgphapjjofnaaGreatDoorM0
import Derived.Test.YtofgphapjjofnaaGreatDoorProg
set_option linter.unusedSimpArgs false
set_option linter.unusedVariables false
set_option maxRecDepth 100000
set_option maxHeartbeats 8000000
namespace Go.Proofs.YtofgphapjjofnaaGreatDoor
section
open Go.RowKit
theorem decode_out (a : Option Addr) (len cap : Nat) (p : Int) (w : World) (hlen : len ≤ maxLen) (h : inside len p = false) :
 Calls Tryz.prog 121 #[.slice a len cap, .int .i64 p] w fun e w' => e = .returned (.tuple #[.int .i32 0, .int .i64 0, .bool false]) ∧ w' = w := by
 unfold maxLen at hlen;have h' : ¬ (0 ≤ p ∧ p < len) := by simpa [inside] using h
 clear h;by_cases h1 : p < 0
 · go_enter Tryz.func121, Tryz.ntmps121
   go_wp2;go_ret3
   exact ⟨rfl, rfl⟩
 · have h2 : (len : Int) ≤ p := by omega
   clear h';go_enter Tryz.func121, Tryz.ntmps121;go_wp2;go_ret3
   exact ⟨rfl, rfl⟩
theorem dec_ret {a a' c c' : Int} {d d' : Bool} (h1 : a' = a) (h2 : c' = c) (h3 : d' = d) : Ending.returned (.tuple #[.int .i32 a, .int .i64 c, .bool d]) = .returned (.tuple #[.int .i32 a', .int .i64 c', .bool d']) := by rw [h1, h2, h3]
theorem decode_in (b off len cap i : Nat) (g : Nat → Int) (hg : ∀ j, 0 ≤ g j ∧ g j ≤ 255) (w : World) (hi : i < len) (hcap : len ≤ cap) (hm : cap ≤ maxLen)
 (hc : ∀ j, j < len → w.cell? ⟨b, off + j, none⟩ = some (.int .u8 (g j))) :
 Calls Tryz.prog 121 #[.slice (some ⟨b, off, none⟩) len cap, .int .i64 i] w fun e w' => e = .returned (.tuple #[.int .i32 (dRune g len i), .int .i64 (dSize g len i), .bool (dGood g len i)]) ∧ w' = w := by
 unfold maxLen at hm;have hx := hg i;have hci := hc i hi;have hw4 := wid_le (g i);by_cases hz : wid (g i) = 0
 · have hz' : (((wid (g i) : Nat) : Int) == 0) = true := by rw [hz]; rfl
   obtain ⟨e1, e2, e3⟩ := dBad hi (bad_wid0 (len := len) hz);rw [e1, e2, e3];clear hz e1 e2 e3 hc;go_enter Tryz.func121, Tryz.ntmps121;go_wp2_with (go_at_call 168; refine (asked_any (g i) (by omega) (by omega) _).mono ?_; rintro e w' ⟨rfl, rfl⟩);go_ret3
   exact ⟨rfl, rfl⟩
 · have hz' : (((wid (g i) : Nat) : Int) == 0) = false := by simp [hz]
   by_cases hl : len < i + wid (g i)
   · obtain ⟨e1, e2, e3⟩ := dBad hi (bad_len (len := len) hl)
     rw [e1, e2, e3];have hl' : (len : Int) - i < wid (g i) := by omega
     clear hz e1 e2 e3 hc hl;go_enter Tryz.func121, Tryz.ntmps121;go_wp2_with (go_at_call 168; refine (asked_any (g i) (by omega) (by omega) _).mono ?_; rintro e w' ⟨rfl, rfl⟩);go_ret3
     exact ⟨rfl, rfl⟩
   · have hl' : (wid (g i) : Int) ≤ (len : Int) - i := by omega
     have hlB : decide ((len : Int) - i < wid (g i)) = false := by simp; omega
     have hi0 : decide ((i : Int) < 0) = false := by simp
     by_cases hone : cap = i + 1
     · have hw1 : wid (g i) = 1 := by omega
       have HW : Hid (wid (g i) = 1) := hw1;clear hw1;go_enter Tryz.func121, Tryz.ntmps121;go_wp2_with (go_at_call 168; refine (asked_any (g i) (by omega) (by omega) _).mono ?_; rintro e w' ⟨rfl, rfl⟩);go_loop [8, 47] (fun r k => ∃ m : Nat, m ≤ wid (g i) - 1 ∧ k = .int .i64 m ∧ r = .int .i32 (acc g i m) ∧ conts g i m = true) (fun _ k => 4 - (intOf k).toNat)
       case atStart => exact ⟨0, Nat.zero_le _, rfl, rfl, rfl⟩
       case round =>
        obtain ⟨m, hmle, rfl, rfl, hcn⟩ := hrel;by_cases hlt : m < wid (g i) - 1
        · have := HW.out; omega
        · obtain rfl : m = wid (g i) - 1 := by omega
          have hlt' : ¬ (((wid (g i) - 1 : Nat) : Int) < ((i + wid (g i) - (i + 1) : Nat) : Int)) := by omega
          by_cases hls : acc g i (wid (g i) - 1) < lst (g i)
          · have HD := Hi (dBad hi (bad_lst (len := len) hls))
            clear hc;go_wp2;go_ret3
            exact ⟨dec_ret (U HD).1 (U HD).2.1 (U HD).2.2, rfl⟩
          · cases hal : alw (acc g i (wid (g i) - 1)) with
            | false =>
              have HD := Hi (dBad hi (bad_alw (len := len) hal));clear hc;go_wp2_with (go_at_call 169; refine (allowed_any _ _).mono ?_; rintro e w' ⟨rfl, rfl⟩);go_ret3
              exact ⟨dec_ret (U HD).1 (U HD).2.1 (U HD).2.2, rfl⟩
            | true =>
              have HD := Hi (dYes hi (good_of (len := len) hz (by omega) hcn (by omega) hal));clear hc;go_wp2_with (go_at_call 169; refine (allowed_any _ _).mono ?_; rintro e w' ⟨rfl, rfl⟩);go_ret3
              exact ⟨dec_ret (U HD).1 (U HD).2.1 (U HD).2.2, rfl⟩
     · have hone' : ¬ cap = i + 1 := hone
       go_enter Tryz.func121, Tryz.ntmps121;go_wp2_with (go_at_call 168; refine (asked_any (g i) (by omega) (by omega) _).mono ?_; rintro e w' ⟨rfl, rfl⟩);go_loop [8, 47] (fun r k => ∃ m : Nat, m ≤ wid (g i) - 1 ∧ k = .int .i64 m ∧ r = .int .i32 (acc g i m) ∧ conts g i m = true) (fun _ k => 4 - (intOf k).toNat)
       case atStart => exact ⟨0, Nat.zero_le _, rfl, rfl, rfl⟩
       case round =>
        obtain ⟨m, hmle, rfl, rfl, hcn⟩ := hrel;by_cases hlt : m < wid (g i) - 1
        · have hlt' : (m : Int) < ((i + wid (g i) - (i + 1) : Nat) : Int) := by omega
          have hcm := hc (i + 1 + m) (by omega);rw [show off + (i + 1 + m) = off + (i + 1) + m from by omega] at hcm;have hgm := hg (i + 1 + m);have hab := acc_lt2 hx.1 (by omega) hcn;by_cases hct : 128 ≤ g (i + 1 + m) ∧ g (i + 1 + m) ≤ 191
          · have hct' : (g (i + 1 + m) / 64 != 2) = false := by
             have : g (i + 1 + m) / 64 = 2 := by omega
             rw [this]; rfl
            have hrl : acc g i m * 64 + g (i + 1 + m) % 64 = acc g i (m + 1) := by simp only [acc]; omega
            have HR : Hid (acc g i m * 64 + g (i + 1 + m) % 64 = acc g i (m + 1)) := hrl;have hcn1 : conts g i (m + 1) = true := by simp only [conts, hcn, Bool.true_and, decide_eq_true_eq]; exact hct
            clear hrl hc;go_wp2;go_round
            case rel => exact ⟨m + 1, by omega, by go_num, by rw [HR.out], hcn1⟩
            case measure => simp [intOf]; omega
          · have hct' : (g (i + 1 + m) / 64 != 2) = true := by
             rw [bne_iff_ne]; omega
            have HD := Hi (dBad hi (bad_cont (len := len) hlt hct));clear hc;go_wp2;go_ret3
            exact ⟨dec_ret (U HD).1 (U HD).2.1 (U HD).2.2, rfl⟩
        · obtain rfl : m = wid (g i) - 1 := by omega
          have hlt' : ¬ (((wid (g i) - 1 : Nat) : Int) < ((i + wid (g i) - (i + 1) : Nat) : Int)) := by omega
          by_cases hls : acc g i (wid (g i) - 1) < lst (g i)
          · have HD := Hi (dBad hi (bad_lst (len := len) hls))
            clear hc;go_wp2;go_ret3
            exact ⟨dec_ret (U HD).1 (U HD).2.1 (U HD).2.2, rfl⟩
          · cases hal : alw (acc g i (wid (g i) - 1)) with
            | false =>
              have HD := Hi (dBad hi (bad_alw (len := len) hal));clear hc;go_wp2_with (go_at_call 169; refine (allowed_any _ _).mono ?_; rintro e w' ⟨rfl, rfl⟩);go_ret3
              exact ⟨dec_ret (U HD).1 (U HD).2.1 (U HD).2.2, rfl⟩
            | true =>
              have HD := Hi (dYes hi (good_of (len := len) hz (by omega) hcn (by omega) hal));clear hc;go_wp2_with (go_at_call 169; refine (allowed_any _ _).mono ?_; rintro e w' ⟨rfl, rfl⟩);go_ret3
              exact ⟨dec_ret (U HD).1 (U HD).2.1 (U HD).2.2, rfl⟩
end
section
def stepN (g : Nat → Int) (len i : Nat) : Nat := if i < len then (if good g len i then wid (g i) else 1) else 0
theorem dSize_nat (g : Nat → Int) (len i : Nat) : dSize g len i = (stepN g len i : Int) := by
 unfold dSize stepN;by_cases h : i < len
 · have : inside len (i : Int) = true := by simp [inside, h]
   cases hg : good g len i <;> simp [this, h, hg]
 · have : inside len (i : Int) = false := by simp [inside]; omega
   simp [this, h]
theorem step_pos {g : Nat → Int} {len i : Nat} (h : i < len) : 1 ≤ stepN g len i := by
 unfold stepN;cases hg : good g len i with
 | false => simp [h]
 | true => have := (good_inv hg).1; simp [h]; omega
theorem step_le {g : Nat → Int} {len i : Nat} (h : i ≤ len) : i + stepN g len i ≤ len := by
 unfold stepN;by_cases h' : i < len
 · cases hg : good g len i with
   | false => simp [h']; omega
   | true => have := (good_inv hg).2.1; simp [h']; omega
 · simp [h']; omega
theorem step_le4 (g : Nat → Int) (len i : Nat) : stepN g len i ≤ 4 := by
 unfold stepN;have := wid_le (g i)
 (repeat' split) <;> omega
def posn (g : Nat → Int) (len : Nat) : Nat → Nat
 | 0 => 0
 | k + 1 => posn g len k + stepN g len (posn g len k)
theorem posn_le (g : Nat → Int) (len : Nat) : ∀ k, posn g len k ≤ len
 | 0 => Nat.zero_le _
 | k + 1 => step_le (posn_le g len k)
theorem posn_ge {g : Nat → Int} {len : Nat} : ∀ {k}, (∀ j, j < k → posn g len j < len) → k ≤ posn g len k
 | 0, _ => Nat.zero_le _
 | k + 1, h => by
   have h1 := posn_ge (k := k) fun j hj => h j (by omega)
   have h2 := step_pos (g := g) (h k (by omega));simp only [posn]; omega
def upto {α : Type} (f : Nat → α) (k : Nat) : List α := (List.range k).map f
theorem upto_succ {α : Type} (f : Nat → α) (k : Nat) : upto f (k + 1) = upto f k ++ [f k] := by simp [upto, List.range_succ]
theorem upto_length {α : Type} (f : Nat → α) (k : Nat) : (upto f k).length = k := by simp [upto]
def Before (g : Nat → Int) (len k : Nat) : Prop := ∀ j, j < k → posn g len j < len
def Runes (g : Nat → Int) (len n : Nat) : Prop := posn g len n = len ∧ Before g len n
theorem Before.succ {g : Nat → Int} {len k : Nat} (h : Before g len k) (hk : posn g len k < len) : Before g len (k + 1) := fun j hj => by
 by_cases e : j = k
 · subst e; exact hk
 · exact h j (by omega)
theorem Runes.le {g : Nat → Int} {len n : Nat} (h : Runes g len n) : n ≤ len := by have := posn_ge h.2; have := posn_le g len n; omega
end
section
open Go.RowKit Go.Shelf
attribute [local go_sem] Oper.semAt_some
def KeepS (S0 : Nat → Prop) (W W' : World) : Prop := ∀ k, S0 k → W'.heap[k]? = W.heap[k]?
theorem KeepS.trans {S0 : Nat → Prop} {A B C : World} (h : KeepS S0 A B) (k : KeepS S0 B C) : KeepS S0 A C := fun i hi => (k i hi).trans (h i hi)
theorem KeepS.cell {S0 : Nat → Prop} {A B : World} (h : KeepS S0 A B) {p : Addr} (hp : S0 p.block) : B.cell? p = A.cell? p := World.cell?_of_block (w := A) (h p.block hp)
def Sl (W : World) (b : Nat) (sv : Value) (len : Nat) (g : Nat → Int) : Prop :=
 (∃ a cap, sv = .slice a 0 cap ∧ len = 0) ∨ ∃ off cap, sv = .slice (some ⟨b, off, none⟩) len cap ∧ 0 < len ∧ len ≤ cap ∧ cap ≤ maxLen ∧ ∀ j, j < len → W.cell? ⟨b, off + j, none⟩ = some (.int .u8 (g j))
theorem Sl.keep {b : Nat} {A B : World} (h : KeepS (fun k => k = b) A B) {sv : Value} {len : Nat} {g : Nat → Int} : Sl A b sv len g → Sl B b sv len g
 | .inl e => .inl e
 | .inr ⟨off, cap, e, h0, h1, h2, hc⟩ => .inr ⟨off, cap, e, h0, h1, h2, fun j hj => (h.cell (p := ⟨b, off + j, none⟩) rfl).trans (hc j hj)⟩
end
section
open Go.RowKit
theorem sizeB : (Tryz.prog.info? 139).map (·.size) = some 2 := by kernel_rfl
theorem liesB : liesAt Tryz.prog Tryz.prog.depth 139 (2 / Tryz.prog.cellsOf 139) 0 139 1 = true := by kernel_rfl
theorem infoByte : (Tryz.prog.info? 5).map (fun i => (i.zero, i.size, i.bytes)) = some (some (.int .u8 0), 1, 1) := by kernel_rfl
def BAt (B b : Nat) (p v : Value) (bs : List Value) (w : World) : Prop :=
 B ≤ b ∧ w.heap[b]? = some (.cells #[p, v] 139 (0, 0)) ∧ w.ownsRow B 5 1 v bs.length bs ∧ v.ownBlock ≠ some b
theorem BAt.is {B b : Nat} {v : Value} {bs : List Value} {w : World} (h : BAt B b (.pointer (some ⟨b, 0, none⟩)) v bs w) : Lib.BuilderAt 139 5 B b (.pointer (some ⟨b, 0, none⟩)) bs w := ⟨h.1, v, h.2⟩
theorem cc_used (b : Nat) (w : World) (h0 : w.cell? ⟨b, 0, none⟩ = some (.pointer (some ⟨b, 0, none⟩))) :
 Calls Tryz.prog 220 #[.pointer (some ⟨b, 0, none⟩)] w fun e w' => e = .returned (.tuple #[]) ∧ w' = w := by
 obtain ⟨j, hj, _⟩ := Option.map_eq_some_iff.1 sizeB;go_enter Tryz.func220, Tryz.ntmps220;go_wp2;rw [Lib.run_neq_ptr_same w _ Tryz.underlying137 hj];go_wp2;go_end0
 exact ⟨rfl, rfl⟩
theorem cc_fresh (b : Nat) (w : World) (h0 : w.cell? ⟨b, 0, none⟩ = some (.pointer none)) (hsh : w.shape? b = some (139, 2)) (hfz : w.frozen? ⟨b, 0, none⟩ = false) :
 Calls Tryz.prog 220 #[.pointer (some ⟨b, 0, none⟩)] w fun e w' => e = .returned (.tuple #[]) ∧ w' = w.setCell ⟨b, 0, none⟩ (.pointer (some ⟨b, 0, none⟩)) := by
 obtain ⟨j, hj, hjs⟩ := Option.map_eq_some_iff.1 sizeB;go_enter Tryz.func220, Tryz.ntmps220;go_wp2;rw [Lib.run_to_unsafe w ⟨b, 0, none⟩ Tryz.underlying137 Tryz.underlying166 hj (by rw [hjs]; decide) hsh (Nat.zero_lt_succ 1)];simp only [Result.andThen];rw [Oper.upon_value];go_wp2;rw [run_callFunc_extern Tryz.func241 (by kernel_rfl) (by kernel_rfl) (by kernel_rfl) (e := Extern.AbiNoEscape.same) (by kernel_rfl)];rw [Lib.run_noEscape];simp only [Result.andThen];rw [Oper.upon_value];go_wp2;rw [Lib.run_from_unsafe w ⟨b, 0, none⟩ Tryz.underlying166 Tryz.underlying137 hj hsh liesB];simp only [Result.andThen];rw [Oper.upon_value];go_wp2;go_end0
 exact ⟨rfl, rfl⟩
theorem BAt.lt {B b : Nat} {p v : Value} {bs : List Value} {w : World} (h : BAt B b p v bs w) : b < w.heap.size := by
 rcases Nat.lt_or_ge b w.heap.size with h' | h'
 · exact h'
 · have := h.2.1; simp [Array.getElem?_eq_none h'] at this
theorem BAt.set0 {B b : Nat} {p v : Value} {bs : List Value} {w : World} (h : BAt B b p v bs w) (q : Value) : BAt B b q v bs (w.setCell ⟨b, 0, none⟩ q) := by
 obtain ⟨hB, hb, hown, hne⟩ := h;refine ⟨hB, ?_, ?_, hne⟩
 · simp [World.setCell, Array.getElem?_modify, hb]
 · exact hown.kept (row := some b) ⟨rfl, rfl, rfl, by simp [World.setCell], fun k _ hk => Below.heap_setCell _ _ _ _ (fun e => hk (by simp [e]))⟩ (Or.inr hne)
theorem BAt.put {B b : Nat} {p v v' : Value} {bs' : List Value} {w : World} (hB : B ≤ b) (hb : w.heap[b]? = some (.cells #[p, v] 139 (0, 0))) (hown : w.ownsRow B 5 1 v' bs'.length bs') :
 BAt B b p v' bs' (w.setCell ⟨b, 1, none⟩ v') := by
 have hne := Lib.ownBlock_ne hown hb (by decide);refine ⟨hB, ?_, ?_, hne⟩
 · simp [World.setCell, Array.getElem?_modify, hb]
 · exact hown.kept (row := some b) ⟨rfl, rfl, rfl, by simp [World.setCell], fun k _ hk => Below.heap_setCell _ _ _ _ (fun e => hk (by simp [e]))⟩ (Or.inr hne)
theorem cc_any (B b : Nat) (p v : Value) (bs : List Value) (w : World) (hp : p = .pointer none ∨ p = .pointer (some ⟨b, 0, none⟩)) (h : BAt B b p v bs w) :
 Calls Tryz.prog 220 #[.pointer (some ⟨b, 0, none⟩)] w fun e w' => e = .returned (.tuple #[]) ∧ BAt B b (.pointer (some ⟨b, 0, none⟩)) v bs w' ∧ w.grownBy w' (some b) ∧ w'.heap.size = w.heap.size := by
 rcases hp with rfl | rfl
 · refine (cc_fresh b w (by rw [Lib.cell_of_heap h.2.1]; rfl) (by simp [World.shape?, h.2.1]) (Lib.frozen_of_heap h.2.1 0)).mono ?_
   rintro e w' ⟨rfl, rfl⟩;exact ⟨rfl, h.set0 _, grownBy_setCell' w b _, by simp [World.setCell]⟩
 · refine (cc_used b w (by rw [Lib.cell_of_heap h.2.1]; rfl)).mono ?_
   rintro e w' ⟨rfl, rfl⟩;exact ⟨rfl, h, ⟨rfl, rfl, rfl, NL, fun _ _ _ => rfl⟩, rfl⟩
theorem BAt.below {B b : Nat} {p v : Value} {bs : List Value} {w w' : World} (h : BAt B b p v bs w) (hb : Below w.heap.size w w') : BAt B b p v bs w' :=
 ⟨h.1, (hb.block b h.lt).trans h.2.1, h.2.2.1.kept (row := none) ⟨hb.os, hb.tape, hb.output, hb.size, fun k hk _ => hb.block k hk⟩ (by cases e : v.ownBlock <;> simp), h.2.2.2⟩
theorem BAt.kept {B b : Nat} {p v : Value} {bs : List Value} {w w' : World} {row : Option Nat} (h : BAt B b p v bs w) (hg : w.grownBy w' row) (hr : ∀ r, row = some r → ∃ o : Obj, w.heap[r]? = some o ∧ o.isCells = false) : BAt B b p v bs w' := by
 refine ⟨h.1, ?_, h.2.2.1.kept hg ?_, h.2.2.2⟩
 · rw [hg.block b h.lt ?_]
   · exact h.2.1
   · intro e
     obtain ⟨o, ho, hc⟩ := hr b e.symm;rw [h.2.1] at ho; cases ho; simp [Obj.isCells] at hc
 · rcases h.2.2.1.2 with ⟨rfl, _⟩ | ⟨g, cap, cur, rfl, _, hgg, _⟩
   · exact .inl rfl
   · refine .inr fun e => ?_
     obtain ⟨o, ho, hc⟩ := hr g e.symm;rw [hgg] at ho; cases ho; simp [Obj.isCells] at hc
theorem Sl.len {W : World} {b : Nat} {sv : Value} {len : Nat} {g : Nat → Int} (h : Sl W b sv len g) : ∃ a cap, sv = .slice a len cap := by
 rcases h with ⟨a, cap, rfl, rfl⟩ | ⟨off, cap, rfl, _⟩
 · exact ⟨a, cap, rfl⟩
 · exact ⟨_, cap, rfl⟩
theorem decode_sl {w : World} {b : Nat} {sv : Value} {len : Nat} {g : Nat → Int} (hg : ∀ j, 0 ≤ g j ∧ g j ≤ 255) (hS : Sl w b sv len g) (p : Int) :
 Calls Tryz.prog 121 #[sv, .int .i64 p] w fun e w' => e = .returned (.tuple #[.int .i32 (dRune g len p), .int .i64 (dSize g len p), .bool (dGood g len p)]) ∧ w' = w := by
 cases hin : inside len p with
 | false =>
   obtain ⟨e1, e2, e3⟩ := dOut hin g;rw [e1, e2, e3];rcases hS with ⟨a, cap, rfl, rfl⟩ | ⟨off, cap, rfl, h0, h1, h2, _⟩
   · exact decode_out a 0 cap p w (Nat.zero_le _) hin
   · exact decode_out _ len cap p w (Nat.le_trans h1 h2) hin
 | true =>
   have hp : 0 ≤ p ∧ p < len := by simpa [inside] using hin
   rcases hS with ⟨a, cap, rfl, rfl⟩ | ⟨off, cap, rfl, h0, h1, h2, hc⟩
   · omega
   · have := decode_in b off len cap p.toNat g hg w (by omega) h1 h2 hc
     rw [Int.toNat_of_nonneg hp.1] at this;exact this
def bcells (g : Nat → Int) (len : Nat) : List Value := upto (fun j => Value.int .u8 (g j)) len
theorem bcells_length (g : Nat → Int) (len : Nat) : (bcells g len).length = len := upto_length _ _
theorem bcells_get {g : Nat → Int} {len j : Nat} (h : j < len) : (bcells g len)[j]? = some (.int .u8 (g j)) := by simp [bcells, upto, h]
def Src (w : World) (sv : Value) (len : Nat) (g : Nat → Int) : Prop :=
 (sv = .slice none 0 0 ∧ len = 0) ∨ ∃ ad cap, sv = .slice (some ad) len cap ∧ ∀ j, j < len → w.cell? (ad.add j) = some (.int .u8 (g j))
theorem empty_owns (w : World) : (w.alloc (.cells #[] 5)).ownsRow w.heap.size 5 1 (.slice (some ⟨w.heap.size, 0, none⟩) 0 0) 0 [] :=
 ⟨rfl, .inr ⟨w.heap.size, 0, #[], rfl, NL, World.alloc_heap_new w _, NL, Nat.zero_le _, rfl, rfl⟩⟩
end
section
def sub (g : Nat → Int) (a b : Nat) : List Int := upto (fun j => g (a + j)) (b - a)
theorem sub_length (g : Nat → Int) (a b : Nat) : (sub g a b).length = b - a := by rw [sub, upto_length]
end
section
open Go.Shelf
def Tryz.lays169_ren : Go.Shelf.Ren := ⟨fun | 169 => 198 | n => n, fun | 70 => 137 | 9 => 9 | 0 => 0 | 72 => 139 | 37 => 22 | 127 => 153 | 3 => 3 | 5 => 5 | n => n, fun | n => n⟩
theorem Tryz.lays169 : Go.Proofs.Lays.n169 Tryz.prog Tryz.lays169_ren := {
 mixed := by kernel_rfl
 f169 := Tryz.func198.trans (congrArg some (by kernel_rfl))
 t0 := Tryz.underlying0
 a0 := Tryz.isAgg0
 z0 := Tryz.sizeOf0
 v0 := Tryz.zeroValue0
 t3 := Tryz.underlying3
 a3 := Tryz.isAgg3
 z3 := Tryz.sizeOf3
 v3 := Tryz.zeroValue3
 t9 := Tryz.underlying9
 a9 := Tryz.isAgg9
 z9 := Tryz.sizeOf9
 v9 := Tryz.zeroValue9
 t37 := Tryz.underlying22
 a37 := Tryz.isAgg22
 z37 := Tryz.sizeOf22
 v37 := Tryz.zeroValue22
 t70 := Tryz.underlying137
 a70 := Tryz.isAgg137
 z70 := Tryz.sizeOf137
 v70 := Tryz.zeroValue137
 t72 := Tryz.underlying139
 a72 := Tryz.isAgg139
 z72 := Tryz.sizeOf139
 v72 := Tryz.zeroValue139
 t127 := Tryz.underlying153
 a127 := Tryz.isAgg153
 z127 := Tryz.sizeOf153
 v127 := Tryz.zeroValue153 }
theorem Tryz.Builder_Extra_169 : Builder.Extra Tryz.prog Tryz.lays169_ren := {
 sizeBuilder := by kernel_rfl
 liesBuilder := by kernel_rfl
 t5 := Tryz.underlying5
 a5 := Tryz.isAgg5
 z5 := Tryz.sizeOf5
 v5 := Tryz.zeroValue5
 infoByte := by kernel_rfl
 cellsByte := by kernel_rfl
 sizeByte := by kernel_rfl
 neB5 := by decide }
open Go.RowKit in
theorem Tryz.Builder_String_k (B b : Nat) (l : List UInt8) (w : World) (h : Lib.IsBuilder 139 5 B b (Lib.byteCells l) w) (hBw : B ≤ w.heap.size) :
 Calls Tryz.prog 198 #[.pointer (some ⟨b, 0, none⟩)] w fun e w' => e = .returned (.string ⟨l.toArray⟩) ∧ Below B w w' ∧ Lib.OthersKept 5 (some b) w w' :=
 (Any.Builder_String_any_k Tryz.lays169 Tryz.Builder_Extra_169 B b l w (Lib.IsBuilderF.of h) hBw).mono fun _ _ ⟨h1, _, h2, h3⟩ => ⟨h1, h2, h3⟩
end
section
open Go.RowKit Go.Shelf
attribute [local go_sem] Oper.semAt_some
theorem wpIn_scope_wide {n : Nat} {P : Program} {Q : Exit → Act → World → Prop} {a : Act} {w : World} {c : Code} (h : c.wpIn Fence.wide n P (Exit.noGoto Q) a w) : (Code.scope c).wpIn Fence.wide n P Q a w :=
 wpIn_wide.2 (wp_scope_straight (wpIn_wide.1 h))
theorem KeepS.setCell {S0 : Nat → Prop} (W : World) (k : Nat) (v : Value) (h : ¬ S0 k) : KeepS S0 W (W.setCell ⟨k, 0, none⟩ v) := fun i hi => Below.heap_setCell W ⟨k, 0, none⟩ v i (fun e => h (by have e' : i = k := e; subst e'; exact hi))
theorem KeepS.refl {S0 : Nat → Prop} (W : World) : KeepS S0 W W := fun _ _ => rfl
end
section
open Go.RowKit Go.Shelf
attribute [local go_sem] Oper.semAt_some
def gS (s : ByteArray) (j : Nat) : Int := ((s.data[j]?.getD 0).toNat : Int)
theorem gS_bd (s : ByteArray) (j : Nat) : 0 ≤ gS s j ∧ gS s j ≤ 255 := by
 have := (s.data[j]?.getD 0).toNat_lt;unfold gS; omega
theorem conv_str (s : ByteArray) (w : World) (hs : s.size ≤ 4294967296) : ∃ cap C fr, (convert 9 22 (.string s)).run Tryz.prog w = .ok (.slice (some ⟨w.heap.size, 0, none⟩) s.size cap) (w.drew.alloc (.cells C 5 fr)) ∧
 s.size ≤ cap ∧ cap ≤ maxLen ∧ ∀ j, j < s.size → C[j]? = some (.int .u8 (gS s j)) := by
 refine ⟨_, _, _, run_bytes_of_string w 9 22 5 s Tryz.underlying9 Tryz.underlying22 Tryz.underlying5, grownCap_ge _ _ _ _, grownCap_le_maxLen _ _ _ _ (by unfold maxLen; omega), fun j hj => ?_⟩;have hj' : j < s.data.size := hj;have hj2 : j < s.size := hj;simp [bytesRow, Array.getElem?_append, hj', hj2, gS]
end
end Go.Proofs.YtofgphapjjofnaaGreatDoor
