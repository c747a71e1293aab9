/- text.ends: its iterator goes through the runes of any row of bytes, each with the byte behind it, for every loop body that keeps the row and the iterator's own box. -/
import Derived.RangeFuncNested
import Derived.RangeFuncBound
import Derived.RangeFuncCalls
import Derived.RangeFuncLeaves
import Derived.Shelf.Abstract
import Derived.Shelf.RegionOpen
import Derived.WalkKit
import Derived.OwnWalkIn
import Derived.TacticsInMore
import Derived.LoopNIn
import Derived.LoopIn
import Derived.Test.YtpdkeggiokebmaaDoorA2
import Derived.Test.YtpdkeggiokebmaaDoorB0
namespace Go.Proofs.YtpdkeggiokebmaaDoor
set_option linter.unusedSimpArgs false
set_option linter.unusedVariables false
open Go.RowKit Go.Shelf

attribute [local go_sem] Oper.semAt_some

/-- The blocks of a set stand as they stood. -/
def KeepS (S0 : Nat → Prop) (W W' : World) : Prop := ∀ k, S0 k → W'.heap[k]? = W.heap[k]?
theorem KeepS.trans {S0 : Nat → Prop} {A B C : World} (h : KeepS S0 A B) (k : KeepS S0 B C) : KeepS S0 A C := fun i hi => (k i hi).trans (h i hi)
theorem KeepS.cell {S0 : Nat → Prop} {A B : World} (h : KeepS S0 A B) {p : Addr} (hp : S0 p.block) : B.cell? p = A.cell? p := World.cell?_of_block (w := A) (h p.block hp)

/-- A row of bytes: nil and none of them, or so many cells of a block. -/
def Sl (W : World) (b : Nat) (sv : Value) (len : Nat) (g : Nat → Int) : Prop :=
  (∃ a cap, sv = .slice a 0 cap ∧ len = 0) ∨ ∃ off cap, sv = .slice (some ⟨b, off, none⟩) len cap ∧ 0 < len ∧ len ≤ cap ∧ cap ≤ maxLen ∧ ∀ j, j < len → W.cell? ⟨b, off + j, none⟩ = some (.int .u8 (g j))
theorem Sl.keep {b : Nat} {A B : World} (h : KeepS (fun k => k = b) A B) {sv : Value} {len : Nat} {g : Nat → Int} : Sl A b sv len g → Sl B b sv len g
  | .inl e => .inl e
  | .inr ⟨off, cap, e, h0, h1, h2, hc⟩ => .inr ⟨off, cap, e, h0, h1, h2, fun j hj => (h.cell (p := ⟨b, off + j, none⟩) rfl).trans (hc j hj)⟩

set_option maxRecDepth 100000 in
set_option maxHeartbeats 2000000 in
theorem ends1_in (n : Nat) (hn : 1 ≤ n) (l Bs b off len cap : Nat) (g : Nat → Int) (hg : ∀ j, 0 ≤ g j ∧ g j ≤ 255) (hcap : len ≤ cap) (hm : cap ≤ maxLen) (R : Nat × Int → Prop) (hR : ∀ k, posn g len k < len → R (endAt g len k)) (J Jx : List (Nat × Int) → World → Prop)
    (hY : ∀ pre x W, R x → J pre W → pre.length < len → YieldAt Fence.wide (n - 1) Tryd.prog l #[.int .i64 (x.1 : Int), .int .i32 x.2] W fun e W' =>
      (e = .returned (.bool true) ∧ J (pre ++ [x]) W' ∧ KeepS (fun k => k = Bs ∨ k = b) W W') ∨ (e = .returned (.bool false) ∧ Jx (pre ++ [x]) W'))
    (W : World) (hBs : W.cell? ⟨Bs, 0, none⟩ = some (.slice (some ⟨b, off, none⟩) len cap)) (hc : ∀ j, j < len → W.cell? ⟨b, off + j, none⟩ = some (.int .u8 (g j))) (h0 : J [] W) :
    CallsIn Fence.wide n Tryd.prog 37 #[.func (.yield l) #[] #[], .pointer (some ⟨Bs, 0, none⟩)] W fun e W' => (∃ v, e = .returned v) ∧
      ((∃ ys, (∃ m, Runes g len m ∧ ys = upto (endAt g len) m) ∧ J ys W') ∨ (∃ pre, (∃ k, Before g len k ∧ pre = upto (endAt g len) k) ∧ Jx pre W')) := by
  have HM := hide hm
  unfold maxLen at hm
  refine callsIn_of_wp Tryd.func37 rfl trivial ?_ rfl
  simp only [Tryd.ntmps37, List.size_toArray, List.length_cons, List.length_nil, Nat.reduceAdd, Nat.reduceSub, Array.replicate_succ, Array.replicate_zero, List.push_toArray, List.append_toArray, List.nil_append, List.cons_append]
  gi_wp2
  gi_loopw [3] (fun a wr => ∃ k : Nat, Before g len k ∧ a = .int .i64 (posn g len k) ∧ J (upto (endAt g len) k) wr ∧ KeepS (fun k => k = Bs ∨ k = b) W wr)
    (fun a _ => len - (intOf a).toNat)
  case atStart => exact ⟨0, fun j hj => by omega, rfl, h0, fun _ _ => rfl⟩
  case round =>
    obtain ⟨k, hbf, rfl, hJs, hks⟩ := hrel
    have hbx : wr.cell? ⟨Bs, 0, none⟩ = some (.slice (some ⟨b, off, none⟩) len cap) := (hks.cell (p := ⟨Bs, 0, none⟩) (.inl rfl)).trans hBs
    have HC := hide (fun (j : Nat) (hj : j < len) => (hks.cell (p := ⟨b, off + j, none⟩) (.inr rfl)).trans (hc j hj))
    by_cases hlt : posn g len k < len
    · have hkl := posn_ge hbf
      obtain ⟨fn, tmps, assign, body, hy, hR⟩ := hY _ (endAt g len k) wr (hR k hlt) hJs (by rw [upto_length]; omega)
      simp only [endAt, posn, Int.natCast_add] at hy
      have hds := dSize_nat g len (posn g len k)
      have hsl := step_le (g := g) (Nat.le_of_lt hlt)
      have hsp := step_pos (g := g) hlt
      have hlt' : (posn g len k : Int) < len := by omega
      gi_wp2_with (refine ⟨trivial, ?_⟩; gi_at_call 38; refine (callsIn_wide.2 (decode_in b off len cap (posn g len k) g hg _ hlt hcap HM.out HC.out)).mono ?_; rintro e w' ⟨rfl, rfl⟩)
      refine hR.mono ?_
      rintro e W3 (⟨rfl, hJ3, hk3⟩ | ⟨rfl, hJx3⟩)
      · gi_wp2
        go_roundw
        case rel => exact ⟨k + 1, hbf.succ hlt, by go_num, by rw [upto_succ]; exact hJ3, hks.trans hk3⟩
        case measure => simp [intOf]; omega
      · gi_wp2
        refine bodyPost_ret (results_none rfl _ _ _) rfl ?_
        exact ⟨⟨_, rfl⟩, .inr ⟨_, ⟨k + 1, hbf.succ hlt, (upto_succ _ _).symm⟩, hJx3⟩⟩
    · have hpl := posn_le g len k
      have hlt' : ¬ (posn g len k : Int) < len := by omega
      gi_wp2
      go_end0
      exact ⟨⟨_, rfl⟩, .inl ⟨_, ⟨k, ⟨by omega, hbf⟩, rfl⟩, hJs⟩⟩
end Go.Proofs.YtpdkeggiokebmaaDoor
