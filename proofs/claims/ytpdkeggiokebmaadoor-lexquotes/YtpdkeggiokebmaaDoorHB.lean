/- Merged: ZP2, N5, AR, QT, QU. -/
import Derived.BigQuiet
import Derived.Deep.QuietTactic
import Derived.Deep.RegionWith
import Derived.Laws.Runes
import Derived.Lib.RuneBytes
import Derived.LoopN
import Derived.Shelf.Utf8.AppendRune
import Derived.WalkMore
import Derived.Test.YtpdkeggiokebmaaDoorF1
import Derived.Test.YtpdkeggiokebmaaDoorHA
import Derived.Test.YtpdkeggiokebmaaDoorPU
import Derived.Test.YtpdkeggiokebmaaDoorSh
import Derived.Test.YtpdkeggiokebmaaDoorX4
import Derived.Test.YtpdkeggiokebmaaDoorX8
import Derived.Test.YtpdkeggiokebmaaDoorZP1
/- Tokens as plain data: strings, pieces of templates, numbers, signs; what a text's tokens are. -/
namespace Go.Proofs.YtpdkeggiokebmaaDoor
set_option linter.unusedSimpArgs false
set_option linter.unusedVariables false
open Go.Lib

/-- What a string says up to its closing mark, and the byte behind it. -/
def quoF (g : Nat → Int) (len : Nat) (mark : Int) : Nat → Nat → Option (List Int × Nat)
  | 0, _ => none
  | f + 1, i =>
    if ¬ i < len then none
    else if g i = 10 ∨ g i = 13 then none
    else if g i = mark then some ([], i + 1)
    else if g i = 92 then match escE g len i with
      | none => none
      | some (r, w) => match quoF g len mark f (i + w) with
        | none => none
        | some (t, e) => some (encodeRuneZ r ++ t, e)
    else match quoF g len mark f (i + stepN g len i) with
      | none => none
      | some (t, e) => some (encodeRuneZ (dRune g len i) ++ t, e)
def quoI (g : Nat → Int) (len : Nat) (mark : Int) (i : Nat) : Option (List Int × Nat) := quoF g len mark (len + 1 - i) i
theorem quoF_fuel {g : Nat → Int} {len : Nat} {mark : Int} : ∀ (f f' i : Nat), len - i < f → len - i < f' → quoF g len mark f i = quoF g len mark f' i
  | 0, _, i, h, _ => by omega
  | _ + 1, 0, i, _, h => by omega
  | f + 1, f' + 1, i, h, h' => by
    simp only [quoF]
    by_cases hl : i < len
    · have hl' : ¬ ¬ i < len := fun h => h hl
      rw [if_neg hl', if_neg hl']
      by_cases h1 : g i = 10 ∨ g i = 13
      · rw [if_pos h1, if_pos h1]
      rw [if_neg h1, if_neg h1]
      by_cases h2 : g i = mark
      · rw [if_pos h2, if_pos h2]
      rw [if_neg h2, if_neg h2]
      by_cases h3 : g i = 92
      · rw [if_pos h3, if_pos h3]
        cases he : escE g len i with
        | none => rfl
        | some rw' =>
          obtain ⟨r, w⟩ := rw'
          have := (escE_w he).1
          simp only
          rw [quoF_fuel f f' (i + w) (by omega) (by omega)]
      · rw [if_neg h3, if_neg h3]
        have := step_pos (g := g) hl
        rw [quoF_fuel f f' (i + stepN g len i) (by omega) (by omega)]
    · rw [if_pos hl, if_pos hl]
theorem quoI_end {g : Nat → Int} {len : Nat} {mark : Int} {i : Nat} (h : ¬ i < len) : quoI g len mark i = none := by
  unfold quoI
  cases e : len + 1 - i with
  | zero => rfl
  | succ f => rw [quoF, if_pos h]
theorem quoI_line {g : Nat → Int} {len : Nat} {mark : Int} {i : Nat} (h : i < len) (h1 : g i = 10 ∨ g i = 13) : quoI g len mark i = none := by
  unfold quoI
  rw [show len + 1 - i = (len - i) + 1 from by omega, quoF, if_neg (fun h' => h' h), if_pos h1]
theorem quoI_mark {g : Nat → Int} {len : Nat} {mark : Int} {i : Nat} (h : i < len) (h1 : ¬ (g i = 10 ∨ g i = 13)) (h2 : g i = mark) : quoI g len mark i = some ([], i + 1) := by
  unfold quoI
  rw [show len + 1 - i = (len - i) + 1 from by omega, quoF, if_neg (fun h' => h' h), if_neg h1, if_pos h2]
theorem quoI_bad {g : Nat → Int} {len : Nat} {mark : Int} {i : Nat} (h : i < len) (h1 : ¬ (g i = 10 ∨ g i = 13)) (h2 : g i ≠ mark) (h3 : g i = 92) (he : escE g len i = none) : quoI g len mark i = none := by
  unfold quoI
  rw [show len + 1 - i = (len - i) + 1 from by omega, quoF, if_neg (fun h' => h' h), if_neg h1, if_neg h2, if_pos h3, he]
/-- One rune more ahead. -/
def ahead1 (r : Int) (x : Option (List Int × Nat)) : Option (List Int × Nat) := match x with
  | none => none
  | some (t, e) => some (encodeRuneZ r ++ t, e)
theorem quoI_esc {g : Nat → Int} {len : Nat} {mark : Int} {i : Nat} {r : Int} {w : Nat} (h : i < len) (h1 : ¬ (g i = 10 ∨ g i = 13)) (h2 : g i ≠ mark) (h3 : g i = 92) (he : escE g len i = some (r, w)) : quoI g len mark i = ahead1 r (quoI g len mark (i + w)) := by
  have := (escE_w he).1
  unfold quoI
  rw [show len + 1 - i = (len - i) + 1 from by omega, quoF, if_neg (fun h' => h' h), if_neg h1, if_neg h2, if_pos h3, he]
  simp only
  rw [quoF_fuel (len - i) (len + 1 - (i + w)) (i + w) (by omega) (by have := (escE_w he).2; omega)]
  rfl
theorem quoI_rune {g : Nat → Int} {len : Nat} {mark : Int} {i : Nat} (h : i < len) (h1 : ¬ (g i = 10 ∨ g i = 13)) (h2 : g i ≠ mark) (h3 : g i ≠ 92) : quoI g len mark i = ahead1 (dRune g len i) (quoI g len mark (i + stepN g len i)) := by
  have h4 := step_pos (g := g) h
  have h5 := step_le (g := g) (len := len) (i := i) (by omega)
  unfold quoI
  rw [show len + 1 - i = (len - i) + 1 from by omega, quoF, if_neg (fun h' => h' h), if_neg h1, if_neg h2, if_neg h3]
  rw [quoF_fuel (len - i) (len + 1 - (i + stepN g len i)) (i + stepN g len i) (by omega) (by omega)]
  rfl

/-- What a piece of a template says up to its end; does a hole follow? -/
def pieF (g : Nat → Int) (len : Nat) : Nat → Nat → Option (List Int × Bool × Nat)
  | 0, _ => none
  | f + 1, i =>
    if ¬ i < len then none
    else if g i = 96 then some ([], false, i + 1)
    else if g i = 36 ∧ i + 1 < len ∧ g (i + 1) = 123 then some ([], true, i + 2)
    else if g i = 92 then match escE g len i with
      | none => none
      | some (r, w) => match pieF g len f (i + w) with
        | none => none
        | some (t, e) => some (encodeRuneZ r ++ t, e)
    else match pieF g len f (i + stepN g len i) with
      | none => none
      | some (t, e) => some (encodeRuneZ (dRune g len i) ++ t, e)
def pieI (g : Nat → Int) (len : Nat) (i : Nat) : Option (List Int × Bool × Nat) := pieF g len (len + 1 - i) i
theorem pieF_fuel {g : Nat → Int} {len : Nat} : ∀ (f f' i : Nat), len - i < f → len - i < f' → pieF g len f i = pieF g len f' i
  | 0, _, i, h, _ => by omega
  | _ + 1, 0, i, _, h => by omega
  | f + 1, f' + 1, i, h, h' => by
    simp only [pieF]
    by_cases hl : i < len
    · have hl' : ¬ ¬ i < len := fun h => h hl
      rw [if_neg hl', if_neg hl']
      by_cases h1 : g i = 96
      · rw [if_pos h1, if_pos h1]
      rw [if_neg h1, if_neg h1]
      by_cases h2 : g i = 36 ∧ i + 1 < len ∧ g (i + 1) = 123
      · rw [if_pos h2, if_pos h2]
      rw [if_neg h2, if_neg h2]
      by_cases h3 : g i = 92
      · rw [if_pos h3, if_pos h3]
        cases he : escE g len i with
        | none => rfl
        | some rw' =>
          obtain ⟨r, w⟩ := rw'
          have := (escE_w he).1
          simp only
          rw [pieF_fuel f f' (i + w) (by omega) (by omega)]
      · rw [if_neg h3, if_neg h3]
        have := step_pos (g := g) hl
        rw [pieF_fuel f f' (i + stepN g len i) (by omega) (by omega)]
    · rw [if_pos hl, if_pos hl]
theorem pieI_end {g : Nat → Int} {len : Nat} {i : Nat} (h : ¬ i < len) : pieI g len i = none := by
  unfold pieI
  cases e : len + 1 - i with
  | zero => rfl
  | succ f => rw [pieF, if_pos h]
theorem pieI_mark {g : Nat → Int} {len : Nat} {i : Nat} (h : i < len) (h1 : g i = 96) : pieI g len i = some ([], false, i + 1) := by
  unfold pieI
  rw [show len + 1 - i = (len - i) + 1 from by omega, pieF, if_neg (fun h' => h' h), if_pos h1]
theorem pieI_hole {g : Nat → Int} {len : Nat} {i : Nat} (h : i + 1 < len) (h1 : g i = 36) (h2 : g (i + 1) = 123) : pieI g len i = some ([], true, i + 2) := by
  unfold pieI
  rw [show len + 1 - i = (len - i) + 1 from by omega, pieF, if_neg (fun h' => h' (by omega)), if_neg (by omega), if_pos ⟨h1, h, h2⟩]
def aheadP (r : Int) (x : Option (List Int × Bool × Nat)) : Option (List Int × Bool × Nat) := match x with
  | none => none
  | some (t, e) => some (encodeRuneZ r ++ t, e)
theorem pieI_bad {g : Nat → Int} {len : Nat} {i : Nat} (h : i < len) (h3 : g i = 92) (he : escE g len i = none) : pieI g len i = none := by
  unfold pieI
  rw [show len + 1 - i = (len - i) + 1 from by omega, pieF, if_neg (fun h' => h' h), if_neg (by omega), if_neg (by omega), if_pos h3, he]
theorem pieI_esc {g : Nat → Int} {len : Nat} {i : Nat} {r : Int} {w : Nat} (h : i < len) (h3 : g i = 92) (he : escE g len i = some (r, w)) : pieI g len i = aheadP r (pieI g len (i + w)) := by
  have := (escE_w he).1
  unfold pieI
  rw [show len + 1 - i = (len - i) + 1 from by omega, pieF, if_neg (fun h' => h' h), if_neg (by omega), if_neg (by omega), if_pos h3, he]
  simp only
  rw [pieF_fuel (len - i) (len + 1 - (i + w)) (i + w) (by omega) (by have := (escE_w he).2; omega)]
  rfl
theorem pieI_rune {g : Nat → Int} {len : Nat} {i : Nat} (h : i < len) (h1 : g i ≠ 96) (h2 : ¬ (g i = 36 ∧ i + 1 < len ∧ g (i + 1) = 123)) (h3 : g i ≠ 92) : pieI g len i = aheadP (dRune g len i) (pieI g len (i + stepN g len i)) := by
  have h4 := step_pos (g := g) h
  have h5 := step_le (g := g) (len := len) (i := i) (by omega)
  unfold pieI
  rw [show len + 1 - i = (len - i) + 1 from by omega, pieF, if_neg (fun h' => h' h), if_neg h1, if_neg h2, if_neg h3]
  rw [pieF_fuel (len - i) (len + 1 - (i + stepN g len i)) (i + stepN g len i) (by omega) (by omega)]
  rfl
end Go.Proofs.YtpdkeggiokebmaaDoor

/- A rune as a string. -/
namespace Go.Proofs.YtpdkeggiokebmaaDoor
open Go.RowKit Go.Shelf
theorem nums_of (xs : List Int) (b : ByteArray) (h : b.data.toList = xs.map fun n => UInt8.ofNat n.toNat) : b = strOfNums xs := by
  apply ByteArray.ext
  apply Array.toList_inj.1
  rw [h, nums_list]
/-- The model's bytes of a rune are the library's. -/
theorem enc_eq (r : Int) : Utf8.encode r = strOfNums (Lib.encodeRuneZ r) := by
  apply nums_of
  by_cases hv : Utf8.valid r = true
  · have hv' : (0 ≤ r ∧ r < 55296) ∨ (57344 ≤ r ∧ r ≤ 1114111) := by simpa [Utf8.valid] using hv
    unfold Utf8.encode
    simp only [hv, if_true]
    by_cases h1 : r ≤ 127
    · rw [if_pos (by omega), Lib.encodeRuneZ, if_pos (by omega)]
      rfl
    rw [if_neg (by omega)]
    by_cases h2 : r ≤ 2047
    · rw [if_pos (by omega), Lib.encodeRuneZ, if_neg (by omega), if_pos (by omega)]
      simp only [List.map_cons, List.map_nil]
      rw [show (192 + r / 64).toNat = 192 + r.toNat / 64 from by omega, show (128 + r % 64).toNat = 128 + r.toNat % 64 from by omega]
    rw [if_neg (by omega)]
    by_cases h3 : r ≤ 65535
    · rw [if_pos (by omega), Lib.encodeRuneZ, if_neg (by omega), if_neg (by omega), if_pos (by omega)]
      simp only [List.map_cons, List.map_nil]
      rw [show (224 + r / 4096).toNat = 224 + r.toNat / 4096 from by omega, show (128 + r / 64 % 64).toNat = 128 + r.toNat / 64 % 64 from by omega, show (128 + r % 64).toNat = 128 + r.toNat % 64 from by omega]
    · rw [if_neg (by omega), Lib.encodeRuneZ, if_neg (by omega), if_neg (by omega), if_neg (by omega), if_pos (by omega)]
      simp only [List.map_cons, List.map_nil]
      rw [show (240 + r / 262144).toNat = 240 + r.toNat / 262144 from by omega, show (128 + r / 4096 % 64).toNat = 128 + r.toNat / 4096 % 64 from by omega, show (128 + r / 64 % 64).toNat = 128 + r.toNat / 64 % 64 from by omega, show (128 + r % 64).toNat = 128 + r.toNat % 64 from by omega]
  · have hv0 : Utf8.valid r = false := by simpa using hv
    have hv' : ¬ ((0 ≤ r ∧ r < 55296) ∨ (57344 ≤ r ∧ r ≤ 1114111)) := by
      intro h
      exact hv (by simpa [Utf8.valid] using h)
    have e : Lib.encodeRuneZ r = [239, 191, 189] := by rw [Lib.encodeRuneZ, if_neg (by omega), if_neg (by omega), if_neg (by omega), if_neg (by omega)]
    rw [e]
    unfold Utf8.encode
    simp only [hv0, Bool.false_eq_true, if_false, show Utf8.runeError = 65533 from rfl]
    decide
end Go.Proofs.YtpdkeggiokebmaaDoor

/- Any rune laid into a strings.Builder. -/
namespace Go.Proofs.YtpdkeggiokebmaaDoor
set_option linter.unusedSimpArgs false
set_option linter.unusedVariables false
open Go.RowKit Go.Shelf

set_option maxHeartbeats 4000000 in
set_option maxRecDepth 100000 in
theorem ar_two (B : Nat) (v : Value) (n : Nat) (xs : List Value) (r : Int) (h0 : 128 ≤ r) (h1 : r ≤ 2047) (w : World) (hown : w.ownsRow B 5 1 v n xs) (hlen : n + 4 ≤ 140737488355328) (hBw : B ≤ w.heap.size) :
    Calls Tryd.prog 95 #[v, .int .i32 r] w fun e w' => ∃ v', e = .returned v' ∧ w'.ownsRow B 5 1 v' (n + 2) (xs ++ [.int .u8 (192 + r / 64), .int .u8 (128 + r % 64)]) ∧ ∃ o, (w.alloc o).grownBy w' v.ownBlock := by
  obtain ⟨i0, hi, hz0, hz1, hz2⟩ := info_parts infoByte
  go_enter Tryd.func95, Tryd.ntmps95
  go_wp2_with (at_builtin; refine wpList_append_own _ rfl _ _ 22 rfl B 5 i0 (.int .u8 0) 1 1 Tryd.underlying22 hi hz0 hz1 hz2 rfl (by decide) _ _ _ rfl (hown.alloc _) ⟨w.heap.size, 0, none⟩ 2 2 [.int .u8 (192 + r / 64), .int .u8 (128 + r % 64)] rfl rfl ?c1 ?c2 ?c3 ?c4 ?c5 ?_)
  case c1 =>
    intro j u hj
    match j, hj with
    | 0, hj => simp at hj; subst hj; simp [Addr.add]
    | 1, hj => simp at hj; subst hj; simp [Addr.add]
    | (j + 2), hj => simp at hj
  case c2 => intro u hu; simp at hu; rcases hu with rfl | rfl <;> rfl
  case c3 => unfold maxLen; omega
  case c4 => omega
  case c5 => simp; omega
  intro v' w2 hown' hgrow _
  go_wp2
  go_ret
  exact ⟨_, rfl, hown', _, hgrow⟩
set_option maxHeartbeats 4000000 in
set_option maxRecDepth 100000 in
theorem ar_three_lo (B : Nat) (v : Value) (n : Nat) (xs : List Value) (r : Int) (h0 : 2048 ≤ r) (h1 : r < 55296) (w : World) (hown : w.ownsRow B 5 1 v n xs) (hlen : n + 4 ≤ 140737488355328) (hBw : B ≤ w.heap.size) :
    Calls Tryd.prog 95 #[v, .int .i32 r] w fun e w' => ∃ v', e = .returned v' ∧ w'.ownsRow B 5 1 v' (n + 3) (xs ++ [.int .u8 (224 + r / 4096), .int .u8 (128 + r / 64 % 64), .int .u8 (128 + r % 64)]) ∧ ∃ o, (w.alloc o).grownBy w' v.ownBlock := by
  obtain ⟨i0, hi, hz0, hz1, hz2⟩ := info_parts infoByte
  go_enter Tryd.func95, Tryd.ntmps95
  go_wp2_with (at_builtin; refine wpList_append_own _ rfl _ _ 22 rfl B 5 i0 (.int .u8 0) 1 1 Tryd.underlying22 hi hz0 hz1 hz2 rfl (by decide) _ _ _ rfl (hown.alloc _) ⟨w.heap.size, 0, none⟩ 3 3 [.int .u8 (224 + r / 4096), .int .u8 (128 + r / 64 % 64), .int .u8 (128 + r % 64)] rfl rfl ?c1 ?c2 ?c3 ?c4 ?c5 ?_)
  case c1 =>
    intro j u hj
    match j, hj with
    | 0, hj => simp at hj; subst hj; simp [Addr.add]
    | 1, hj => simp at hj; subst hj; simp [Addr.add]
    | 2, hj => simp at hj; subst hj; simp [Addr.add]
    | (j + 3), hj => simp at hj
  case c2 => intro u hu; simp at hu; rcases hu with rfl | rfl | rfl <;> rfl
  case c3 => unfold maxLen; omega
  case c4 => omega
  case c5 => simp; omega
  intro v' w2 hown' hgrow _
  go_wp2
  go_ret
  exact ⟨_, rfl, hown', _, hgrow⟩
set_option maxHeartbeats 4000000 in
set_option maxRecDepth 100000 in
theorem ar_three_hi (B : Nat) (v : Value) (n : Nat) (xs : List Value) (r : Int) (h0 : 57343 < r) (h1 : r ≤ 65535) (w : World) (hown : w.ownsRow B 5 1 v n xs) (hlen : n + 4 ≤ 140737488355328) (hBw : B ≤ w.heap.size) :
    Calls Tryd.prog 95 #[v, .int .i32 r] w fun e w' => ∃ v', e = .returned v' ∧ w'.ownsRow B 5 1 v' (n + 3) (xs ++ [.int .u8 (224 + r / 4096), .int .u8 (128 + r / 64 % 64), .int .u8 (128 + r % 64)]) ∧ ∃ o, (w.alloc o).grownBy w' v.ownBlock := by
  obtain ⟨i0, hi, hz0, hz1, hz2⟩ := info_parts infoByte
  go_enter Tryd.func95, Tryd.ntmps95
  go_wp2_with (at_builtin; refine wpList_append_own _ rfl _ _ 22 rfl B 5 i0 (.int .u8 0) 1 1 Tryd.underlying22 hi hz0 hz1 hz2 rfl (by decide) _ _ _ rfl (hown.alloc _) ⟨w.heap.size, 0, none⟩ 3 3 [.int .u8 (224 + r / 4096), .int .u8 (128 + r / 64 % 64), .int .u8 (128 + r % 64)] rfl rfl ?c1 ?c2 ?c3 ?c4 ?c5 ?_)
  case c1 =>
    intro j u hj
    match j, hj with
    | 0, hj => simp at hj; subst hj; simp [Addr.add]
    | 1, hj => simp at hj; subst hj; simp [Addr.add]
    | 2, hj => simp at hj; subst hj; simp [Addr.add]
    | (j + 3), hj => simp at hj
  case c2 => intro u hu; simp at hu; rcases hu with rfl | rfl | rfl <;> rfl
  case c3 => unfold maxLen; omega
  case c4 => omega
  case c5 => simp; omega
  intro v' w2 hown' hgrow _
  go_wp2
  go_ret
  exact ⟨_, rfl, hown', _, hgrow⟩
set_option maxHeartbeats 4000000 in
set_option maxRecDepth 100000 in
theorem ar_four (B : Nat) (v : Value) (n : Nat) (xs : List Value) (r : Int) (h0 : 65536 ≤ r) (h1 : r ≤ 1114111) (w : World) (hown : w.ownsRow B 5 1 v n xs) (hlen : n + 4 ≤ 140737488355328) (hBw : B ≤ w.heap.size) :
    Calls Tryd.prog 95 #[v, .int .i32 r] w fun e w' => ∃ v', e = .returned v' ∧ w'.ownsRow B 5 1 v' (n + 4) (xs ++ [.int .u8 (240 + r / 262144), .int .u8 (128 + r / 4096 % 64), .int .u8 (128 + r / 64 % 64), .int .u8 (128 + r % 64)]) ∧ ∃ o, (w.alloc o).grownBy w' v.ownBlock := by
  obtain ⟨i0, hi, hz0, hz1, hz2⟩ := info_parts infoByte
  go_enter Tryd.func95, Tryd.ntmps95
  go_wp2_with (at_builtin; refine wpList_append_own _ rfl _ _ 22 rfl B 5 i0 (.int .u8 0) 1 1 Tryd.underlying22 hi hz0 hz1 hz2 rfl (by decide) _ _ _ rfl (hown.alloc _) ⟨w.heap.size, 0, none⟩ 4 4 [.int .u8 (240 + r / 262144), .int .u8 (128 + r / 4096 % 64), .int .u8 (128 + r / 64 % 64), .int .u8 (128 + r % 64)] rfl rfl ?c1 ?c2 ?c3 ?c4 ?c5 ?_)
  case c1 =>
    intro j u hj
    match j, hj with
    | 0, hj => simp at hj; subst hj; simp [Addr.add]
    | 1, hj => simp at hj; subst hj; simp [Addr.add]
    | 2, hj => simp at hj; subst hj; simp [Addr.add]
    | 3, hj => simp at hj; subst hj; simp [Addr.add]
    | (j + 4), hj => simp at hj
  case c2 => intro u hu; simp at hu; rcases hu with rfl | rfl | rfl | rfl <;> rfl
  case c3 => unfold maxLen; omega
  case c4 => omega
  case c5 => simp; omega
  intro v' w2 hown' hgrow _
  go_wp2
  go_ret
  exact ⟨_, rfl, hown', _, hgrow⟩
theorem cells_eq (r : Int) : Lib.runeCells r = (Lib.encodeRuneZ r).map fun x => Value.int .u8 x := rfl
/-- A rune that may be: what is no surrogate and no greater than the greatest. -/
def okR (r : Int) : Prop := 0 ≤ r ∧ alw r = true
theorem okR_cases {r : Int} (h : okR r) : (0 ≤ r ∧ r < 128) ∨ (128 ≤ r ∧ r ≤ 2047) ∨ (2048 ≤ r ∧ r < 55296) ∨ (57343 < r ∧ r ≤ 65535) ∨ (65536 ≤ r ∧ r ≤ 1114111) := by
  obtain ⟨h0, h1⟩ := h
  simp only [alw, decide_eq_true_eq] at h1
  omega
theorem rune_len (r : Int) : (Lib.runeCells r).length ≤ 4 := by
  rw [cells_eq, List.length_map]
  unfold Lib.encodeRuneZ
  (repeat' split) <;> simp
theorem ar_any (B : Nat) (v : Value) (n : Nat) (xs : List Value) (r : Int) (hr : okR r) (h128 : 128 ≤ r) (w : World) (hown : w.ownsRow B 5 1 v n xs) (hlen : n + 4 ≤ 140737488355328) (hBw : B ≤ w.heap.size) :
    Calls Tryd.prog 95 #[v, .int .i32 r] w fun e w' => ∃ v', e = .returned v' ∧ w'.ownsRow B 5 1 v' (n + (Lib.runeCells r).length) (xs ++ Lib.runeCells r) ∧ (∀ k, k < w.heap.size → v.ownBlock ≠ some k → w'.heap[k]? = w.heap[k]?) ∧ Below B w w' := by
  have hfin : ∀ (w' : World) (o : Obj), (w.alloc o).grownBy w' v.ownBlock → (∀ k, k < w.heap.size → v.ownBlock ≠ some k → w'.heap[k]? = w.heap[k]?) ∧ Below B w w' := fun w' o hgrow =>
    ⟨fun k hk hkv => by rw [hgrow.block k (by simp; omega) (fun e => hkv e.symm), Lib.alloc_old w _ k hk], ((Below.refl B w).alloc hBw _).grown hgrow (by simp; omega) (fun k hk => (hown.lt k hk).1)⟩
  rcases okR_cases hr with h | h | h | h | h
  · omega
  · have e : Lib.runeCells r = [.int .u8 (192 + r / 64), .int .u8 (128 + r % 64)] := by rw [cells_eq, Lib.encodeRuneZ, if_neg (by omega), if_pos h]; rfl
    rw [e]
    exact (ar_two B v n xs r h.1 h.2 w hown hlen hBw).mono fun x w' ⟨v', hx, ho, o, hg⟩ => ⟨v', hx, ho, hfin w' o hg⟩
  · have e : Lib.runeCells r = [.int .u8 (224 + r / 4096), .int .u8 (128 + r / 64 % 64), .int .u8 (128 + r % 64)] := by rw [cells_eq, Lib.encodeRuneZ, if_neg (by omega), if_neg (by omega), if_pos (.inl h)]; rfl
    rw [e]
    exact (ar_three_lo B v n xs r h.1 h.2 w hown hlen hBw).mono fun x w' ⟨v', hx, ho, o, hg⟩ => ⟨v', hx, ho, hfin w' o hg⟩
  · have e : Lib.runeCells r = [.int .u8 (224 + r / 4096), .int .u8 (128 + r / 64 % 64), .int .u8 (128 + r % 64)] := by rw [cells_eq, Lib.encodeRuneZ, if_neg (by omega), if_neg (by omega), if_pos (.inr h)]; rfl
    rw [e]
    exact (ar_three_hi B v n xs r h.1 h.2 w hown hlen hBw).mono fun x w' ⟨v', hx, ho, o, hg⟩ => ⟨v', hx, ho, hfin w' o hg⟩
  · have e : Lib.runeCells r = [.int .u8 (240 + r / 262144), .int .u8 (128 + r / 4096 % 64), .int .u8 (128 + r / 64 % 64), .int .u8 (128 + r % 64)] := by rw [cells_eq, Lib.encodeRuneZ, if_neg (by omega), if_neg (by omega), if_neg (by omega), if_pos h]; rfl
    rw [e]
    exact (ar_four B v n xs r h.1 h.2 w hown hlen hBw).mono fun x w' ⟨v', hx, ho, o, hg⟩ => ⟨v', hx, ho, hfin w' o hg⟩
set_option maxRecDepth 100000 in
set_option maxHeartbeats 1000000 in
theorem apr_any (B : Nat) (v : Value) (n : Nat) (xs : List Value) (r : Int) (hr : okR r) (w : World) (hown : w.ownsRow B 5 1 v n xs) (hn : n + 4 ≤ 140737488355328) (hB : B ≤ w.heap.size) :
    Calls Tryd.prog 80 #[v, .int .i32 r] w fun e w' => ∃ v', e = .returned v' ∧ w'.ownsRow B 5 1 v' (n + (Lib.runeCells r).length) (xs ++ Lib.runeCells r) ∧ (∀ k, k < w.heap.size → v.ownBlock ≠ some k → w'.heap[k]? = w.heap[k]?) ∧ Below B w w' := by
  by_cases h128 : r < 128
  · have e : Lib.runeCells r = [.int .u8 r] := by rw [cells_eq, Lib.encodeRuneZ, if_pos ⟨hr.1, by omega⟩]; rfl
    rw [e]
    exact apr_ascii B v n xs r w hown hr.1 h128 (by omega) hB
  · have HA := hide (ar_any B v n xs r hr (by omega) w hown hn hB)
    obtain ⟨hr0, hr1⟩ : 0 ≤ r ∧ r ≤ 1114111 := by have := okR_cases hr; omega
    have k1 : IntKind.u32.wrap r = r := by
      have : r % 4294967296 = r := by omega
      unfold IntKind.wrap
      simp [IntKind.bits, IntKind.signed, this]
    have h127 : ¬ r ≤ 127 := by omega
    have h127b : decide (r ≤ 127) = false := by simpa using h127
    clear hown hr
    go_enter Tryd.func80, Tryd.ntmps80
    go_wp2_with (go_at_call 95; refine (unhide HA).mono ?_; rintro x w2 ⟨v', rfl, ho⟩; have HO := hide ho; clear ho)
    go_ret
    exact ⟨v', rfl, unhide HO⟩
set_option maxRecDepth 100000 in
set_option maxHeartbeats 1000000 in
theorem wr_any (B b : Nat) (p v : Value) (bs : List Value) (r : Int) (hr : okR r) (w : World) (hp : p = .pointer none ∨ p = .pointer (some ⟨b, 0, none⟩)) (h : BAt B b p v bs w) (hlen : bs.length + 4 ≤ 140737488355328) (hBw : B ≤ w.heap.size) :
    Calls Tryd.prog 69 #[.pointer (some ⟨b, 0, none⟩), .int .i32 r] w fun e w' => (∃ u, e = .returned u) ∧ ∃ v', BAt B b (.pointer (some ⟨b, 0, none⟩)) v' (bs ++ Lib.runeCells r) w' ∧ Below B w w' := by
  have HP := hide hp
  have hrl := rune_len r
  have hrp : 0 < (Lib.runeCells r).length := by
    rw [cells_eq, List.length_map]
    unfold Lib.encodeRuneZ
    (repeat' split) <;> simp
  have HAP : Hid (∀ (v : Value) (w : World), w.ownsRow B 5 1 v bs.length bs → B ≤ w.heap.size → Calls Tryd.prog 80 #[v, .int .i32 r] w fun e w' => ∃ v', e = .returned v' ∧ w'.ownsRow B 5 1 v' (bs.length + (Lib.runeCells r).length) (bs ++ Lib.runeCells r) ∧ (∀ k, k < w.heap.size → v.ownBlock ≠ some k → w'.heap[k]? = w.heap[k]?) ∧ Below B w w') := fun v w ho hb => apr_any B v bs.length bs r hr w ho hlen hb
  obtain ⟨rc, hrc⟩ : ∃ rc, Lib.runeCells r = rc := ⟨_, rfl⟩
  rw [hrc] at HAP hrl hrp ⊢
  have HRL := hide hrl
  have HRP := hide hrp
  clear hrc hrl hrp hp hr
  go_enter Tryd.func69, Tryd.ntmps69
  go_wp2_with (go_at_call 36; refine (cc_any B b p v bs _ (unhide HP) h).mono ?_)
  rintro e w1 ⟨rfl, ⟨hB, hbk, hown, hne⟩, hg1, hs1⟩
  have HS1 := hide hs1
  clear hs1
  have c0 : w1.cell? ⟨b, 0, none⟩ = some (.pointer (some ⟨b, 0, none⟩)) := by rw [Lib.cell_of_heap hbk]; rfl
  have c1 : w1.cell? ⟨b, 1, none⟩ = some v := by rw [Lib.cell_of_heap hbk]; rfl
  obtain ⟨ao, cv, rfl⟩ : ∃ ao cv, v = .slice ao bs.length cv := by
    rcases hown.2 with ⟨h, h0⟩ | ⟨gw, cap, cur, h, _⟩
    · exact ⟨none, 0, by rw [h, h0]⟩
    · exact ⟨_, cap, h⟩
  have hbl : b < w1.heap.size := BAt.lt ⟨hB, hbk, hown, hne⟩
  have HA := hide (unhide HAP _ w1 hown (by have := unhide HS1; omega))
  go_wp2_with (go_at_call 80; refine (unhide HA).mono ?_; rintro x w2 ⟨v', rfl, hown2, hkeep, hB2⟩; have hb2 := (hkeep b hbl hne).trans hbk; have d0 : w2.cell? ⟨b, 0, none⟩ = some (.pointer (some ⟨b, 0, none⟩)) := (by rw [Lib.cell_of_heap hb2]; rfl); have d1 : w2.cell? ⟨b, 1, none⟩ = some (.slice ao bs.length cv) := (by rw [Lib.cell_of_heap hb2]; rfl); have f1 : w2.frozen? ⟨b, 1, none⟩ = false := Lib.frozen_of_heap hb2 1; obtain ⟨ao', cv', rfl⟩ : ∃ ao' cv', v' = .slice ao' (bs.length + rc.length) cv' := (by have := unhide HRP; rcases hown2.2 with ⟨h, h0⟩ | ⟨gw, cap, cur, h, _⟩ <;> first | omega | exact ⟨_, cap, h⟩); have HO2 := hide hown2; have HK := hide hkeep; clear hown2 hkeep)
  go_ret2
  refine ⟨⟨_, rfl⟩, _, BAt.put hB hb2 (bs' := bs ++ rc) (by simpa using unhide HO2), ?_⟩
  exact (((Below.refl B w).grown hg1 hBw (fun k e => by cases e; exact hB)).trans hB2).setCell (p := ⟨b, 1, none⟩) hB _
end Go.Proofs.YtpdkeggiokebmaaDoor

/- Runes that are decoded or said by escapes; what is gathered of a string. -/
namespace Go.Proofs.YtpdkeggiokebmaaDoor
set_option linter.unusedSimpArgs false
set_option linter.unusedVariables false
open Go.RowKit Go.Shelf

theorem dr_low {g : Nat → Int} (hg : ∀ j, 0 ≤ g j ∧ g j ≤ 255) {len i : Nat} (hi : i < len) (h : g i < 128) : dRune g len i = g i ∧ stepN g len i = 1 := by
  have hw : wid (g i) = 1 := by simp [wid, h]
  have hd : dig (g i) = g i := by simp [dig, h]
  have hl : lst (g i) = 0 := by simp [lst, h]
  have h0 := (hg i).1
  have hgd : good g len i = true := by
    simp only [good, hw, hl, Bool.and_eq_true, decide_eq_true_eq]
    refine ⟨⟨⟨⟨by omega, by omega⟩, rfl⟩, ?_⟩, ?_⟩
    · show 0 ≤ dig (g i)
      omega
    · show alw (dig (g i)) = true
      rw [hd]
      simp [alw]
      omega
  obtain ⟨e1, e2, e3⟩ := dYes hi hgd
  rw [hw] at e1 e2
  refine ⟨by rw [e1]; exact hd, ?_⟩
  rw [dSize_nat] at e2
  exact_mod_cast e2
theorem good_parts {g : Nat → Int} {len i : Nat} (h : good g len i = true) : wid (g i) ≠ 0 ∧ i + wid (g i) ≤ len ∧ conts g i (wid (g i) - 1) = true ∧ lst (g i) ≤ acc g i (wid (g i) - 1) ∧ alw (acc g i (wid (g i) - 1)) = true := by
  simp only [good, Bool.and_eq_true, decide_eq_true_eq] at h
  exact ⟨h.1.1.1.1, h.1.1.1.2, h.1.1.2, h.1.2, h.2⟩
theorem dr_ok {g : Nat → Int} (hg : ∀ j, 0 ≤ g j ∧ g j ≤ 255) {len i : Nat} (hi : i < len) : okR (dRune g len i) := by
  cases hgd : good g len i with
  | false =>
    rw [(dBad hi hgd).1]
    exact ⟨by decide, by decide⟩
  | true =>
    obtain ⟨_, _, hc, _, ha⟩ := good_parts hgd
    rw [(dYes hi hgd).1]
    exact ⟨(acc_bd (hg i).1 hc).1, ha⟩
theorem dr_hi {g : Nat → Int} (hg : ∀ j, 0 ≤ g j ∧ g j ≤ 255) {len i : Nat} (hi : i < len) (h : 128 ≤ g i) : 128 ≤ dRune g len i := by
  cases hgd : good g len i with
  | false =>
    rw [(dBad hi hgd).1]
    decide
  | true =>
    obtain ⟨hw, _, _, hl, _⟩ := good_parts hgd
    rw [(dYes hi hgd).1]
    refine Int.le_trans ?_ hl
    revert hw
    unfold wid lst
    (repeat' split) <;> intros <;> omega
theorem dr_eq {g : Nat → Int} (hg : ∀ j, 0 ≤ g j ∧ g j ≤ 255) {len i : Nat} (hi : i < len) {x : Int} (hx : x < 128) : dRune g len i = x ↔ g i = x := by
  rcases Int.lt_or_le (g i) 128 with h | h
  · rw [(dr_low hg hi h).1]
  · have := dr_hi hg hi h
    constructor <;> intro e <;> omega
theorem enc_bd {r : Int} (h : okR r) : ∀ x ∈ Lib.encodeRuneZ r, 0 ≤ x ∧ x ≤ 255 := by
  intro x hx
  rcases okR_cases h with h1 | h1 | h1 | h1 | h1
  · rw [Lib.encodeRuneZ, if_pos (by omega)] at hx
    simp at hx; omega
  · rw [Lib.encodeRuneZ, if_neg (by omega), if_pos h1] at hx
    simp at hx; omega
  · rw [Lib.encodeRuneZ, if_neg (by omega), if_neg (by omega), if_pos (.inl h1)] at hx
    simp at hx; omega
  · rw [Lib.encodeRuneZ, if_neg (by omega), if_neg (by omega), if_pos (.inr h1)] at hx
    simp at hx; omega
  · rw [Lib.encodeRuneZ, if_neg (by omega), if_neg (by omega), if_neg (by omega), if_pos h1] at hx
    simp at hx; omega
theorem esc_ok {g : Nat → Int} (hg : ∀ j, 0 ≤ g j ∧ g j ≤ 255) {len i : Nat} {r : Int} {w : Nat} (h : escE g len i = some (r, w)) : okR r := by
  unfold escE at h
  by_cases h0 : ¬ i + 1 < len
  · rw [if_pos h0] at h; cases h
  rw [if_neg h0] at h
  have key : ∀ {x : Int}, (some (x, 2) : Option (Int × Nat)) = some (r, w) → 0 ≤ x ∧ x < 128 → okR r := fun e hx => by
    injection e with e
    injection e with e _
    subst e
    exact ⟨hx.1, by simp [alw]; omega⟩
  by_cases e1 : g (i + 1) = 110
  · rw [if_pos e1] at h; exact key h (by decide)
  rw [if_neg e1] at h
  by_cases e2 : g (i + 1) = 114
  · rw [if_pos e2] at h; exact key h (by decide)
  rw [if_neg e2] at h
  by_cases e3 : g (i + 1) = 116
  · rw [if_pos e3] at h; exact key h (by decide)
  rw [if_neg e3] at h
  by_cases e4 : g (i + 1) = 48
  · rw [if_pos e4] at h; exact key h (by decide)
  rw [if_neg e4] at h
  by_cases e5 : g (i + 1) = 92 ∨ g (i + 1) = 34 ∨ g (i + 1) = 39 ∨ g (i + 1) = 36 ∨ g (i + 1) = 96
  · rw [if_pos e5] at h; exact key h (by omega)
  rw [if_neg e5] at h
  unfold numE at h
  split at h
  · rename_i hc
    injection h with h
    injection h with h _
    subst h
    have hs := stopI_spec (p := hexB) (g := g) (len := len) (i := i + 3) (by omega)
    exact ⟨(hexV_bd fun j hj => hs.2.2.1 (i + 3 + j) (by omega) (by omega)).1, hc.2.2.2.2.2.2.2⟩
  · cases h
/-- Bytes ahead of what follows. -/
def pfx {α : Type} (pre : List Int) (x : Option (List Int × α)) : Option (List Int × α) := match x with
  | none => none
  | some (t, e) => some (pre ++ t, e)
theorem pfx_nil {α : Type} (x : Option (List Int × α)) : pfx [] x = x := by
  cases x with
  | none => rfl
  | some y => rfl
theorem pfx_one (pre : List Int) (r : Int) (x : Option (List Int × Nat)) : pfx pre (ahead1 r x) = pfx (pre ++ Lib.encodeRuneZ r) x := by
  cases x with
  | none => rfl
  | some y => simp [pfx, ahead1]
theorem pfx_oneP (pre : List Int) (r : Int) (x : Option (List Int × Bool × Nat)) : pfx pre (aheadP r x) = pfx (pre ++ Lib.encodeRuneZ r) x := by
  cases x with
  | none => rfl
  | some y => simp [pfx, aheadP]
/-- Bytes as cells. -/
def cellsZ (l : List Int) : List Value := l.map fun x => Value.int .u8 x
theorem cellsZ_len (l : List Int) : (cellsZ l).length = l.length := by simp [cellsZ]
theorem cellsZ_rune (pre : List Int) (r : Int) : cellsZ pre ++ Lib.runeCells r = cellsZ (pre ++ Lib.encodeRuneZ r) := by simp [cellsZ, cells_eq]
theorem cellsZ_bytes {l : List Int} (h : ∀ x ∈ l, 0 ≤ x ∧ x ≤ 255) : cellsZ l = Lib.byteCells (l.map fun n => UInt8.ofNat n.toNat) := by
  unfold cellsZ Lib.byteCells
  rw [List.map_map]
  apply List.map_congr_left
  intro x hx
  have := h x hx
  show Value.int .u8 x = .int .u8 ((UInt8.ofNat x.toNat).toNat : Int)
  rw [UInt8.toNat_ofNat']
  congr 1
  omega
theorem enc_len (r : Int) : (Lib.encodeRuneZ r).length ≤ 4 := by
  have := rune_len r
  rw [cells_eq, List.length_map] at this
  exact this
/-- A token that was taken, or none. -/
def tkR (at' : Nat) : Option (Int × List Int × Nat) → Value
  | none => .tuple #[tokV 0 ⟨#[]⟩ 0 0, .bool false]
  | some (k, t, e) => .tuple #[tokV k (strOfNums t) at' (e : Int), .bool true]
def tkA (at' : Nat) : Option (Int × List Int × Nat) → Int
  | none => at'
  | some (_, _, e) => e
/-- A string's token. -/
def quoP (g : Nat → Int) (len : Nat) (mark : Int) (at' : Nat) : Option (Int × List Int × Nat) := (quoI g len mark (at' + 1)).map fun x => (4, x)
def TokPost (W : World) (M : Nat) (bv ov : Value) (at' : Nat) (q : Option (Int × List Int × Nat)) (x : Ending) (W' : World) : Prop :=
  x = .returned (tkR at' q) ∧ MAt W' M bv (tkA at' q) ov ∧ Fr (fun k => k = M) W W'
theorem ErrG.fr {S0 : Nat → Prop} {W W' : World} {i : Nat} (h : ErrG W i) (hf : Fr S0 W W') (hs : ¬ S0 i) : ErrG W' i := by
  obtain ⟨ev, hv, hev⟩ := h
  exact ⟨ev, by rw [World.cell?_of_block (w := W) (hf.block i (Lib.lt_of_cell hv) hs)]; exact hv, hev⟩
theorem ErrG.below {n : Nat} {W W' : World} {i : Nat} (h : ErrG W i) (hf : Below n W W') (hs : i < n) : ErrG W' i := by
  obtain ⟨ev, hv, hev⟩ := h
  exact ⟨ev, (hf.cell (show (⟨i, 0, none⟩ : Addr).block < n from hs)).trans hv, hev⟩
theorem ErrG.lt {W : World} {i : Nat} (h : ErrG W i) : i < W.heap.size := by
  obtain ⟨ev, hv, _⟩ := h
  exact Lib.lt_of_cell hv
end Go.Proofs.YtpdkeggiokebmaaDoor

/- lex's machine: a string. -/
namespace Go.Proofs.YtpdkeggiokebmaaDoor
set_option linter.unusedSimpArgs false
set_option linter.unusedVariables false
open Go.RowKit Go.Shelf

/-- What a loop that gathers bytes keeps: the builder, the bytes so far. -/
def Gath (B : Nat) (W1 : World) (pre : List Int) (i : Nat) (W' : World) : Prop :=
  (∃ p v, (p = .pointer none ∨ p = .pointer (some ⟨B, 0, none⟩)) ∧ BAt B B p v (cellsZ pre) W') ∧ (∀ x ∈ pre, 0 ≤ x ∧ x ≤ 255) ∧ pre.length ≤ 4 * i ∧ Below B W1 W'
theorem gath_put {B : Nat} {W1 W' : World} {pre : List Int} {i j : Nat} {r : Int} (h : Gath B W1 pre i W') (hr : okR r) (hij : i < j) (hi : i ≤ 1099511627776) (hB : B ≤ W1.heap.size) :
    Calls Tryd.prog 69 #[.pointer (some ⟨B, 0, none⟩), .int .i32 r] W' fun e w' => (∃ u, e = .returned u) ∧ Gath B W1 (pre ++ Lib.encodeRuneZ r) j w' := by
  obtain ⟨⟨p, v, hp, hb⟩, h1, h2, h3⟩ := h
  have hz := h3.size
  refine (wr_any B B p v (cellsZ pre) r hr W' hp hb (by rw [cellsZ_len]; omega) (by omega)).mono ?_
  rintro e w' ⟨hu, v', hb', hB'⟩
  rw [cellsZ_rune] at hb'
  refine ⟨hu, ⟨_, v', .inr rfl, hb'⟩, fun x hx => ?_, ?_, h3.trans hB'⟩
  · rcases List.mem_append.1 hx with h | h
    · exact h1 x h
    · exact enc_bd hr x h
  · rw [List.length_append]
    have := enc_len r
    omega
theorem Gath.on {B : Nat} {W1 W' W'' : World} {pre : List Int} {i : Nat} (h : Gath B W1 pre i W') (hb : Below W'.heap.size W' W'') : Gath B W1 pre i W'' := by
  obtain ⟨⟨p, v, hp, hB⟩, h1, h2, h3⟩ := h
  have hz := hB.lt
  have hl := hB.1
  exact ⟨⟨p, v, hp, hB.below hb⟩, h1, h2, h3.trans (hb.mono (by omega))⟩
theorem gath_string {B : Nat} {W1 W' : World} {pre : List Int} {i : Nat} (h : Gath B W1 pre i W') (hB : B ≤ W1.heap.size) :
    Calls Tryd.prog 30 #[.pointer (some ⟨B, 0, none⟩)] W' fun e w' => e = .returned (.string (strOfNums pre)) ∧ Below B W1 w' := by
  obtain ⟨⟨p, v, hp, hb⟩, h1, h2, h3⟩ := h
  have hz := h3.size
  rw [cellsZ_bytes h1] at hb
  have his : Lib.IsBuilder 52 5 B B (Lib.byteCells (pre.map fun n => UInt8.ofNat n.toNat)) W' := by
    rcases hp with rfl | rfl
    · exact .inl ⟨hb.1, v, hb.2⟩
    · exact .inr hb.is
  refine (Tryd.Builder_String_k B B _ W' his (by omega)).mono ?_
  rintro e w' ⟨rfl, hB', _⟩
  exact ⟨rfl, h3.trans hB'⟩

attribute [local go_sem] tokV
set_option maxRecDepth 100000 in
set_option maxHeartbeats 4000000 in
theorem quoted_any (M c : Nat) (a : Option Addr) (len cap : Nat) (g : Nat → Int) (hg : ∀ j, 0 ≤ g j ∧ g j ≤ 255) (at' : Nat) (ov : Value) (mark : Int) (hmk : mark = 34 ∨ mark = 39) (W : World) (h : MAt W M (.slice a len cap) at' ov) (hS : Sl W c (.slice a len cap) len g) (hc : c < W.heap.size) (hat : at' < len) (hlen : len ≤ 1099511627776) (hE : ErrG W 1) :
    Calls Tryd.prog 52 #[.pointer (some ⟨M, 0, none⟩), .int .i32 mark] W (TokPost W M (.slice a len cap) ov at' (quoP g len mark at')) := by
  obtain ⟨q, hq⟩ : ∃ q, quoI g len mark (at' + 1) = q := ⟨_, rfl⟩
  have HQ := hide hq
  have hqp : quoP g len mark at' = q.map fun x => (4, x) := by unfold quoP; rw [hq]
  rw [hqp]
  clear hq hqp
  obtain ⟨W1, hW1⟩ : ∃ W1, (W.alloc (.cells #[.int .i64 0, .string ⟨#[]⟩, .int .i64 0, .int .i64 0] 33)).alloc (.cells #[.pointer none, .slice none 0 0] 52) = W1 := ⟨_, rfl⟩
  have hB1 : Below W.heap.size W W1 := by rw [← hW1]; exact ((Below.refl _ W).alloc (Nat.le_refl _) _).alloc (by simp) _
  have hz1 : W1.heap.size = W.heap.size + 1 + 1 := by rw [← hW1]; simp
  have hr1 : W1.heap[W.heap.size]? = some (.cells #[.int .i64 0, .string ⟨#[]⟩, .int .i64 0, .int .i64 0] 33) := by rw [← hW1]; exact (Below.heap_alloc _ _ _ (by simp)).trans (World.alloc_heap_new W _)
  have hb1 : BAt (W.heap.size + 1) (W.heap.size + 1) (.pointer none) (.slice none 0 0) [] W1 := by
    refine ⟨Nat.le_refl _, ?_, World.ownsRow_nil _ _ _ _, by simp [Value.ownBlock]⟩
    have := World.alloc_heap_new (W.alloc (.cells #[.int .i64 0, .string ⟨#[]⟩, .int .i64 0, .int .i64 0] 33)) (.cells #[.pointer none, .slice none 0 0] 52)
    rw [World.size_alloc] at this
    rw [← hW1]; exact this
  have hM1 := h.below hB1 h.lt
  have hml := h.lt
  have HSA : Hid (∀ W', Below W.heap.size W W' → Sl W' c (.slice a len cap) len g) := fun W' hb => hS.keep (fun k e => by subst e; exact hb.block k hc)
  have HEA : Hid (∀ W', Below W.heap.size W W' → ErrG W' 1) := fun W' hb => hE.below hb hE.lt
  have c0 := hM1.c0
  have c1 := hM1.c1
  have HG0 : Hid (Gath (W.heap.size + 1) W1 [] (at' + 1) W1) := ⟨⟨_, _, .inl rfl, hb1⟩, by simp, by simp, Below.refl _ _⟩
  have HM1 := hide hM1
  have HB1 := hide hB1
  have HR1 := hide hr1
  have HZ1 := hide hz1
  clear hS hb1 hE hB1 hr1 hM1 hz1
  go_enter Tryd.func52, Tryd.ntmps52
  go_wp2
  go_step3
  go_wp2
  go_step3
  go_wp2
  clear hW1 c0 c1
  go_loopw [7] (fun t wr => ∃ (i : Nat) (pre : List Int), at' + 1 ≤ i ∧ i ≤ len ∧ t = .int .i64 (i : Int) ∧ Hid (Gath (W.heap.size + 1) W1 pre i wr) ∧ Hid (pfx pre (quoI g len mark i) = q)) (fun t _ => len - (intOf t).toNat)
  case atStart => exact ⟨at' + 1, [], Nat.le_refl _, by omega, by go_num, unhide HG0, by show pfx [] _ = q; rw [pfx_nil]; exact unhide HQ⟩
  case round =>
    obtain ⟨i, pre, hi1, hi2, rfl, HG, HP⟩ := hrel
    clear HQ HG0
    have hBr : Below (W.heap.size + 1) W1 wr := (unhide HG).2.2.2
    have hBw : Below W.heap.size W wr := (unhide HB1).trans (hBr.mono (by omega))
    have hMw := (unhide HM1).below hBr (by omega)
    have c0 := hMw.c0
    have hz := hBr.size
    have HZ := hide hz
    have HBR := hide hBr
    have HBW := hide hBw
    have HMW := hide hMw
    have HD0 := hide (decode_sl hg (unhide HSA wr hBw) (i : Int))
    rw [dSize_nat] at HD0
    clear hz hBr hBw hMw
    by_cases hlt : i < len
    · have hok := dr_ok hg hlt
      have hsp := step_pos (g := g) hlt
      have hsl := step_le (g := g) (len := len) (i := i) hi2
      have hs4 := step_le4 g len i
      have k10 := dr_eq hg hlt (x := 10) (by decide)
      have k13 := dr_eq hg hlt (x := 13) (by decide)
      have k92 := dr_eq hg hlt (x := 92) (by decide)
      have kmk := dr_eq hg hlt (x := mark) (by omega)
      have hrune := @quoI_rune g len mark i hlt
      have hesc := @quoI_esc g len mark i
      obtain ⟨r, hr⟩ : ∃ r, dRune g len i = r := ⟨_, rfl⟩
      obtain ⟨s, hs⟩ : ∃ s, stepN g len i = s := ⟨_, rfl⟩
      rw [hr] at HD0 hok k10 k13 k92 kmk hrune
      rw [hs] at HD0 hsp hsl hs4 hrune
      have HD := HD0
      clear hr hs HD0
      have bs0 : ((s : Int) == 0) = false := beq_eq_false_iff_ne.2 (by omega)
      have hq0 := unhide HP
      have hBt := unhide HBR
      have hMt := unhide HMW
      have hz1 := unhide HZ1
      have hml1 : M < W.heap.size + 1 := by omega
      by_cases e10 : r = 10
      · rw [quoI_line hlt (by have := k10.1 e10; omega)] at hq0
        subst e10
        subst hq0
        clear hrune hesc k10 k13 k92 kmk
        have hr5 : wr.heap[W.heap.size]? = some (.cells #[.int .i64 0, .string ⟨#[]⟩, .int .i64 0, .int .i64 0] 33) := (hBt.block W.heap.size (by omega)).trans (unhide HR1)
        obtain ⟨d0, d1, d2, d3⟩ := tok_cells hr5
        have d4 := Lib.frozen_of_heap hr5
        have d5 : wr.shape? W.heap.size = some (33, 4) := by simp [World.shape?, hr5]
        clear hBt hMt hz1
        go_wp2_with (go_at_call 38; refine (unhide HD).mono ?_; rintro x w' ⟨rfl, hw⟩; subst w')
        have hBt := unhide HBR
        have hMt := unhide HMW
        have hz1 := unhide HZ1
        have hB6 := put4_below (W := wr) (Nat.le_refl W.heap.size) (.int .i64 0) (.string ⟨#[]⟩) (.int .i64 0) (.int .i64 0)
        have hr6 := put4_heap hr5 (.int .i64 0) (.string ⟨#[]⟩) (.int .i64 0) (.int .i64 0)
        obtain ⟨W6, hW6⟩ : ∃ W6, ((((wr.setCell ⟨W.heap.size, 0, none⟩ (.int .i64 0)).setCell ⟨W.heap.size, 1, none⟩ (.string ⟨#[]⟩)).setCell ⟨W.heap.size, 2, none⟩ (.int .i64 0)).setCell ⟨W.heap.size, 3, none⟩ (.int .i64 0)) = W6 := ⟨_, rfl⟩
        rw [hW6] at hB6 hr6 ⊢
        clear hW6
        obtain ⟨e0, e1, e2, e3⟩ := tok_cells hr6
        try rw [Exit.noGoto_ret]
        refine bodyPost_ret (v := .tuple #[.agg #[.int .i64 0, .string ⟨#[]⟩, .int .i64 0, .int .i64 0], .bool false]) ?_ rfl ⟨rfl, hMt.below hB6 hml, ((Fr.refl _ W).below ((unhide HB1).trans (hBt.mono (by omega)))).below hB6⟩
        clear d0 d1 d2 d3 d4 d5
        simp [results, Tryd.results52, go_sem, e0, e1, e2, e3]
      have b10 : (r == 10) = false := beq_eq_false_iff_ne.2 e10
      by_cases e13 : r = 13
      · rw [quoI_line hlt (by have := k13.1 e13; omega)] at hq0
        subst e13
        subst hq0
        clear hrune hesc k10 k13 k92 kmk
        have hr5 : wr.heap[W.heap.size]? = some (.cells #[.int .i64 0, .string ⟨#[]⟩, .int .i64 0, .int .i64 0] 33) := (hBt.block W.heap.size (by omega)).trans (unhide HR1)
        obtain ⟨d0, d1, d2, d3⟩ := tok_cells hr5
        have d4 := Lib.frozen_of_heap hr5
        have d5 : wr.shape? W.heap.size = some (33, 4) := by simp [World.shape?, hr5]
        clear hBt hMt hz1
        go_wp2_with (go_at_call 38; refine (unhide HD).mono ?_; rintro x w' ⟨rfl, hw⟩; subst w')
        have hBt := unhide HBR
        have hMt := unhide HMW
        have hz1 := unhide HZ1
        have hB6 := put4_below (W := wr) (Nat.le_refl W.heap.size) (.int .i64 0) (.string ⟨#[]⟩) (.int .i64 0) (.int .i64 0)
        have hr6 := put4_heap hr5 (.int .i64 0) (.string ⟨#[]⟩) (.int .i64 0) (.int .i64 0)
        obtain ⟨W6, hW6⟩ : ∃ W6, ((((wr.setCell ⟨W.heap.size, 0, none⟩ (.int .i64 0)).setCell ⟨W.heap.size, 1, none⟩ (.string ⟨#[]⟩)).setCell ⟨W.heap.size, 2, none⟩ (.int .i64 0)).setCell ⟨W.heap.size, 3, none⟩ (.int .i64 0)) = W6 := ⟨_, rfl⟩
        rw [hW6] at hB6 hr6 ⊢
        clear hW6
        obtain ⟨e0, e1, e2, e3⟩ := tok_cells hr6
        try rw [Exit.noGoto_ret]
        refine bodyPost_ret (v := .tuple #[.agg #[.int .i64 0, .string ⟨#[]⟩, .int .i64 0, .int .i64 0], .bool false]) ?_ rfl ⟨rfl, hMt.below hB6 hml, ((Fr.refl _ W).below ((unhide HB1).trans (hBt.mono (by omega)))).below hB6⟩
        clear d0 d1 d2 d3 d4 d5
        simp [results, Tryd.results52, go_sem, e0, e1, e2, e3]
      have b13 : (r == 13) = false := beq_eq_false_iff_ne.2 e13
      by_cases emk : r = mark
      · rw [quoI_mark hlt (by omega) (kmk.1 emk)] at hq0
        have bmk : (r == mark) = true := beq_iff_eq.2 emk
        have hq1 : some (pre ++ [], i + 1) = q := hq0
        rw [List.append_nil] at hq1
        subst hq1
        clear hrune hesc k10 k13 k92 kmk hq0 hBt hMt hz1 e10 e13
        have HST := hide (gath_string (unhide HG) (by have := unhide HZ1; omega))
        go_wp2_with (first | (go_at_call 38; refine (unhide HD).mono ?_; rintro x w' ⟨rfl, hw⟩; subst w') | (go_at_call 30; refine (unhide HST).mono ?_; rintro x W4 ⟨rfl, hB4⟩; have hM4 := (unhide HM1).below hB4 (by omega); have hB4z := hB4.size) | (go_at_call 66; refine (take_any M _ ov at' 4 _ _ W4 hM4).mono ?_; rintro x W5 ⟨rfl, hM5, hF5⟩; have hr5 : W5.heap[W.heap.size]? = some (.cells #[.int .i64 0, .string ⟨#[]⟩, .int .i64 0, .int .i64 0] 33) := (hF5.block W.heap.size (by have := unhide HZ1; omega) (by omega)).trans ((hB4.block W.heap.size (by omega)).trans (unhide HR1)); obtain ⟨d0, d1, d2, d3⟩ := tok_cells hr5; have d4 := Lib.frozen_of_heap hr5; have d5 : W5.shape? W.heap.size = some (33, 4) := (by simp [World.shape?, hr5])))
        have hB6 := put4_below (W := W5) (Nat.le_refl W.heap.size) (.int .i64 4) (.string (strOfNums pre)) ((.int .i64 (at' : Int))) (.int .i64 ((i : Int) + 1))
        have hr6 := put4_heap hr5 (.int .i64 4) (.string (strOfNums pre)) ((.int .i64 (at' : Int))) (.int .i64 ((i : Int) + 1))
        obtain ⟨W6, hW6⟩ : ∃ W6, ((((W5.setCell ⟨W.heap.size, 0, none⟩ (.int .i64 4)).setCell ⟨W.heap.size, 1, none⟩ (.string (strOfNums pre))).setCell ⟨W.heap.size, 2, none⟩ ((.int .i64 (at' : Int)))).setCell ⟨W.heap.size, 3, none⟩ (.int .i64 ((i : Int) + 1))) = W6 := ⟨_, rfl⟩
        rw [hW6] at hB6 hr6 ⊢
        clear hW6
        obtain ⟨e0, e1, e2, e3⟩ := tok_cells hr6
        try rw [Exit.noGoto_ret]
        refine bodyPost_ret (v := .tuple #[.agg #[.int .i64 4, .string (strOfNums pre), (.int .i64 (at' : Int)), .int .i64 ((i : Int) + 1)], .bool true]) ?_ rfl ⟨rfl, hM5.below hB6 hml, (((Fr.refl _ W).below ((unhide HB1).trans (hB4.mono (by omega)))).trans hF5).below hB6⟩
        clear d0 d1 d2 d3 d4 d5
        simp [results, Tryd.results52, go_sem, e0, e1, e2, e3]
      have bmk : (r == mark) = false := beq_eq_false_iff_ne.2 emk
      by_cases e92 : r = 92
      · have g92 := k92.1 e92
        subst e92
        obtain ⟨a', c', hsl', hk⟩ := slice_from (unhide HSA wr (unhide HBW)) (lo := i) hi2
        have HES := hide (escape_any c a' (len - i) c' (fun j => g (i + j)) (fun j => hg _) wr (hk _ (unhide HSA wr (unhide HBW))) (by have := unhide HZ; have := unhide HZ1; omega) (by omega) (by simpa using g92) (by omega) (unhide HEA wr (unhide HBW)))
        rw [escE_shift] at HES
        clear hrune k10 k13 k92 kmk hBt hMt hz1 hk
        cases he : escE g len i with
        | none =>
          rw [quoI_bad hlt (by omega) (by omega) g92 he] at hq0
          subst hq0
          rw [he] at HES
          have HES2 : Hid (Calls Tryd.prog 68 #[.slice a' (len - i) c'] wr fun x W' => x = .returned (.tuple #[.int .i32 0, .int .i64 0]) ∧ Below wr.heap.size wr W') := unhide HES
          clear hesc he HES g92
          go_wp2_with (first | (go_at_call 38; refine (unhide HD).mono ?_; rintro x w' ⟨rfl, hw⟩; subst w') | (go_at_call 68; refine (unhide HES2).mono ?_; rintro x W4 ⟨rfl, hB4⟩; have hBt := (unhide HBR).trans (hB4.mono (by have := unhide HZ; have := unhide HZ1; omega)); have hMt := (unhide HM1).below hBt (by omega); have hr5 : W4.heap[W.heap.size]? = some (.cells #[.int .i64 0, .string ⟨#[]⟩, .int .i64 0, .int .i64 0] 33) := (hBt.block W.heap.size (by omega)).trans (unhide HR1); obtain ⟨d0, d1, d2, d3⟩ := tok_cells hr5; have d4 := Lib.frozen_of_heap hr5; have d5 : W4.shape? W.heap.size = some (33, 4) := (by simp [World.shape?, hr5])))
          have hB6 := put4_below (W := W4) (Nat.le_refl W.heap.size) (.int .i64 0) (.string ⟨#[]⟩) (.int .i64 0) (.int .i64 0)
          have hr6 := put4_heap hr5 (.int .i64 0) (.string ⟨#[]⟩) (.int .i64 0) (.int .i64 0)
          obtain ⟨W6, hW6⟩ : ∃ W6, ((((W4.setCell ⟨W.heap.size, 0, none⟩ (.int .i64 0)).setCell ⟨W.heap.size, 1, none⟩ (.string ⟨#[]⟩)).setCell ⟨W.heap.size, 2, none⟩ (.int .i64 0)).setCell ⟨W.heap.size, 3, none⟩ (.int .i64 0)) = W6 := ⟨_, rfl⟩
          rw [hW6] at hB6 hr6 ⊢
          clear hW6
          obtain ⟨e0, e1, e2, e3⟩ := tok_cells hr6
          try rw [Exit.noGoto_ret]
          refine bodyPost_ret (v := .tuple #[.agg #[.int .i64 0, .string ⟨#[]⟩, .int .i64 0, .int .i64 0], .bool false]) ?_ rfl ⟨rfl, hMt.below hB6 hml, ((Fr.refl _ W).below ((unhide HB1).trans (hBt.mono (by omega)))).below hB6⟩
          clear d0 d1 d2 d3 d4 d5
          simp [results, Tryd.results52, go_sem, e0, e1, e2, e3]
        | some y =>
          obtain ⟨x, wd⟩ := y
          have hw2 := escE_w he
          have hxo := esc_ok hg he
          rw [hesc hlt (by omega) (by omega) g92 he, pfx_one] at hq0
          have HQ1 := hide hq0
          rw [he] at HES
          have HES2 : Hid (Calls Tryd.prog 68 #[.slice a' (len - i) c'] wr fun z W' => z = .returned (.tuple #[.int .i32 x, .int .i64 (wd : Int)]) ∧ Below wr.heap.size wr W') := unhide HES
          have bw0 : ((wd : Int) == 0) = false := beq_eq_false_iff_ne.2 (by omega)
          have HX := hide hxo
          have HW2 := hide hw2
          have hwl := hw2.2
          have hwk := hw2.1
          clear hesc he HES g92 hq0 hxo hw2
          go_wp2_with (first | (go_at_call 38; refine (unhide HD).mono ?_; rintro x w' ⟨rfl, hw⟩; subst w') | (go_at_call 68; refine (unhide HES2).mono ?_; rintro z W4 ⟨rfl, hB4⟩))
          refine (gath_put (B := W.heap.size + 1) (W1 := W1) (pre := pre) (i := i) (j := i + wd) (Gath.on (unhide HG) hB4) (unhide HX) (by have := unhide HW2; omega) (by omega) (by have := unhide HZ1; omega)).mono ?_
          rintro z W5 ⟨⟨u, rfl⟩, hG5⟩
          have HG5 := hide hG5
          clear hG5
          go_wp2
          exact ⟨⟨i + wd, pre ++ Lib.encodeRuneZ x, by omega, (unhide HW2).2, by go_num, HG5, HQ1⟩, by have := (unhide HW2).1; simp [intOf]; omega⟩
      have b92 : (r == 92) = false := beq_eq_false_iff_ne.2 e92
      rw [hrune (by omega) (by omega) (by omega), pfx_one] at hq0
      have HQ1 := hide hq0
      have HX := hide hok
      clear hrune hesc k10 k13 k92 kmk hBt hMt hz1 hq0 hok
      go_wp2_with (go_at_call 38; refine (unhide HD).mono ?_; rintro x w' ⟨rfl, hw⟩; subst w')
      refine (gath_put (B := W.heap.size + 1) (W1 := W1) (pre := pre) (i := i) (j := i + s) (unhide HG) (unhide HX) (by omega) (by omega) (by have := unhide HZ1; omega)).mono ?_
      rintro z W5 ⟨⟨u, rfl⟩, hG5⟩
      have HG5 := hide hG5
      clear hG5
      go_wp2
      exact ⟨⟨i + s, pre ++ Lib.encodeRuneZ r, by omega, by omega, by go_num, HG5, HQ1⟩, by simp [intOf]; omega⟩
    · have hq0 := unhide HP
      rw [quoI_end hlt] at hq0
      subst hq0
      have hin : inside len (i : Int) = false := by simp [inside]; omega
      have hz0 : stepN g len i = 0 := by simp [stepN, hlt]
      rw [(dOut hin g).1, hz0] at HD0
      have HD := HD0
      have hBt := unhide HBR
      have hMt := unhide HMW
      have hz1 := unhide HZ1
      clear HD0 hin hz0
      have hr5 : wr.heap[W.heap.size]? = some (.cells #[.int .i64 0, .string ⟨#[]⟩, .int .i64 0, .int .i64 0] 33) := (hBt.block W.heap.size (by omega)).trans (unhide HR1)
      obtain ⟨d0, d1, d2, d3⟩ := tok_cells hr5
      have d4 := Lib.frozen_of_heap hr5
      have d5 : wr.shape? W.heap.size = some (33, 4) := by simp [World.shape?, hr5]
      clear hBt hMt hz1
      go_wp2_with (go_at_call 38; refine (unhide HD).mono ?_; rintro x w' ⟨rfl, hw⟩; subst w')
      have hBt := unhide HBR
      have hMt := unhide HMW
      have hz1 := unhide HZ1
      have hB6 := put4_below (W := wr) (Nat.le_refl W.heap.size) (.int .i64 0) (.string ⟨#[]⟩) (.int .i64 0) (.int .i64 0)
      have hr6 := put4_heap hr5 (.int .i64 0) (.string ⟨#[]⟩) (.int .i64 0) (.int .i64 0)
      obtain ⟨W6, hW6⟩ : ∃ W6, ((((wr.setCell ⟨W.heap.size, 0, none⟩ (.int .i64 0)).setCell ⟨W.heap.size, 1, none⟩ (.string ⟨#[]⟩)).setCell ⟨W.heap.size, 2, none⟩ (.int .i64 0)).setCell ⟨W.heap.size, 3, none⟩ (.int .i64 0)) = W6 := ⟨_, rfl⟩
      rw [hW6] at hB6 hr6 ⊢
      clear hW6
      obtain ⟨e0, e1, e2, e3⟩ := tok_cells hr6
      try rw [Exit.noGoto_ret]
      refine bodyPost_ret (v := .tuple #[.agg #[.int .i64 0, .string ⟨#[]⟩, .int .i64 0, .int .i64 0], .bool false]) ?_ rfl ⟨rfl, hMt.below hB6 hml, ((Fr.refl _ W).below ((unhide HB1).trans (hBt.mono (by omega)))).below hB6⟩
      clear d0 d1 d2 d3 d4 d5
      simp [results, Tryd.results52, go_sem, e0, e1, e2, e3]
end Go.Proofs.YtpdkeggiokebmaaDoor
