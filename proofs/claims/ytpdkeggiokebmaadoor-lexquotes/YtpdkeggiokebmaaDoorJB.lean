/- Merged: Q0, Q1, Q2a, Q2b, Q2c, Q2d, Q2e, Q3. -/
import Derived.Laws.Cover4
import Derived.Laws.Runes
import Derived.LoopN
import Derived.Test.YtpdkeggiokebmaaDoorCV
import Derived.Test.YtpdkeggiokebmaaDoorD1
import Derived.Test.YtpdkeggiokebmaaDoorJA
/- What stands for a rune within quotes, and what its bytes are. -/
namespace Go.Proofs.YtpdkeggiokebmaaDoor
set_option linter.unusedSimpArgs false
set_option linter.unusedVariables false
open Go.RowKit Go.Shelf

def hd (n : Nat) : UInt8 := if n < 10 then UInt8.ofNat (48 + n) else UInt8.ofNat (87 + n)
def hexQ (n : Nat) : List UInt8 := if n < 16 then [hd n] else [hd (n / 16), hd (n % 16)]
/-- The bytes that stand for a rune. -/
def quo (r : Int) : List UInt8 :=
  if r = 92 then [92, 92] else if r = 34 then [92, 34] else if r = 10 then [92, 110] else if r = 13 then [92, 114] else if r = 9 then [92, 116]
  else if r < 32 ∨ r = 127 then [92, 117, 123] ++ hexQ r.toNat ++ [125] else (Utf8.encode r).data.toList
theorem ctl_cases {r : Int} (h0 : 0 ≤ r) (h : r < 32 ∨ r = 127) (a : r ≠ 9) (b : r ≠ 10) (c : r ≠ 13) : r = 0 ∨ r = 1 ∨ r = 2 ∨ r = 3 ∨ r = 4 ∨ r = 5 ∨ r = 6 ∨ r = 7 ∨ r = 8 ∨ r = 11 ∨ r = 12 ∨ r = 14 ∨ r = 15 ∨ r = 16 ∨ r = 17 ∨ r = 18 ∨ r = 19 ∨ r = 20 ∨ r = 21 ∨ r = 22 ∨ r = 23 ∨ r = 24 ∨ r = 25 ∨ r = 26 ∨ r = 27 ∨ r = 28 ∨ r = 29 ∨ r = 30 ∨ r = 31 ∨ r = 127 := by omega
theorem quo_else {r : Int} (h : 32 ≤ r) (h1 : r ≠ 92) (h2 : r ≠ 34) (h3 : r ≠ 127) : quo r = (Utf8.encode r).data.toList := by
  unfold quo
  rw [if_neg h1, if_neg h2, if_neg (by omega), if_neg (by omega), if_neg (by omega), if_neg (by omega)]
theorem quo_ctl {r : Int} (h : r < 32 ∨ r = 127) (a : r ≠ 9) (b : r ≠ 10) (c : r ≠ 13) : quo r = [92, 117, 123] ++ hexQ r.toNat ++ [125] := by
  unfold quo
  rw [if_neg (by omega), if_neg (by omega), if_neg b, if_neg c, if_neg a, if_pos h]
/-- Bytes within quotes, behind a byte p: none is below 32, none is 127, a quote stands behind a backslash. -/
def okB (p : UInt8) : List UInt8 → Prop
  | [] => True
  | b :: t => 32 ≤ b.toNat ∧ b.toNat ≠ 127 ∧ (b.toNat = 34 → p.toNat = 92) ∧ okB b t
def lastQ (p : UInt8) : List UInt8 → UInt8
  | [] => p
  | b :: t => lastQ b t
theorem okB_append : ∀ (l m : List UInt8) (p : UInt8), okB p l → okB (lastQ p l) m → okB p (l ++ m)
  | [], m, p, _, h => h
  | b :: t, m, p, h1, h2 => ⟨h1.1, h1.2.1, h1.2.2.1, okB_append t m b h1.2.2.2 h2⟩
theorem okB_get : ∀ (l : List UInt8) (p : UInt8), okB p l → ∀ (i : Nat) (b q : UInt8), l[i]? = some b → (p :: l)[i]? = some q → 32 ≤ b.toNat ∧ b.toNat ≠ 127 ∧ (b.toNat = 34 → q.toNat = 92)
  | [], p, _, i, b, q, hb, _ => by simp at hb
  | c :: t, p, h, 0, b, q, hb, hq => by
    simp at hb hq
    subst hb; subst hq
    exact ⟨h.1, h.2.1, h.2.2.1⟩
  | c :: t, p, h, i + 1, b, q, hb, hq => okB_get t c h.2.2.2 i b q (by simpa using hb) (by simpa using hq)
theorem okB_high : ∀ (l : List UInt8) (p : UInt8), (∀ b ∈ l, 128 ≤ b.toNat) → okB p l
  | [], _, _ => trivial
  | b :: t, p, h => by
    have hb := h b (by simp)
    exact ⟨by omega, by omega, fun e => by omega, okB_high t b fun c hc => h c (by simp [hc])⟩
theorem encode_low {r : Int} (h0 : 0 ≤ r) (h : r < 128) : (Utf8.encode r).data.toList = [UInt8.ofNat r.toNat] := by
  have hv : Utf8.valid r = true := by rw [validRune_eq]; simp [validRune]; omega
  unfold Utf8.encode
  simp only [hv, if_true]
  rw [if_pos (by omega)]
theorem encode_high {r : Int} (h : 128 ≤ r) : ∀ b ∈ (Utf8.encode r).data.toList, 128 ≤ b.toNat := by
  have key : ∀ c : Nat, 128 ≤ c → c ≤ 1114111 → ∀ b ∈ (if c < 0x80 then (⟨#[UInt8.ofNat c]⟩ : ByteArray) else if c < 0x800 then ⟨#[UInt8.ofNat (0xC0 + c / 64), UInt8.ofNat (0x80 + c % 64)]⟩
      else if c < 0x10000 then ⟨#[UInt8.ofNat (0xE0 + c / 4096), UInt8.ofNat (0x80 + c / 64 % 64), UInt8.ofNat (0x80 + c % 64)]⟩
      else ⟨#[UInt8.ofNat (0xF0 + c / 262144), UInt8.ofNat (0x80 + c / 4096 % 64), UInt8.ofNat (0x80 + c / 64 % 64), UInt8.ofNat (0x80 + c % 64)]⟩).data.toList, 128 ≤ b.toNat := by
    intro c h1 h2 b hb
    rw [if_neg (by omega)] at hb
    split at hb
    · simp at hb
      rcases hb with rfl | rfl <;> simp <;> omega
    · split at hb
      · simp at hb
        rcases hb with rfl | rfl | rfl <;> simp <;> omega
      · simp at hb
        rcases hb with rfl | rfl | rfl | rfl <;> simp <;> omega
  unfold Utf8.encode
  by_cases hv : Utf8.valid r = true
  · have hr : r ≤ 1114111 := by rw [validRune_eq] at hv; simp [validRune] at hv; omega
    simp only [hv, if_true]
    exact key r.toNat (by omega) (by omega)
  · simp only [hv]
    exact key Utf8.runeError (by decide) (by decide)
theorem quo_ok {r : Int} (h0 : 0 ≤ r) (p : UInt8) : okB p (quo r) := by
  by_cases h1 : r = 92
  · subst h1; simp [quo, okB]
  by_cases h2 : r = 34
  · subst h2; simp [quo, okB]
  by_cases h3 : r = 10
  · subst h3; simp [quo, okB]
  by_cases h4 : r = 13
  · subst h4; simp [quo, okB]
  by_cases h5 : r = 9
  · subst h5; simp [quo, okB]
  by_cases h6 : r < 32 ∨ r = 127
  · rw [quo_ctl h6 h5 h3 h4]
    rcases ctl_cases h0 h6 h5 h3 h4 with rfl | rfl | rfl | rfl | rfl | rfl | rfl | rfl | rfl | rfl | rfl | rfl | rfl | rfl | rfl | rfl | rfl | rfl | rfl | rfl | rfl | rfl | rfl | rfl | rfl | rfl | rfl | rfl | rfl | rfl <;> simp [hexQ, hd, okB]
  · rw [quo_else (by omega) h1 h2 (by omega)]
    by_cases h7 : r < 128
    · rw [encode_low h0 h7]
      refine ⟨?_, ?_, fun e => ?_, trivial⟩
      · simp; omega
      · simp; omega
      · simp at e; omega
    · exact okB_high _ _ (encode_high (by omega))
theorem quo_len {r : Int} (h0 : 0 ≤ r) : (quo r).length ≤ 16 := by
  by_cases h1 : r = 92
  · subst h1; simp [quo]
  by_cases h2 : r = 34
  · subst h2; simp [quo]
  by_cases h3 : r = 10
  · subst h3; simp [quo]
  by_cases h4 : r = 13
  · subst h4; simp [quo]
  by_cases h5 : r = 9
  · subst h5; simp [quo]
  by_cases h6 : r < 32 ∨ r = 127
  · rw [quo_ctl h6 h5 h3 h4]
    unfold hexQ
    split <;> simp
  · rw [quo_else (by omega) h1 h2 (by omega)]
    have := encode_size_le r
    have e : (Utf8.encode r).data.toList.length = (Utf8.encode r).size := rfl
    omega
theorem flat_ok : ∀ (l : List (Nat × Int)) (p : UInt8), (∀ x ∈ l, 0 ≤ x.2) → okB p (flat quo l)
  | [], p, _ => trivial
  | x :: l, p, h => by
    have e : flat quo (x :: l) = quo x.2 ++ flat quo l := by simp [flat]
    rw [e]
    exact okB_append _ _ _ (quo_ok (h x (by simp)) p) (flat_ok l _ fun y hy => h y (by simp [hy]))
theorem lst_nonneg (x : Int) : 0 ≤ lst x := by unfold lst; repeat' split
                                               all_goals omega
theorem dRune_bd {g : Nat → Int} {len i : Nat} (hi : i < len) : 0 ≤ dRune g len i ∧ dRune g len i ≤ 1114111 := by
  rw [dRune_in hi]
  by_cases h : good g len i = true
  · rw [if_pos h]
    simp only [good, Bool.and_eq_true, decide_eq_true_eq, alw] at h
    have := lst_nonneg (g i)
    omega
  · rw [if_neg h]; omega
end Go.Proofs.YtpdkeggiokebmaaDoor

/- Hexadecimal digits of the numbers that text.quoted asks for: what internal/strconv needs. -/
namespace Go.Proofs.YtpdkeggiokebmaaDoor
set_option linter.unusedSimpArgs false
set_option linter.unusedVariables false
open Go.RowKit

/-- The table's entry that is read at base 16. -/
def Tab (w : World) : Prop := w.cell? ⟨4, 15, none⟩ = some (.int .u8 4)
theorem Tab.below {w w' : World} (h : Tab w) (hb : Below w.heap.size w w') : Tab w' :=
  (hb.cell (p := ⟨4, 15, none⟩) (World.block_lt_of_cell? w _ h)).trans h
theorem Tab.alloc {w : World} (h : Tab w) (o : Obj) : Tab (w.alloc o) := h.below ((Below.refl _ w).alloc (Nat.le_refl _) o)

set_option maxHeartbeats 400000 in
theorem tz64 (w : World) (h : Tab w) : Calls Tryd.prog 98 #[.int .u64 16] w fun e w' => e = .returned (.int .i64 4) ∧ w' = w := by
  have hT : w.cell? ⟨4, 15, none⟩ = some (.int .u8 4) := h
  have a1 : IntKind.u64.wrap (-16) = 18446744073709551600 := by kernel_rfl
  have a2 : bits BinOp.and IntKind.u64 16 18446744073709551600 = 16 := by kernel_rfl
  have a3 : IntKind.u64.wrap 4573923408821661840 = 4573923408821661840 := by kernel_rfl
  go_enter Tryd.func98, Tryd.ntmps98
  go_wp2
  go_ret
  exact ⟨rfl, rfl⟩
set_option maxHeartbeats 400000 in
theorem tz (w : World) (h : Tab w) : Calls Tryd.prog 86 #[.int .u64 16] w fun e w' => e = .returned (.int .i64 4) ∧ w' = w := by
  go_enter Tryd.func86, Tryd.ntmps86
  go_wp2_with (go_at_call 98; refine (tz64 w h).mono ?_; rintro e w' ⟨rfl, rfl⟩)
  go_ret
  exact ⟨rfl, rfl⟩
set_option maxHeartbeats 400000 in
theorem p2 (w : World) : Calls Tryd.prog 85 #[.int .i64 16] w fun e w' => e = .returned (.bool true) ∧ w' = w := by
  go_enter Tryd.func85, Tryd.ntmps85
  go_wp2
  go_ret
  exact ⟨rfl, rfl⟩

theorem z89_size : Tryd.zeroCells117.size = 65 := by kernel_rfl
theorem conv1 (w : World) (v : Int) : (convert 22 9 (.slice (some ⟨w.heap.size, 64, none⟩) 1 1)).run Tryd.prog (w.alloc (.cells (Tryd.zeroCells117.setIfInBounds 64 (.int .u8 v)) 117)) = .ok (.string (strOfNums [v])) (w.alloc (.cells (Tryd.zeroCells117.setIfInBounds 64 (.int .u8 v)) 117)) := by
  have h : Src (w.alloc (.cells (Tryd.zeroCells117.setIfInBounds 64 (.int .u8 v)) 117)) (.slice (some ⟨w.heap.size, 64, none⟩) 1 1) 1 (fun _ => v) := .inr ⟨⟨w.heap.size, 64, none⟩, 1, rfl, fun j hj => by
    obtain rfl : j = 0 := by omega
    rw [Addr.add_lit, World.cell?_alloc_mark, Array.getElem?_setIfInBounds, z89_size]
    rfl⟩
  exact conv_run h
theorem conv2 (w : World) (v u : Int) : (convert 22 9 (.slice (some ⟨w.heap.size, 63, none⟩) 2 2)).run Tryd.prog (w.alloc (.cells ((Tryd.zeroCells117.setIfInBounds 64 (.int .u8 v)).setIfInBounds 63 (.int .u8 u)) 117)) = .ok (.string (strOfNums [u, v])) (w.alloc (.cells ((Tryd.zeroCells117.setIfInBounds 64 (.int .u8 v)).setIfInBounds 63 (.int .u8 u)) 117)) := by
  have h : Src (w.alloc (.cells ((Tryd.zeroCells117.setIfInBounds 64 (.int .u8 v)).setIfInBounds 63 (.int .u8 u)) 117)) (.slice (some ⟨w.heap.size, 63, none⟩) 2 2) 2 (fun j => if j = 0 then u else v) := .inr ⟨⟨w.heap.size, 63, none⟩, 2, rfl, fun j hj => by
    rcases (by omega : j = 0 ∨ j = 1) with rfl | rfl
    · rw [Addr.add_lit, World.cell?_alloc_mark, Array.getElem?_setIfInBounds, Array.size_setIfInBounds, z89_size]
      rfl
    · rw [Addr.add_lit, World.cell?_alloc_mark, Array.getElem?_setIfInBounds, if_neg (by decide), Array.getElem?_setIfInBounds, z89_size]
      rfl⟩
  exact conv_run h
end Go.Proofs.YtpdkeggiokebmaaDoor

/- Hexadecimal digits by internal/strconv, part 0. -/
namespace Go.Proofs.YtpdkeggiokebmaaDoor
set_option linter.unusedSimpArgs false
set_option linter.unusedVariables false
open Go.RowKit

set_option maxHeartbeats 400000 in
set_option maxRecDepth 100000 in
theorem fb_0 (w : World) (h : Tab w) :
    Calls Tryd.prog 74 #[.slice none 0 0, .int .u64 0, .int .i64 16, .bool false, .bool false] w fun e w' => e = .returned (.tuple #[.slice none 0 0, .string ⟨#[48]⟩]) ∧ Below w.heap.size w w' := by
  have hc := conv1 w
  go_enter Tryd.func74, Tryd.ntmps74
  go_wp2_with (first | (go_at_call 85; refine (p2 _).mono ?_; rintro e w' ⟨rfl, rfl⟩) | (go_at_call 86; refine (tz _ (h.alloc _)).mono ?_; rintro e w' ⟨rfl, rfl⟩))
  refine wp_loop_rounds 1 ?_
  rw [rounds_succ]
  go_wp2
  go_ret2
  exact ⟨rfl, (Below.refl _ _).alloc (Nat.le_refl _) _⟩

set_option maxHeartbeats 400000 in
theorem fi_0 (w : World) (h : Tab w) : Calls Tryd.prog 60 #[.int .i64 0, .int .i64 16] w fun e w' => e = .returned (.string ⟨#[48]⟩) ∧ Below w.heap.size w w' := by
  go_enter Tryd.func60, Tryd.ntmps60
  go_wp2_with (go_at_call 74; refine (fb_0 _ (by first | exact h | exact h.alloc _)).mono ?_; rintro e w' ⟨rfl, hB⟩)
  go_ret
  exact ⟨rfl, hB⟩
set_option maxHeartbeats 400000 in
theorem fj_0 (w : World) (h : Tab w) : Calls Tryd.prog 39 #[.int .i64 0, .int .i64 16] w fun e w' => e = .returned (.string ⟨#[48]⟩) ∧ Below w.heap.size w w' := by
  go_enter Tryd.func39, Tryd.ntmps39
  go_wp2_with (go_at_call 60; refine (fi_0 w h).mono ?_; rintro e w' ⟨rfl, hB⟩)
  go_ret
  exact ⟨rfl, hB⟩
set_option maxHeartbeats 400000 in
theorem qt_0 (w : World) (h : Tab w) : Calls Tryd.prog 29 #[.int .i32 0] w fun e w' => e = .returned (.string ⟨#[92, 117, 123, 48, 125]⟩) ∧ Below w.heap.size w w' := by
  go_enter Tryd.func29, Tryd.ntmps29
  go_wp2_with (go_at_call 39; refine (fj_0 w h).mono ?_; rintro e w' ⟨rfl, hB⟩)
  go_ret
  exact ⟨rfl, hB⟩
set_option maxHeartbeats 400000 in
set_option maxRecDepth 100000 in
theorem fb_5 (w : World) (h : Tab w) :
    Calls Tryd.prog 74 #[.slice none 0 0, .int .u64 5, .int .i64 16, .bool false, .bool false] w fun e w' => e = .returned (.tuple #[.slice none 0 0, .string ⟨#[53]⟩]) ∧ Below w.heap.size w w' := by
  have hc := conv1 w
  go_enter Tryd.func74, Tryd.ntmps74
  go_wp2_with (first | (go_at_call 85; refine (p2 _).mono ?_; rintro e w' ⟨rfl, rfl⟩) | (go_at_call 86; refine (tz _ (h.alloc _)).mono ?_; rintro e w' ⟨rfl, rfl⟩))
  refine wp_loop_rounds 1 ?_
  rw [rounds_succ]
  go_wp2
  go_ret2
  exact ⟨rfl, (Below.refl _ _).alloc (Nat.le_refl _) _⟩

set_option maxHeartbeats 400000 in
theorem fi_5 (w : World) (h : Tab w) : Calls Tryd.prog 60 #[.int .i64 5, .int .i64 16] w fun e w' => e = .returned (.string ⟨#[53]⟩) ∧ Below w.heap.size w w' := by
  go_enter Tryd.func60, Tryd.ntmps60
  go_wp2_with (go_at_call 74; refine (fb_5 _ (by first | exact h | exact h.alloc _)).mono ?_; rintro e w' ⟨rfl, hB⟩)
  go_ret
  exact ⟨rfl, hB⟩
set_option maxHeartbeats 400000 in
theorem fj_5 (w : World) (h : Tab w) : Calls Tryd.prog 39 #[.int .i64 5, .int .i64 16] w fun e w' => e = .returned (.string ⟨#[53]⟩) ∧ Below w.heap.size w w' := by
  go_enter Tryd.func39, Tryd.ntmps39
  go_wp2_with (go_at_call 60; refine (fi_5 w h).mono ?_; rintro e w' ⟨rfl, hB⟩)
  go_ret
  exact ⟨rfl, hB⟩
set_option maxHeartbeats 400000 in
theorem qt_5 (w : World) (h : Tab w) : Calls Tryd.prog 29 #[.int .i32 5] w fun e w' => e = .returned (.string ⟨#[92, 117, 123, 53, 125]⟩) ∧ Below w.heap.size w w' := by
  go_enter Tryd.func29, Tryd.ntmps29
  go_wp2_with (go_at_call 39; refine (fj_5 w h).mono ?_; rintro e w' ⟨rfl, hB⟩)
  go_ret
  exact ⟨rfl, hB⟩
set_option maxHeartbeats 400000 in
set_option maxRecDepth 100000 in
theorem fb_12 (w : World) (h : Tab w) :
    Calls Tryd.prog 74 #[.slice none 0 0, .int .u64 12, .int .i64 16, .bool false, .bool false] w fun e w' => e = .returned (.tuple #[.slice none 0 0, .string ⟨#[99]⟩]) ∧ Below w.heap.size w w' := by
  have hc := conv1 w
  go_enter Tryd.func74, Tryd.ntmps74
  go_wp2_with (first | (go_at_call 85; refine (p2 _).mono ?_; rintro e w' ⟨rfl, rfl⟩) | (go_at_call 86; refine (tz _ (h.alloc _)).mono ?_; rintro e w' ⟨rfl, rfl⟩))
  refine wp_loop_rounds 1 ?_
  rw [rounds_succ]
  go_wp2
  go_ret2
  exact ⟨rfl, (Below.refl _ _).alloc (Nat.le_refl _) _⟩

set_option maxHeartbeats 400000 in
theorem fi_12 (w : World) (h : Tab w) : Calls Tryd.prog 60 #[.int .i64 12, .int .i64 16] w fun e w' => e = .returned (.string ⟨#[99]⟩) ∧ Below w.heap.size w w' := by
  go_enter Tryd.func60, Tryd.ntmps60
  go_wp2_with (go_at_call 74; refine (fb_12 _ (by first | exact h | exact h.alloc _)).mono ?_; rintro e w' ⟨rfl, hB⟩)
  go_ret
  exact ⟨rfl, hB⟩
set_option maxHeartbeats 400000 in
theorem fj_12 (w : World) (h : Tab w) : Calls Tryd.prog 39 #[.int .i64 12, .int .i64 16] w fun e w' => e = .returned (.string ⟨#[99]⟩) ∧ Below w.heap.size w w' := by
  go_enter Tryd.func39, Tryd.ntmps39
  go_wp2_with (go_at_call 60; refine (fi_12 w h).mono ?_; rintro e w' ⟨rfl, hB⟩)
  go_ret
  exact ⟨rfl, hB⟩
set_option maxHeartbeats 400000 in
theorem qt_12 (w : World) (h : Tab w) : Calls Tryd.prog 29 #[.int .i32 12] w fun e w' => e = .returned (.string ⟨#[92, 117, 123, 99, 125]⟩) ∧ Below w.heap.size w w' := by
  go_enter Tryd.func29, Tryd.ntmps29
  go_wp2_with (go_at_call 39; refine (fj_12 w h).mono ?_; rintro e w' ⟨rfl, hB⟩)
  go_ret
  exact ⟨rfl, hB⟩
set_option maxHeartbeats 400000 in
set_option maxRecDepth 100000 in
theorem fb_18 (w : World) (h : Tab w) :
    Calls Tryd.prog 74 #[.slice none 0 0, .int .u64 18, .int .i64 16, .bool false, .bool false] w fun e w' => e = .returned (.tuple #[.slice none 0 0, .string ⟨#[49, 50]⟩]) ∧ Below w.heap.size w w' := by
  have hc := conv2 w
  go_enter Tryd.func74, Tryd.ntmps74
  go_wp2_with (first | (go_at_call 85; refine (p2 _).mono ?_; rintro e w' ⟨rfl, rfl⟩) | (go_at_call 86; refine (tz _ (h.alloc _)).mono ?_; rintro e w' ⟨rfl, rfl⟩))
  refine wp_loop_rounds 2 ?_
  rw [rounds_succ]
  go_wp2
  rw [rounds_succ]
  go_wp2
  go_ret2
  exact ⟨rfl, (Below.refl _ _).alloc (Nat.le_refl _) _⟩

set_option maxHeartbeats 400000 in
theorem fi_18 (w : World) (h : Tab w) : Calls Tryd.prog 60 #[.int .i64 18, .int .i64 16] w fun e w' => e = .returned (.string ⟨#[49, 50]⟩) ∧ Below w.heap.size w w' := by
  go_enter Tryd.func60, Tryd.ntmps60
  go_wp2_with (go_at_call 74; refine (fb_18 _ (by first | exact h | exact h.alloc _)).mono ?_; rintro e w' ⟨rfl, hB⟩)
  go_ret
  exact ⟨rfl, hB⟩
set_option maxHeartbeats 400000 in
theorem fj_18 (w : World) (h : Tab w) : Calls Tryd.prog 39 #[.int .i64 18, .int .i64 16] w fun e w' => e = .returned (.string ⟨#[49, 50]⟩) ∧ Below w.heap.size w w' := by
  go_enter Tryd.func39, Tryd.ntmps39
  go_wp2_with (go_at_call 60; refine (fi_18 w h).mono ?_; rintro e w' ⟨rfl, hB⟩)
  go_ret
  exact ⟨rfl, hB⟩
set_option maxHeartbeats 400000 in
theorem qt_18 (w : World) (h : Tab w) : Calls Tryd.prog 29 #[.int .i32 18] w fun e w' => e = .returned (.string ⟨#[92, 117, 123, 49, 50, 125]⟩) ∧ Below w.heap.size w w' := by
  go_enter Tryd.func29, Tryd.ntmps29
  go_wp2_with (go_at_call 39; refine (fj_18 w h).mono ?_; rintro e w' ⟨rfl, hB⟩)
  go_ret
  exact ⟨rfl, hB⟩
set_option maxHeartbeats 400000 in
set_option maxRecDepth 100000 in
theorem fb_23 (w : World) (h : Tab w) :
    Calls Tryd.prog 74 #[.slice none 0 0, .int .u64 23, .int .i64 16, .bool false, .bool false] w fun e w' => e = .returned (.tuple #[.slice none 0 0, .string ⟨#[49, 55]⟩]) ∧ Below w.heap.size w w' := by
  have hc := conv2 w
  go_enter Tryd.func74, Tryd.ntmps74
  go_wp2_with (first | (go_at_call 85; refine (p2 _).mono ?_; rintro e w' ⟨rfl, rfl⟩) | (go_at_call 86; refine (tz _ (h.alloc _)).mono ?_; rintro e w' ⟨rfl, rfl⟩))
  refine wp_loop_rounds 2 ?_
  rw [rounds_succ]
  go_wp2
  rw [rounds_succ]
  go_wp2
  go_ret2
  exact ⟨rfl, (Below.refl _ _).alloc (Nat.le_refl _) _⟩

set_option maxHeartbeats 400000 in
theorem fi_23 (w : World) (h : Tab w) : Calls Tryd.prog 60 #[.int .i64 23, .int .i64 16] w fun e w' => e = .returned (.string ⟨#[49, 55]⟩) ∧ Below w.heap.size w w' := by
  go_enter Tryd.func60, Tryd.ntmps60
  go_wp2_with (go_at_call 74; refine (fb_23 _ (by first | exact h | exact h.alloc _)).mono ?_; rintro e w' ⟨rfl, hB⟩)
  go_ret
  exact ⟨rfl, hB⟩
set_option maxHeartbeats 400000 in
theorem fj_23 (w : World) (h : Tab w) : Calls Tryd.prog 39 #[.int .i64 23, .int .i64 16] w fun e w' => e = .returned (.string ⟨#[49, 55]⟩) ∧ Below w.heap.size w w' := by
  go_enter Tryd.func39, Tryd.ntmps39
  go_wp2_with (go_at_call 60; refine (fi_23 w h).mono ?_; rintro e w' ⟨rfl, hB⟩)
  go_ret
  exact ⟨rfl, hB⟩
set_option maxHeartbeats 400000 in
theorem qt_23 (w : World) (h : Tab w) : Calls Tryd.prog 29 #[.int .i32 23] w fun e w' => e = .returned (.string ⟨#[92, 117, 123, 49, 55, 125]⟩) ∧ Below w.heap.size w w' := by
  go_enter Tryd.func29, Tryd.ntmps29
  go_wp2_with (go_at_call 39; refine (fj_23 w h).mono ?_; rintro e w' ⟨rfl, hB⟩)
  go_ret
  exact ⟨rfl, hB⟩
set_option maxHeartbeats 400000 in
set_option maxRecDepth 100000 in
theorem fb_28 (w : World) (h : Tab w) :
    Calls Tryd.prog 74 #[.slice none 0 0, .int .u64 28, .int .i64 16, .bool false, .bool false] w fun e w' => e = .returned (.tuple #[.slice none 0 0, .string ⟨#[49, 99]⟩]) ∧ Below w.heap.size w w' := by
  have hc := conv2 w
  go_enter Tryd.func74, Tryd.ntmps74
  go_wp2_with (first | (go_at_call 85; refine (p2 _).mono ?_; rintro e w' ⟨rfl, rfl⟩) | (go_at_call 86; refine (tz _ (h.alloc _)).mono ?_; rintro e w' ⟨rfl, rfl⟩))
  refine wp_loop_rounds 2 ?_
  rw [rounds_succ]
  go_wp2
  rw [rounds_succ]
  go_wp2
  go_ret2
  exact ⟨rfl, (Below.refl _ _).alloc (Nat.le_refl _) _⟩

set_option maxHeartbeats 400000 in
theorem fi_28 (w : World) (h : Tab w) : Calls Tryd.prog 60 #[.int .i64 28, .int .i64 16] w fun e w' => e = .returned (.string ⟨#[49, 99]⟩) ∧ Below w.heap.size w w' := by
  go_enter Tryd.func60, Tryd.ntmps60
  go_wp2_with (go_at_call 74; refine (fb_28 _ (by first | exact h | exact h.alloc _)).mono ?_; rintro e w' ⟨rfl, hB⟩)
  go_ret
  exact ⟨rfl, hB⟩
set_option maxHeartbeats 400000 in
theorem fj_28 (w : World) (h : Tab w) : Calls Tryd.prog 39 #[.int .i64 28, .int .i64 16] w fun e w' => e = .returned (.string ⟨#[49, 99]⟩) ∧ Below w.heap.size w w' := by
  go_enter Tryd.func39, Tryd.ntmps39
  go_wp2_with (go_at_call 60; refine (fi_28 w h).mono ?_; rintro e w' ⟨rfl, hB⟩)
  go_ret
  exact ⟨rfl, hB⟩
set_option maxHeartbeats 400000 in
theorem qt_28 (w : World) (h : Tab w) : Calls Tryd.prog 29 #[.int .i32 28] w fun e w' => e = .returned (.string ⟨#[92, 117, 123, 49, 99, 125]⟩) ∧ Below w.heap.size w w' := by
  go_enter Tryd.func29, Tryd.ntmps29
  go_wp2_with (go_at_call 39; refine (fj_28 w h).mono ?_; rintro e w' ⟨rfl, hB⟩)
  go_ret
  exact ⟨rfl, hB⟩
end Go.Proofs.YtpdkeggiokebmaaDoor

/- Hexadecimal digits by internal/strconv, part 1. -/
namespace Go.Proofs.YtpdkeggiokebmaaDoor
set_option linter.unusedSimpArgs false
set_option linter.unusedVariables false
open Go.RowKit

set_option maxHeartbeats 400000 in
set_option maxRecDepth 100000 in
theorem fb_1 (w : World) (h : Tab w) :
    Calls Tryd.prog 74 #[.slice none 0 0, .int .u64 1, .int .i64 16, .bool false, .bool false] w fun e w' => e = .returned (.tuple #[.slice none 0 0, .string ⟨#[49]⟩]) ∧ Below w.heap.size w w' := by
  have hc := conv1 w
  go_enter Tryd.func74, Tryd.ntmps74
  go_wp2_with (first | (go_at_call 85; refine (p2 _).mono ?_; rintro e w' ⟨rfl, rfl⟩) | (go_at_call 86; refine (tz _ (h.alloc _)).mono ?_; rintro e w' ⟨rfl, rfl⟩))
  refine wp_loop_rounds 1 ?_
  rw [rounds_succ]
  go_wp2
  go_ret2
  exact ⟨rfl, (Below.refl _ _).alloc (Nat.le_refl _) _⟩

set_option maxHeartbeats 400000 in
theorem fi_1 (w : World) (h : Tab w) : Calls Tryd.prog 60 #[.int .i64 1, .int .i64 16] w fun e w' => e = .returned (.string ⟨#[49]⟩) ∧ Below w.heap.size w w' := by
  go_enter Tryd.func60, Tryd.ntmps60
  go_wp2_with (go_at_call 74; refine (fb_1 _ (by first | exact h | exact h.alloc _)).mono ?_; rintro e w' ⟨rfl, hB⟩)
  go_ret
  exact ⟨rfl, hB⟩
set_option maxHeartbeats 400000 in
theorem fj_1 (w : World) (h : Tab w) : Calls Tryd.prog 39 #[.int .i64 1, .int .i64 16] w fun e w' => e = .returned (.string ⟨#[49]⟩) ∧ Below w.heap.size w w' := by
  go_enter Tryd.func39, Tryd.ntmps39
  go_wp2_with (go_at_call 60; refine (fi_1 w h).mono ?_; rintro e w' ⟨rfl, hB⟩)
  go_ret
  exact ⟨rfl, hB⟩
set_option maxHeartbeats 400000 in
theorem qt_1 (w : World) (h : Tab w) : Calls Tryd.prog 29 #[.int .i32 1] w fun e w' => e = .returned (.string ⟨#[92, 117, 123, 49, 125]⟩) ∧ Below w.heap.size w w' := by
  go_enter Tryd.func29, Tryd.ntmps29
  go_wp2_with (go_at_call 39; refine (fj_1 w h).mono ?_; rintro e w' ⟨rfl, hB⟩)
  go_ret
  exact ⟨rfl, hB⟩
set_option maxHeartbeats 400000 in
set_option maxRecDepth 100000 in
theorem fb_6 (w : World) (h : Tab w) :
    Calls Tryd.prog 74 #[.slice none 0 0, .int .u64 6, .int .i64 16, .bool false, .bool false] w fun e w' => e = .returned (.tuple #[.slice none 0 0, .string ⟨#[54]⟩]) ∧ Below w.heap.size w w' := by
  have hc := conv1 w
  go_enter Tryd.func74, Tryd.ntmps74
  go_wp2_with (first | (go_at_call 85; refine (p2 _).mono ?_; rintro e w' ⟨rfl, rfl⟩) | (go_at_call 86; refine (tz _ (h.alloc _)).mono ?_; rintro e w' ⟨rfl, rfl⟩))
  refine wp_loop_rounds 1 ?_
  rw [rounds_succ]
  go_wp2
  go_ret2
  exact ⟨rfl, (Below.refl _ _).alloc (Nat.le_refl _) _⟩

set_option maxHeartbeats 400000 in
theorem fi_6 (w : World) (h : Tab w) : Calls Tryd.prog 60 #[.int .i64 6, .int .i64 16] w fun e w' => e = .returned (.string ⟨#[54]⟩) ∧ Below w.heap.size w w' := by
  go_enter Tryd.func60, Tryd.ntmps60
  go_wp2_with (go_at_call 74; refine (fb_6 _ (by first | exact h | exact h.alloc _)).mono ?_; rintro e w' ⟨rfl, hB⟩)
  go_ret
  exact ⟨rfl, hB⟩
set_option maxHeartbeats 400000 in
theorem fj_6 (w : World) (h : Tab w) : Calls Tryd.prog 39 #[.int .i64 6, .int .i64 16] w fun e w' => e = .returned (.string ⟨#[54]⟩) ∧ Below w.heap.size w w' := by
  go_enter Tryd.func39, Tryd.ntmps39
  go_wp2_with (go_at_call 60; refine (fi_6 w h).mono ?_; rintro e w' ⟨rfl, hB⟩)
  go_ret
  exact ⟨rfl, hB⟩
set_option maxHeartbeats 400000 in
theorem qt_6 (w : World) (h : Tab w) : Calls Tryd.prog 29 #[.int .i32 6] w fun e w' => e = .returned (.string ⟨#[92, 117, 123, 54, 125]⟩) ∧ Below w.heap.size w w' := by
  go_enter Tryd.func29, Tryd.ntmps29
  go_wp2_with (go_at_call 39; refine (fj_6 w h).mono ?_; rintro e w' ⟨rfl, hB⟩)
  go_ret
  exact ⟨rfl, hB⟩
set_option maxHeartbeats 400000 in
set_option maxRecDepth 100000 in
theorem fb_14 (w : World) (h : Tab w) :
    Calls Tryd.prog 74 #[.slice none 0 0, .int .u64 14, .int .i64 16, .bool false, .bool false] w fun e w' => e = .returned (.tuple #[.slice none 0 0, .string ⟨#[101]⟩]) ∧ Below w.heap.size w w' := by
  have hc := conv1 w
  go_enter Tryd.func74, Tryd.ntmps74
  go_wp2_with (first | (go_at_call 85; refine (p2 _).mono ?_; rintro e w' ⟨rfl, rfl⟩) | (go_at_call 86; refine (tz _ (h.alloc _)).mono ?_; rintro e w' ⟨rfl, rfl⟩))
  refine wp_loop_rounds 1 ?_
  rw [rounds_succ]
  go_wp2
  go_ret2
  exact ⟨rfl, (Below.refl _ _).alloc (Nat.le_refl _) _⟩

set_option maxHeartbeats 400000 in
theorem fi_14 (w : World) (h : Tab w) : Calls Tryd.prog 60 #[.int .i64 14, .int .i64 16] w fun e w' => e = .returned (.string ⟨#[101]⟩) ∧ Below w.heap.size w w' := by
  go_enter Tryd.func60, Tryd.ntmps60
  go_wp2_with (go_at_call 74; refine (fb_14 _ (by first | exact h | exact h.alloc _)).mono ?_; rintro e w' ⟨rfl, hB⟩)
  go_ret
  exact ⟨rfl, hB⟩
set_option maxHeartbeats 400000 in
theorem fj_14 (w : World) (h : Tab w) : Calls Tryd.prog 39 #[.int .i64 14, .int .i64 16] w fun e w' => e = .returned (.string ⟨#[101]⟩) ∧ Below w.heap.size w w' := by
  go_enter Tryd.func39, Tryd.ntmps39
  go_wp2_with (go_at_call 60; refine (fi_14 w h).mono ?_; rintro e w' ⟨rfl, hB⟩)
  go_ret
  exact ⟨rfl, hB⟩
set_option maxHeartbeats 400000 in
theorem qt_14 (w : World) (h : Tab w) : Calls Tryd.prog 29 #[.int .i32 14] w fun e w' => e = .returned (.string ⟨#[92, 117, 123, 101, 125]⟩) ∧ Below w.heap.size w w' := by
  go_enter Tryd.func29, Tryd.ntmps29
  go_wp2_with (go_at_call 39; refine (fj_14 w h).mono ?_; rintro e w' ⟨rfl, hB⟩)
  go_ret
  exact ⟨rfl, hB⟩
set_option maxHeartbeats 400000 in
set_option maxRecDepth 100000 in
theorem fb_19 (w : World) (h : Tab w) :
    Calls Tryd.prog 74 #[.slice none 0 0, .int .u64 19, .int .i64 16, .bool false, .bool false] w fun e w' => e = .returned (.tuple #[.slice none 0 0, .string ⟨#[49, 51]⟩]) ∧ Below w.heap.size w w' := by
  have hc := conv2 w
  go_enter Tryd.func74, Tryd.ntmps74
  go_wp2_with (first | (go_at_call 85; refine (p2 _).mono ?_; rintro e w' ⟨rfl, rfl⟩) | (go_at_call 86; refine (tz _ (h.alloc _)).mono ?_; rintro e w' ⟨rfl, rfl⟩))
  refine wp_loop_rounds 2 ?_
  rw [rounds_succ]
  go_wp2
  rw [rounds_succ]
  go_wp2
  go_ret2
  exact ⟨rfl, (Below.refl _ _).alloc (Nat.le_refl _) _⟩

set_option maxHeartbeats 400000 in
theorem fi_19 (w : World) (h : Tab w) : Calls Tryd.prog 60 #[.int .i64 19, .int .i64 16] w fun e w' => e = .returned (.string ⟨#[49, 51]⟩) ∧ Below w.heap.size w w' := by
  go_enter Tryd.func60, Tryd.ntmps60
  go_wp2_with (go_at_call 74; refine (fb_19 _ (by first | exact h | exact h.alloc _)).mono ?_; rintro e w' ⟨rfl, hB⟩)
  go_ret
  exact ⟨rfl, hB⟩
set_option maxHeartbeats 400000 in
theorem fj_19 (w : World) (h : Tab w) : Calls Tryd.prog 39 #[.int .i64 19, .int .i64 16] w fun e w' => e = .returned (.string ⟨#[49, 51]⟩) ∧ Below w.heap.size w w' := by
  go_enter Tryd.func39, Tryd.ntmps39
  go_wp2_with (go_at_call 60; refine (fi_19 w h).mono ?_; rintro e w' ⟨rfl, hB⟩)
  go_ret
  exact ⟨rfl, hB⟩
set_option maxHeartbeats 400000 in
theorem qt_19 (w : World) (h : Tab w) : Calls Tryd.prog 29 #[.int .i32 19] w fun e w' => e = .returned (.string ⟨#[92, 117, 123, 49, 51, 125]⟩) ∧ Below w.heap.size w w' := by
  go_enter Tryd.func29, Tryd.ntmps29
  go_wp2_with (go_at_call 39; refine (fj_19 w h).mono ?_; rintro e w' ⟨rfl, hB⟩)
  go_ret
  exact ⟨rfl, hB⟩
set_option maxHeartbeats 400000 in
set_option maxRecDepth 100000 in
theorem fb_24 (w : World) (h : Tab w) :
    Calls Tryd.prog 74 #[.slice none 0 0, .int .u64 24, .int .i64 16, .bool false, .bool false] w fun e w' => e = .returned (.tuple #[.slice none 0 0, .string ⟨#[49, 56]⟩]) ∧ Below w.heap.size w w' := by
  have hc := conv2 w
  go_enter Tryd.func74, Tryd.ntmps74
  go_wp2_with (first | (go_at_call 85; refine (p2 _).mono ?_; rintro e w' ⟨rfl, rfl⟩) | (go_at_call 86; refine (tz _ (h.alloc _)).mono ?_; rintro e w' ⟨rfl, rfl⟩))
  refine wp_loop_rounds 2 ?_
  rw [rounds_succ]
  go_wp2
  rw [rounds_succ]
  go_wp2
  go_ret2
  exact ⟨rfl, (Below.refl _ _).alloc (Nat.le_refl _) _⟩

set_option maxHeartbeats 400000 in
theorem fi_24 (w : World) (h : Tab w) : Calls Tryd.prog 60 #[.int .i64 24, .int .i64 16] w fun e w' => e = .returned (.string ⟨#[49, 56]⟩) ∧ Below w.heap.size w w' := by
  go_enter Tryd.func60, Tryd.ntmps60
  go_wp2_with (go_at_call 74; refine (fb_24 _ (by first | exact h | exact h.alloc _)).mono ?_; rintro e w' ⟨rfl, hB⟩)
  go_ret
  exact ⟨rfl, hB⟩
set_option maxHeartbeats 400000 in
theorem fj_24 (w : World) (h : Tab w) : Calls Tryd.prog 39 #[.int .i64 24, .int .i64 16] w fun e w' => e = .returned (.string ⟨#[49, 56]⟩) ∧ Below w.heap.size w w' := by
  go_enter Tryd.func39, Tryd.ntmps39
  go_wp2_with (go_at_call 60; refine (fi_24 w h).mono ?_; rintro e w' ⟨rfl, hB⟩)
  go_ret
  exact ⟨rfl, hB⟩
set_option maxHeartbeats 400000 in
theorem qt_24 (w : World) (h : Tab w) : Calls Tryd.prog 29 #[.int .i32 24] w fun e w' => e = .returned (.string ⟨#[92, 117, 123, 49, 56, 125]⟩) ∧ Below w.heap.size w w' := by
  go_enter Tryd.func29, Tryd.ntmps29
  go_wp2_with (go_at_call 39; refine (fj_24 w h).mono ?_; rintro e w' ⟨rfl, hB⟩)
  go_ret
  exact ⟨rfl, hB⟩
set_option maxHeartbeats 400000 in
set_option maxRecDepth 100000 in
theorem fb_29 (w : World) (h : Tab w) :
    Calls Tryd.prog 74 #[.slice none 0 0, .int .u64 29, .int .i64 16, .bool false, .bool false] w fun e w' => e = .returned (.tuple #[.slice none 0 0, .string ⟨#[49, 100]⟩]) ∧ Below w.heap.size w w' := by
  have hc := conv2 w
  go_enter Tryd.func74, Tryd.ntmps74
  go_wp2_with (first | (go_at_call 85; refine (p2 _).mono ?_; rintro e w' ⟨rfl, rfl⟩) | (go_at_call 86; refine (tz _ (h.alloc _)).mono ?_; rintro e w' ⟨rfl, rfl⟩))
  refine wp_loop_rounds 2 ?_
  rw [rounds_succ]
  go_wp2
  rw [rounds_succ]
  go_wp2
  go_ret2
  exact ⟨rfl, (Below.refl _ _).alloc (Nat.le_refl _) _⟩

set_option maxHeartbeats 400000 in
theorem fi_29 (w : World) (h : Tab w) : Calls Tryd.prog 60 #[.int .i64 29, .int .i64 16] w fun e w' => e = .returned (.string ⟨#[49, 100]⟩) ∧ Below w.heap.size w w' := by
  go_enter Tryd.func60, Tryd.ntmps60
  go_wp2_with (go_at_call 74; refine (fb_29 _ (by first | exact h | exact h.alloc _)).mono ?_; rintro e w' ⟨rfl, hB⟩)
  go_ret
  exact ⟨rfl, hB⟩
set_option maxHeartbeats 400000 in
theorem fj_29 (w : World) (h : Tab w) : Calls Tryd.prog 39 #[.int .i64 29, .int .i64 16] w fun e w' => e = .returned (.string ⟨#[49, 100]⟩) ∧ Below w.heap.size w w' := by
  go_enter Tryd.func39, Tryd.ntmps39
  go_wp2_with (go_at_call 60; refine (fi_29 w h).mono ?_; rintro e w' ⟨rfl, hB⟩)
  go_ret
  exact ⟨rfl, hB⟩
set_option maxHeartbeats 400000 in
theorem qt_29 (w : World) (h : Tab w) : Calls Tryd.prog 29 #[.int .i32 29] w fun e w' => e = .returned (.string ⟨#[92, 117, 123, 49, 100, 125]⟩) ∧ Below w.heap.size w w' := by
  go_enter Tryd.func29, Tryd.ntmps29
  go_wp2_with (go_at_call 39; refine (fj_29 w h).mono ?_; rintro e w' ⟨rfl, hB⟩)
  go_ret
  exact ⟨rfl, hB⟩
end Go.Proofs.YtpdkeggiokebmaaDoor

/- Hexadecimal digits by internal/strconv, part 2. -/
namespace Go.Proofs.YtpdkeggiokebmaaDoor
set_option linter.unusedSimpArgs false
set_option linter.unusedVariables false
open Go.RowKit

set_option maxHeartbeats 400000 in
set_option maxRecDepth 100000 in
theorem fb_2 (w : World) (h : Tab w) :
    Calls Tryd.prog 74 #[.slice none 0 0, .int .u64 2, .int .i64 16, .bool false, .bool false] w fun e w' => e = .returned (.tuple #[.slice none 0 0, .string ⟨#[50]⟩]) ∧ Below w.heap.size w w' := by
  have hc := conv1 w
  go_enter Tryd.func74, Tryd.ntmps74
  go_wp2_with (first | (go_at_call 85; refine (p2 _).mono ?_; rintro e w' ⟨rfl, rfl⟩) | (go_at_call 86; refine (tz _ (h.alloc _)).mono ?_; rintro e w' ⟨rfl, rfl⟩))
  refine wp_loop_rounds 1 ?_
  rw [rounds_succ]
  go_wp2
  go_ret2
  exact ⟨rfl, (Below.refl _ _).alloc (Nat.le_refl _) _⟩

set_option maxHeartbeats 400000 in
theorem fi_2 (w : World) (h : Tab w) : Calls Tryd.prog 60 #[.int .i64 2, .int .i64 16] w fun e w' => e = .returned (.string ⟨#[50]⟩) ∧ Below w.heap.size w w' := by
  go_enter Tryd.func60, Tryd.ntmps60
  go_wp2_with (go_at_call 74; refine (fb_2 _ (by first | exact h | exact h.alloc _)).mono ?_; rintro e w' ⟨rfl, hB⟩)
  go_ret
  exact ⟨rfl, hB⟩
set_option maxHeartbeats 400000 in
theorem fj_2 (w : World) (h : Tab w) : Calls Tryd.prog 39 #[.int .i64 2, .int .i64 16] w fun e w' => e = .returned (.string ⟨#[50]⟩) ∧ Below w.heap.size w w' := by
  go_enter Tryd.func39, Tryd.ntmps39
  go_wp2_with (go_at_call 60; refine (fi_2 w h).mono ?_; rintro e w' ⟨rfl, hB⟩)
  go_ret
  exact ⟨rfl, hB⟩
set_option maxHeartbeats 400000 in
theorem qt_2 (w : World) (h : Tab w) : Calls Tryd.prog 29 #[.int .i32 2] w fun e w' => e = .returned (.string ⟨#[92, 117, 123, 50, 125]⟩) ∧ Below w.heap.size w w' := by
  go_enter Tryd.func29, Tryd.ntmps29
  go_wp2_with (go_at_call 39; refine (fj_2 w h).mono ?_; rintro e w' ⟨rfl, hB⟩)
  go_ret
  exact ⟨rfl, hB⟩
set_option maxHeartbeats 400000 in
set_option maxRecDepth 100000 in
theorem fb_7 (w : World) (h : Tab w) :
    Calls Tryd.prog 74 #[.slice none 0 0, .int .u64 7, .int .i64 16, .bool false, .bool false] w fun e w' => e = .returned (.tuple #[.slice none 0 0, .string ⟨#[55]⟩]) ∧ Below w.heap.size w w' := by
  have hc := conv1 w
  go_enter Tryd.func74, Tryd.ntmps74
  go_wp2_with (first | (go_at_call 85; refine (p2 _).mono ?_; rintro e w' ⟨rfl, rfl⟩) | (go_at_call 86; refine (tz _ (h.alloc _)).mono ?_; rintro e w' ⟨rfl, rfl⟩))
  refine wp_loop_rounds 1 ?_
  rw [rounds_succ]
  go_wp2
  go_ret2
  exact ⟨rfl, (Below.refl _ _).alloc (Nat.le_refl _) _⟩

set_option maxHeartbeats 400000 in
theorem fi_7 (w : World) (h : Tab w) : Calls Tryd.prog 60 #[.int .i64 7, .int .i64 16] w fun e w' => e = .returned (.string ⟨#[55]⟩) ∧ Below w.heap.size w w' := by
  go_enter Tryd.func60, Tryd.ntmps60
  go_wp2_with (go_at_call 74; refine (fb_7 _ (by first | exact h | exact h.alloc _)).mono ?_; rintro e w' ⟨rfl, hB⟩)
  go_ret
  exact ⟨rfl, hB⟩
set_option maxHeartbeats 400000 in
theorem fj_7 (w : World) (h : Tab w) : Calls Tryd.prog 39 #[.int .i64 7, .int .i64 16] w fun e w' => e = .returned (.string ⟨#[55]⟩) ∧ Below w.heap.size w w' := by
  go_enter Tryd.func39, Tryd.ntmps39
  go_wp2_with (go_at_call 60; refine (fi_7 w h).mono ?_; rintro e w' ⟨rfl, hB⟩)
  go_ret
  exact ⟨rfl, hB⟩
set_option maxHeartbeats 400000 in
theorem qt_7 (w : World) (h : Tab w) : Calls Tryd.prog 29 #[.int .i32 7] w fun e w' => e = .returned (.string ⟨#[92, 117, 123, 55, 125]⟩) ∧ Below w.heap.size w w' := by
  go_enter Tryd.func29, Tryd.ntmps29
  go_wp2_with (go_at_call 39; refine (fj_7 w h).mono ?_; rintro e w' ⟨rfl, hB⟩)
  go_ret
  exact ⟨rfl, hB⟩
set_option maxHeartbeats 400000 in
set_option maxRecDepth 100000 in
theorem fb_15 (w : World) (h : Tab w) :
    Calls Tryd.prog 74 #[.slice none 0 0, .int .u64 15, .int .i64 16, .bool false, .bool false] w fun e w' => e = .returned (.tuple #[.slice none 0 0, .string ⟨#[102]⟩]) ∧ Below w.heap.size w w' := by
  have hc := conv1 w
  go_enter Tryd.func74, Tryd.ntmps74
  go_wp2_with (first | (go_at_call 85; refine (p2 _).mono ?_; rintro e w' ⟨rfl, rfl⟩) | (go_at_call 86; refine (tz _ (h.alloc _)).mono ?_; rintro e w' ⟨rfl, rfl⟩))
  refine wp_loop_rounds 1 ?_
  rw [rounds_succ]
  go_wp2
  go_ret2
  exact ⟨rfl, (Below.refl _ _).alloc (Nat.le_refl _) _⟩

set_option maxHeartbeats 400000 in
theorem fi_15 (w : World) (h : Tab w) : Calls Tryd.prog 60 #[.int .i64 15, .int .i64 16] w fun e w' => e = .returned (.string ⟨#[102]⟩) ∧ Below w.heap.size w w' := by
  go_enter Tryd.func60, Tryd.ntmps60
  go_wp2_with (go_at_call 74; refine (fb_15 _ (by first | exact h | exact h.alloc _)).mono ?_; rintro e w' ⟨rfl, hB⟩)
  go_ret
  exact ⟨rfl, hB⟩
set_option maxHeartbeats 400000 in
theorem fj_15 (w : World) (h : Tab w) : Calls Tryd.prog 39 #[.int .i64 15, .int .i64 16] w fun e w' => e = .returned (.string ⟨#[102]⟩) ∧ Below w.heap.size w w' := by
  go_enter Tryd.func39, Tryd.ntmps39
  go_wp2_with (go_at_call 60; refine (fi_15 w h).mono ?_; rintro e w' ⟨rfl, hB⟩)
  go_ret
  exact ⟨rfl, hB⟩
set_option maxHeartbeats 400000 in
theorem qt_15 (w : World) (h : Tab w) : Calls Tryd.prog 29 #[.int .i32 15] w fun e w' => e = .returned (.string ⟨#[92, 117, 123, 102, 125]⟩) ∧ Below w.heap.size w w' := by
  go_enter Tryd.func29, Tryd.ntmps29
  go_wp2_with (go_at_call 39; refine (fj_15 w h).mono ?_; rintro e w' ⟨rfl, hB⟩)
  go_ret
  exact ⟨rfl, hB⟩
set_option maxHeartbeats 400000 in
set_option maxRecDepth 100000 in
theorem fb_20 (w : World) (h : Tab w) :
    Calls Tryd.prog 74 #[.slice none 0 0, .int .u64 20, .int .i64 16, .bool false, .bool false] w fun e w' => e = .returned (.tuple #[.slice none 0 0, .string ⟨#[49, 52]⟩]) ∧ Below w.heap.size w w' := by
  have hc := conv2 w
  go_enter Tryd.func74, Tryd.ntmps74
  go_wp2_with (first | (go_at_call 85; refine (p2 _).mono ?_; rintro e w' ⟨rfl, rfl⟩) | (go_at_call 86; refine (tz _ (h.alloc _)).mono ?_; rintro e w' ⟨rfl, rfl⟩))
  refine wp_loop_rounds 2 ?_
  rw [rounds_succ]
  go_wp2
  rw [rounds_succ]
  go_wp2
  go_ret2
  exact ⟨rfl, (Below.refl _ _).alloc (Nat.le_refl _) _⟩

set_option maxHeartbeats 400000 in
theorem fi_20 (w : World) (h : Tab w) : Calls Tryd.prog 60 #[.int .i64 20, .int .i64 16] w fun e w' => e = .returned (.string ⟨#[49, 52]⟩) ∧ Below w.heap.size w w' := by
  go_enter Tryd.func60, Tryd.ntmps60
  go_wp2_with (go_at_call 74; refine (fb_20 _ (by first | exact h | exact h.alloc _)).mono ?_; rintro e w' ⟨rfl, hB⟩)
  go_ret
  exact ⟨rfl, hB⟩
set_option maxHeartbeats 400000 in
theorem fj_20 (w : World) (h : Tab w) : Calls Tryd.prog 39 #[.int .i64 20, .int .i64 16] w fun e w' => e = .returned (.string ⟨#[49, 52]⟩) ∧ Below w.heap.size w w' := by
  go_enter Tryd.func39, Tryd.ntmps39
  go_wp2_with (go_at_call 60; refine (fi_20 w h).mono ?_; rintro e w' ⟨rfl, hB⟩)
  go_ret
  exact ⟨rfl, hB⟩
set_option maxHeartbeats 400000 in
theorem qt_20 (w : World) (h : Tab w) : Calls Tryd.prog 29 #[.int .i32 20] w fun e w' => e = .returned (.string ⟨#[92, 117, 123, 49, 52, 125]⟩) ∧ Below w.heap.size w w' := by
  go_enter Tryd.func29, Tryd.ntmps29
  go_wp2_with (go_at_call 39; refine (fj_20 w h).mono ?_; rintro e w' ⟨rfl, hB⟩)
  go_ret
  exact ⟨rfl, hB⟩
set_option maxHeartbeats 400000 in
set_option maxRecDepth 100000 in
theorem fb_25 (w : World) (h : Tab w) :
    Calls Tryd.prog 74 #[.slice none 0 0, .int .u64 25, .int .i64 16, .bool false, .bool false] w fun e w' => e = .returned (.tuple #[.slice none 0 0, .string ⟨#[49, 57]⟩]) ∧ Below w.heap.size w w' := by
  have hc := conv2 w
  go_enter Tryd.func74, Tryd.ntmps74
  go_wp2_with (first | (go_at_call 85; refine (p2 _).mono ?_; rintro e w' ⟨rfl, rfl⟩) | (go_at_call 86; refine (tz _ (h.alloc _)).mono ?_; rintro e w' ⟨rfl, rfl⟩))
  refine wp_loop_rounds 2 ?_
  rw [rounds_succ]
  go_wp2
  rw [rounds_succ]
  go_wp2
  go_ret2
  exact ⟨rfl, (Below.refl _ _).alloc (Nat.le_refl _) _⟩

set_option maxHeartbeats 400000 in
theorem fi_25 (w : World) (h : Tab w) : Calls Tryd.prog 60 #[.int .i64 25, .int .i64 16] w fun e w' => e = .returned (.string ⟨#[49, 57]⟩) ∧ Below w.heap.size w w' := by
  go_enter Tryd.func60, Tryd.ntmps60
  go_wp2_with (go_at_call 74; refine (fb_25 _ (by first | exact h | exact h.alloc _)).mono ?_; rintro e w' ⟨rfl, hB⟩)
  go_ret
  exact ⟨rfl, hB⟩
set_option maxHeartbeats 400000 in
theorem fj_25 (w : World) (h : Tab w) : Calls Tryd.prog 39 #[.int .i64 25, .int .i64 16] w fun e w' => e = .returned (.string ⟨#[49, 57]⟩) ∧ Below w.heap.size w w' := by
  go_enter Tryd.func39, Tryd.ntmps39
  go_wp2_with (go_at_call 60; refine (fi_25 w h).mono ?_; rintro e w' ⟨rfl, hB⟩)
  go_ret
  exact ⟨rfl, hB⟩
set_option maxHeartbeats 400000 in
theorem qt_25 (w : World) (h : Tab w) : Calls Tryd.prog 29 #[.int .i32 25] w fun e w' => e = .returned (.string ⟨#[92, 117, 123, 49, 57, 125]⟩) ∧ Below w.heap.size w w' := by
  go_enter Tryd.func29, Tryd.ntmps29
  go_wp2_with (go_at_call 39; refine (fj_25 w h).mono ?_; rintro e w' ⟨rfl, hB⟩)
  go_ret
  exact ⟨rfl, hB⟩
set_option maxHeartbeats 400000 in
set_option maxRecDepth 100000 in
theorem fb_30 (w : World) (h : Tab w) :
    Calls Tryd.prog 74 #[.slice none 0 0, .int .u64 30, .int .i64 16, .bool false, .bool false] w fun e w' => e = .returned (.tuple #[.slice none 0 0, .string ⟨#[49, 101]⟩]) ∧ Below w.heap.size w w' := by
  have hc := conv2 w
  go_enter Tryd.func74, Tryd.ntmps74
  go_wp2_with (first | (go_at_call 85; refine (p2 _).mono ?_; rintro e w' ⟨rfl, rfl⟩) | (go_at_call 86; refine (tz _ (h.alloc _)).mono ?_; rintro e w' ⟨rfl, rfl⟩))
  refine wp_loop_rounds 2 ?_
  rw [rounds_succ]
  go_wp2
  rw [rounds_succ]
  go_wp2
  go_ret2
  exact ⟨rfl, (Below.refl _ _).alloc (Nat.le_refl _) _⟩

set_option maxHeartbeats 400000 in
theorem fi_30 (w : World) (h : Tab w) : Calls Tryd.prog 60 #[.int .i64 30, .int .i64 16] w fun e w' => e = .returned (.string ⟨#[49, 101]⟩) ∧ Below w.heap.size w w' := by
  go_enter Tryd.func60, Tryd.ntmps60
  go_wp2_with (go_at_call 74; refine (fb_30 _ (by first | exact h | exact h.alloc _)).mono ?_; rintro e w' ⟨rfl, hB⟩)
  go_ret
  exact ⟨rfl, hB⟩
set_option maxHeartbeats 400000 in
theorem fj_30 (w : World) (h : Tab w) : Calls Tryd.prog 39 #[.int .i64 30, .int .i64 16] w fun e w' => e = .returned (.string ⟨#[49, 101]⟩) ∧ Below w.heap.size w w' := by
  go_enter Tryd.func39, Tryd.ntmps39
  go_wp2_with (go_at_call 60; refine (fi_30 w h).mono ?_; rintro e w' ⟨rfl, hB⟩)
  go_ret
  exact ⟨rfl, hB⟩
set_option maxHeartbeats 400000 in
theorem qt_30 (w : World) (h : Tab w) : Calls Tryd.prog 29 #[.int .i32 30] w fun e w' => e = .returned (.string ⟨#[92, 117, 123, 49, 101, 125]⟩) ∧ Below w.heap.size w w' := by
  go_enter Tryd.func29, Tryd.ntmps29
  go_wp2_with (go_at_call 39; refine (fj_30 w h).mono ?_; rintro e w' ⟨rfl, hB⟩)
  go_ret
  exact ⟨rfl, hB⟩
end Go.Proofs.YtpdkeggiokebmaaDoor

/- Hexadecimal digits by internal/strconv, part 3. -/
namespace Go.Proofs.YtpdkeggiokebmaaDoor
set_option linter.unusedSimpArgs false
set_option linter.unusedVariables false
open Go.RowKit

set_option maxHeartbeats 400000 in
set_option maxRecDepth 100000 in
theorem fb_3 (w : World) (h : Tab w) :
    Calls Tryd.prog 74 #[.slice none 0 0, .int .u64 3, .int .i64 16, .bool false, .bool false] w fun e w' => e = .returned (.tuple #[.slice none 0 0, .string ⟨#[51]⟩]) ∧ Below w.heap.size w w' := by
  have hc := conv1 w
  go_enter Tryd.func74, Tryd.ntmps74
  go_wp2_with (first | (go_at_call 85; refine (p2 _).mono ?_; rintro e w' ⟨rfl, rfl⟩) | (go_at_call 86; refine (tz _ (h.alloc _)).mono ?_; rintro e w' ⟨rfl, rfl⟩))
  refine wp_loop_rounds 1 ?_
  rw [rounds_succ]
  go_wp2
  go_ret2
  exact ⟨rfl, (Below.refl _ _).alloc (Nat.le_refl _) _⟩

set_option maxHeartbeats 400000 in
theorem fi_3 (w : World) (h : Tab w) : Calls Tryd.prog 60 #[.int .i64 3, .int .i64 16] w fun e w' => e = .returned (.string ⟨#[51]⟩) ∧ Below w.heap.size w w' := by
  go_enter Tryd.func60, Tryd.ntmps60
  go_wp2_with (go_at_call 74; refine (fb_3 _ (by first | exact h | exact h.alloc _)).mono ?_; rintro e w' ⟨rfl, hB⟩)
  go_ret
  exact ⟨rfl, hB⟩
set_option maxHeartbeats 400000 in
theorem fj_3 (w : World) (h : Tab w) : Calls Tryd.prog 39 #[.int .i64 3, .int .i64 16] w fun e w' => e = .returned (.string ⟨#[51]⟩) ∧ Below w.heap.size w w' := by
  go_enter Tryd.func39, Tryd.ntmps39
  go_wp2_with (go_at_call 60; refine (fi_3 w h).mono ?_; rintro e w' ⟨rfl, hB⟩)
  go_ret
  exact ⟨rfl, hB⟩
set_option maxHeartbeats 400000 in
theorem qt_3 (w : World) (h : Tab w) : Calls Tryd.prog 29 #[.int .i32 3] w fun e w' => e = .returned (.string ⟨#[92, 117, 123, 51, 125]⟩) ∧ Below w.heap.size w w' := by
  go_enter Tryd.func29, Tryd.ntmps29
  go_wp2_with (go_at_call 39; refine (fj_3 w h).mono ?_; rintro e w' ⟨rfl, hB⟩)
  go_ret
  exact ⟨rfl, hB⟩
set_option maxHeartbeats 400000 in
set_option maxRecDepth 100000 in
theorem fb_8 (w : World) (h : Tab w) :
    Calls Tryd.prog 74 #[.slice none 0 0, .int .u64 8, .int .i64 16, .bool false, .bool false] w fun e w' => e = .returned (.tuple #[.slice none 0 0, .string ⟨#[56]⟩]) ∧ Below w.heap.size w w' := by
  have hc := conv1 w
  go_enter Tryd.func74, Tryd.ntmps74
  go_wp2_with (first | (go_at_call 85; refine (p2 _).mono ?_; rintro e w' ⟨rfl, rfl⟩) | (go_at_call 86; refine (tz _ (h.alloc _)).mono ?_; rintro e w' ⟨rfl, rfl⟩))
  refine wp_loop_rounds 1 ?_
  rw [rounds_succ]
  go_wp2
  go_ret2
  exact ⟨rfl, (Below.refl _ _).alloc (Nat.le_refl _) _⟩

set_option maxHeartbeats 400000 in
theorem fi_8 (w : World) (h : Tab w) : Calls Tryd.prog 60 #[.int .i64 8, .int .i64 16] w fun e w' => e = .returned (.string ⟨#[56]⟩) ∧ Below w.heap.size w w' := by
  go_enter Tryd.func60, Tryd.ntmps60
  go_wp2_with (go_at_call 74; refine (fb_8 _ (by first | exact h | exact h.alloc _)).mono ?_; rintro e w' ⟨rfl, hB⟩)
  go_ret
  exact ⟨rfl, hB⟩
set_option maxHeartbeats 400000 in
theorem fj_8 (w : World) (h : Tab w) : Calls Tryd.prog 39 #[.int .i64 8, .int .i64 16] w fun e w' => e = .returned (.string ⟨#[56]⟩) ∧ Below w.heap.size w w' := by
  go_enter Tryd.func39, Tryd.ntmps39
  go_wp2_with (go_at_call 60; refine (fi_8 w h).mono ?_; rintro e w' ⟨rfl, hB⟩)
  go_ret
  exact ⟨rfl, hB⟩
set_option maxHeartbeats 400000 in
theorem qt_8 (w : World) (h : Tab w) : Calls Tryd.prog 29 #[.int .i32 8] w fun e w' => e = .returned (.string ⟨#[92, 117, 123, 56, 125]⟩) ∧ Below w.heap.size w w' := by
  go_enter Tryd.func29, Tryd.ntmps29
  go_wp2_with (go_at_call 39; refine (fj_8 w h).mono ?_; rintro e w' ⟨rfl, hB⟩)
  go_ret
  exact ⟨rfl, hB⟩
set_option maxHeartbeats 400000 in
set_option maxRecDepth 100000 in
theorem fb_16 (w : World) (h : Tab w) :
    Calls Tryd.prog 74 #[.slice none 0 0, .int .u64 16, .int .i64 16, .bool false, .bool false] w fun e w' => e = .returned (.tuple #[.slice none 0 0, .string ⟨#[49, 48]⟩]) ∧ Below w.heap.size w w' := by
  have hc := conv2 w
  go_enter Tryd.func74, Tryd.ntmps74
  go_wp2_with (first | (go_at_call 85; refine (p2 _).mono ?_; rintro e w' ⟨rfl, rfl⟩) | (go_at_call 86; refine (tz _ (h.alloc _)).mono ?_; rintro e w' ⟨rfl, rfl⟩))
  refine wp_loop_rounds 2 ?_
  rw [rounds_succ]
  go_wp2
  rw [rounds_succ]
  go_wp2
  go_ret2
  exact ⟨rfl, (Below.refl _ _).alloc (Nat.le_refl _) _⟩

set_option maxHeartbeats 400000 in
theorem fi_16 (w : World) (h : Tab w) : Calls Tryd.prog 60 #[.int .i64 16, .int .i64 16] w fun e w' => e = .returned (.string ⟨#[49, 48]⟩) ∧ Below w.heap.size w w' := by
  go_enter Tryd.func60, Tryd.ntmps60
  go_wp2_with (go_at_call 74; refine (fb_16 _ (by first | exact h | exact h.alloc _)).mono ?_; rintro e w' ⟨rfl, hB⟩)
  go_ret
  exact ⟨rfl, hB⟩
set_option maxHeartbeats 400000 in
theorem fj_16 (w : World) (h : Tab w) : Calls Tryd.prog 39 #[.int .i64 16, .int .i64 16] w fun e w' => e = .returned (.string ⟨#[49, 48]⟩) ∧ Below w.heap.size w w' := by
  go_enter Tryd.func39, Tryd.ntmps39
  go_wp2_with (go_at_call 60; refine (fi_16 w h).mono ?_; rintro e w' ⟨rfl, hB⟩)
  go_ret
  exact ⟨rfl, hB⟩
set_option maxHeartbeats 400000 in
theorem qt_16 (w : World) (h : Tab w) : Calls Tryd.prog 29 #[.int .i32 16] w fun e w' => e = .returned (.string ⟨#[92, 117, 123, 49, 48, 125]⟩) ∧ Below w.heap.size w w' := by
  go_enter Tryd.func29, Tryd.ntmps29
  go_wp2_with (go_at_call 39; refine (fj_16 w h).mono ?_; rintro e w' ⟨rfl, hB⟩)
  go_ret
  exact ⟨rfl, hB⟩
set_option maxHeartbeats 400000 in
set_option maxRecDepth 100000 in
theorem fb_21 (w : World) (h : Tab w) :
    Calls Tryd.prog 74 #[.slice none 0 0, .int .u64 21, .int .i64 16, .bool false, .bool false] w fun e w' => e = .returned (.tuple #[.slice none 0 0, .string ⟨#[49, 53]⟩]) ∧ Below w.heap.size w w' := by
  have hc := conv2 w
  go_enter Tryd.func74, Tryd.ntmps74
  go_wp2_with (first | (go_at_call 85; refine (p2 _).mono ?_; rintro e w' ⟨rfl, rfl⟩) | (go_at_call 86; refine (tz _ (h.alloc _)).mono ?_; rintro e w' ⟨rfl, rfl⟩))
  refine wp_loop_rounds 2 ?_
  rw [rounds_succ]
  go_wp2
  rw [rounds_succ]
  go_wp2
  go_ret2
  exact ⟨rfl, (Below.refl _ _).alloc (Nat.le_refl _) _⟩

set_option maxHeartbeats 400000 in
theorem fi_21 (w : World) (h : Tab w) : Calls Tryd.prog 60 #[.int .i64 21, .int .i64 16] w fun e w' => e = .returned (.string ⟨#[49, 53]⟩) ∧ Below w.heap.size w w' := by
  go_enter Tryd.func60, Tryd.ntmps60
  go_wp2_with (go_at_call 74; refine (fb_21 _ (by first | exact h | exact h.alloc _)).mono ?_; rintro e w' ⟨rfl, hB⟩)
  go_ret
  exact ⟨rfl, hB⟩
set_option maxHeartbeats 400000 in
theorem fj_21 (w : World) (h : Tab w) : Calls Tryd.prog 39 #[.int .i64 21, .int .i64 16] w fun e w' => e = .returned (.string ⟨#[49, 53]⟩) ∧ Below w.heap.size w w' := by
  go_enter Tryd.func39, Tryd.ntmps39
  go_wp2_with (go_at_call 60; refine (fi_21 w h).mono ?_; rintro e w' ⟨rfl, hB⟩)
  go_ret
  exact ⟨rfl, hB⟩
set_option maxHeartbeats 400000 in
theorem qt_21 (w : World) (h : Tab w) : Calls Tryd.prog 29 #[.int .i32 21] w fun e w' => e = .returned (.string ⟨#[92, 117, 123, 49, 53, 125]⟩) ∧ Below w.heap.size w w' := by
  go_enter Tryd.func29, Tryd.ntmps29
  go_wp2_with (go_at_call 39; refine (fj_21 w h).mono ?_; rintro e w' ⟨rfl, hB⟩)
  go_ret
  exact ⟨rfl, hB⟩
set_option maxHeartbeats 400000 in
set_option maxRecDepth 100000 in
theorem fb_26 (w : World) (h : Tab w) :
    Calls Tryd.prog 74 #[.slice none 0 0, .int .u64 26, .int .i64 16, .bool false, .bool false] w fun e w' => e = .returned (.tuple #[.slice none 0 0, .string ⟨#[49, 97]⟩]) ∧ Below w.heap.size w w' := by
  have hc := conv2 w
  go_enter Tryd.func74, Tryd.ntmps74
  go_wp2_with (first | (go_at_call 85; refine (p2 _).mono ?_; rintro e w' ⟨rfl, rfl⟩) | (go_at_call 86; refine (tz _ (h.alloc _)).mono ?_; rintro e w' ⟨rfl, rfl⟩))
  refine wp_loop_rounds 2 ?_
  rw [rounds_succ]
  go_wp2
  rw [rounds_succ]
  go_wp2
  go_ret2
  exact ⟨rfl, (Below.refl _ _).alloc (Nat.le_refl _) _⟩

set_option maxHeartbeats 400000 in
theorem fi_26 (w : World) (h : Tab w) : Calls Tryd.prog 60 #[.int .i64 26, .int .i64 16] w fun e w' => e = .returned (.string ⟨#[49, 97]⟩) ∧ Below w.heap.size w w' := by
  go_enter Tryd.func60, Tryd.ntmps60
  go_wp2_with (go_at_call 74; refine (fb_26 _ (by first | exact h | exact h.alloc _)).mono ?_; rintro e w' ⟨rfl, hB⟩)
  go_ret
  exact ⟨rfl, hB⟩
set_option maxHeartbeats 400000 in
theorem fj_26 (w : World) (h : Tab w) : Calls Tryd.prog 39 #[.int .i64 26, .int .i64 16] w fun e w' => e = .returned (.string ⟨#[49, 97]⟩) ∧ Below w.heap.size w w' := by
  go_enter Tryd.func39, Tryd.ntmps39
  go_wp2_with (go_at_call 60; refine (fi_26 w h).mono ?_; rintro e w' ⟨rfl, hB⟩)
  go_ret
  exact ⟨rfl, hB⟩
set_option maxHeartbeats 400000 in
theorem qt_26 (w : World) (h : Tab w) : Calls Tryd.prog 29 #[.int .i32 26] w fun e w' => e = .returned (.string ⟨#[92, 117, 123, 49, 97, 125]⟩) ∧ Below w.heap.size w w' := by
  go_enter Tryd.func29, Tryd.ntmps29
  go_wp2_with (go_at_call 39; refine (fj_26 w h).mono ?_; rintro e w' ⟨rfl, hB⟩)
  go_ret
  exact ⟨rfl, hB⟩
set_option maxHeartbeats 400000 in
set_option maxRecDepth 100000 in
theorem fb_31 (w : World) (h : Tab w) :
    Calls Tryd.prog 74 #[.slice none 0 0, .int .u64 31, .int .i64 16, .bool false, .bool false] w fun e w' => e = .returned (.tuple #[.slice none 0 0, .string ⟨#[49, 102]⟩]) ∧ Below w.heap.size w w' := by
  have hc := conv2 w
  go_enter Tryd.func74, Tryd.ntmps74
  go_wp2_with (first | (go_at_call 85; refine (p2 _).mono ?_; rintro e w' ⟨rfl, rfl⟩) | (go_at_call 86; refine (tz _ (h.alloc _)).mono ?_; rintro e w' ⟨rfl, rfl⟩))
  refine wp_loop_rounds 2 ?_
  rw [rounds_succ]
  go_wp2
  rw [rounds_succ]
  go_wp2
  go_ret2
  exact ⟨rfl, (Below.refl _ _).alloc (Nat.le_refl _) _⟩

set_option maxHeartbeats 400000 in
theorem fi_31 (w : World) (h : Tab w) : Calls Tryd.prog 60 #[.int .i64 31, .int .i64 16] w fun e w' => e = .returned (.string ⟨#[49, 102]⟩) ∧ Below w.heap.size w w' := by
  go_enter Tryd.func60, Tryd.ntmps60
  go_wp2_with (go_at_call 74; refine (fb_31 _ (by first | exact h | exact h.alloc _)).mono ?_; rintro e w' ⟨rfl, hB⟩)
  go_ret
  exact ⟨rfl, hB⟩
set_option maxHeartbeats 400000 in
theorem fj_31 (w : World) (h : Tab w) : Calls Tryd.prog 39 #[.int .i64 31, .int .i64 16] w fun e w' => e = .returned (.string ⟨#[49, 102]⟩) ∧ Below w.heap.size w w' := by
  go_enter Tryd.func39, Tryd.ntmps39
  go_wp2_with (go_at_call 60; refine (fi_31 w h).mono ?_; rintro e w' ⟨rfl, hB⟩)
  go_ret
  exact ⟨rfl, hB⟩
set_option maxHeartbeats 400000 in
theorem qt_31 (w : World) (h : Tab w) : Calls Tryd.prog 29 #[.int .i32 31] w fun e w' => e = .returned (.string ⟨#[92, 117, 123, 49, 102, 125]⟩) ∧ Below w.heap.size w w' := by
  go_enter Tryd.func29, Tryd.ntmps29
  go_wp2_with (go_at_call 39; refine (fj_31 w h).mono ?_; rintro e w' ⟨rfl, hB⟩)
  go_ret
  exact ⟨rfl, hB⟩
end Go.Proofs.YtpdkeggiokebmaaDoor

/- Hexadecimal digits by internal/strconv, part 4. -/
namespace Go.Proofs.YtpdkeggiokebmaaDoor
set_option linter.unusedSimpArgs false
set_option linter.unusedVariables false
open Go.RowKit

set_option maxHeartbeats 400000 in
set_option maxRecDepth 100000 in
theorem fb_4 (w : World) (h : Tab w) :
    Calls Tryd.prog 74 #[.slice none 0 0, .int .u64 4, .int .i64 16, .bool false, .bool false] w fun e w' => e = .returned (.tuple #[.slice none 0 0, .string ⟨#[52]⟩]) ∧ Below w.heap.size w w' := by
  have hc := conv1 w
  go_enter Tryd.func74, Tryd.ntmps74
  go_wp2_with (first | (go_at_call 85; refine (p2 _).mono ?_; rintro e w' ⟨rfl, rfl⟩) | (go_at_call 86; refine (tz _ (h.alloc _)).mono ?_; rintro e w' ⟨rfl, rfl⟩))
  refine wp_loop_rounds 1 ?_
  rw [rounds_succ]
  go_wp2
  go_ret2
  exact ⟨rfl, (Below.refl _ _).alloc (Nat.le_refl _) _⟩

set_option maxHeartbeats 400000 in
theorem fi_4 (w : World) (h : Tab w) : Calls Tryd.prog 60 #[.int .i64 4, .int .i64 16] w fun e w' => e = .returned (.string ⟨#[52]⟩) ∧ Below w.heap.size w w' := by
  go_enter Tryd.func60, Tryd.ntmps60
  go_wp2_with (go_at_call 74; refine (fb_4 _ (by first | exact h | exact h.alloc _)).mono ?_; rintro e w' ⟨rfl, hB⟩)
  go_ret
  exact ⟨rfl, hB⟩
set_option maxHeartbeats 400000 in
theorem fj_4 (w : World) (h : Tab w) : Calls Tryd.prog 39 #[.int .i64 4, .int .i64 16] w fun e w' => e = .returned (.string ⟨#[52]⟩) ∧ Below w.heap.size w w' := by
  go_enter Tryd.func39, Tryd.ntmps39
  go_wp2_with (go_at_call 60; refine (fi_4 w h).mono ?_; rintro e w' ⟨rfl, hB⟩)
  go_ret
  exact ⟨rfl, hB⟩
set_option maxHeartbeats 400000 in
theorem qt_4 (w : World) (h : Tab w) : Calls Tryd.prog 29 #[.int .i32 4] w fun e w' => e = .returned (.string ⟨#[92, 117, 123, 52, 125]⟩) ∧ Below w.heap.size w w' := by
  go_enter Tryd.func29, Tryd.ntmps29
  go_wp2_with (go_at_call 39; refine (fj_4 w h).mono ?_; rintro e w' ⟨rfl, hB⟩)
  go_ret
  exact ⟨rfl, hB⟩
set_option maxHeartbeats 400000 in
set_option maxRecDepth 100000 in
theorem fb_11 (w : World) (h : Tab w) :
    Calls Tryd.prog 74 #[.slice none 0 0, .int .u64 11, .int .i64 16, .bool false, .bool false] w fun e w' => e = .returned (.tuple #[.slice none 0 0, .string ⟨#[98]⟩]) ∧ Below w.heap.size w w' := by
  have hc := conv1 w
  go_enter Tryd.func74, Tryd.ntmps74
  go_wp2_with (first | (go_at_call 85; refine (p2 _).mono ?_; rintro e w' ⟨rfl, rfl⟩) | (go_at_call 86; refine (tz _ (h.alloc _)).mono ?_; rintro e w' ⟨rfl, rfl⟩))
  refine wp_loop_rounds 1 ?_
  rw [rounds_succ]
  go_wp2
  go_ret2
  exact ⟨rfl, (Below.refl _ _).alloc (Nat.le_refl _) _⟩

set_option maxHeartbeats 400000 in
theorem fi_11 (w : World) (h : Tab w) : Calls Tryd.prog 60 #[.int .i64 11, .int .i64 16] w fun e w' => e = .returned (.string ⟨#[98]⟩) ∧ Below w.heap.size w w' := by
  go_enter Tryd.func60, Tryd.ntmps60
  go_wp2_with (go_at_call 74; refine (fb_11 _ (by first | exact h | exact h.alloc _)).mono ?_; rintro e w' ⟨rfl, hB⟩)
  go_ret
  exact ⟨rfl, hB⟩
set_option maxHeartbeats 400000 in
theorem fj_11 (w : World) (h : Tab w) : Calls Tryd.prog 39 #[.int .i64 11, .int .i64 16] w fun e w' => e = .returned (.string ⟨#[98]⟩) ∧ Below w.heap.size w w' := by
  go_enter Tryd.func39, Tryd.ntmps39
  go_wp2_with (go_at_call 60; refine (fi_11 w h).mono ?_; rintro e w' ⟨rfl, hB⟩)
  go_ret
  exact ⟨rfl, hB⟩
set_option maxHeartbeats 400000 in
theorem qt_11 (w : World) (h : Tab w) : Calls Tryd.prog 29 #[.int .i32 11] w fun e w' => e = .returned (.string ⟨#[92, 117, 123, 98, 125]⟩) ∧ Below w.heap.size w w' := by
  go_enter Tryd.func29, Tryd.ntmps29
  go_wp2_with (go_at_call 39; refine (fj_11 w h).mono ?_; rintro e w' ⟨rfl, hB⟩)
  go_ret
  exact ⟨rfl, hB⟩
set_option maxHeartbeats 400000 in
set_option maxRecDepth 100000 in
theorem fb_17 (w : World) (h : Tab w) :
    Calls Tryd.prog 74 #[.slice none 0 0, .int .u64 17, .int .i64 16, .bool false, .bool false] w fun e w' => e = .returned (.tuple #[.slice none 0 0, .string ⟨#[49, 49]⟩]) ∧ Below w.heap.size w w' := by
  have hc := conv2 w
  go_enter Tryd.func74, Tryd.ntmps74
  go_wp2_with (first | (go_at_call 85; refine (p2 _).mono ?_; rintro e w' ⟨rfl, rfl⟩) | (go_at_call 86; refine (tz _ (h.alloc _)).mono ?_; rintro e w' ⟨rfl, rfl⟩))
  refine wp_loop_rounds 2 ?_
  rw [rounds_succ]
  go_wp2
  rw [rounds_succ]
  go_wp2
  go_ret2
  exact ⟨rfl, (Below.refl _ _).alloc (Nat.le_refl _) _⟩

set_option maxHeartbeats 400000 in
theorem fi_17 (w : World) (h : Tab w) : Calls Tryd.prog 60 #[.int .i64 17, .int .i64 16] w fun e w' => e = .returned (.string ⟨#[49, 49]⟩) ∧ Below w.heap.size w w' := by
  go_enter Tryd.func60, Tryd.ntmps60
  go_wp2_with (go_at_call 74; refine (fb_17 _ (by first | exact h | exact h.alloc _)).mono ?_; rintro e w' ⟨rfl, hB⟩)
  go_ret
  exact ⟨rfl, hB⟩
set_option maxHeartbeats 400000 in
theorem fj_17 (w : World) (h : Tab w) : Calls Tryd.prog 39 #[.int .i64 17, .int .i64 16] w fun e w' => e = .returned (.string ⟨#[49, 49]⟩) ∧ Below w.heap.size w w' := by
  go_enter Tryd.func39, Tryd.ntmps39
  go_wp2_with (go_at_call 60; refine (fi_17 w h).mono ?_; rintro e w' ⟨rfl, hB⟩)
  go_ret
  exact ⟨rfl, hB⟩
set_option maxHeartbeats 400000 in
theorem qt_17 (w : World) (h : Tab w) : Calls Tryd.prog 29 #[.int .i32 17] w fun e w' => e = .returned (.string ⟨#[92, 117, 123, 49, 49, 125]⟩) ∧ Below w.heap.size w w' := by
  go_enter Tryd.func29, Tryd.ntmps29
  go_wp2_with (go_at_call 39; refine (fj_17 w h).mono ?_; rintro e w' ⟨rfl, hB⟩)
  go_ret
  exact ⟨rfl, hB⟩
set_option maxHeartbeats 400000 in
set_option maxRecDepth 100000 in
theorem fb_22 (w : World) (h : Tab w) :
    Calls Tryd.prog 74 #[.slice none 0 0, .int .u64 22, .int .i64 16, .bool false, .bool false] w fun e w' => e = .returned (.tuple #[.slice none 0 0, .string ⟨#[49, 54]⟩]) ∧ Below w.heap.size w w' := by
  have hc := conv2 w
  go_enter Tryd.func74, Tryd.ntmps74
  go_wp2_with (first | (go_at_call 85; refine (p2 _).mono ?_; rintro e w' ⟨rfl, rfl⟩) | (go_at_call 86; refine (tz _ (h.alloc _)).mono ?_; rintro e w' ⟨rfl, rfl⟩))
  refine wp_loop_rounds 2 ?_
  rw [rounds_succ]
  go_wp2
  rw [rounds_succ]
  go_wp2
  go_ret2
  exact ⟨rfl, (Below.refl _ _).alloc (Nat.le_refl _) _⟩

set_option maxHeartbeats 400000 in
theorem fi_22 (w : World) (h : Tab w) : Calls Tryd.prog 60 #[.int .i64 22, .int .i64 16] w fun e w' => e = .returned (.string ⟨#[49, 54]⟩) ∧ Below w.heap.size w w' := by
  go_enter Tryd.func60, Tryd.ntmps60
  go_wp2_with (go_at_call 74; refine (fb_22 _ (by first | exact h | exact h.alloc _)).mono ?_; rintro e w' ⟨rfl, hB⟩)
  go_ret
  exact ⟨rfl, hB⟩
set_option maxHeartbeats 400000 in
theorem fj_22 (w : World) (h : Tab w) : Calls Tryd.prog 39 #[.int .i64 22, .int .i64 16] w fun e w' => e = .returned (.string ⟨#[49, 54]⟩) ∧ Below w.heap.size w w' := by
  go_enter Tryd.func39, Tryd.ntmps39
  go_wp2_with (go_at_call 60; refine (fi_22 w h).mono ?_; rintro e w' ⟨rfl, hB⟩)
  go_ret
  exact ⟨rfl, hB⟩
set_option maxHeartbeats 400000 in
theorem qt_22 (w : World) (h : Tab w) : Calls Tryd.prog 29 #[.int .i32 22] w fun e w' => e = .returned (.string ⟨#[92, 117, 123, 49, 54, 125]⟩) ∧ Below w.heap.size w w' := by
  go_enter Tryd.func29, Tryd.ntmps29
  go_wp2_with (go_at_call 39; refine (fj_22 w h).mono ?_; rintro e w' ⟨rfl, hB⟩)
  go_ret
  exact ⟨rfl, hB⟩
set_option maxHeartbeats 400000 in
set_option maxRecDepth 100000 in
theorem fb_27 (w : World) (h : Tab w) :
    Calls Tryd.prog 74 #[.slice none 0 0, .int .u64 27, .int .i64 16, .bool false, .bool false] w fun e w' => e = .returned (.tuple #[.slice none 0 0, .string ⟨#[49, 98]⟩]) ∧ Below w.heap.size w w' := by
  have hc := conv2 w
  go_enter Tryd.func74, Tryd.ntmps74
  go_wp2_with (first | (go_at_call 85; refine (p2 _).mono ?_; rintro e w' ⟨rfl, rfl⟩) | (go_at_call 86; refine (tz _ (h.alloc _)).mono ?_; rintro e w' ⟨rfl, rfl⟩))
  refine wp_loop_rounds 2 ?_
  rw [rounds_succ]
  go_wp2
  rw [rounds_succ]
  go_wp2
  go_ret2
  exact ⟨rfl, (Below.refl _ _).alloc (Nat.le_refl _) _⟩

set_option maxHeartbeats 400000 in
theorem fi_27 (w : World) (h : Tab w) : Calls Tryd.prog 60 #[.int .i64 27, .int .i64 16] w fun e w' => e = .returned (.string ⟨#[49, 98]⟩) ∧ Below w.heap.size w w' := by
  go_enter Tryd.func60, Tryd.ntmps60
  go_wp2_with (go_at_call 74; refine (fb_27 _ (by first | exact h | exact h.alloc _)).mono ?_; rintro e w' ⟨rfl, hB⟩)
  go_ret
  exact ⟨rfl, hB⟩
set_option maxHeartbeats 400000 in
theorem fj_27 (w : World) (h : Tab w) : Calls Tryd.prog 39 #[.int .i64 27, .int .i64 16] w fun e w' => e = .returned (.string ⟨#[49, 98]⟩) ∧ Below w.heap.size w w' := by
  go_enter Tryd.func39, Tryd.ntmps39
  go_wp2_with (go_at_call 60; refine (fi_27 w h).mono ?_; rintro e w' ⟨rfl, hB⟩)
  go_ret
  exact ⟨rfl, hB⟩
set_option maxHeartbeats 400000 in
theorem qt_27 (w : World) (h : Tab w) : Calls Tryd.prog 29 #[.int .i32 27] w fun e w' => e = .returned (.string ⟨#[92, 117, 123, 49, 98, 125]⟩) ∧ Below w.heap.size w w' := by
  go_enter Tryd.func29, Tryd.ntmps29
  go_wp2_with (go_at_call 39; refine (fj_27 w h).mono ?_; rintro e w' ⟨rfl, hB⟩)
  go_ret
  exact ⟨rfl, hB⟩
set_option maxHeartbeats 400000 in
set_option maxRecDepth 100000 in
theorem fb_127 (w : World) (h : Tab w) :
    Calls Tryd.prog 74 #[.slice none 0 0, .int .u64 127, .int .i64 16, .bool false, .bool false] w fun e w' => e = .returned (.tuple #[.slice none 0 0, .string ⟨#[55, 102]⟩]) ∧ Below w.heap.size w w' := by
  have hc := conv2 w
  go_enter Tryd.func74, Tryd.ntmps74
  go_wp2_with (first | (go_at_call 85; refine (p2 _).mono ?_; rintro e w' ⟨rfl, rfl⟩) | (go_at_call 86; refine (tz _ (h.alloc _)).mono ?_; rintro e w' ⟨rfl, rfl⟩))
  refine wp_loop_rounds 2 ?_
  rw [rounds_succ]
  go_wp2
  rw [rounds_succ]
  go_wp2
  go_ret2
  exact ⟨rfl, (Below.refl _ _).alloc (Nat.le_refl _) _⟩

set_option maxHeartbeats 400000 in
theorem fi_127 (w : World) (h : Tab w) : Calls Tryd.prog 60 #[.int .i64 127, .int .i64 16] w fun e w' => e = .returned (.string ⟨#[55, 102]⟩) ∧ Below w.heap.size w w' := by
  go_enter Tryd.func60, Tryd.ntmps60
  go_wp2_with (go_at_call 74; refine (fb_127 _ (by first | exact h | exact h.alloc _)).mono ?_; rintro e w' ⟨rfl, hB⟩)
  go_ret
  exact ⟨rfl, hB⟩
set_option maxHeartbeats 400000 in
theorem fj_127 (w : World) (h : Tab w) : Calls Tryd.prog 39 #[.int .i64 127, .int .i64 16] w fun e w' => e = .returned (.string ⟨#[55, 102]⟩) ∧ Below w.heap.size w w' := by
  go_enter Tryd.func39, Tryd.ntmps39
  go_wp2_with (go_at_call 60; refine (fi_127 w h).mono ?_; rintro e w' ⟨rfl, hB⟩)
  go_ret
  exact ⟨rfl, hB⟩
set_option maxHeartbeats 400000 in
theorem qt_127 (w : World) (h : Tab w) : Calls Tryd.prog 29 #[.int .i32 127] w fun e w' => e = .returned (.string ⟨#[92, 117, 123, 55, 102, 125]⟩) ∧ Below w.heap.size w w' := by
  go_enter Tryd.func29, Tryd.ntmps29
  go_wp2_with (go_at_call 39; refine (fj_127 w h).mono ?_; rintro e w' ⟨rfl, hB⟩)
  go_ret
  exact ⟨rfl, hB⟩
end Go.Proofs.YtpdkeggiokebmaaDoor

/- text.quoted at every rune, text.Quote at every text, shuckref1.hex. -/
namespace Go.Proofs.YtpdkeggiokebmaaDoor
set_option linter.unusedSimpArgs false
set_option linter.unusedVariables false
open Go.RowKit Go.Shelf

set_option maxHeartbeats 400000 in
theorem qs_92 (w : World) : Calls Tryd.prog 29 #[.int .i32 92] w fun e w' => e = .returned (.string ⟨#[92, 92]⟩) ∧ Below w.heap.size w w' := by
  go_enter Tryd.func29, Tryd.ntmps29
  go_wp2
  go_ret
  exact ⟨rfl, Below.refl _ _⟩

set_option maxHeartbeats 400000 in
theorem qs_34 (w : World) : Calls Tryd.prog 29 #[.int .i32 34] w fun e w' => e = .returned (.string ⟨#[92, 34]⟩) ∧ Below w.heap.size w w' := by
  go_enter Tryd.func29, Tryd.ntmps29
  go_wp2
  go_ret
  exact ⟨rfl, Below.refl _ _⟩

set_option maxHeartbeats 400000 in
theorem qs_10 (w : World) : Calls Tryd.prog 29 #[.int .i32 10] w fun e w' => e = .returned (.string ⟨#[92, 110]⟩) ∧ Below w.heap.size w w' := by
  go_enter Tryd.func29, Tryd.ntmps29
  go_wp2
  go_ret
  exact ⟨rfl, Below.refl _ _⟩

set_option maxHeartbeats 400000 in
theorem qs_13 (w : World) : Calls Tryd.prog 29 #[.int .i32 13] w fun e w' => e = .returned (.string ⟨#[92, 114]⟩) ∧ Below w.heap.size w w' := by
  go_enter Tryd.func29, Tryd.ntmps29
  go_wp2
  go_ret
  exact ⟨rfl, Below.refl _ _⟩

set_option maxHeartbeats 400000 in
theorem qs_9 (w : World) : Calls Tryd.prog 29 #[.int .i32 9] w fun e w' => e = .returned (.string ⟨#[92, 116]⟩) ∧ Below w.heap.size w w' := by
  go_enter Tryd.func29, Tryd.ntmps29
  go_wp2
  go_ret
  exact ⟨rfl, Below.refl _ _⟩

set_option maxHeartbeats 400000 in
theorem qs_else (r : Int) (h0 : 32 ≤ r) (h1 : r ≠ 92) (h2 : r ≠ 34) (h3 : r ≠ 127) (w : World) : Calls Tryd.prog 29 #[.int .i32 r] w fun e w' => e = .returned (.string (Utf8.encode r)) ∧ Below w.heap.size w w' := by
  have a1 : (r == 92) = false := by simpa using h1
  have a2 : (r == 34) = false := by simpa using h2
  have a3 : (r == 10) = false := by simp; omega
  have a4 : (r == 13) = false := by simp; omega
  have a5 : (r == 9) = false := by simp; omega
  have a6 : ¬ r < 32 := by omega
  have a7 : (r == 127) = false := by simpa using h3
  go_enter Tryd.func29, Tryd.ntmps29
  go_wp2
  go_ret
  exact ⟨rfl, Below.refl _ _⟩

theorem tquoted_any (r : Int) (h0 : 0 ≤ r) (w : World) (hT : Tab w) : Calls Tryd.prog 29 #[.int .i32 r] w fun e w' => e = .returned (.string ⟨(quo r).toArray⟩) ∧ Below w.heap.size w w' := by
  by_cases h1 : r = 92
  · subst h1; exact qs_92 w
  by_cases h2 : r = 34
  · subst h2; exact qs_34 w
  by_cases h3 : r = 10
  · subst h3; exact qs_10 w
  by_cases h4 : r = 13
  · subst h4; exact qs_13 w
  by_cases h5 : r = 9
  · subst h5; exact qs_9 w
  by_cases h6 : r < 32 ∨ r = 127
  · rcases ctl_cases h0 h6 h5 h3 h4 with rfl | rfl | rfl | rfl | rfl | rfl | rfl | rfl | rfl | rfl | rfl | rfl | rfl | rfl | rfl | rfl | rfl | rfl | rfl | rfl | rfl | rfl | rfl | rfl | rfl | rfl | rfl | rfl | rfl | rfl
    · exact qt_0 w hT
    · exact qt_1 w hT
    · exact qt_2 w hT
    · exact qt_3 w hT
    · exact qt_4 w hT
    · exact qt_5 w hT
    · exact qt_6 w hT
    · exact qt_7 w hT
    · exact qt_8 w hT
    · exact qt_11 w hT
    · exact qt_12 w hT
    · exact qt_14 w hT
    · exact qt_15 w hT
    · exact qt_16 w hT
    · exact qt_17 w hT
    · exact qt_18 w hT
    · exact qt_19 w hT
    · exact qt_20 w hT
    · exact qt_21 w hT
    · exact qt_22 w hT
    · exact qt_23 w hT
    · exact qt_24 w hT
    · exact qt_25 w hT
    · exact qt_26 w hT
    · exact qt_27 w hT
    · exact qt_28 w hT
    · exact qt_29 w hT
    · exact qt_30 w hT
    · exact qt_31 w hT
    · exact qt_127 w hT
  · rw [quo_else (by omega) h1 h2 (by omega), Array.toArray_toList]
    exact qs_else r (by omega) h1 h2 (by omega) w

/-- text.Quote. -/
theorem quote_all (s : ByteArray) (w : World) (hs : s.size ≤ 4294967296) (hT : Tab w) :
    Calls Tryd.prog 19 #[.string s] w fun e w' => (∃ m, Runes (gS s) s.size m ∧ e = .returned (.string ⟨(34 :: flat quo (upto (endAt (gS s) s.size) m) ++ [34]).toArray⟩)) ∧ Below w.heap.size w w' :=
  callsIn_wide.1 (quote_inL s w hs (fun x => 0 ≤ x.2) (fun k hk => (dRune_bd hk).1) quo (fun x hx => quo_len hx) (fun x hx W hW => tquoted_any x.2 hx W (hT.below hW)))
end Go.Proofs.YtpdkeggiokebmaaDoor
