/- lex's machine in memory; take, stands. -/
import Derived.Test.YtpdkeggiokebmaaDoorCV
import Derived.Test.YtpdkeggiokebmaaDoorX1
namespace Go.Proofs.YtpdkeggiokebmaaDoor
set_option linter.unusedSimpArgs false
set_option linter.unusedVariables false
open Go.RowKit Go.Shelf

/-- A machine at block M: its bytes, its place, its open brackets. -/
def MAt (W : World) (M : Nat) (bv : Value) (at' : Int) (ov : Value) : Prop := W.heap[M]? = some (.cells #[bv, .int .i64 at', ov] 49)
theorem MAt.lt {W : World} {M : Nat} {bv ov : Value} {at' : Int} (h : MAt W M bv at' ov) : M < W.heap.size := (Array.getElem?_eq_some_iff.1 h).1
theorem MAt.c0 {W : World} {M : Nat} {bv ov : Value} {at' : Int} (h : MAt W M bv at' ov) : W.cell? ⟨M, 0, none⟩ = some bv := by rw [Lib.cell_of_heap h]; rfl
theorem MAt.c1 {W : World} {M : Nat} {bv ov : Value} {at' : Int} (h : MAt W M bv at' ov) : W.cell? ⟨M, 1, none⟩ = some (.int .i64 at') := by rw [Lib.cell_of_heap h]; rfl
theorem MAt.c2 {W : World} {M : Nat} {bv ov : Value} {at' : Int} (h : MAt W M bv at' ov) : W.cell? ⟨M, 2, none⟩ = some ov := by rw [Lib.cell_of_heap h]; rfl
theorem MAt.frozen {W : World} {M : Nat} {bv ov : Value} {at' : Int} (h : MAt W M bv at' ov) (j : Nat) : W.frozen? ⟨M, j, none⟩ = false := Lib.frozen_of_heap h j
theorem MAt.set1 {W : World} {M : Nat} {bv ov : Value} {at' : Int} (h : MAt W M bv at' ov) (x : Int) : MAt (W.setCell ⟨M, 1, none⟩ (.int .i64 x)) M bv x ov := by
  unfold MAt at *
  simp [World.setCell, Array.getElem?_modify, h]
theorem MAt.set2 {W : World} {M : Nat} {bv ov : Value} {at' : Int} (h : MAt W M bv at' ov) (v : Value) : MAt (W.setCell ⟨M, 2, none⟩ v) M bv at' v := by
  unfold MAt at *
  simp [World.setCell, Array.getElem?_modify, h]
theorem MAt.below {W W' : World} {M n : Nat} {bv ov : Value} {at' : Int} (h : MAt W M bv at' ov) (hb : Below n W W') (hn : M < n) : MAt W' M bv at' ov := (hb.block M hn).trans h
theorem Fr.set {S0 : Nat → Prop} {A B : World} (h : Fr S0 A B) (b j : Nat) (v : Value) (hb : S0 b) : Fr S0 A (B.setCell ⟨b, j, none⟩ v) :=
  ⟨h.os, h.tape, h.output, by simpa [World.setCell] using h.size, fun i hi hs => (Below.heap_setCell B ⟨b, j, none⟩ v i (fun e => hs (by have e' : i = b := e; subst e'; exact hb))).trans (h.block i hi hs)⟩

/-- A token as a value. -/
def tokV (kind : Int) (text : ByteArray) (at' e : Int) : Value := .agg #[.int .i64 kind, .string text, .int .i64 at', .int .i64 e]

set_option maxHeartbeats 1000000 in
theorem take_any (M : Nat) (bv ov : Value) (at' kind e : Int) (text : ByteArray) (W : World) (h : MAt W M bv at' ov) :
    Calls Tryd.prog 66 #[.pointer (some ⟨M, 0, none⟩), .int .i64 kind, .string text, .int .i64 e] W fun e' W' => e' = .returned (tokV kind text at' e) ∧ MAt W' M bv e ov ∧ Fr (fun k => k = M) W W' := by
  have c1 := h.c1
  have f1 := h.frozen 1
  have hl := h.lt
  go_enter Tryd.func66, Tryd.ntmps66
  go_wp2
  exact bodyPost_ret (v := tokV kind text at' e) (by simp [results, Tryd.results66, go_sem, tokV]) rfl ⟨rfl, (h.set1 e).below (((Below.refl _ _).alloc (Nat.le_refl _) _).alloc (by simp) _) (by simpa [World.setCell] using hl), (((Fr.refl (fun k => k = M) W).set M 1 _ rfl).alloc _).alloc _⟩

theorem conv_sl {W : World} {c : Nat} {a : Option Addr} {len cap : Nat} {g : Nat → Int} (hS : Sl W c (.slice a len cap) len g) : (convert 22 9 (.slice a len cap)).run Tryd.prog W = .ok (.string (strOfNums (upto g len))) W := by
  rcases hS with ⟨a', cap', h, rfl⟩ | ⟨off, cap', h, h0, h1, h2, hc⟩
  · cases a with
    | none => exact run_convert_bytes_nil W 22 5 Tryd.underlying22 Tryd.underlying5 _ _ 9 Tryd.underlying9
    | some ad => exact conv_run (.inr ⟨ad, _, rfl, fun j hj => by omega⟩)
  · cases h
    exact conv_run (.inr ⟨_, _, rfl, fun j hj => by rw [Addr.add_lit]; exact hc j hj⟩)
theorem cut_sl {W : World} {c : Nat} {a : Option Addr} {len cap : Nat} {g : Nat → Int} (hS : Sl W c (.slice a len cap) len g) {lo hi : Nat} (h1 : lo ≤ hi) (h2 : hi ≤ len) : Sl W c (sliced a lo hi cap 1) (hi - lo) (fun j => g (lo + j)) := by
  unfold sliced
  by_cases he : hi - lo = 0
  · exact .inl ⟨_, _, by rw [he], he⟩
  rcases hS with ⟨a', cap', h, h0⟩ | ⟨off, cap', h, h3, h4, h5, hc⟩
  · omega
  · cases h
    rw [if_neg (by omega)]
    refine .inr ⟨off + lo, cap - lo, by simp [Addr.add], by omega, by omega, by omega, fun j hj => ?_⟩
    have := hc (lo + j) (by omega)
    rw [← Nat.add_assoc] at this
    exact this
theorem slice_from {W : World} {c : Nat} {a : Option Addr} {len cap : Nat} {g : Nat → Int} (hS : Sl W c (.slice a len cap) len g) {lo : Nat} (h : lo ≤ len) :
    ∃ a' c', (∀ W', (Instr.slice 22 (.slice a len cap) (some (.int .i64 (lo : Int))) none none).run Tryd.prog W' = .ok (.slice a' (len - lo) c') W') ∧ ∀ W', Sl W' c (.slice a len cap) len g → Sl W' c (.slice a' (len - lo) c') (len - lo) (fun j => g (lo + j)) := by
  refine ⟨_, _, fun W' => ?_, fun W' hS' => cut_sl hS' h (Nat.le_refl _)⟩
  rw [run_slice_l W' 22 a len cap under22 .i64 lo (by omega) (by omega), elem22, size5]
  rfl
theorem slice_to {W : World} {c : Nat} {a : Option Addr} {len cap : Nat} {g : Nat → Int} (hS : Sl W c (.slice a len cap) len g) {hi : Nat} (h : hi ≤ len) :
    ∃ a' c', (∀ W', (Instr.slice 22 (.slice a len cap) none (some (.int .i64 (hi : Int))) none).run Tryd.prog W' = .ok (.slice a' hi c') W') ∧ ∀ W', Sl W' c (.slice a len cap) len g → Sl W' c (.slice a' hi c') hi g := by
  have hcap : hi ≤ cap := by
    rcases hS with ⟨a', cap', h, h0⟩ | ⟨off, cap', h, _, h3, _⟩
    · cases h; omega
    · cases h; omega
  refine ⟨_, _, fun W' => ?_, fun W' hS' => by have := cut_sl hS' (Nat.zero_le hi) h; simpa [sliced] using this⟩
  rw [run_slice_h W' 22 a len cap under22 .i64 hi (by omega) (by omega), elem22, size5]
  simp [sliced, Result.andThen]

/-- Does a text stand at the beginning? -/
def hpB (g : Nat → Int) (len : Nat) (g2 : Nat → Int) (l2 : Nat) : Bool := decide (l2 ≤ len) && ((strOfNums (upto g l2)).toList == (strOfNums (upto g2 l2)).toList)

set_option maxHeartbeats 400000 in
theorem equal_any {c c' : Nat} {a b : Option Addr} {l1 c1 l2 c2 : Nat} {g1 g2 : Nat → Int} {W : World} (h1 : Sl W c (.slice a l1 c1) l1 g1) (h2 : Sl W c' (.slice b l2 c2) l2 g2) :
    Calls Tryd.prog 64 #[.slice a l1 c1, .slice b l2 c2] W fun e W' => e = .returned (.bool ((strOfNums (upto g1 l1)).toList == (strOfNums (upto g2 l2)).toList)) ∧ W' = W := by
  have k1 := conv_sl h1
  have k2 := conv_sl h2
  clear h1 h2
  go_enter Tryd.func64, Tryd.ntmps64
  go_wp2
  go_ret
  exact ⟨rfl, rfl⟩
set_option maxHeartbeats 400000 in
theorem hasPrefix_any {c c' : Nat} {a b : Option Addr} {len c1 l2 c2 : Nat} {g g2 : Nat → Int} {W : World} (h1 : Sl W c (.slice a len c1) len g) (h2 : Sl W c' (.slice b l2 c2) l2 g2) (hl : len ≤ 1099511627776) (hl2 : l2 ≤ 1099511627776) :
    Calls Tryd.prog 47 #[.slice a len c1, .slice b l2 c2] W fun e W' => e = .returned (.bool (hpB g len g2 l2)) ∧ W' = W := by
  by_cases h : l2 ≤ len
  · obtain ⟨a', c3, hs, hk⟩ := slice_to h1 h
    have HE := hide (equal_any (hk _ h1) h2)
    have HR : Hid (hpB g len g2 l2 = ((strOfNums (upto g l2)).toList == (strOfNums (upto g2 l2)).toList)) := by show hpB g len g2 l2 = _; simp [hpB, h]
    have n1 : (l2 : Int) ≤ len := by omega
    clear h1 h2 hk
    go_enter Tryd.func47, Tryd.ntmps47
    go_wp2_with (go_at_call 64; refine (unhide HE).mono ?_; rintro e w' ⟨rfl, rfl⟩)
    go_ret
    rw [unhide HR]
    exact ⟨rfl, rfl⟩
  · have HR : Hid (hpB g len g2 l2 = false) := by show hpB g len g2 l2 = _; simp [hpB, h]
    have n1 : ¬ (l2 : Int) ≤ len := by omega
    have n2 : decide (l2 ≤ len) = false := by simpa using h
    have n3 : decide ((l2 : Int) ≤ len) = false := by simpa using n1
    clear h1 h2
    go_enter Tryd.func47, Tryd.ntmps47
    go_wp2
    go_ret
    rw [unhide HR]
    exact ⟨rfl, rfl⟩
end Go.Proofs.YtpdkeggiokebmaaDoor
