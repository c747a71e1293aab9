/- The comparing function literal of shucklaw1.TextRunes: it holds a place and a rune against the next row of the list. -/
import Derived.Test.YtponficlejjafaaDoorR3
namespace Go.Proofs.YtponficlejjafaaDoor
set_option linter.unusedSimpArgs false
set_option linter.unusedVariables false
open Go.RowKit Go.Shelf

/-- Is it the n-th rune of m? -/
def fits (g : Nat → Int) (len m n : Nat) (x : Nat × Int) : Bool := decide (n < m) && (decide (x.1 = posn g len n) && decide (x.2 = dRune g len (posn g len n)))

theorem want_cell {w : World} {base m n j : Nat} {v : Value} {g : Nat → Int} {len : Nat} (h : w.ownsRow base 26 4 v m (rows4 g len m)) (hn : n < m) (hj : j < 4) : ∃ gw cap, v = .slice (some ⟨gw, 0, none⟩) m cap ∧ m ≤ cap ∧ cap ≤ maxLen ∧ w.cell? ⟨gw, n * 4 + j, none⟩ = (row4 g len n)[j]? := by
  rcases h.2 with ⟨_, h0⟩ | ⟨gw, cap, cur, rfl, _, _, h1, h2, _, _⟩
  · omega
  · refine ⟨gw, cap, rfl, h1, h2, ?_⟩
    have hr := rows4_get g len hn hj
    have hlt : j < (row4 g len n).length := by simpa [row4] using hj
    rw [List.getElem?_eq_getElem hlt] at hr ⊢
    have := h.cells (g := gw) rfl (n * 4 + j) _ hr
    rw [Addr.add_lit, Nat.zero_add] at this
    exact this

set_option maxHeartbeats 1000000 in
theorem cmp_no (Bo Bn Bw : Nat) (n : Int) (v : Value) (x : Nat × Int) (A : World) (h0 : 0 ≤ n) (h1 : n ≤ 1048576) (ho : Boxed A Bo 4 (.bool false)) (hn : Boxed A Bn 3 (.int .i64 n)) (hne : Bo ≠ Bn) :
    Calls Tryd.prog 17 #[.int .i64 (x.1 : Int), .int .i32 x.2, .pointer (some ⟨Bo, 0, none⟩), .pointer (some ⟨Bn, 0, none⟩), .pointer (some ⟨Bw, 0, none⟩)] A fun e A' =>
      e = .returned (.bool false) ∧ A' = (A.setCell ⟨Bo, 0, none⟩ (.bool false)).setCell ⟨Bn, 0, none⟩ (.int .i64 (n + 1)) := by
  have c1 := ho.cell
  have f1 := ho.frozen
  have c2 := (hn.other hne.symm (.bool false)).cell
  have f2 := (hn.other hne.symm (.bool false)).frozen
  have c3 := ((ho.set (.bool false)).other hne (.int .i64 (n + 1))).cell
  go_enter Tryd.func17, Tryd.ntmps17
  go_wp2
  go_ret
  exact ⟨rfl, rfl⟩

set_option maxHeartbeats 1000000 in
theorem cmp_yes (Bo Bn Bw : Nat) (n m : Nat) (v : Value) (g : Nat → Int) (len base : Nat) (x : Nat × Int) (A : World) (h1 : n ≤ 1048576) (ho : Boxed A Bo 4 (.bool true)) (hn : Boxed A Bn 3 (.int .i64 n)) (hw : Boxed A Bw 32 v) (hown : A.ownsRow base 26 4 v m (rows4 g len m)) (hne : Bo ≠ Bn) (hnw : Bw ≠ Bo) (hm : m ≤ 1048576) :
    Calls Tryd.prog 17 #[.int .i64 (x.1 : Int), .int .i32 x.2, .pointer (some ⟨Bo, 0, none⟩), .pointer (some ⟨Bn, 0, none⟩), .pointer (some ⟨Bw, 0, none⟩)] A fun e A' =>
      e = .returned (.bool (fits g len m n x)) ∧ A' = (A.setCell ⟨Bo, 0, none⟩ (.bool (fits g len m n x))).setCell ⟨Bn, 0, none⟩ (.int .i64 ((n : Int) + 1)) := by
  have c1 := ho.cell
  have f1 := ho.frozen
  have cn := hn.cell
  have cw := hw.cell
  obtain ⟨xe, xr⟩ := x
  by_cases hlt : n < m
  · obtain ⟨gw, cap, rfl, hc1, hc2, hA0⟩ := want_cell (j := 0) hown hlt (by decide)
    obtain ⟨gw', cap', hv, _, _, hA1⟩ := want_cell (j := 1) hown hlt (by decide)
    cases hv
    have hA0' : A.cell? ⟨gw, n * 4, none⟩ = some (.int .i64 (posn g len n : Int)) := hA0
    have hA1' : A.cell? ⟨gw, n * 4 + 1, none⟩ = some (.int .i32 (dRune g len (posn g len n))) := hA1
    clear hA0 hA1 hown
    unfold maxLen at hc2
    have hlt' : (n : Int) < m := by omega
    by_cases he : xe = posn g len n
    · have he' : ((xe : Int) == (posn g len n : Int)) = true := by simp [he]
      by_cases hr : xr = dRune g len (posn g len n)
      · have hr' : (xr == dRune g len (posn g len n)) = true := by simp [hr]
        have HF : Hid (fits g len m n (xe, xr) = true) := by show fits g len m n (xe, xr) = true; simp [fits, hlt, he, hr]
        clear he hr
        have c2 := (hn.other hne.symm (.bool true)).cell
        have f2 := (hn.other hne.symm (.bool true)).frozen
        have c3 := ((ho.set (.bool true)).other hne (.int .i64 ((n : Int) + 1))).cell
        go_enter Tryd.func17, Tryd.ntmps17
        go_wp2
        go_ret
        rw [unhide HF]
        exact ⟨rfl, rfl⟩
      · have hr' : (xr == dRune g len (posn g len n)) = false := by simp [hr]
        have HF : Hid (fits g len m n (xe, xr) = false) := by show fits g len m n (xe, xr) = false; simp [fits, hr]
        clear he hr
        have c2 := (hn.other hne.symm (.bool false)).cell
        have f2 := (hn.other hne.symm (.bool false)).frozen
        have c3 := ((ho.set (.bool false)).other hne (.int .i64 ((n : Int) + 1))).cell
        go_enter Tryd.func17, Tryd.ntmps17
        go_wp2
        go_ret
        rw [unhide HF]
        exact ⟨rfl, rfl⟩
    · have he' : ((xe : Int) == (posn g len n : Int)) = false := by simp; omega
      have HF : Hid (fits g len m n (xe, xr) = false) := by show fits g len m n (xe, xr) = false; simp [fits, he]
      clear he
      have c2 := (hn.other hne.symm (.bool false)).cell
      have f2 := (hn.other hne.symm (.bool false)).frozen
      have c3 := ((ho.set (.bool false)).other hne (.int .i64 ((n : Int) + 1))).cell
      go_enter Tryd.func17, Tryd.ntmps17
      go_wp2
      go_ret
      rw [unhide HF]
      exact ⟨rfl, rfl⟩
  · obtain ⟨ao, cap, rfl⟩ : ∃ ao cap, v = .slice ao m cap := by
      rcases hown.2 with ⟨h, h0⟩ | ⟨gw, cap, cur, h, _⟩
      · exact ⟨none, 0, by rw [h, h0]⟩
      · exact ⟨_, cap, h⟩
    have hlt' : ¬ (n : Int) < m := by omega
    have HF : Hid (fits g len m n (xe, xr) = false) := by show fits g len m n (xe, xr) = false; simp [fits, hlt]
    clear hown
    have c2 := (hn.other hne.symm (.bool false)).cell
    have f2 := (hn.other hne.symm (.bool false)).frozen
    have c3 := ((ho.set (.bool false)).other hne (.int .i64 ((n : Int) + 1))).cell
    go_enter Tryd.func17, Tryd.ntmps17
    go_wp2
    go_ret
    rw [unhide HF]
    exact ⟨rfl, rfl⟩

/-- All blocks of W but those of S stand in A; nothing else has turned. -/
structure Fr (S0 : Nat → Prop) (W A : World) : Prop where
  os : A.os = W.os
  tape : A.tape = W.tape
  output : A.output = W.output
  size : W.heap.size ≤ A.heap.size
  block : ∀ k, k < W.heap.size → ¬ S0 k → A.heap[k]? = W.heap[k]?
theorem Fr.refl (S0 : Nat → Prop) (W : World) : Fr S0 W W := ⟨rfl, rfl, rfl, Nat.le_refl _, fun _ _ _ => rfl⟩
theorem Fr.trans {S0 : Nat → Prop} {A B C : World} (h : Fr S0 A B) (k : Fr S0 B C) : Fr S0 A C :=
  ⟨k.os.trans h.os, k.tape.trans h.tape, k.output.trans h.output, Nat.le_trans h.size k.size, fun i hi hs => (k.block i (Nat.lt_of_lt_of_le hi h.size) hs).trans (h.block i hi hs)⟩
theorem Fr.below {S0 : Nat → Prop} {A B C : World} (h : Fr S0 A B) (k : Below A.heap.size B C) : Fr S0 A C :=
  ⟨k.os.trans h.os, k.tape.trans h.tape, k.output.trans h.output, Nat.le_trans h.size k.size, fun i hi hs => (k.block i hi).trans (h.block i hi hs)⟩
theorem Fr.setCell {S0 : Nat → Prop} {A B : World} (h : Fr S0 A B) (b : Nat) (v : Value) (hb : S0 b) : Fr S0 A (B.setCell ⟨b, 0, none⟩ v) :=
  ⟨h.os, h.tape, h.output, by simpa [World.setCell] using h.size, fun i hi hs => (Below.heap_setCell B ⟨b, 0, none⟩ v i (fun e => hs (by have e' : i = b := e; subst e'; exact hb))).trans (h.block i hi hs)⟩
theorem Fr.alloc {S0 : Nat → Prop} {A B : World} (h : Fr S0 A B) (o : Obj) : Fr S0 A (B.alloc o) := h.below ((Below.refl _ B).alloc h.size o)
theorem Fr.mono {S0 S1 : Nat → Prop} {A B : World} (h : Fr S0 A B) (hs : ∀ k, k < A.heap.size → S0 k → S1 k) : Fr S1 A B := ⟨h.os, h.tape, h.output, h.size, fun i hi hn => h.block i hi (fun e => hn (hs i hi e))⟩
theorem Fr.toBelow {S0 : Nat → Prop} {A B : World} (h : Fr S0 A B) {n : Nat} (hn : n ≤ A.heap.size) (hs : ∀ k, k < n → ¬ S0 k) : Below n A B := ⟨h.os, h.tape, h.output, h.size, fun k hk => h.block k (by omega) (hs k hk)⟩
/-- Where the turned blocks are cells, whatever is no cells stands. -/
theorem Fr.others {S0 : Nat → Prop} {A B : World} (h : Fr S0 A B) (hs : ∀ k o, S0 k → A.heap[k]? = some o → o.isCells = true) : KeepsOthers A B :=
  ⟨h.size, fun k o ho hc => (h.block k (Array.getElem?_eq_some_iff.1 ho).1 (fun e => by have := hs k o e ho; rw [hc] at this; cases this)).trans ho⟩
theorem boxed_cells {W : World} {B : Nat} {t : TypeId} {v : Value} (h : Boxed W B t v) {o : Obj} (ho : W.heap[B]? = some o) : o.isCells = true := by
  rw [show W.heap[B]? = _ from h] at ho; cases ho; rfl
theorem boxed_fr {S0 : Nat → Prop} {W A : World} {B : Nat} {t : TypeId} {v : Value} (h : Boxed W B t v) (hf : Fr S0 W A) (hn : ¬ S0 B) : Boxed A B t v := (hf.block B h.lt hn).trans h
theorem boxed_below {W A : World} {n B : Nat} {t : TypeId} {v : Value} (h : Boxed W B t v) (hf : Below n W A) (hn : B < n) : Boxed A B t v := (hf.block B hn).trans h

set_option maxHeartbeats 1000000 in
/-- The counting function literal of TextRunes. -/
theorem cnt18 (Bn Bs : Nat) (n stop : Int) (x : Nat × Int) (A : World) (h0 : 0 ≤ n) (h1 : n ≤ 1048576) (hn : Boxed A Bn 3 (.int .i64 n)) (hs : Boxed A Bs 3 (.int .i64 stop)) (hne : Bs ≠ Bn) :
    Calls Tryd.prog 18 #[.int .i64 (x.1 : Int), .int .i32 x.2, .pointer (some ⟨Bn, 0, none⟩), .pointer (some ⟨Bs, 0, none⟩)] A fun e A' =>
      e = .returned (.bool (decide (n + 1 ≤ stop))) ∧ A' = A.setCell ⟨Bn, 0, none⟩ (.int .i64 (n + 1)) := by
  have c1 := hn.cell
  have f1 := hn.frozen
  have c2 := (hn.set (.int .i64 (n + 1))).cell
  have c3 := (hs.other hne (.int .i64 (n + 1))).cell
  go_enter Tryd.func18, Tryd.ntmps18
  go_wp2
  go_ret
  exact ⟨rfl, rfl⟩
end Go.Proofs.YtponficlejjafaaDoor
