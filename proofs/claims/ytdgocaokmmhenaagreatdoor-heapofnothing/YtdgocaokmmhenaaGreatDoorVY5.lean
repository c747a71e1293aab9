/- The document's own Runes (package shuckref1): the list of the rows of the runes. -/
import Derived.LoopTactic
import Derived.LoopN
import Derived.Test.YtdgocaokmmhenaaGreatDoorVY4
namespace Go.Proofs.YtdgocaokmmhenaaGreatDoor
set_option linter.unusedSimpArgs false
set_option linter.unusedVariables false
open Go.RowKit Go.Shelf

def KeepS (S0 : Nat → Prop) (W W' : World) : Prop := ∀ k, S0 k → W'.heap[k]? = W.heap[k]?
theorem KeepS.trans {S0 : Nat → Prop} {A B C : World} (h : KeepS S0 A B) (k : KeepS S0 B C) : KeepS S0 A C := fun i hi => (k i hi).trans (h i hi)
theorem KeepS.cell {S0 : Nat → Prop} {A B : World} (h : KeepS S0 A B) {p : Addr} (hp : S0 p.block) : B.cell? p = A.cell? p := World.cell?_of_block (w := A) (h p.block hp)
/-- A row of bytes: nil and none of them, or so many cells of a block. -/
def Sl (W : World) (b : Nat) (sv : Value) (len : Nat) (g : Nat → Int) : Prop :=
  (∃ a cap, sv = .slice a 0 cap ∧ len = 0) ∨ ∃ off cap, sv = .slice (some ⟨b, off, none⟩) len cap ∧ 0 < len ∧ len ≤ cap ∧ cap ≤ maxLen ∧ ∀ j, j < len → W.cell? ⟨b, off + j, none⟩ = some (.int .u8 (g j))
theorem Sl.keep {b : Nat} {A B : World} (h : KeepS (fun k => k = b) A B) {sv : Value} {len : Nat} {g : Nat → Int} : Sl A b sv len g → Sl B b sv len g
  | .inl e => .inl e
  | .inr ⟨off, cap, e, h0, h1, h2, hc⟩ => .inr ⟨off, cap, e, h0, h1, h2, fun j hj => (h.cell (p := ⟨b, off + j, none⟩) rfl).trans (hc j hj)⟩

theorem rdecode_sl {w : World} {b : Nat} {sv : Value} {len : Nat} {g : Nat → Int} (hg : ∀ j, 0 ≤ g j ∧ g j ≤ 255) (hS : Sl w b sv len g) (p : Int) :
    Calls Tryz.prog 73 #[sv, .int .i64 p] w fun e w' => e = .returned (.agg #[.int .i64 p, .int .i32 (dRune g len p), .int .i64 (dSize g len p), .bool (dGood g len p)]) ∧ Below w.heap.size w w' := by
  cases hin : inside len p with
  | false =>
    obtain ⟨e1, e2, e3⟩ := dOut hin g
    rw [e1, e2, e3]
    rcases hS with ⟨a, cap, rfl, rfl⟩ | ⟨off, cap, rfl, h0, h1, h2, _⟩
    · exact rdecode_out a 0 cap p w (Nat.zero_le _) hin
    · exact rdecode_out _ len cap p w (Nat.le_trans h1 h2) hin
  | true =>
    have hp : 0 ≤ p ∧ p < len := by simpa [inside] using hin
    rcases hS with ⟨a, cap, rfl, rfl⟩ | ⟨off, cap, rfl, h0, h1, h2, hc⟩
    · omega
    · have := rdecode_in b off len cap p.toNat g hg w (by omega) h1 h2 hc
      rw [Int.toNat_of_nonneg hp.1] at this
      exact this

theorem alloc_new (w : World) (o : Obj) : (w.alloc o).heap[w.heap.size]? = some o := by
  show (w.heap.push o)[w.heap.size]? = _
  simp
theorem infoRow : (Tryz.prog.info? 113).map (fun i => (i.zero, i.size, i.bytes)) = some (some (.agg #[.int .i64 0, .int .i32 0, .int .i64 0, .bool false]), 4, 32) := by kernel_rfl

/-- The cells of the k-th row. -/
def row4 (g : Nat → Int) (len k : Nat) : List Value := [.int .i64 (posn g len k : Int), .int .i32 (dRune g len (posn g len k)), .int .i64 (stepN g len (posn g len k) : Int), .bool (dGood g len (posn g len k))]
def rows4 (g : Nat → Int) (len : Nat) : Nat → List Value
  | 0 => []
  | k + 1 => rows4 g len k ++ row4 g len k
theorem rows4_length (g : Nat → Int) (len : Nat) : ∀ k, (rows4 g len k).length = k * 4
  | 0 => rfl
  | k + 1 => by simp only [rows4, List.length_append, rows4_length g len k]; simp [row4]; omega
theorem rows4_get (g : Nat → Int) (len : Nat) : ∀ {k i j : Nat}, i < k → j < 4 → (rows4 g len k)[i * 4 + j]? = (row4 g len i)[j]?
  | 0, i, j, h, _ => by omega
  | k + 1, i, j, h, hj => by
    simp only [rows4]
    by_cases e : i = k
    · subst e
      rw [List.getElem?_append_right (by rw [rows4_length]; omega), rows4_length, show i * 4 + j - i * 4 = j from by omega]
    · rw [List.getElem?_append_left (by rw [rows4_length]; omega)]
      exact rows4_get g len (by omega) hj

theorem ownsRow_below {w w' : World} {base : Nat} {e : TypeId} {size : Nat} {v : Value} {n : Nat} {xs : List Value} (h : w.ownsRow base e size v n xs) (hb : Below w.heap.size w w') : w'.ownsRow base e size v n xs :=
  h.kept (row := none) ⟨hb.os, hb.tape, hb.output, hb.size, fun k hk _ => hb.block k hk⟩ (by cases e : v.ownBlock <;> simp)

set_option maxRecDepth 100000 in
set_option maxHeartbeats 2000000 in
theorem rrunes_any {b : Nat} {a : Option Addr} {len cap : Nat} {g : Nat → Int} (hg : ∀ j, 0 ≤ g j ∧ g j ≤ 255) (w : World) (hlen : len ≤ 1048576) (hS : Sl w b (.slice a len cap) len g) (hb : b < w.heap.size) :
    Calls Tryz.prog 52 #[.slice a len cap] w fun e w' => ∃ m v, e = .returned v ∧ Runes g len m ∧ w'.ownsRow w.heap.size 113 4 v m (rows4 g len m) ∧ Below w.heap.size w w' := by
  obtain ⟨i0, hi, hz0, hz1, hz2⟩ := info_parts infoRow
  have HS := hide hS
  clear hS
  go_enter Tryz.func52, Tryz.ntmps52
  go_wp2
  go_loopw [3, 4] (fun l at' wr => ∃ k : Nat, Before g len k ∧ at' = .int .i64 (posn g len k) ∧ wr.ownsRow w.heap.size 113 4 l k (rows4 g len k) ∧ Below w.heap.size w wr) (fun _ at' _ => len - (intOf at').toNat)
  case atStart => exact ⟨0, fun j hj => by omega, rfl, World.ownsRow_nil _ _ _ _, Below.refl _ _⟩
  case round =>
    obtain ⟨k, hbf, rfl, hown, hB⟩ := hrel
    have HO := hide hown
    clear hown
    by_cases hlt : posn g len k < len
    · have hlt' : (posn g len k : Int) < len := by omega
      have hkl := posn_ge hbf
      have hds := dSize_nat g len (posn g len k)
      have hsl := step_le (g := g) (Nat.le_of_lt hlt)
      have hsp := step_pos (g := g) hlt
      have hSr : Hid (Sl wr b (.slice a len cap) len g) := (unhide HS).keep (fun k e => by subst e; exact hB.block k hb)
      go_wp2_with (first | (go_at_call 73; refine (rdecode_sl hg (unhide hSr) _).mono ?_; rintro e w2 ⟨rfl, hb2⟩; have HO2 := hide (ownsRow_below (unhide HO) hb2)) | (at_builtin; refine wpList_append_own _ rfl _ _ 101 rfl w.heap.size 113 i0 _ 4 32 Tryz.underlying101 hi hz0 hz1 hz2 rfl (by decide) _ _ _ rfl (((unhide HO2).alloc _).alloc _) ⟨w2.heap.size + 1, 0, none⟩ 1 1 (row4 g len k) rfl rfl ?c1 ?c2 ?c3 ?c4 ?c5 ?_))
      case c1 =>
        intro j u hj
        have e1 : (w2.alloc (.cells #[.int .i64 (posn g len k : Int), .int .i32 (dRune g len (posn g len k)), .int .i64 (stepN g len (posn g len k) : Int), .bool (dGood g len (posn g len k))] 113)).heap.size = w2.heap.size + 1 := by simp
        rw [Addr.add_lit, Nat.zero_add, ← e1, World.cell?_alloc_mark]
        rw [← hj]; simp [row4]
      case c2 => intro u hu; simp [row4] at hu; rcases hu with rfl | rfl | rfl | rfl <;> rfl
      case c3 => unfold maxLen; omega
      case c4 => omega
      case c5 => have h1 := hB.size; have h2 := hb2.size; simp; omega
      intro v' w3 hown3 hg3 _
      have hs3 := hg3.size
      have hBk : Below w.heap.size w w3 := ((((hB.trans (hb2.mono hB.size)).alloc (Nat.le_trans hB.size hb2.size) _).alloc (by have h1 := hB.size; have h2 := hb2.size; simp; omega) _).grown hg3 (by have h1 := hB.size; have h2 := hb2.size; simp; omega) (fun j hj => ((unhide HO2).lt j hj).1))
      have hbx : w3.heap[w2.heap.size]? = some (.cells #[.int .i64 (posn g len k : Int), .int .i32 (dRune g len (posn g len k)), .int .i64 (stepN g len (posn g len k) : Int), .bool (dGood g len (posn g len k))] 113) := by
        rw [hg3.block w2.heap.size (by simp; omega) (fun e => by have := ((unhide HO2).lt w2.heap.size e.symm).2; omega), Below.heap_alloc _ _ _ (by simp)]
        exact alloc_new w2 _
      have hcl : w3.cell? ⟨w2.heap.size, 2, none⟩ = some (.int .i64 (stepN g len (posn g len k) : Int)) := by rw [Lib.cell_of_heap hbx]; rfl
      have HO3 : Hid (w3.ownsRow w.heap.size 113 4 v' (k + 1) (rows4 g len (k + 1))) := hown3
      clear hown3 hbx hg3
      go_wp2
      exact ⟨⟨k + 1, hbf.succ hlt, by simp only [posn]; go_num, unhide HO3, hBk⟩, by simp [intOf]; omega⟩
    · have hpl := posn_le g len k
      have hlt' : ¬ (posn g len k : Int) < len := by omega
      go_wp2
      go_ret
      exact ⟨k, _, rfl, ⟨by omega, hbf⟩, unhide HO, hB⟩
end Go.Proofs.YtdgocaokmmhenaaGreatDoor
