/- Merged: N7, N8, OP, PI. -/
import Derived.BigQuiet
import Derived.Deep.AppendLies
import Derived.Deep.QuietTactic
import Derived.Deep.RegionWith
import Derived.LoopN
import Derived.WalkMore
import Derived.WalkSmall
import Derived.Test.YtpdkeggiokebmaaDoorHB
import Derived.Test.YtpdkeggiokebmaaDoorX2
/- lex's open brackets: is the last one a hole? -/
namespace Go.Proofs.YtpdkeggiokebmaaDoor
set_option linter.unusedSimpArgs false
set_option linter.unusedVariables false
open Go.RowKit Go.Shelf

/-- A row of brackets lies in memory. -/
def Opn (W : World) (ov : Value) (bs : List Bool) : Prop :=
  ∃ a cap, ov = .slice a bs.length cap ∧ bs.length ≤ cap ∧ cap ≤ maxLen ∧ (0 < bs.length → ∃ b o, a = some ⟨b, o, none⟩ ∧ ∀ j, j < bs.length → W.cell? ⟨b, o + j, none⟩ = some (.bool (bs.getD j false)))
def lastB (bs : List Bool) : Bool := decide (0 < bs.length) && bs.getD (bs.length - 1) false
set_option maxRecDepth 100000 in
set_option maxHeartbeats 2000000 in
theorem inHole_any (M : Nat) (bv ov : Value) (at' : Int) (bs : List Bool) (W : World) (h : MAt W M bv at' ov) (hO : Opn W ov bs) :
    Calls Tryd.prog 54 #[.pointer (some ⟨M, 0, none⟩)] W fun x W' => x = .returned (.bool (lastB bs)) ∧ Below W.heap.size W W' := by
  obtain ⟨a, cap, rfl, h1, h2, h3⟩ := hO
  unfold maxLen at h2
  have c2 := h.c2
  have hml := h.lt
  by_cases hn : 0 < bs.length
  · obtain ⟨b, o, rfl, hc⟩ := h3 hn
    have hl : W.cell? ⟨b, o + (bs.length - 1), none⟩ = some (.bool (bs.getD (bs.length - 1) false)) := hc _ (by omega)
    have hd : decide ((0 : Int) < (bs.length : Int)) = true := decide_eq_true (by omega)
    have HL : Hid (lastB bs = bs.getD (bs.length - 1) false) := by show _ = _; rw [lastB, decide_eq_true hn, Bool.true_and]
    obtain ⟨z, hz⟩ : ∃ z, bs.getD (bs.length - 1) false = z := ⟨_, rfl⟩
    rw [hz] at hl HL
    obtain ⟨m, hm⟩ : ∃ m, bs.length = m + 1 := ⟨bs.length - 1, by omega⟩
    rw [hm, show m + 1 - 1 = m from rfl] at hl
    rw [hm] at c2 hd h1
    have hb : b < W.heap.size := World.block_lt_of_cell? W _ hl
    clear h3 hc h hz
    go_enter Tryd.func54, Tryd.ntmps54
    go_wp2
    go_quiet (fail)
    go_wp2
    go_ret
    rw [unhide HL]
    exact ⟨rfl, ⟨rfl, rfl, rfl, Nat.le_refl _, fun _ _ => rfl⟩⟩
  · have hz : bs.length = 0 := by omega
    have hd : decide ((0 : Int) < (bs.length : Int)) = false := decide_eq_false (by omega)
    have HL : Hid (lastB bs = false) := by show _ = _; rw [lastB, decide_eq_false hn, Bool.false_and]
    rw [hz] at c2 hd
    clear h3 h hz
    go_enter Tryd.func54, Tryd.ntmps54
    go_wp2
    go_quiet (fail)
    go_wp2
    go_ret
    rw [unhide HL]
    exact ⟨rfl, ⟨rfl, rfl, rfl, Nat.le_refl _, fun _ _ => rfl⟩⟩
end Go.Proofs.YtpdkeggiokebmaaDoor

/- lex's open brackets: the last one closes. -/
namespace Go.Proofs.YtpdkeggiokebmaaDoor
set_option linter.unusedSimpArgs false
set_option linter.unusedVariables false
open Go.RowKit Go.Shelf

set_option maxRecDepth 100000 in
set_option maxHeartbeats 4000000 in
theorem close_some (M : Nat) (bv : Value) (b o m cap : Nat) (at' : Int) (W : World) (h : MAt W M bv at' (.slice (some ⟨b, o, none⟩) (m + 1) cap)) (h1 : m + 1 ≤ cap) (h2 : cap ≤ maxLen) :
    Calls Tryd.prog 55 #[.pointer (some ⟨M, 0, none⟩)] W fun x W' => x = .returned (.tuple #[]) ∧ MAt W' M bv at' (.slice (some ⟨b, o, none⟩) m cap) ∧ Fr (fun k => k = M) W W' := by
  unfold maxLen at h2
  have c2 := h.c2
  have hfz := h.frozen
  have hml := h.lt
  have HH := hide h
  clear h
  go_enter Tryd.func55, Tryd.ntmps55
  go_wp2
  go_region
  have hm := (unhide HH).set2 (.slice (some ⟨b, o, none⟩) m cap)
  have hf : Fr (fun k => k = M) W (W.setCell ⟨M, 2, none⟩ (.slice (some ⟨b, o, none⟩) m cap)) := Fr.set (Fr.refl _ W) M 2 _ rfl
  refine bodyPost_end (v := .tuple #[]) (by simp [results, Tryd.results55, go_sem]) rfl ⟨rfl, hm, hf.below ?_⟩
  exact ⟨rfl, rfl, rfl, Nat.le_refl _, fun _ _ => rfl⟩
set_option maxRecDepth 100000 in
set_option maxHeartbeats 4000000 in
theorem close_none (M : Nat) (bv : Value) (a : Option Addr) (cap : Nat) (at' : Int) (W : World) (h : MAt W M bv at' (.slice a 0 cap)) :
    Calls Tryd.prog 55 #[.pointer (some ⟨M, 0, none⟩)] W fun x W' => x = .returned (.tuple #[]) ∧ W' = W := by
  have c2 := h.c2
  have hml := h.lt
  clear h
  go_enter Tryd.func55, Tryd.ntmps55
  go_wp2
  exact bodyPost_end (v := .tuple #[]) (by simp [results, Tryd.results55, go_sem]) rfl ⟨rfl, rfl⟩
theorem closeBracket_any (M : Nat) (bv ov : Value) (at' : Int) (bs : List Bool) (W : World) (h : MAt W M bv at' ov) (hO : Opn W ov bs) (hne : ∀ p n cap, ov = .slice (some p) n cap → p.block ≠ M) :
    Calls Tryd.prog 55 #[.pointer (some ⟨M, 0, none⟩)] W fun x W' => ∃ ov', x = .returned (.tuple #[]) ∧ MAt W' M bv at' ov' ∧ Opn W' ov' bs.dropLast ∧ (∀ p n cap, ov' = .slice (some p) n cap → p.block ≠ M) ∧ Fr (fun k => k = M) W W' := by
  obtain ⟨a, cap, rfl, h1, h2, h3⟩ := hO
  rcases Nat.eq_zero_or_pos bs.length with hz | hp
  · have hb : bs = [] := List.length_eq_zero_iff.1 hz
    subst hb
    refine (close_none M bv a cap at' W h).mono ?_
    rintro x W' ⟨rfl, rfl⟩
    exact ⟨_, rfl, h, ⟨a, cap, rfl, h1, h2, h3⟩, hne, Fr.refl _ _⟩
  · obtain ⟨b, o, rfl, hc⟩ := h3 hp
    obtain ⟨m, hm⟩ : ∃ m, bs.length = m + 1 := ⟨bs.length - 1, by omega⟩
    rw [hm] at h h1
    have hbM : b ≠ M := hne ⟨b, o, none⟩ _ _ rfl
    have hdl : bs.dropLast.length = m := by rw [List.length_dropLast, hm]; rfl
    refine (close_some M bv b o m cap at' W h h1 h2).mono ?_
    rintro x W' ⟨rfl, hM, hF⟩
    refine ⟨_, rfl, hM, ⟨some ⟨b, o, none⟩, cap, by rw [hdl], by omega, h2, fun _ => ⟨b, o, rfl, fun j hj => ?_⟩⟩, fun p n c e => by cases e; exact hbM, hF⟩
    have hcj := hc j (by omega)
    rw [World.cell?_of_block (w := W) (hF.block b (World.block_lt_of_cell? W _ hcj) hbM), hcj]
    congr 2
    rw [List.getD_eq_getElem?_getD, List.getD_eq_getElem?_getD, List.getElem?_dropLast, if_pos (by omega)]
end Go.Proofs.YtpdkeggiokebmaaDoor

/- lex's open brackets: a row of its own behind the machine. -/
namespace Go.Proofs.YtpdkeggiokebmaaDoor
set_option linter.unusedSimpArgs false
set_option linter.unusedVariables false
open Go.RowKit Go.Shelf

/-- The machine's row of brackets: of its own, behind the machine. -/
def OwnO (W : World) (M : Nat) (ov : Value) (bs : List Bool) : Prop := W.ownsRow (M + 1) 4 1 ov bs.length (bs.map Value.bool)
/-- The row lies where it lay, or is new. -/
def OB (W : World) (ov ov' : Value) : Prop := ov'.ownBlock = ov.ownBlock ∨ ∃ k, ov'.ownBlock = some k ∧ W.heap.size ≤ k
theorem infoBool : (Tryd.prog.info? 4).map (fun i => (i.zero, i.size, i.bytes)) = some (some (.bool false), 1, 1) := by kernel_rfl
theorem OwnO.lt {W : World} {M : Nat} {ov : Value} {bs : List Bool} (h : OwnO W M ov bs) {k : Nat} (hk : ov.ownBlock = some k) : M < k ∧ k < W.heap.size := by
  have := World.ownsRow.lt h k hk
  omega
theorem row_keep {W W' : World} {B : Nat} {t : TypeId} {s n : Nat} {v : Value} {xs : List Value} (h : W.ownsRow B t s v n xs) (hb : ∀ k, v.ownBlock = some k → W'.heap[k]? = W.heap[k]?) : W'.ownsRow B t s v n xs := by
  refine ⟨h.1, ?_⟩
  rcases h.2 with h0 | ⟨g, cap, cur, hv, hg, hh, hr⟩
  · exact .inl h0
  · refine .inr ⟨g, cap, cur, hv, hg, ?_, hr⟩
    rw [hb g (by rw [hv]; rfl)]
    exact hh
theorem OwnO.keep {W W' : World} {M : Nat} {ov : Value} {bs : List Bool} (h : OwnO W M ov bs) (hb : ∀ k, ov.ownBlock = some k → W'.heap[k]? = W.heap[k]?) : OwnO W' M ov bs := row_keep h hb
theorem OwnO.fr {W W' : World} {M : Nat} {ov : Value} {bs : List Bool} (h : OwnO W M ov bs) (hf : Fr (fun k => k = M) W W') : OwnO W' M ov bs := h.keep fun k hk => hf.block k (h.lt hk).2 (by have := (h.lt hk).1; omega)
theorem OwnO.below {W W' : World} {M n : Nat} {ov : Value} {bs : List Bool} (h : OwnO W M ov bs) (hf : Below n W W') (hn : W.heap.size ≤ n) : OwnO W' M ov bs := h.keep fun k hk => hf.block k (by have := (h.lt hk).2; omega)
theorem OB.refl (W : World) (ov : Value) : OB W ov ov := .inl rfl
theorem OB.trans {W W' : World} {a b c : Value} (h : OB W a b) (h' : OB W' b c) (hs : W.heap.size ≤ W'.heap.size) : OB W a c := by
  rcases h' with h' | ⟨k, hk, hl⟩
  · rcases h with h | ⟨k, hk, hl⟩
    · exact .inl (h'.trans h)
    · exact .inr ⟨k, h'.trans hk, hl⟩
  · exact .inr ⟨k, hk, Nat.le_trans hs hl⟩
theorem own_nil (W : World) (M : Nat) : OwnO W M (.slice none 0 0) [] := World.ownsRow_nil _ _ _ _
theorem OwnO.form {W : World} {M : Nat} {ov : Value} {bs : List Bool} (h : OwnO W M ov bs) : (ov = .slice none 0 0 ∧ bs = []) ∨ ∃ g cap cur, ov = .slice (some ⟨g, 0, none⟩) bs.length cap ∧ M + 1 ≤ g ∧ W.heap[g]? = some (.cells cur 4 (0, 0)) ∧ bs.length ≤ cap ∧ cap ≤ maxLen ∧ ∀ j, j < bs.length → W.cell? ⟨g, 0 + j, none⟩ = some (.bool (bs.getD j false)) := by
  rcases h.2 with ⟨h0, hn⟩ | ⟨g, cap, cur, hv, hg, hh, h1, h2, h3, h4⟩
  · exact .inl ⟨h0, List.length_eq_zero_iff.1 hn⟩
  · refine .inr ⟨g, cap, cur, hv, hg, hh, h1, h2, fun j hj => ?_⟩
    rw [Lib.cell_of_heap hh, Nat.zero_add]
    have e := congrArg (fun l : List Value => l[j]?) h4
    simp only [Nat.mul_one, List.getElem?_take, hj, if_true, List.getElem?_map] at e
    rw [List.getElem?_eq_getElem hj] at e
    rw [List.getD_eq_getElem?_getD, List.getElem?_eq_getElem hj]
    simpa using e
theorem OwnO.opn {W : World} {M : Nat} {ov : Value} {bs : List Bool} (h : OwnO W M ov bs) : Opn W ov bs := by
  rcases h.form with ⟨rfl, rfl⟩ | ⟨g, cap, cur, hv, hg, hh, h1, h2, h3⟩
  · exact ⟨none, 0, rfl, Nat.le_refl _, Nat.zero_le _, fun h => absurd h (by simp)⟩
  · exact ⟨_, cap, hv, h1, h2, fun _ => ⟨g, 0, rfl, h3⟩⟩
theorem lastB_split {bs : List Bool} (h : lastB bs = true) : bs = bs.dropLast ++ [true] := by
  have hne : bs ≠ [] := by intro e; rw [e] at h; simp [lastB] at h
  have h1 := List.dropLast_concat_getLast hne
  have hp : 0 < bs.length := List.length_pos_iff.2 hne
  have h2 : bs.getLast hne = true := by
    simp only [lastB, Bool.and_eq_true] at h
    rw [List.getLast_eq_getElem]
    have := h.2
    rw [List.getD_eq_getElem?_getD, List.getElem?_eq_getElem (by omega)] at this
    simpa using this
  rw [h2] at h1
  exact h1.symm
theorem closeO (M : Nat) (bv ov : Value) (at' : Int) (bs : List Bool) (W : World) (h : MAt W M bv at' ov) (hO : OwnO W M ov bs) :
    Calls Tryd.prog 55 #[.pointer (some ⟨M, 0, none⟩)] W fun x W' => ∃ ov', x = .returned (.tuple #[]) ∧ MAt W' M bv at' ov' ∧ OwnO W' M ov' bs.dropLast ∧ ov'.ownBlock = ov.ownBlock ∧ Fr (fun k => k = M) W W' := by
  rcases hO.form with ⟨rfl, rfl⟩ | ⟨g, cap, cur, rfl, hg, hh, h1, h2, h3⟩
  · refine (close_none M bv none 0 at' W h).mono ?_
    rintro x W' ⟨rfl, rfl⟩
    exact ⟨_, rfl, h, hO, rfl, Fr.refl _ _⟩
  · rcases Nat.eq_zero_or_pos bs.length with hz | hp
    · have hb : bs = [] := List.length_eq_zero_iff.1 hz
      subst hb
      refine (close_none M bv _ cap at' W h).mono ?_
      rintro x W' ⟨rfl, rfl⟩
      exact ⟨_, rfl, h, hO, rfl, Fr.refl _ _⟩
    · obtain ⟨m, hm⟩ : ∃ m, bs.length = m + 1 := ⟨bs.length - 1, by omega⟩
      have hne : bs ≠ [] := List.length_pos_iff.1 hp
      have hdl : bs.dropLast.length = m := by rw [List.length_dropLast, hm]; rfl
      have hO2 : W.ownsRow (M + 1) 4 1 (.slice (some ⟨g, 0, none⟩) (m + 1) cap) (m + 1) (bs.dropLast.map Value.bool ++ [.bool (bs.getLast hne)]) := by
        have e : bs.dropLast.map Value.bool ++ [Value.bool (bs.getLast hne)] = bs.map Value.bool := by
          conv => rhs; rw [← List.dropLast_concat_getLast hne]
          simp
        rw [e, ← hm]
        exact hO
      have hO3 := ownsRow_pop (by rw [List.length_map, hdl, Nat.mul_one]) hO2
      rw [hm] at h h1
      refine (close_some M bv g 0 m cap at' W h h1 h2).mono ?_
      rintro x W' ⟨rfl, hM, hF⟩
      refine ⟨_, rfl, hM, ?_, rfl, hF⟩
      have hgl : g < W.heap.size := (Array.getElem?_eq_some_iff.1 hh).1
      have hO4 : OwnO W M (.slice (some ⟨g, 0, none⟩) m cap) bs.dropLast := by unfold OwnO; rw [hdl]; exact hO3
      exact hO4.fr hF
theorem Fr.grown {S0 : Nat → Prop} {A B C : World} {row : Option Nat} (h : Fr S0 A B) (hg : B.grownBy C row) (hs : ∀ k, row = some k → k < A.heap.size → S0 k) : Fr S0 A C :=
  ⟨hg.os.trans h.os, hg.tape.trans h.tape, hg.output.trans h.output, Nat.le_trans h.size hg.size, fun k hk hn => (hg.block k (Nat.lt_of_lt_of_le hk h.size) (fun e => hn (hs k e.symm hk))).trans (h.block k hk hn)⟩
theorem BAt.up {B b : Nat} {p v : Value} {bs : List Value} {w w' : World} (h : BAt B b p v bs w) (hk : ∀ k, B ≤ k → k < w.heap.size → w'.heap[k]? = w.heap[k]?) : BAt B b p v bs w' := by
  obtain ⟨h1, h2, h3, h4⟩ := h
  refine ⟨h1, ?_, row_keep h3 (fun k hv => ?_), h4⟩
  · rw [hk b h1 (Array.getElem?_eq_some_iff.1 h2).1]
    exact h2
  · have := World.ownsRow.lt h3 k hv
    exact hk k this.1 this.2
/-- What a token's taking leaves. -/
def TokO (W : World) (M : Nat) (bv ov : Value) (at' : Nat) (q : Option (Int × List Int × Nat × List Bool)) (x : Ending) (W' : World) : Prop := match q with
  | none => x = .returned (tkR at' none) ∧ Fr (fun k => k = M ∨ ov.ownBlock = some k) W W'
  | some (k, t, e, bs') => x = .returned (tkR at' (some (k, t, e))) ∧ (∃ ov', MAt W' M bv (e : Int) ov' ∧ OwnO W' M ov' bs' ∧ OB W ov ov') ∧ Fr (fun k => k = M ∨ ov.ownBlock = some k) W W'
theorem TokO.of {W : World} {M : Nat} {bv ov : Value} {at' : Nat} {bs : List Bool} {q : Option (Int × List Int × Nat)} {x : Ending} {W' : World} (hO : OwnO W M ov bs) (h : TokPost W M bv ov at' q x W') : TokO W M bv ov at' (q.map fun y => (y.1, y.2.1, y.2.2, bs)) x W' := by
  obtain ⟨h1, h2, h3⟩ := h
  have hf : Fr (fun k => k = M ∨ ov.ownBlock = some k) W W' := h3.mono fun k _ e => .inl e
  cases q with
  | none => exact ⟨h1, hf⟩
  | some y => exact ⟨h1, ⟨ov, h2, hO.fr h3, OB.refl _ _⟩, hf⟩
end Go.Proofs.YtpdkeggiokebmaaDoor

/- lex's machine: a piece of a template. -/
namespace Go.Proofs.YtpdkeggiokebmaaDoor
set_option linter.unusedSimpArgs false
set_option linter.unusedVariables false
open Go.RowKit Go.Shelf

/-- A piece's token. -/
def pieQ (whole holed : Int) (bs : List Bool) : Option (List Int × Bool × Nat) → Option (Int × List Int × Nat × List Bool)
  | none => none
  | some (t, true, e) => some (holed, t, e, bs ++ [true])
  | some (t, false, e) => some (whole, t, e, bs)
theorem bat_string {B : Nat} {W' : World} {p v : Value} {pre : List Int} (hp : p = .pointer none ∨ p = .pointer (some ⟨B, 0, none⟩)) (hb : BAt B B p v (cellsZ pre) W') (h1 : ∀ x ∈ pre, 0 ≤ x ∧ x ≤ 255) (hB : B ≤ W'.heap.size) :
    Calls Tryd.prog 30 #[.pointer (some ⟨B, 0, none⟩)] W' fun e w' => e = .returned (.string (strOfNums pre)) ∧ Below B W' w' ∧ Lib.OthersKept 5 (some B) W' w' := by
  rw [cellsZ_bytes h1] at hb
  have his : Lib.IsBuilder 52 5 B B (Lib.byteCells (pre.map fun n => UInt8.ofNat n.toNat)) W' := by
    rcases hp with rfl | rfl
    · exact .inl ⟨hb.1, v, hb.2⟩
    · exact .inr hb.is
  refine (Tryd.Builder_String_k B B _ W' his hB).mono ?_
  rintro e w' ⟨rfl, hB', hk⟩
  exact ⟨rfl, hB', hk⟩
theorem put4_keep {W : World} {R k : Nat} (hk : k ≠ R) (y0 y1 y2 y3 : Value) : ((((W.setCell ⟨R, 0, none⟩ y0).setCell ⟨R, 1, none⟩ y1).setCell ⟨R, 2, none⟩ y2).setCell ⟨R, 3, none⟩ y3).heap[k]? = W.heap[k]? := by
  rw [Below.heap_setCell _ ⟨R, 3, none⟩ _ k hk, Below.heap_setCell _ ⟨R, 2, none⟩ _ k hk, Below.heap_setCell _ ⟨R, 1, none⟩ _ k hk, Below.heap_setCell _ ⟨R, 0, none⟩ _ k hk]

attribute [local go_sem] tokV
set_option maxRecDepth 100000 in
set_option maxHeartbeats 4000000 in
theorem piece_any (M c : Nat) (a : Option Addr) (len cap : Nat) (g : Nat → Int) (hg : ∀ j, 0 ≤ g j ∧ g j ≤ 255) (at' : Nat) (ov : Value) (bs : List Bool) (whole holed : Int) (W : World) (h : MAt W M (.slice a len cap) at' ov) (hS : Sl W c (.slice a len cap) len g) (hO : OwnO W M ov bs) (hcM : c < M) (hat : at' < len) (hlen : len ≤ 1099511627776) (hbl : bs.length ≤ 1099511627776) (hE : ErrG W 1) :
    Calls Tryd.prog 53 #[.pointer (some ⟨M, 0, none⟩), .int .i64 whole, .int .i64 holed] W (TokO W M (.slice a len cap) ov at' (pieQ whole holed bs (pieI g len (at' + 1)))) := by
  obtain ⟨q, hq⟩ : ∃ q, pieI g len (at' + 1) = q := ⟨_, rfl⟩
  have HQ := hide hq
  rw [hq]
  clear hq
  have hc : c < W.heap.size := Nat.lt_trans hcM h.lt
  obtain ⟨W1, hW1⟩ : ∃ W1, (W.alloc (.cells #[.int .i64 0, .string ⟨#[]⟩, .int .i64 0, .int .i64 0] 33)).alloc (.cells #[.pointer none, .slice none 0 0] 52) = W1 := ⟨_, rfl⟩
  have hB1 : Below W.heap.size W W1 := by rw [← hW1]; exact ((Below.refl _ W).alloc (Nat.le_refl _) _).alloc (by simp) _
  have hz1 : W1.heap.size = W.heap.size + 1 + 1 := by rw [← hW1]; simp
  have hr1 : W1.heap[W.heap.size]? = some (.cells #[.int .i64 0, .string ⟨#[]⟩, .int .i64 0, .int .i64 0] 33) := by rw [← hW1]; exact (Below.heap_alloc _ _ _ (by simp)).trans (World.alloc_heap_new W _)
  have hb1 : BAt (W.heap.size + 1) (W.heap.size + 1) (.pointer none) (.slice none 0 0) [] W1 := by
    refine ⟨Nat.le_refl _, ?_, World.ownsRow_nil _ _ _ _, by simp [Value.ownBlock]⟩
    have := World.alloc_heap_new (W.alloc (.cells #[.int .i64 0, .string ⟨#[]⟩, .int .i64 0, .int .i64 0] 33)) (.cells #[.pointer none, .slice none 0 0] 52)
    rw [World.size_alloc] at this
    rw [← hW1]; exact this
  have hM1 := h.below hB1 h.lt
  have hml := h.lt
  have HSA : Hid (∀ W', Below W.heap.size W W' → Sl W' c (.slice a len cap) len g) := fun W' hb => hS.keep (fun k e => by subst e; exact hb.block k hc)
  have HEA : Hid (∀ W', Below W.heap.size W W' → ErrG W' 1) := fun W' hb => hE.below hb hE.lt
  have HO := hide hO
  have c0 := hM1.c0
  have c1 := hM1.c1
  have HG0 : Hid (Gath (W.heap.size + 1) W1 [] (at' + 1) W1) := ⟨⟨_, _, .inl rfl, hb1⟩, by simp, by simp, Below.refl _ _⟩
  have HM1 := hide hM1
  have HB1 := hide hB1
  have HR1 := hide hr1
  have HZ1 := hide hz1
  clear hS hb1 hE hB1 hr1 hM1 hz1 hO h
  go_enter Tryd.func53, Tryd.ntmps53
  go_wp2
  go_step3
  go_wp2
  go_step3
  go_wp2
  clear hW1 c0 c1
  go_loopw [9] (fun t wr => ∃ (i : Nat) (pre : List Int), at' + 1 ≤ i ∧ i ≤ len ∧ t = .int .i64 (i : Int) ∧ Hid (Gath (W.heap.size + 1) W1 pre i wr) ∧ Hid (pfx pre (pieI g len i) = q)) (fun t _ => len - (intOf t).toNat)
  case atStart => exact ⟨at' + 1, [], Nat.le_refl _, by omega, by go_num, unhide HG0, by show pfx [] _ = q; rw [pfx_nil]; exact unhide HQ⟩
  case round =>
    obtain ⟨i, pre, hi1, hi2, rfl, HG, HP⟩ := hrel
    clear HQ HG0
    have hBr : Below (W.heap.size + 1) W1 wr := (unhide HG).2.2.2
    have hBw : Below W.heap.size W wr := (unhide HB1).trans (hBr.mono (by omega))
    have hMw := (unhide HM1).below hBr (by omega)
    have c0 := hMw.c0
    have hz := hBr.size
    have HZ := hide hz
    have HBR := hide hBr
    have HBW := hide hBw
    have HMW := hide hMw
    have HD0 := hide (decode_sl hg (unhide HSA wr hBw) (i : Int))
    rw [dSize_nat] at HD0
    clear hz hBr hBw hMw
    by_cases hlt : i < len
    · have hok := dr_ok hg hlt
      have hsp := step_pos (g := g) hlt
      have hsl := step_le (g := g) (len := len) (i := i) hi2
      have hs4 := step_le4 g len i
      have k96 := dr_eq hg hlt (x := 96) (by decide)
      have k36 := dr_eq hg hlt (x := 36) (by decide)
      have k92 := dr_eq hg hlt (x := 92) (by decide)
      have hrune := @pieI_rune g len i hlt
      have hesc := @pieI_esc g len i
      obtain ⟨r, hr⟩ : ∃ r, dRune g len i = r := ⟨_, rfl⟩
      obtain ⟨s, hs⟩ : ∃ s, stepN g len i = s := ⟨_, rfl⟩
      rw [hr] at HD0 hok k96 k36 k92 hrune
      rw [hs] at HD0 hsp hsl hs4 hrune
      have HD := HD0
      clear hr hs HD0
      have bs0 : ((s : Int) == 0) = false := beq_eq_false_iff_ne.2 (by omega)
      have hq0 := unhide HP
      have hml1 : M < W.heap.size + 1 := by omega
      by_cases e96 : r = 96
      · rw [pieI_mark hlt (k96.1 e96)] at hq0
        have hq1 : some (pre ++ [], false, i + 1) = q := hq0
        rw [List.append_nil] at hq1
        subst hq1
        subst e96
        clear hrune hesc k96 k36 k92 hq0
        have HST := hide (gath_string (unhide HG) (by have := unhide HZ1; omega))
        go_wp2_with (first | (go_at_call 38; refine (unhide HD).mono ?_; rintro x w' ⟨rfl, hw⟩; subst w') | (go_at_call 30; refine (unhide HST).mono ?_; rintro x W4 ⟨rfl, hB4⟩; have hM4 := (unhide HM1).below hB4 (by omega); have hB4z := hB4.size) | (go_at_call 66; refine (take_any M _ ov at' whole _ _ W4 hM4).mono ?_; rintro x W5 ⟨rfl, hM5, hF5⟩; have hr5 : W5.heap[W.heap.size]? = some (.cells #[.int .i64 0, .string ⟨#[]⟩, .int .i64 0, .int .i64 0] 33) := (hF5.block W.heap.size (by have := unhide HZ1; omega) (by omega)).trans ((hB4.block W.heap.size (by omega)).trans (unhide HR1)); obtain ⟨d0, d1, d2, d3⟩ := tok_cells hr5; have d4 := Lib.frozen_of_heap hr5; have d5 : W5.shape? W.heap.size = some (33, 4) := (by simp [World.shape?, hr5])))
        have hFt : Fr (fun k => k = M) W W5 := ((Fr.refl _ W).below ((unhide HB1).trans (hB4.mono (by omega)))).trans hF5
        have hB6 := put4_below (W := W5) (Nat.le_refl W.heap.size) (.int .i64 whole) (.string (strOfNums pre)) ((.int .i64 (at' : Int))) (.int .i64 ((i : Int) + 1))
        have hr6 := put4_heap hr5 (.int .i64 whole) (.string (strOfNums pre)) ((.int .i64 (at' : Int))) (.int .i64 ((i : Int) + 1))
        obtain ⟨W6, hW6⟩ : ∃ W6, ((((W5.setCell ⟨W.heap.size, 0, none⟩ (.int .i64 whole)).setCell ⟨W.heap.size, 1, none⟩ (.string (strOfNums pre))).setCell ⟨W.heap.size, 2, none⟩ ((.int .i64 (at' : Int)))).setCell ⟨W.heap.size, 3, none⟩ (.int .i64 ((i : Int) + 1))) = W6 := ⟨_, rfl⟩
        rw [hW6] at hB6 hr6 ⊢
        clear hW6
        obtain ⟨e0, e1, e2, e3⟩ := tok_cells hr6
        try rw [Exit.noGoto_ret]
        refine bodyPost_ret (v := .tuple #[.agg #[.int .i64 whole, .string (strOfNums pre), (.int .i64 (at' : Int)), .int .i64 ((i : Int) + 1)], .bool true]) ?_ rfl ⟨rfl, ⟨ov, hM5.below hB6 hml, (unhide HO).fr (hFt.below hB6), OB.refl _ _⟩, (hFt.below hB6).mono (fun k _ e => .inl e)⟩
        clear d0 d1 d2 d3 d4 d5
        simp [results, Tryd.results53, go_sem, e0, e1, e2, e3]
      have b96 : (r == 96) = false := beq_eq_false_iff_ne.2 e96
      by_cases e36 : r = 36 ∧ i + 1 < len ∧ g (i + 1) = 123
      · obtain ⟨e36, hi1l, g123⟩ := e36
        rw [pieI_hole hi1l (k36.1 e36) g123] at hq0
        have hq1 : some (pre ++ [], true, i + 2) = q := hq0
        rw [List.append_nil] at hq1
        subst hq1
        subst e36
        have hi1d : decide ((i : Int) + 1 < len) = true := decide_eq_true (by omega)
        obtain ⟨off, rfl, hcp, hmx, hcs⟩ := unhide (sl_cells (unhide HSA wr (unhide HBW))) (by omega)
        unfold maxLen at hmx
        have hci := hcs (i + 1) hi1l
        rw [g123] at hci
        have cM2 := (unhide HMW).c2
        have fM2 := (unhide HMW).frozen 2
        have hmw := (unhide HMW).lt
        obtain ⟨i0, hinf, hz0, hzz1, hz2⟩ := info_parts infoBool
        have hOw := (unhide HO).below (unhide HBW) (Nat.le_refl _)
        have HOL : Hid (∀ k, ov.ownBlock = some k → M < k ∧ k < W.heap.size) := fun k hk => (unhide HO).lt hk
        have HOW := hide hOw
        have hi1' : (i : Int) + 1 < len := by omega
        clear hrune hesc k96 k36 k92 hq0 hcs hOw g123
        go_wp2_with (first | (go_at_call 38; refine (unhide HD).mono ?_; rintro x w' ⟨rfl, hw⟩; subst w') | (at_builtin; refine wpList_append_lies _ rfl _ _ 47 rfl (M + 1) 4 i0 (.bool false) 1 1 Tryd.underlying47 hinf hz0 hzz1 hz2 rfl (by decide) _ _ _ rfl (World.ownsRow.alloc (unhide HOW) _) ⟨wr.heap.size, 0, none⟩ 1 1 [.bool true] rfl rfl ?c1 ?c2 (by decide) ?c3 ?c4 ?c5 (wr.heap.size + 1) ?c6 ?_))
        case c1 =>
          intro j u hj
          match j, hj with
          | 0, hj => simp at hj; subst hj; simp [Addr.add]
          | (j + 1), hj => simp at hj
        case c2 => intro u hu; simp at hu; subst hu; rfl
        case c3 => unfold maxLen; omega
        case c4 => omega
        case c5 => simp; omega
        case c6 => simp
        intro g1 cap1 w2 hown2 hgrow hwh hlt2
        have hal : Below wr.heap.size wr (wr.alloc (.cells #[.bool true] 4)) := (Below.refl _ wr).alloc (Nat.le_refl _) _
        have hMk : ∀ k, k < wr.heap.size → ov.ownBlock ≠ some k → w2.heap[k]? = wr.heap[k]? := fun k hk hn => (hgrow.block k (by simp; omega) (fun e => hn e.symm)).trans (hal.block k hk)
        have hM2 : MAt w2 M (.slice (some ⟨c, off, none⟩) len cap) at' ov := (hMk M hmw (fun e => by have := (unhide HOL M e).1; omega)).trans (unhide HMW)
        have hzw := hgrow.size
        rw [World.size_alloc] at hzw
        have hg1M : M + 1 ≤ g1 := by
          rcases hwh with hwh | hwh
          · exact (unhide HOL g1 hwh).1
          · omega
        have hM3 := hM2.set2 (.slice (some ⟨g1, 0, none⟩) (bs.length + 1) cap1)
        have hO3 : OwnO (w2.setCell ⟨M, 2, none⟩ (.slice (some ⟨g1, 0, none⟩) (bs.length + 1) cap1)) M (.slice (some ⟨g1, 0, none⟩) (bs.length + 1) cap1) (bs ++ [true]) := by
          have h0 : OwnO w2 M (.slice (some ⟨g1, 0, none⟩) (bs.length + 1) cap1) (bs ++ [true]) := by
            unfold OwnO
            rw [List.length_append, List.map_append]
            exact hown2
          exact h0.keep fun k hk => Below.heap_setCell w2 ⟨M, 2, none⟩ _ k (fun e => by cases hk; have e' : g1 = M := e; omega)
        have hFw : Fr (fun k => k = M ∨ ov.ownBlock = some k) W w2 := (((Fr.refl _ W).below (unhide HBW)).below (hal.mono (unhide HBW).size)).grown hgrow (fun k e _ => .inr e)
        have hF3 := hFw.set M 2 (.slice (some ⟨g1, 0, none⟩) (bs.length + 1) cap1) (.inl rfl)
        obtain ⟨⟨pb, vb, hpb, hbb⟩, hb1, hb2, hb3⟩ := unhide HG
        have hup : ∀ k, W.heap.size + 1 ≤ k → k < wr.heap.size → (w2.setCell ⟨M, 2, none⟩ (.slice (some ⟨g1, 0, none⟩) (bs.length + 1) cap1)).heap[k]? = wr.heap[k]? := fun k hk hk2 =>
          (Below.heap_setCell w2 ⟨M, 2, none⟩ _ k (fun e => by have e' : k = M := e; omega)).trans (hMk k hk2 (fun e => by have := (unhide HOL k e).2; omega))
        have hbb3 := hbb.up hup
        have hr3 : (w2.setCell ⟨M, 2, none⟩ (.slice (some ⟨g1, 0, none⟩) (bs.length + 1) cap1)).heap[W.heap.size]? = some (.cells #[.int .i64 0, .string ⟨#[]⟩, .int .i64 0, .int .i64 0] 33) :=
          ((Below.heap_setCell w2 ⟨M, 2, none⟩ _ _ (fun e => by have e' : W.heap.size = M := e; omega)).trans (hMk _ (by have := unhide HZ; have := unhide HZ1; omega) (fun e => by have := (unhide HOL _ e).2; omega))).trans (((unhide HBR).block W.heap.size (by omega)).trans (unhide HR1))
        have hz3 : wr.heap.size + 1 ≤ (w2.setCell ⟨M, 2, none⟩ (.slice (some ⟨g1, 0, none⟩) (bs.length + 1) cap1)).heap.size := by simpa [World.setCell] using hzw
        have f2 := hM2.frozen 2
        have c2 := hM2.c2
        have hmw2 := hM2.lt
        obtain ⟨W3, hW3⟩ : ∃ W3, w2.setCell ⟨M, 2, none⟩ (.slice (some ⟨g1, 0, none⟩) (bs.length + 1) cap1) = W3 := ⟨_, rfl⟩
        rw [hW3] at hM3 hO3 hF3 hup hbb3 hr3 hz3
        have HST := hide (bat_string (B := W.heap.size + 1) (W' := W3) (pre := pre) hpb hbb3 hb1 (by have := unhide HZ; have := unhide HZ1; omega))
        have HM3 := hide hM3
        have HO3 := hide hO3
        have HF3 := hide hF3
        have HR3 := hide hr3
        have HZ3 := hide hz3
        have HWH := hide hwh
        clear hown2 hgrow hwh hlt2 hal hMk hM2 hzw hg1M hM3 hO3 hFw hF3 hpb hbb hb1 hb2 hb3 hup hbb3 hr3 hz3 hinf hz0 hzz1 hz2
        go_wp2_with (first | (go_at_call 30; refine (unhide HST).mono ?_; rintro x W4 ⟨rfl, hB4, hK4⟩; have HK4 := hide hK4; clear hK4; have hM4 := (unhide HM3).below hB4 (by omega); have hB4z := hB4.size) | (go_at_call 66; refine (take_any M _ _ at' holed _ _ W4 hM4).mono ?_; rintro x W5 ⟨rfl, hM5, hF5⟩; have hr5 : W5.heap[W.heap.size]? = some (.cells #[.int .i64 0, .string ⟨#[]⟩, .int .i64 0, .int .i64 0] 33) := (hF5.block W.heap.size (by have := unhide HZ; have := unhide HZ1; have := unhide HZ3; omega) (by omega)).trans ((hB4.block W.heap.size (by omega)).trans (unhide HR3)); obtain ⟨d0, d1, d2, d3⟩ := tok_cells hr5; have d4 := Lib.frozen_of_heap hr5; have d5 : W5.shape? W.heap.size = some (33, 4) := (by simp [World.shape?, hr5])))
        have hFt : Fr (fun k => k = M ∨ ov.ownBlock = some k) W W5 := ((unhide HF3).below (hB4.mono (by omega))).trans (hF5.mono (fun k _ e => .inl e))
        have hO5 : OwnO W5 M (.slice (some ⟨g1, 0, none⟩) (bs.length + 1) cap1) (bs ++ [true]) := by
          refine (unhide HO3).keep fun k hk => ?_
          obtain rfl : g1 = k := by injection hk
          obtain ⟨cur, hcur⟩ : ∃ cur, W3.heap[g1]? = some (.cells cur 4 (0, 0)) := by
            rcases (unhide HO3).form with ⟨h0, _⟩ | ⟨g', cap', cur, hv, _, hh, _⟩
            · cases h0
            · injection hv with hv1
              injection hv1 with hv2
              injection hv2 with hv3
              subst hv3
              exact ⟨cur, hh⟩
          have hlo := (unhide HO3).lt (k := g1) rfl
          have hgB : g1 ≠ W.heap.size + 1 := by
            rcases unhide HWH with h | h
            · have := (unhide HOL g1 h).2; omega
            · have := unhide HZ; have := unhide HZ1; omega
          have h4 := unhide HK4 g1 _ hcur (fun e => hgB (by injection e)) (fun c' fz e => by injection e with _ e2; exact absurd e2 (by decide))
          have hl4 : g1 < W4.heap.size := (Array.getElem?_eq_some_iff.1 h4).1
          rw [hF5.block g1 hl4 (by omega), h4, hcur]
        have hgR : g1 ≠ W.heap.size := by
          rcases unhide HWH with h | h
          · have := (unhide HOL g1 h).2; omega
          · have := unhide HZ; have := unhide HZ1; omega
        have hK6 : (((((W5.setCell ⟨W.heap.size, 0, none⟩ (.int .i64 holed)).setCell ⟨W.heap.size, 1, none⟩ (.string (strOfNums pre))).setCell ⟨W.heap.size, 2, none⟩ (.int .i64 (at' : Int))).setCell ⟨W.heap.size, 3, none⟩ (.int .i64 ((i : Int) + 2)))).heap[g1]? = W5.heap[g1]? := put4_keep hgR _ _ _ _
        have hOBt : OB W ov (.slice (some ⟨g1, 0, none⟩) (bs.length + 1) cap1) := by
          rcases unhide HWH with h | h
          · exact .inl h.symm
          · exact .inr ⟨g1, rfl, by have := unhide HZ; have := unhide HZ1; omega⟩
        have hB6 := put4_below (W := W5) (Nat.le_refl W.heap.size) (.int .i64 holed) (.string (strOfNums pre)) ((.int .i64 (at' : Int))) (.int .i64 ((i : Int) + 2))
        have hr6 := put4_heap hr5 (.int .i64 holed) (.string (strOfNums pre)) ((.int .i64 (at' : Int))) (.int .i64 ((i : Int) + 2))
        obtain ⟨W6, hW6⟩ : ∃ W6, ((((W5.setCell ⟨W.heap.size, 0, none⟩ (.int .i64 holed)).setCell ⟨W.heap.size, 1, none⟩ (.string (strOfNums pre))).setCell ⟨W.heap.size, 2, none⟩ ((.int .i64 (at' : Int)))).setCell ⟨W.heap.size, 3, none⟩ (.int .i64 ((i : Int) + 2))) = W6 := ⟨_, rfl⟩
        rw [hW6] at hB6 hr6 hK6 ⊢
        clear hW6
        obtain ⟨e0, e1, e2, e3⟩ := tok_cells hr6
        try rw [Exit.noGoto_ret]
        refine bodyPost_ret (v := .tuple #[.agg #[.int .i64 holed, .string (strOfNums pre), (.int .i64 (at' : Int)), .int .i64 ((i : Int) + 2)], .bool true]) ?_ rfl ⟨rfl, ⟨_, hM5.below hB6 hml, hO5.keep (fun k hk => by obtain rfl : g1 = k := (by injection hk); exact hK6), hOBt⟩, hFt.below hB6⟩
        clear d0 d1 d2 d3 d4 d5
        simp [results, Tryd.results53, go_sem, e0, e1, e2, e3]
      have e36' : ¬ (g i = 36 ∧ i + 1 < len ∧ g (i + 1) = 123) := fun h => e36 ⟨k36.2 h.1, h.2⟩
      by_cases e92 : r = 92
      · have g92 := k92.1 e92
        subst e92
        obtain ⟨a', c', hsl', hk⟩ := slice_from (unhide HSA wr (unhide HBW)) (lo := i) hi2
        have HES := hide (escape_any c a' (len - i) c' (fun j => g (i + j)) (fun j => hg _) wr (hk _ (unhide HSA wr (unhide HBW))) (by have := unhide HZ; have := unhide HZ1; omega) (by omega) (by simpa using g92) (by omega) (unhide HEA wr (unhide HBW)))
        rw [escE_shift] at HES
        clear hrune k96 k36 k92 hk e36 e36'
        cases he : escE g len i with
        | none =>
          rw [pieI_bad hlt g92 he] at hq0
          subst hq0
          rw [he] at HES
          have HES2 : Hid (Calls Tryd.prog 68 #[.slice a' (len - i) c'] wr fun x W' => x = .returned (.tuple #[.int .i32 0, .int .i64 0]) ∧ Below wr.heap.size wr W') := unhide HES
          clear hesc he HES g92
          go_wp2_with (first | (go_at_call 38; refine (unhide HD).mono ?_; rintro x w' ⟨rfl, hw⟩; subst w') | (go_at_call 68; refine (unhide HES2).mono ?_; rintro x W4 ⟨rfl, hB4⟩; have hBt := (unhide HBR).trans (hB4.mono (by have := unhide HZ; have := unhide HZ1; omega)); have hMt := (unhide HM1).below hBt (by omega); have hr5 : W4.heap[W.heap.size]? = some (.cells #[.int .i64 0, .string ⟨#[]⟩, .int .i64 0, .int .i64 0] 33) := (hBt.block W.heap.size (by omega)).trans (unhide HR1); obtain ⟨d0, d1, d2, d3⟩ := tok_cells hr5; have d4 := Lib.frozen_of_heap hr5; have d5 : W4.shape? W.heap.size = some (33, 4) := (by simp [World.shape?, hr5])))
          have hB6 := put4_below (W := W4) (Nat.le_refl W.heap.size) (.int .i64 0) (.string ⟨#[]⟩) (.int .i64 0) (.int .i64 0)
          have hr6 := put4_heap hr5 (.int .i64 0) (.string ⟨#[]⟩) (.int .i64 0) (.int .i64 0)
          obtain ⟨W6, hW6⟩ : ∃ W6, ((((W4.setCell ⟨W.heap.size, 0, none⟩ (.int .i64 0)).setCell ⟨W.heap.size, 1, none⟩ (.string ⟨#[]⟩)).setCell ⟨W.heap.size, 2, none⟩ (.int .i64 0)).setCell ⟨W.heap.size, 3, none⟩ (.int .i64 0)) = W6 := ⟨_, rfl⟩
          rw [hW6] at hB6 hr6 ⊢
          clear hW6
          obtain ⟨e0, e1, e2, e3⟩ := tok_cells hr6
          try rw [Exit.noGoto_ret]
          refine bodyPost_ret (v := .tuple #[.agg #[.int .i64 0, .string ⟨#[]⟩, .int .i64 0, .int .i64 0], .bool false]) ?_ rfl ⟨rfl, ((Fr.refl _ W).below ((unhide HB1).trans (hBt.mono (by omega)))).below hB6⟩
          clear d0 d1 d2 d3 d4 d5
          simp [results, Tryd.results53, go_sem, e0, e1, e2, e3]
        | some y =>
          obtain ⟨x, wd⟩ := y
          have hw2 := escE_w he
          have hxo := esc_ok hg he
          rw [hesc hlt g92 he, pfx_oneP] at hq0
          have HQ1 := hide hq0
          rw [he] at HES
          have HES2 : Hid (Calls Tryd.prog 68 #[.slice a' (len - i) c'] wr fun z W' => z = .returned (.tuple #[.int .i32 x, .int .i64 (wd : Int)]) ∧ Below wr.heap.size wr W') := unhide HES
          have bw0 : ((wd : Int) == 0) = false := beq_eq_false_iff_ne.2 (by omega)
          have HX := hide hxo
          have HW2 := hide hw2
          have hwl := hw2.2
          have hwk := hw2.1
          clear hesc he HES g92 hq0 hxo hw2
          go_wp2_with (first | (go_at_call 38; refine (unhide HD).mono ?_; rintro x w' ⟨rfl, hw⟩; subst w') | (go_at_call 68; refine (unhide HES2).mono ?_; rintro z W4 ⟨rfl, hB4⟩))
          refine (gath_put (B := W.heap.size + 1) (W1 := W1) (pre := pre) (i := i) (j := i + wd) (Gath.on (unhide HG) hB4) (unhide HX) (by have := unhide HW2; omega) (by omega) (by have := unhide HZ1; omega)).mono ?_
          rintro z W5 ⟨⟨u, rfl⟩, hG5⟩
          have HG5 := hide hG5
          clear hG5
          go_wp2
          exact ⟨⟨i + wd, pre ++ Lib.encodeRuneZ x, by omega, (unhide HW2).2, by go_num, HG5, HQ1⟩, by have := (unhide HW2).1; simp [intOf]; omega⟩
      have b92 : (r == 92) = false := beq_eq_false_iff_ne.2 e92
      rw [hrune (fun h => e96 (k96.2 h)) e36' (fun h => e92 (k92.2 h)), pfx_oneP] at hq0
      have HQ1 := hide hq0
      have HX := hide hok
      have HN36 := hide e36
      obtain ⟨off, rfl, hcp, hmx, hcs⟩ := unhide (sl_cells (unhide HSA wr (unhide HBW))) (by omega)
      unfold maxLen at hmx
      have HCS := hide hcs
      clear hrune hesc k96 k36 k92 hq0 hok e36 e36' hcs
      by_cases e36 : r = 36
      · have b36 : (r == 36) = true := beq_iff_eq.2 e36
        by_cases hi1l : i + 1 < len
        · have hi1d : decide ((i : Int) + 1 < len) = true := decide_eq_true (by omega)
          have hi1' : (i : Int) + 1 < len := by omega
          have hci := unhide HCS (i + 1) hi1l
          have b123 : (g (i + 1) == 123) = false := beq_eq_false_iff_ne.2 (fun h => unhide HN36 ⟨e36, hi1l, h⟩)
          clear e36
          go_wp2_with (go_at_call 38; refine (unhide HD).mono ?_; rintro x w' ⟨rfl, hw⟩; subst w')
          refine (gath_put (B := W.heap.size + 1) (W1 := W1) (pre := pre) (i := i) (j := i + s) (unhide HG) (unhide HX) (by omega) (by omega) (by have := unhide HZ1; omega)).mono ?_
          rintro z W5 ⟨⟨u, rfl⟩, hG5⟩
          have HG5 := hide hG5
          clear hG5
          go_wp2
          exact ⟨⟨i + s, pre ++ Lib.encodeRuneZ r, by omega, by omega, by go_num, HG5, HQ1⟩, by simp [intOf]; omega⟩
        · have hi1d : decide ((i : Int) + 1 < len) = false := decide_eq_false (by omega)
          clear e36
          go_wp2_with (go_at_call 38; refine (unhide HD).mono ?_; rintro x w' ⟨rfl, hw⟩; subst w')
          refine (gath_put (B := W.heap.size + 1) (W1 := W1) (pre := pre) (i := i) (j := i + s) (unhide HG) (unhide HX) (by omega) (by omega) (by have := unhide HZ1; omega)).mono ?_
          rintro z W5 ⟨⟨u, rfl⟩, hG5⟩
          have HG5 := hide hG5
          clear hG5
          go_wp2
          exact ⟨⟨i + s, pre ++ Lib.encodeRuneZ r, by omega, by omega, by go_num, HG5, HQ1⟩, by simp [intOf]; omega⟩
      · have b36 : (r == 36) = false := beq_eq_false_iff_ne.2 e36
        go_wp2_with (go_at_call 38; refine (unhide HD).mono ?_; rintro x w' ⟨rfl, hw⟩; subst w')
        refine (gath_put (B := W.heap.size + 1) (W1 := W1) (pre := pre) (i := i) (j := i + s) (unhide HG) (unhide HX) (by omega) (by omega) (by have := unhide HZ1; omega)).mono ?_
        rintro z W5 ⟨⟨u, rfl⟩, hG5⟩
        have HG5 := hide hG5
        clear hG5
        go_wp2
        exact ⟨⟨i + s, pre ++ Lib.encodeRuneZ r, by omega, by omega, by go_num, HG5, HQ1⟩, by simp [intOf]; omega⟩
    · have hq0 := unhide HP
      rw [pieI_end hlt] at hq0
      subst hq0
      have hin : inside len (i : Int) = false := by simp [inside]; omega
      have hz0 : stepN g len i = 0 := by simp [stepN, hlt]
      rw [(dOut hin g).1, hz0] at HD0
      have HD := HD0
      have hBt := unhide HBR
      have hz1 := unhide HZ1
      clear HD0 hin hz0
      have hr5 : wr.heap[W.heap.size]? = some (.cells #[.int .i64 0, .string ⟨#[]⟩, .int .i64 0, .int .i64 0] 33) := (hBt.block W.heap.size (by omega)).trans (unhide HR1)
      obtain ⟨d0, d1, d2, d3⟩ := tok_cells hr5
      have d4 := Lib.frozen_of_heap hr5
      have d5 : wr.shape? W.heap.size = some (33, 4) := by simp [World.shape?, hr5]
      clear hBt hz1
      go_wp2_with (go_at_call 38; refine (unhide HD).mono ?_; rintro x w' ⟨rfl, hw⟩; subst w')
      have hBt := unhide HBR
      have hz1 := unhide HZ1
      have hB6 := put4_below (W := wr) (Nat.le_refl W.heap.size) (.int .i64 0) (.string ⟨#[]⟩) (.int .i64 0) (.int .i64 0)
      have hr6 := put4_heap hr5 (.int .i64 0) (.string ⟨#[]⟩) (.int .i64 0) (.int .i64 0)
      obtain ⟨W6, hW6⟩ : ∃ W6, ((((wr.setCell ⟨W.heap.size, 0, none⟩ (.int .i64 0)).setCell ⟨W.heap.size, 1, none⟩ (.string ⟨#[]⟩)).setCell ⟨W.heap.size, 2, none⟩ (.int .i64 0)).setCell ⟨W.heap.size, 3, none⟩ (.int .i64 0)) = W6 := ⟨_, rfl⟩
      rw [hW6] at hB6 hr6 ⊢
      clear hW6
      obtain ⟨e0, e1, e2, e3⟩ := tok_cells hr6
      try rw [Exit.noGoto_ret]
      refine bodyPost_ret (v := .tuple #[.agg #[.int .i64 0, .string ⟨#[]⟩, .int .i64 0, .int .i64 0], .bool false]) ?_ rfl ⟨rfl, ((Fr.refl _ W).below ((unhide HB1).trans (hBt.mono (by omega)))).below hB6⟩
      clear d0 d1 d2 d3 d4 d5
      simp [results, Tryd.results53, go_sem, e0, e1, e2, e3]
end Go.Proofs.YtpdkeggiokebmaaDoor
