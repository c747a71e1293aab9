/- tree.Walk: the counts of kids, kept, and the function value over them. -/
import Derived.LoopN
import Derived.OwnWalk
import Derived.Laws.EntriesVeiled
import Derived.Test.YtoffpbaddehncaaGreatDoorTM
namespace Go.Proofs.YtoffpbaddehncaaGreatDoor
set_option linter.unusedSimpArgs false
set_option linter.unusedVariables false
open Go.RowKit Go.Shelf

/-- A row, so many of its numbers laid. -/
def mixF (f : Nat → Value) (n i : Nat) : List Value := (List.range n).map fun j => if j < i then f j else .int .i64 0
theorem mixF_len (f : Nat → Value) (n i : Nat) : (mixF f n i).length = n := by simp [mixF]
theorem mixF_zero (f : Nat → Value) (n : Nat) : mixF f n 0 = List.replicate n (.int .i64 0) := by
  apply List.ext_getElem?
  intro j
  by_cases h : j < n <;> simp [mixF, h]
theorem mixF_set (f : Nat → Value) (n i : Nat) (h : i < n) : (mixF f n i).set i (f i) = mixF f n (i + 1) := by
  apply List.ext_getElem?
  intro j
  rw [List.getElem?_set, mixF_len]
  by_cases e : i = j
  · subst e
    rw [if_pos rfl, if_pos h]
    simp [mixF, h]
  · rw [if_neg e]
    by_cases h2 : j < n
    · simp only [mixF, List.getElem?_map, List.getElem?_range h2, Option.map_some]
      by_cases h3 : j < i
      · rw [if_pos h3, if_pos (by omega)]
      · rw [if_neg h3, if_neg (by omega)]
    · rw [List.getElem?_eq_none (by simp [mixF]; omega), List.getElem?_eq_none (by simp [mixF]; omega)]
theorem mixF_get (f : Nat → Value) (n i j : Nat) (h : j < n) (hi : n ≤ i) : (mixF f n i)[j]? = some (f j) := by
  simp [mixF, h, show j < i from by omega]

def cntV (l : List Nd) (j : Nat) : Value := .int .i64 ((nd l j).kids.length : Int)
/-- What Walk answers of a tree that Check takes. -/
def WalkMade (W : World) (l : List Nd) (e : Ending) (w' : World) : Prop :=
  ∃ Bx c, e = .returned (.func (.func 35) #[] #[.pointer (some ⟨Bx, 0, none⟩)]) ∧ Boxed w' Bx 27 (.slice (some ⟨c, 0, none⟩) l.length l.length) ∧ w'.ownsRow W.heap.size 3 1 (.slice (some ⟨c, 0, none⟩) l.length l.length) l.length (mixF (cntV l) l.length l.length) ∧ W.heap.size ≤ Bx ∧ Below W.heap.size W w'

set_option maxRecDepth 100000 in
set_option maxHeartbeats 2000000 in
theorem walk_bad (W : World) (M : Nat) (v : Value) (l : List Nd) (hN : Nodes W M v l) (hM : M ≤ W.heap.size) (h : ¬ (chkP l).2 = 0) :
    Calls Tryz.prog 16 #[.agg #[v]] W fun e w' => e = .returned (.func (.func 34) #[] #[]) ∧ Below W.heap.size W w' := by
  have hB0 : Below W.heap.size W (W.alloc (.cells #[v] 24)) := (Below.refl _ W).alloc (Nat.le_refl _) _
  have HC := hide (check_ok _ M v l (hN.keep hB0 hM) (Nat.le_trans hM hB0.size))
  obtain ⟨va, vc, rfl, _, _⟩ := hN.len
  have h' : ((chkP l).2 != 0) = true := by simpa using h
  obtain ⟨cp, hcp⟩ : ∃ cp, chkP l = cp := ⟨_, rfl⟩
  rw [hcp] at HC h'
  obtain ⟨p1, p2⟩ := cp
  simp only at h' HC
  clear hN h hcp
  go_enter Tryz.func16, Tryz.ntmps16
  go_wp2_with (go_at_call 24; refine (unhide HC).mono ?_; rintro e w2 ⟨rfl, hB2⟩)
  go_ret
  exact ⟨rfl, hB0.trans (hB2.mono hB0.size)⟩

set_option maxRecDepth 100000 in
set_option maxHeartbeats 4000000 in
theorem walk_good (W : World) (M : Nat) (v : Value) (l : List Nd) (hN : Nodes W M v l) (hM : M ≤ W.heap.size) (h : (chkP l).2 = 0) :
    Calls Tryz.prog 16 #[.agg #[v]] W (WalkMade W l) := by
  obtain ⟨j0, hj, hy0, hy1, hy2⟩ := info_parts infoInt
  have hB0 : Below W.heap.size W (W.alloc (.cells #[v] 24)) := (Below.refl _ W).alloc (Nat.le_refl _) _
  have HC := hide (check_ok _ M v l (hN.keep hB0 hM) (Nat.le_trans hM hB0.size))
  have HN := hide hN
  have hlen := hN.1
  obtain ⟨va, vc, rfl, hvc, hvm⟩ := hN.len
  obtain ⟨cp, hcp⟩ : ∃ cp, chkP l = cp := ⟨_, rfl⟩
  rw [hcp] at HC h
  obtain ⟨p1, p2⟩ := cp
  simp only at h HC
  subst h
  clear hN hcp
  have hX0 : (W.alloc (.cells #[.slice va l.length vc] 24)).heap[W.heap.size]? = some (.cells #[.slice va l.length vc] 24) := World.alloc_heap_new W _
  have HX0 := hide hX0
  clear hX0
  go_enter Tryz.func16, Tryz.ntmps16
  go_wp2_with (first | (go_at_call 24; refine (unhide HC).mono ?_; rintro e w2 ⟨rfl, hB2⟩; have hX2 := (hB2.block W.heap.size (by simp)).trans (unhide HX0); have cX2 : w2.cell? ⟨W.heap.size, 0, none⟩ = some (.slice va l.length vc) := (by rw [Lib.cell_of_heap hX2]; rfl); have hs2 : W.heap.size < w2.heap.size := (by have := hB2.size; simp at this; omega); have HX2 := hide hX2; clear hX2) | (at_make; refine wpList_make_full _ rfl _ _ 27 rfl W.heap.size 3 j0 (.int .i64 0) 1 Tryz.underlying27 hj hy0 hy1 .i64 .i64 (l.length : Int) (l.length : Int) l.length rfl rfl rfl rfl ?m1 ?m2 ?m3 ?_))
  case m1 => rw [hy2]; omega
  case m2 => unfold maxLen; omega
  case m3 => omega
  intro w3 hown3 hg3
  have hz3 : w2.heap.size < w3.heap.size := (hown3.lt w2.heap.size (by simp [Value.ownBlock])).2
  have e0 : (madeCells #[Value.int .i64 0] l.length).toList = mixF (cntV l) l.length 0 := by rw [mixF_zero]; exact toList_madeCells_one _ _
  have hown3' : w3.ownsRow W.heap.size 3 1 (.slice (some ⟨w2.heap.size, 0, none⟩) l.length l.length) l.length (mixF (cntV l) l.length 0) := by rw [← e0]; simpa using hown3
  have hB3 : Below W.heap.size W w3 := (hB0.trans (hB2.mono hB0.size)).grown hg3 (by omega) (fun k hk => by cases hk)
  have hX3 : w3.heap[W.heap.size]? = some (.cells #[.slice va l.length vc] 24) := (hg3.block _ hs2 (by simp)).trans (unhide HX2)
  have cX3 : ∀ o, (w3.alloc o).cell? ⟨W.heap.size, 0, none⟩ = some (.slice va l.length vc) := fun o => by
    rw [Lib.cell_of_heap ((Below.heap_alloc w3 o _ (by omega)).trans hX3)]; rfl
  have HO3 := hide (hown3'.alloc (.cells #[.slice (some ⟨w2.heap.size, 0, none⟩) l.length l.length] 27))
  have HBX := hide (Boxed.new w3 27 (.slice (some ⟨w2.heap.size, 0, none⟩) l.length l.length))
  have HB4 := hide (hB3.alloc (by omega) (.cells #[.slice (some ⟨w2.heap.size, 0, none⟩) l.length l.length] 27))
  clear hown3 hown3' e0 hX3 hg3
  go_wp2
  clear cX3
  go_loopw [22] (fun t22 wr => ∃ i : Nat, i ≤ l.length ∧ t22 = .int .i64 (i : Int) ∧ wr.ownsRow W.heap.size 3 1 (.slice (some ⟨w2.heap.size, 0, none⟩) l.length l.length) l.length (mixF (cntV l) l.length i) ∧ Boxed wr w3.heap.size 27 (.slice (some ⟨w2.heap.size, 0, none⟩) l.length l.length) ∧ Below W.heap.size W wr) (fun t22 _ => l.length - (intOf t22).toNat)
  case atStart => exact ⟨0, Nat.zero_le _, rfl, unhide HO3, unhide HBX, unhide HB4⟩
  case round =>
    obtain ⟨i, hil, rfl, hown, hbx, hB⟩ := hrel
    have HO := hide hown
    have HBX' := hide hbx
    have cb := hbx.cell
    have hbl := hbx.lt
    clear hown hbx
    by_cases hlt : i < l.length
    · have hlt' : (i : Int) < l.length := by omega
      obtain ⟨b, o, cap', ka, kc, hv, _, _, hb, d0, d1, d2, d3, d4, _, _, _⟩ := ((unhide HN).keep hB hM).at hlt
      obtain ⟨rfl, rfl⟩ : va = some ⟨b, o, none⟩ ∧ cap' = vc := by injection hv with h1 _ h3; exact ⟨h1, h3.symm⟩
      have hbw : b < wr.heap.size := by have := hB.size; omega
      have hkl := ((unhide HN).2.1 i hlt).2
      clear hv
      obtain ⟨x, hnd⟩ : ∃ x, nd l i = x := ⟨_, rfl⟩
      rw [hnd] at d0 d1 d2 d3 d4 hkl
      have HND := hide hnd
      obtain ⟨kd, tx, nm, ks, at'⟩ := x
      simp only at d0 d1 d2 d3 d4 hkl
      clear hnd
      obtain ⟨w1, hw1⟩ : ∃ w1, wr.alloc (.cells #[.int .i64 kd, .string tx, .int .i64 nm, .slice ka ks.length kc, .int .i64 at'] 29) = w1 := ⟨_, rfl⟩
      have ho1 := (unhide HO).alloc (.cells #[.int .i64 kd, .string tx, .int .i64 nm, .slice ka ks.length kc, .int .i64 at'] 29)
      have hb1 := (unhide HBX').alloc (.cells #[.int .i64 kd, .string tx, .int .i64 nm, .slice ka ks.length kc, .int .i64 at'] 29)
      have hB1 := hB.alloc hB.size (.cells #[.int .i64 kd, .string tx, .int .i64 nm, .slice ka ks.length kc, .int .i64 at'] 29)
      have h29 := World.alloc_heap_new wr (.cells #[.int .i64 kd, .string tx, .int .i64 nm, .slice ka ks.length kc, .int .i64 at'] 29)
      have hsz1 : w1.heap.size = wr.heap.size + 1 := by rw [← hw1]; simp
      rw [hw1] at ho1 hb1 hB1 h29
      have cb1 := hb1.cell
      have k29 := (cells5 h29).2.2.2.1
      have ci : ∃ x, w1.cell? ⟨w2.heap.size, i, none⟩ = some x := by
        rw [ho1.cellAt i (by omega)]
        exact ⟨_, List.getElem?_eq_getElem (by rw [mixF_len]; exact hlt)⟩
      obtain ⟨xi, ci⟩ := ci
      have fi := ho1.frozenAt i
      obtain ⟨hst, hgr⟩ := ho1.stored i (.int .i64 (ks.length : Int))
      have e2 : Value.int .i64 (ks.length : Int) = cntV l i := by rw [cntV, unhide HND]
      rw [e2, mixF_set _ _ _ hlt, ← e2] at hst
      have hb1' : Boxed (w1.setCell ⟨w2.heap.size, i, none⟩ (.int .i64 (ks.length : Int))) w3.heap.size 27 (.slice (some ⟨w2.heap.size, 0, none⟩) l.length l.length) := (Below.heap_setCell _ _ _ _ (by simp; omega)).trans hb1
      have hB1' := hB1.setCell (p := ⟨w2.heap.size, i, none⟩) (by simp; omega) (.int .i64 (ks.length : Int))
      have HST := hide hst
      have HB1 := hide hb1'
      have HBB := hide hB1'
      have hlw : w2.heap.size < w1.heap.size := (ho1.lt _ rfl).2
      clear hst hgr hb1' hB1' ho1 hb1 h29 hB1 e2
      go_wp2
      exact ⟨⟨i + 1, by omega, by go_num, unhide HST, unhide HB1, unhide HBB⟩, by simp [intOf]; omega⟩
    · have hlt' : ¬ (i : Int) < l.length := by omega
      obtain rfl : i = l.length := by omega
      go_wp2
      go_ret
      exact ⟨w3.heap.size, w2.heap.size, rfl, unhide HBX', unhide HO, by omega, hB⟩
end Go.Proofs.YtoffpbaddehncaaGreatDoor
