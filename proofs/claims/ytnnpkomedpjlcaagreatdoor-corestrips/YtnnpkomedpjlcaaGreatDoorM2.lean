/- tree.Walk and its function value under a yield loop. -/
import Derived.Deep.Onto
import Derived.Laws.EntriesVeiled
import Derived.LoopIn
import Derived.LoopN
import Derived.LoopNIn
import Derived.OwnWalk
import Derived.OwnWalkIn
import Derived.RangeFuncBound
import Derived.RangeFuncCalls
import Derived.RangeFuncFrom
import Derived.RangeFuncLeaves
import Derived.RangeFuncNested
import Derived.Shelf.RegionOpen
import Derived.TacticsInMore
import Derived.WalkSmall
import Derived.Test.YtnnpkomedpjlcaaGreatDoorM1
/- A range over a function whose iterator writes memory of its own: the statement is entered; one round. -/

namespace Go.Proofs.YtnnpkomedpjlcaaGreatDoor
set_option linter.unusedSimpArgs false
set_option linter.unusedVariables false
open Go.RowKit

section
variable {F : Fence} {n : Nat} {P : Program}

/-- The record of a loop. -/
def recOf (fn : FuncId) (tmps : Array Value) (ps : Array Tmp) (assign body : Code) (D : Nat) (st : LoopState) (pe : Option Code) : Loop :=
  { state := st, pending := pe, fn := fn, tmps := tmps, params := ps, assign := assign, body := body, defers := D }
/-- What lies in memory when the iterator is called. -/
def ranged (w : World) (r : Loop) : World := (w.alloc (.deferred (some []))).alloc (.loop r)

theorem range_enter {g : Operand} {ps : Array Tmp} {assign body : Code} {Q : Exit → Act → World → Prop} {a : Act} {w : World} (hro : F.round = none) (h1 : 1 ≤ n) {gf : Nat} {lb : Array Value} (hg : a.eval g = .func (.func gf) #[] lb) (hFg : F.fn gf)
    (eg : ∀ args w, (callFunc gf args).run P w = .ok (.enter gf args) w)
    (h : ∀ fn, F.fn fn → CallsIn F (n - 1) P gf (#[.func (.yield (w.heap.size + 1)) #[] #[]] ++ lb) (ranged w (recOf fn a.tmps ps assign body w.heap.size .ready none)) (rangePost F n P (w.heap.size + 1) Q { a with defers := [{ target := .collected w.heap.size, args := #[] }] ++ a.defers })) :
    (Code.rangeFunc g ps assign body).wpIn F n P Q a w := by
  refine wpIn_rangeFunc ?_
  intro fn hfn
  rw [hro]
  have h2 := h fn hfn
  obtain ⟨W1, hW1⟩ : ∃ W1, ranged w (recOf fn a.tmps ps assign body w.heap.size .ready none) = W1 := ⟨_, rfl⟩
  have hen : (Instr.enterLoop fn a.tmps ps assign body none).run P w = .ok (w.heap.size + 1, [{ target := .collected w.heap.size, args := #[] }]) W1 := by
    rw [← hW1]; exact run_enterLoop_outer fn a.tmps ps assign body
  rw [hW1] at h2
  clear hW1 h
  refine ⟨w.heap.size + 1, [{ target := .collected w.heap.size, args := #[] }], W1, { target := .fn (.func gf) lb, args := #[.func (.yield (w.heap.size + 1)) #[] #[]] }, W1, gf, #[.func (.yield (w.heap.size + 1)) #[] #[]] ++ lb, W1, hen, ?_, ?_, ?_, fun _ => h1, ?_⟩
  · simp only [resolve, hg]
    simp [go_sem]
  · intro f' hf'
    simp [Target.leads] at hf'
    subst hf'
    exact hFg
  · simp [invoke, go_sem, eg]
  · exact h2

theorem yield_round {m l D : Nat} {W W₁ : World} {fn : FuncId} {tmps : Array Value} {ps : Array Tmp} {assign body : Code} {args : Array Value} {R : Ending → World → Prop} (hfn : F.fn fn) (hl : W.heap[l]? = some (.loop (recOf fn tmps ps assign body D .ready none))) (hs : args.size = ps.size) (a₁ : Act)
    (hl1 : W₁.heap[l]? = some (.loop (recOf fn tmps ps assign body D .ready none)))
    (hassign : ∀ K : Act → World → Prop, K a₁ W₁ → assign.wpIn (F.inRound l) m P (Exit.then K (fun _ _ _ => False)) { tmps := (ps.zip args).foldl (fun t (p, v) => t.setIfInBounds p v) tmps, defers := [] } W)
    (hbody : body.wpIn (F.inRound l) m P (roundPost P l R) a₁ (W₁.putObj l (.loop (recOf fn tmps ps assign body D .busy none)))) :
    YieldAt F m P l args W R :=
  ⟨fn, _, assign, body, run_yield hl hs, roundIn_of_wpIn hfn (hassign _ ⟨_, run_beginRound hl1 rfl, hbody⟩)⟩
end
end Go.Proofs.YtnnpkomedpjlcaaGreatDoor

/- tree.Walk: the counts of kids, kept, and the function value over them. -/
namespace Go.Proofs.YtnnpkomedpjlcaaGreatDoor
set_option linter.unusedSimpArgs false
set_option linter.unusedVariables false
open Go.RowKit Go.Shelf

/-- A row, so many of its numbers laid. -/
def mixF (f : Nat → Value) (n i : Nat) : List Value := (List.range n).map fun j => if j < i then f j else .int .i64 0
theorem mixF_len (f : Nat → Value) (n i : Nat) : (mixF f n i).length = n := by simp [mixF]
theorem mixF_zero (f : Nat → Value) (n : Nat) : mixF f n 0 = List.replicate n (.int .i64 0) := by
  apply List.ext_getElem?
  intro j
  by_cases h : j < n <;> simp [mixF, h]
theorem mixF_set (f : Nat → Value) (n i : Nat) (h : i < n) : (mixF f n i).set i (f i) = mixF f n (i + 1) := by
  apply List.ext_getElem?
  intro j
  rw [List.getElem?_set, mixF_len]
  by_cases e : i = j
  · subst e
    rw [if_pos rfl, if_pos h]
    simp [mixF, h]
  · rw [if_neg e]
    by_cases h2 : j < n
    · simp only [mixF, List.getElem?_map, List.getElem?_range h2, Option.map_some]
      by_cases h3 : j < i
      · rw [if_pos h3, if_pos (by omega)]
      · rw [if_neg h3, if_neg (by omega)]
    · rw [List.getElem?_eq_none (by simp [mixF]; omega), List.getElem?_eq_none (by simp [mixF]; omega)]
theorem mixF_get (f : Nat → Value) (n i j : Nat) (h : j < n) (hi : n ≤ i) : (mixF f n i)[j]? = some (f j) := by
  simp [mixF, h, show j < i from by omega]

def cntV (l : List Nd) (j : Nat) : Value := .int .i64 ((nd l j).kids.length : Int)
/-- What Walk answers of a tree that Check takes. -/
def WalkMade (W : World) (l : List Nd) (e : Ending) (w' : World) : Prop :=
  ∃ Bx c, e = .returned (.func (.func 34) #[] #[.pointer (some ⟨Bx, 0, none⟩)]) ∧ Boxed w' Bx 39 (.slice (some ⟨c, 0, none⟩) l.length l.length) ∧ w'.ownsRow W.heap.size 3 1 (.slice (some ⟨c, 0, none⟩) l.length l.length) l.length (mixF (cntV l) l.length l.length) ∧ W.heap.size ≤ Bx ∧ Below W.heap.size W w'

set_option maxRecDepth 100000 in
set_option maxHeartbeats 2000000 in
theorem walk_bad (W : World) (M : Nat) (v : Value) (l : List Nd) (hN : Nodes W M v l) (hM : M ≤ W.heap.size) (h : ¬ (chkP l).2 = 0) :
    Calls Tryz.prog 18 #[.agg #[v]] W fun e w' => e = .returned (.func (.func 33) #[] #[]) ∧ Below W.heap.size W w' := by
  have hB0 : Below W.heap.size W (W.alloc (.cells #[v] 24)) := (Below.refl _ W).alloc (Nat.le_refl _) _
  have HC := hide (check_ok _ M v l (hN.keep hB0 hM) (Nat.le_trans hM hB0.size))
  obtain ⟨va, vc, rfl, _, _⟩ := hN.len
  have h' : ((chkP l).2 != 0) = true := by simpa using h
  obtain ⟨cp, hcp⟩ : ∃ cp, chkP l = cp := ⟨_, rfl⟩
  rw [hcp] at HC h'
  obtain ⟨p1, p2⟩ := cp
  simp only at h' HC
  clear hN h hcp
  go_enter Tryz.func18, Tryz.ntmps18
  go_wp2_with (go_at_call 17; refine (unhide HC).mono ?_; rintro e w2 ⟨rfl, hB2⟩)
  go_ret
  exact ⟨rfl, hB0.trans (hB2.mono hB0.size)⟩

set_option maxRecDepth 100000 in
set_option maxHeartbeats 4000000 in
theorem walk_good (W : World) (M : Nat) (v : Value) (l : List Nd) (hN : Nodes W M v l) (hM : M ≤ W.heap.size) (h : (chkP l).2 = 0) :
    Calls Tryz.prog 18 #[.agg #[v]] W (WalkMade W l) := by
  obtain ⟨j0, hj, hy0, hy1, hy2⟩ := info_parts infoInt
  have hB0 : Below W.heap.size W (W.alloc (.cells #[v] 24)) := (Below.refl _ W).alloc (Nat.le_refl _) _
  have HC := hide (check_ok _ M v l (hN.keep hB0 hM) (Nat.le_trans hM hB0.size))
  have HN := hide hN
  have hlen := hN.1
  obtain ⟨va, vc, rfl, hvc, hvm⟩ := hN.len
  obtain ⟨cp, hcp⟩ : ∃ cp, chkP l = cp := ⟨_, rfl⟩
  rw [hcp] at HC h
  obtain ⟨p1, p2⟩ := cp
  simp only at h HC
  subst h
  clear hN hcp
  have hX0 : (W.alloc (.cells #[.slice va l.length vc] 24)).heap[W.heap.size]? = some (.cells #[.slice va l.length vc] 24) := World.alloc_heap_new W _
  have HX0 := hide hX0
  clear hX0
  go_enter Tryz.func18, Tryz.ntmps18
  go_wp2_with (first | (go_at_call 17; refine (unhide HC).mono ?_; rintro e w2 ⟨rfl, hB2⟩; have hX2 := (hB2.block W.heap.size (by simp)).trans (unhide HX0); have cX2 : w2.cell? ⟨W.heap.size, 0, none⟩ = some (.slice va l.length vc) := (by rw [Lib.cell_of_heap hX2]; rfl); have hs2 : W.heap.size < w2.heap.size := (by have := hB2.size; simp at this; omega); have HX2 := hide hX2; clear hX2) | (at_make; refine wpList_make_full _ rfl _ _ 39 rfl W.heap.size 3 j0 (.int .i64 0) 1 Tryz.underlying39 hj hy0 hy1 .i64 .i64 (l.length : Int) (l.length : Int) l.length rfl rfl rfl rfl ?m1 ?m2 ?m3 ?_))
  case m1 => rw [hy2]; omega
  case m2 => unfold maxLen; omega
  case m3 => omega
  intro w3 hown3 hg3
  have hz3 : w2.heap.size < w3.heap.size := (hown3.lt w2.heap.size (by simp [Value.ownBlock])).2
  have e0 : (madeCells #[Value.int .i64 0] l.length).toList = mixF (cntV l) l.length 0 := by rw [mixF_zero]; exact toList_madeCells_one _ _
  have hown3' : w3.ownsRow W.heap.size 3 1 (.slice (some ⟨w2.heap.size, 0, none⟩) l.length l.length) l.length (mixF (cntV l) l.length 0) := by rw [← e0]; simpa using hown3
  have hB3 : Below W.heap.size W w3 := (hB0.trans (hB2.mono hB0.size)).grown hg3 (by omega) (fun k hk => by cases hk)
  have hX3 : w3.heap[W.heap.size]? = some (.cells #[.slice va l.length vc] 24) := (hg3.block _ hs2 (by simp)).trans (unhide HX2)
  have cX3 : ∀ o, (w3.alloc o).cell? ⟨W.heap.size, 0, none⟩ = some (.slice va l.length vc) := fun o => by
    rw [Lib.cell_of_heap ((Below.heap_alloc w3 o _ (by omega)).trans hX3)]; rfl
  have HO3 := hide (hown3'.alloc (.cells #[.slice (some ⟨w2.heap.size, 0, none⟩) l.length l.length] 39))
  have HBX := hide (Boxed.new w3 39 (.slice (some ⟨w2.heap.size, 0, none⟩) l.length l.length))
  have HB4 := hide (hB3.alloc (by omega) (.cells #[.slice (some ⟨w2.heap.size, 0, none⟩) l.length l.length] 39))
  clear hown3 hown3' e0 hX3 hg3
  go_wp2
  clear cX3
  go_loopw [22] (fun t22 wr => ∃ i : Nat, i ≤ l.length ∧ t22 = .int .i64 (i : Int) ∧ wr.ownsRow W.heap.size 3 1 (.slice (some ⟨w2.heap.size, 0, none⟩) l.length l.length) l.length (mixF (cntV l) l.length i) ∧ Boxed wr w3.heap.size 39 (.slice (some ⟨w2.heap.size, 0, none⟩) l.length l.length) ∧ Below W.heap.size W wr) (fun t22 _ => l.length - (intOf t22).toNat)
  case atStart => exact ⟨0, Nat.zero_le _, rfl, unhide HO3, unhide HBX, unhide HB4⟩
  case round =>
    obtain ⟨i, hil, rfl, hown, hbx, hB⟩ := hrel
    have HO := hide hown
    have HBX' := hide hbx
    have cb := hbx.cell
    have hbl := hbx.lt
    clear hown hbx
    by_cases hlt : i < l.length
    · have hlt' : (i : Int) < l.length := by omega
      obtain ⟨b, o, cap', ka, kc, hv, _, _, hb, d0, d1, d2, d3, d4, _, _, _⟩ := ((unhide HN).keep hB hM).at hlt
      obtain ⟨rfl, rfl⟩ : va = some ⟨b, o, none⟩ ∧ cap' = vc := by injection hv with h1 _ h3; exact ⟨h1, h3.symm⟩
      have hbw : b < wr.heap.size := by have := hB.size; omega
      have hkl := ((unhide HN).2.1 i hlt).2
      clear hv
      obtain ⟨x, hnd⟩ : ∃ x, nd l i = x := ⟨_, rfl⟩
      rw [hnd] at d0 d1 d2 d3 d4 hkl
      have HND := hide hnd
      obtain ⟨kd, tx, nm, ks, at'⟩ := x
      simp only at d0 d1 d2 d3 d4 hkl
      clear hnd
      obtain ⟨w1, hw1⟩ : ∃ w1, wr.alloc (.cells #[.int .i64 kd, .string tx, .int .i64 nm, .slice ka ks.length kc, .int .i64 at'] 41) = w1 := ⟨_, rfl⟩
      have ho1 := (unhide HO).alloc (.cells #[.int .i64 kd, .string tx, .int .i64 nm, .slice ka ks.length kc, .int .i64 at'] 41)
      have hb1 := (unhide HBX').alloc (.cells #[.int .i64 kd, .string tx, .int .i64 nm, .slice ka ks.length kc, .int .i64 at'] 41)
      have hB1 := hB.alloc hB.size (.cells #[.int .i64 kd, .string tx, .int .i64 nm, .slice ka ks.length kc, .int .i64 at'] 41)
      have h29 := World.alloc_heap_new wr (.cells #[.int .i64 kd, .string tx, .int .i64 nm, .slice ka ks.length kc, .int .i64 at'] 41)
      have hsz1 : w1.heap.size = wr.heap.size + 1 := by rw [← hw1]; simp
      rw [hw1] at ho1 hb1 hB1 h29
      have cb1 := hb1.cell
      have k29 := (cells5 h29).2.2.2.1
      have ci : ∃ x, w1.cell? ⟨w2.heap.size, i, none⟩ = some x := by
        rw [ho1.cellAt i (by omega)]
        exact ⟨_, List.getElem?_eq_getElem (by rw [mixF_len]; exact hlt)⟩
      obtain ⟨xi, ci⟩ := ci
      have fi := ho1.frozenAt i
      obtain ⟨hst, hgr⟩ := ho1.stored i (.int .i64 (ks.length : Int))
      have e2 : Value.int .i64 (ks.length : Int) = cntV l i := by rw [cntV, unhide HND]
      rw [e2, mixF_set _ _ _ hlt, ← e2] at hst
      have hb1' : Boxed (w1.setCell ⟨w2.heap.size, i, none⟩ (.int .i64 (ks.length : Int))) w3.heap.size 39 (.slice (some ⟨w2.heap.size, 0, none⟩) l.length l.length) := (Below.heap_setCell _ _ _ _ (by simp; omega)).trans hb1
      have hB1' := hB1.setCell (p := ⟨w2.heap.size, i, none⟩) (by simp; omega) (.int .i64 (ks.length : Int))
      have HST := hide hst
      have HB1 := hide hb1'
      have HBB := hide hB1'
      have hlw : w2.heap.size < w1.heap.size := (ho1.lt _ rfl).2
      clear hst hgr hb1' hB1' ho1 hb1 h29 hB1 e2
      go_wp2
      exact ⟨⟨i + 1, by omega, by go_num, unhide HST, unhide HB1, unhide HBB⟩, by simp [intOf]; omega⟩
    · have hlt' : ¬ (i : Int) < l.length := by omega
      obtain rfl : i = l.length := by omega
      go_wp2
      go_ret
      exact ⟨w3.heap.size, w2.heap.size, rfl, unhide HBX', unhide HO, by omega, hB⟩
end Go.Proofs.YtnnpkomedpjlcaaGreatDoor

/- tree.Walk's function value, for whatever loop it serves. -/
namespace Go.Proofs.YtnnpkomedpjlcaaGreatDoor
set_option linter.unusedSimpArgs false
set_option linter.unusedVariables false
open Go.RowKit Go.Shelf

def popZ : List Int → List Int
  | [] => []
  | c :: st => if c = 0 then popZ st else c :: st
def decT : List Int → List Int
  | [] => []
  | c :: st => (c - 1) :: st
/-- The stack ahead of a node, its top first: how many kids are still to come. -/
def stAt (l : List Nd) : Nat → List Int
  | 0 => []
  | i + 1 => ((nd l i).kids.length : Int) :: decT (popZ (stAt l i))
def depAt (l : List Nd) (i : Nat) : Nat := (popZ (stAt l i)).length
theorem popZ_len : ∀ st : List Int, (popZ st).length ≤ st.length
  | [] => Nat.le_refl _
  | c :: st => by
    simp only [popZ]
    split
    · have := popZ_len st; simp; omega
    · simp
theorem decT_len (st : List Int) : (decT st).length = st.length := by cases st <;> simp [decT]
theorem stAt_len (l : List Nd) : ∀ i, (stAt l i).length ≤ i
  | 0 => Nat.le_refl _
  | i + 1 => by
    simp only [stAt, List.length_cons, decT_len]
    have := popZ_len (stAt l i)
    have := stAt_len l i
    omega
def Fin' (st : List Int) : Prop := ∀ c ∈ st, 0 ≤ c ∧ c ≤ 17592186044416
theorem popZ_fin : ∀ {st : List Int}, Fin' st → Fin' (popZ st)
  | [], h => h
  | c :: st, h => by
    simp only [popZ]
    split
    · exact popZ_fin fun x hx => h x (by simp [hx])
    · exact h
theorem popZ_top : ∀ {st : List Int} {c : Int} {s : List Int}, popZ st = c :: s → c ≠ 0
  | [], c, s, h => by cases h
  | d :: st, c, s, h => by
    simp only [popZ] at h
    split at h
    · exact popZ_top h
    · rename_i hd; cases h; exact hd
theorem stAt_fin {l : List Nd} (hl : ∀ j, j < l.length → (nd l j).kids.length ≤ 17592186044416) : ∀ {i}, i ≤ l.length → Fin' (stAt l i)
  | 0, _ => fun c hc => by cases hc
  | i + 1, hi => by
    have h1 := popZ_fin (stAt_fin hl (i := i) (by omega))
    intro c hc
    simp only [stAt] at hc
    rcases List.mem_cons.1 hc with rfl | hc
    · have := hl i (by omega); omega
    · cases hp : popZ (stAt l i) with
      | nil => rw [hp] at hc; cases hc
      | cons d s =>
        rw [hp] at hc h1
        rcases List.mem_cons.1 hc with rfl | hc
        · have := h1 d (by simp); have := popZ_top hp; omega
        · exact h1 c (by simp [hc])
/-- The stack's cells. -/
def stC (st : List Int) : List Value := (st.reverse).map (Value.int .i64)
theorem stC_cons (c : Int) (st : List Int) : stC (c :: st) = stC st ++ [.int .i64 c] := by simp [stC]
theorem stC_len (st : List Int) : (stC st).length = st.length := by simp [stC]
theorem ownsRow_heap {w w' : World} {base : Nat} {e : TypeId} {size : Nat} {v : Value} {n : Nat} {xs : List Value} (h : w.ownsRow base e size v n xs) (hk : ∀ g, v.ownBlock = some g → w'.heap[g]? = w.heap[g]?) : w'.ownsRow base e size v n xs := by
  obtain ⟨h1, h2⟩ := h
  refine ⟨h1, ?_⟩
  rcases h2 with h2 | ⟨g, cap, cur, hv, hb, hh, r⟩
  · exact .inl h2
  · exact .inr ⟨g, cap, cur, hv, hb, (hk g (by rw [hv]; rfl)).trans hh, r⟩

theorem stack27_pop (g n cap h : Nat) (hh : h ≤ n) (hc : n ≤ cap) (W' : World) : (Instr.slice 39 (.slice (some ⟨g, 0, none⟩) n cap) none (some (.int .i64 (h : Int))) none).run Tryz.prog W' = .ok (.slice (some ⟨g, 0, none⟩) h cap) W' := by
  rw [run_slice_h W' 39 (some ⟨g, 0, none⟩) n cap under27 .i64 h (by omega) (by omega), elem27, size3]
  simp [sliced, Result.andThen]
  intro _; rfl

set_option maxRecDepth 100000 in
set_option maxHeartbeats 4000000 in
theorem walk2_in (n : Nat) (hn : 1 ≤ n) (lp Bx c : Nat) (l : List Nd) (hl : ∀ j, j < l.length → (nd l j).kids.length ≤ 17592186044416) (hlen : l.length ≤ 2199023255552) (W : World) (J Jx : Nat → World → Prop)
    (hbx : Boxed W Bx 39 (.slice (some ⟨c, 0, none⟩) l.length l.length)) (hrow : W.ownsRow 0 3 1 (.slice (some ⟨c, 0, none⟩) l.length l.length) l.length (mixF (cntV l) l.length l.length))
    (hJ : ∀ i A B, J i A → Below W.heap.size A B → J i B)
    (hY : ∀ i A, J i A → i < l.length → W.heap.size ≤ A.heap.size → YieldAt Fence.wide (n - 1) Tryz.prog lp #[.int .i64 (i : Int), .int .i64 (depAt l i : Int)] A fun e A' =>
      (∀ k, (W.heap.size ≤ k ∧ k < A.heap.size) ∨ k = Bx ∨ k = c → A'.heap[k]? = A.heap[k]?) ∧ A.heap.size ≤ A'.heap.size ∧ ((e = .returned (.bool true) ∧ J (i + 1) A') ∨ (e = .returned (.bool false) ∧ Jx (i + 1) A')))
    (h0 : J 0 W) :
    CallsIn Fence.wide n Tryz.prog 34 #[.func (.yield lp) #[] #[], .pointer (some ⟨Bx, 0, none⟩)] W fun e W' => (∃ v, e = .returned v) ∧ (J l.length W' ∨ ∃ i, i ≤ l.length ∧ Jx i W') := by
  obtain ⟨j0, hj, hy0, hy1, hy2⟩ := info_parts infoInt
  have HJ := hide hJ
  have HY := hide hY
  have H0 := hide h0
  have HL := hide hl
  have HROW := hide hrow
  have HBX := hide hbx
  have cb := hbx.cell
  have hbl := hbx.lt
  clear hJ hY h0 hl hrow hbx
  refine callsIn_of_wp Tryz.func34 rfl trivial ?_ rfl
  simp only [Tryz.ntmps34, List.size_toArray, List.length_cons, List.length_nil, Nat.reduceAdd, Nat.reduceSub, Array.replicate_succ, Array.replicate_zero, List.push_toArray, List.append_toArray, List.nil_append, List.cons_append]
  gi_wp2
  gi_loopw [3, 8] (fun t3 t8 wr => ∃ i : Nat, i ≤ l.length ∧ t8 = .int .i64 (i : Int) ∧ wr.ownsRow W.heap.size 3 1 t3 (stAt l i).length (stC (stAt l i)) ∧ J i wr ∧ wr.heap[Bx]? = W.heap[Bx]? ∧ wr.heap[c]? = W.heap[c]? ∧ W.heap.size ≤ wr.heap.size) (fun _ t8 _ => l.length - (intOf t8).toNat)
  case atStart => exact ⟨0, Nat.zero_le _, rfl, World.ownsRow_nil _ _ _ _, unhide H0, rfl, rfl, Nat.le_refl _⟩
  case round =>
    obtain ⟨i, hil, rfl, hown, hj1, hbb, hcc, hsz⟩ := hrel
    have hcl : c < W.heap.size := ((unhide HROW).lt c rfl).2
    have hcr : wr.cell? ⟨c, i, none⟩ = W.cell? ⟨c, i, none⟩ := World.cell?_of_block (w := W) hcc
    have HOWN := hide hown
    have HJ1 := hide hj1
    have HBB := hide hbb
    have HCC := hide hcc
    clear hown hj1 hbb hcc
    obtain ⟨w0, hw0⟩ : ∃ w0, w0 = wr := ⟨_, rfl⟩
    subst hw0
    by_cases hlt : i < l.length
    · have hlt' : (i : Int) < l.length := by omega
      have dci : w0.cell? ⟨c, i, none⟩ = some (.int .i64 ((nd l i).kids.length : Int)) := by rw [hcr, (unhide HROW).cellAt i (by omega), mixF_get _ _ _ _ hlt (Nat.le_refl _)]; rfl
      have hcw : c < w0.heap.size := by omega
      have hki := unhide HL i hlt
      clear hcr
      gi_wp2
      gi_loopw [3] (fun t3 wq => ∃ st : List Int, popZ st = popZ (stAt l i) ∧ st.length ≤ i ∧ Fin' st ∧ wq.ownsRow W.heap.size 3 1 t3 st.length (stC st) ∧ wq = w0) (fun t3 _ => match t3 with | .slice _ n _ => n | _ => 0)
      case atStart => exact ⟨stAt l i, rfl, stAt_len l i, stAt_fin (unhide HL) hil, unhide HOWN, rfl⟩
      case round =>
        obtain ⟨st, hpop, hsl, hfin, hown, hw⟩ := hrel
        subst hw
        cases st with
        | nil =>
          obtain ⟨ao, cp, hu3⟩ : ∃ ao cp, u3 = .slice ao 0 cp := by
            rcases hown.2 with ⟨h, _⟩ | ⟨gw, cap, cur, h, _⟩
            · exact ⟨none, 0, h⟩
            · exact ⟨_, cap, h⟩
          subst hu3
          have hp0 : popZ (stAt l i) = [] := hpop.symm
          have hd0 : depAt l i = 0 := by simp [depAt, hp0]
          have HDEP : Hid (((depAt l i : Nat) : Int) = 0) := by show ((depAt l i : Nat) : Int) = 0; rw [hd0]; rfl
          have hdl : depAt l i ≤ i := by omega
          have HOZ : Hid (wr.ownsRow W.heap.size 3 1 (.slice ao 0 cp) (depAt l i) (stC (decT (popZ (stAt l i))))) := by rw [hd0, hp0]; exact hown
          have HBZ := HBB
          have HCZ := HCC
          clear hown hpop hp0 hd0
          obtain ⟨fn, tm, asg, bd, hy5, hRd⟩ := unhide HY i wr (unhide HJ1) hlt (by omega)
          have hy : (Instr.yield lp #[.int .i64 (i : Int), .int .i64 0]).run Tryz.prog wr = .ok (.round lp fn tm asg bd) wr := by have := hy5; rw [unhide HDEP] at this; exact this
          clear hy5
          gi_wp2
          refine hRd.mono ?_
          rintro x W6 ⟨hk6, hz6, (⟨rfl, hJ6⟩ | ⟨rfl, hJx6⟩)⟩
          · have ho6 : W6.ownsRow W.heap.size 3 1 (.slice ao 0 cp) (depAt l i) (stC (decT (popZ (stAt l i)))) := ownsRow_heap (unhide HOZ) (fun g hg => hk6 g (.inl ((unhide HOZ).lt g hg)))
            have hb6 : W6.heap[Bx]? = W.heap[Bx]? := (hk6 Bx (.inr (.inl rfl))).trans (unhide HBZ)
            have hc6 : W6.heap[c]? = W.heap[c]? := (hk6 c (.inr (.inr rfl))).trans (unhide HCZ)
            have HO6 := hide ho6
            have HJ6 := hide hJ6
            have HB6 := hide hb6
            have HC6 := hide hc6
            clear ho6 hJ6 hb6 hc6 hk6 hy hRd HDEP HOZ
            gi_wp2_with (gi_at_builtin; refine wpListIn_append_own _ rfl _ _ 39 rfl W.heap.size 3 j0 (.int .i64 0) 1 8 Tryz.underlying39 hj hy0 hy1 hy2 rfl (by decide) _ _ _ rfl ((unhide HO6).alloc _) ⟨W6.heap.size, 0, none⟩ 1 1 [.int .i64 ((nd l i).kids.length : Int)] rfl rfl ?c1 ?c2 ?c3 ?c4 ?c5 ?_)
            case c1 =>
              intro j u hj
              rw [Addr.add_lit, Nat.zero_add, World.cell?_alloc_mark]
              rw [← hj]; simp
            case c2 => intro u hu; simp at hu; rcases hu with rfl; rfl
            case c3 => unfold maxLen; have := hdl; omega
            case c4 => have := hdl; omega
            case c5 => simp; omega
            intro v' w8 hown8 hg8 _
            have hs8 := hg8.size
            simp at hs8
            have hB8 : Below W.heap.size W6 w8 := ⟨hg8.os, hg8.tape, hg8.output, by omega, fun k hk => (hg8.block k (by simp; omega) (fun e => by have := ((unhide HO6).lt k e.symm).1; omega)).trans (Below.heap_alloc _ _ _ (by omega))⟩
            have hlS : (stAt l (i + 1)).length = depAt l i + 1 := by simp [stAt, depAt, decT_len]
            have hcS : stC (stAt l (i + 1)) = stC (decT (popZ (stAt l i))) ++ [.int .i64 ((nd l i).kids.length : Int)] := by simp only [stAt, stC_cons]
            have HI8 : Hid (w8.ownsRow W.heap.size 3 1 v' (stAt l (i + 1)).length (stC (stAt l (i + 1))) ∧ J (i + 1) w8 ∧ w8.heap[Bx]? = W.heap[Bx]? ∧ w8.heap[c]? = W.heap[c]? ∧ W.heap.size ≤ w8.heap.size) := ⟨by rw [hlS, hcS]; exact hown8, unhide HJ _ _ _ (unhide HJ6) hB8, (hB8.block Bx hbl).trans (unhide HB6), (hB8.block c hcl).trans (unhide HC6), by omega⟩
            clear hown8 hg8 hB8 hlS hcS
            gi_wp2
            obtain ⟨z1, z2, z3, z4, z5⟩ := unhide HI8
            exact ⟨⟨i + 1, by omega, by go_num, z1, z2, z3, z4, z5⟩, by simp [intOf]; omega⟩
          · have HJ6 := hide hJx6
            clear hJx6 hk6 hy hRd
            gi_wp2
            refine bodyPost_ret (results_none rfl _ _ _) rfl ?_
            exact ⟨⟨_, rfl⟩, .inr ⟨i + 1, by omega, unhide HJ6⟩⟩
        | cons d s =>
          have hsl' : s.length + 1 ≤ i := by simpa using hsl
          obtain ⟨g, cp, hu3, hgl, hcp⟩ : ∃ g cp, u3 = .slice (some ⟨g, 0, none⟩) (s.length + 1) cp ∧ g < wr.heap.size ∧ s.length + 1 ≤ cp := by
            rcases hown.2 with ⟨_, h⟩ | ⟨gw, cap, cur, h, _, hh, h1, _⟩
            · simp at h
            · exact ⟨gw, cap, h, (Array.getElem?_eq_some_iff.1 hh).1, h1⟩
          subst hu3
          rw [stC_cons, List.length_cons] at hown
          have hgb : W.heap.size ≤ g := (hown.lt g rfl).1
          have ct : wr.cell? ⟨g, s.length, none⟩ = some (.int .i64 d) := by
            rw [hown.cellAt s.length (by omega), List.getElem?_append_right (by rw [stC_len]; omega), stC_len, Nat.sub_self]; rfl
          have ft : wr.frozen? ⟨g, s.length, none⟩ = false := hown.frozenAt _
          have hd := hfin d (by simp)
          by_cases hd0 : d = 0
          · subst hd0
            have hpop27 := stack27_pop g (s.length + 1) cp s.length (by omega) hcp
            have HO2 := hide (ownsRow_pop (by rw [stC_len]; omega) hown)
            have HP := hide hpop
            clear hown hpop
            gi_wp2
            refine ⟨⟨s, ?_, by omega, fun x hx => hfin x (by simp [hx]), unhide HO2, trivial⟩, by simp⟩
            have := unhide HP
            simpa [popZ] using this
          · have hd0' : (d == 0) = false := by simpa using hd0
            have hp0 : popZ (stAt l i) = d :: s := by rw [← hpop]; simp [popZ, hd0]
            have hdd : depAt l i = s.length + 1 := by simp [depAt, hp0]
            have HDEP : Hid (((depAt l i : Nat) : Int) = (s.length : Int) + 1) := by show ((depAt l i : Nat) : Int) = _; rw [hdd]; simp
            have hdl : depAt l i ≤ i := by omega
            obtain ⟨hst, hgr⟩ := hown.stored s.length (.int .i64 (d - 1))
            have hset : (stC s ++ [Value.int .i64 d]).set s.length (.int .i64 (d - 1)) = stC (decT (popZ (stAt l i))) := by
              rw [hp0, decT, stC_cons, List.set_append_right _ _ (by rw [stC_len]; omega), stC_len, Nat.sub_self]; rfl
            rw [hset, ← hdd] at hst
            obtain ⟨wz, hwz⟩ : ∃ wz, wr.setCell ⟨g, s.length, none⟩ (.int .i64 (d - 1)) = wz := ⟨_, rfl⟩
            rw [hwz] at hst hgr
            have hBz : Below W.heap.size wr wz := by rw [← hwz]; exact (Below.refl _ _).setCell (p := ⟨g, s.length, none⟩) hgb _
            have HOZ : Hid (wz.ownsRow W.heap.size 3 1 (.slice (some ⟨g, 0, none⟩) (s.length + 1) cp) (depAt l i) (stC (decT (popZ (stAt l i))))) := by rw [hdd] at hst ⊢; exact hst
            have HBZ : Hid (wz.heap[Bx]? = W.heap[Bx]?) := (hBz.block Bx hbl).trans (unhide HBB)
            have HCZ : Hid (wz.heap[c]? = W.heap[c]?) := (hBz.block c hcl).trans (unhide HCC)
            have HJZ := hide (unhide HJ _ _ _ (unhide HJ1) hBz)
            have hzz := hBz.size
            clear hown hst hgr hset hp0 hdd hpop hd0 hBz
            obtain ⟨fn, tm, asg, bd, hy5, hRd⟩ := unhide HY i wz (unhide HJZ) hlt (by omega)
            have hy : (Instr.yield lp #[.int .i64 (i : Int), .int .i64 ((s.length : Int) + 1)]).run Tryz.prog wz = .ok (.round lp fn tm asg bd) wz := by have := hy5; rw [unhide HDEP] at this; exact this
            clear hy5
            gi_wp2
            refine hRd.mono ?_
            rintro x W6 ⟨hk6, hz6, (⟨rfl, hJ6⟩ | ⟨rfl, hJx6⟩)⟩
            · have ho6 : W6.ownsRow W.heap.size 3 1 (.slice (some ⟨g, 0, none⟩) (s.length + 1) cp) (depAt l i) (stC (decT (popZ (stAt l i)))) := ownsRow_heap (unhide HOZ) (fun g hg => hk6 g (.inl ((unhide HOZ).lt g hg)))
              have hb6 : W6.heap[Bx]? = W.heap[Bx]? := (hk6 Bx (.inr (.inl rfl))).trans (unhide HBZ)
              have hc6 : W6.heap[c]? = W.heap[c]? := (hk6 c (.inr (.inr rfl))).trans (unhide HCZ)
              have HO6 := hide ho6
              have HJ6 := hide hJ6
              have HB6 := hide hb6
              have HC6 := hide hc6
              clear ho6 hJ6 hb6 hc6 hk6 hy hRd HDEP HOZ
              gi_wp2_with (gi_at_builtin; refine wpListIn_append_own _ rfl _ _ 39 rfl W.heap.size 3 j0 (.int .i64 0) 1 8 Tryz.underlying39 hj hy0 hy1 hy2 rfl (by decide) _ _ _ rfl ((unhide HO6).alloc _) ⟨W6.heap.size, 0, none⟩ 1 1 [.int .i64 ((nd l i).kids.length : Int)] rfl rfl ?c1 ?c2 ?c3 ?c4 ?c5 ?_)
              case c1 =>
                intro j u hj
                rw [Addr.add_lit, Nat.zero_add, World.cell?_alloc_mark]
                rw [← hj]; simp
              case c2 => intro u hu; simp at hu; rcases hu with rfl; rfl
              case c3 => unfold maxLen; have := hdl; omega
              case c4 => have := hdl; omega
              case c5 => simp; omega
              intro v' w8 hown8 hg8 _
              have hs8 := hg8.size
              simp at hs8
              have hB8 : Below W.heap.size W6 w8 := ⟨hg8.os, hg8.tape, hg8.output, by omega, fun k hk => (hg8.block k (by simp; omega) (fun e => by have := ((unhide HO6).lt k e.symm).1; omega)).trans (Below.heap_alloc _ _ _ (by omega))⟩
              have hlS : (stAt l (i + 1)).length = depAt l i + 1 := by simp [stAt, depAt, decT_len]
              have hcS : stC (stAt l (i + 1)) = stC (decT (popZ (stAt l i))) ++ [.int .i64 ((nd l i).kids.length : Int)] := by simp only [stAt, stC_cons]
              have HI8 : Hid (w8.ownsRow W.heap.size 3 1 v' (stAt l (i + 1)).length (stC (stAt l (i + 1))) ∧ J (i + 1) w8 ∧ w8.heap[Bx]? = W.heap[Bx]? ∧ w8.heap[c]? = W.heap[c]? ∧ W.heap.size ≤ w8.heap.size) := ⟨by rw [hlS, hcS]; exact hown8, unhide HJ _ _ _ (unhide HJ6) hB8, (hB8.block Bx hbl).trans (unhide HB6), (hB8.block c hcl).trans (unhide HC6), by omega⟩
              clear hown8 hg8 hB8 hlS hcS
              gi_wp2
              obtain ⟨z1, z2, z3, z4, z5⟩ := unhide HI8
              exact ⟨⟨i + 1, by omega, by go_num, z1, z2, z3, z4, z5⟩, by simp [intOf]; omega⟩
            · have HJ6 := hide hJx6
              clear hJx6 hk6 hy hRd
              gi_wp2
              refine bodyPost_ret (results_none rfl _ _ _) rfl ?_
              exact ⟨⟨_, rfl⟩, .inr ⟨i + 1, by omega, unhide HJ6⟩⟩
    · have hlt' : ¬ (i : Int) < l.length := by omega
      obtain rfl : i = l.length := by omega
      gi_wp2
      go_end0
      exact ⟨⟨_, rfl⟩, .inl (unhide HJ1)⟩
end Go.Proofs.YtnnpkomedpjlcaaGreatDoor

/- tree.Depth in general. -/
namespace Go.Proofs.YtnnpkomedpjlcaaGreatDoor
set_option linter.unusedSimpArgs false
set_option linter.unusedVariables false
open Go.RowKit Go.Shelf
attribute [local go_sem] Oper.semAt_some

/-- The greatest of the first depths. -/
def mdp (l : List Nd) : Nat → Int
  | 0 => 0
  | i + 1 => max (mdp l i) (depAt l i : Int)
theorem ranged_l (w : World) (r : Loop) : (ranged w r).heap[w.heap.size + 1]? = some (.loop r) := by
  have := World.alloc_heap_new (w.alloc (.deferred (some []))) (.loop r)
  rw [World.size_alloc] at this
  exact this
theorem ranged_d (w : World) (r : Loop) : (ranged w r).heap[w.heap.size]? = some (.deferred (some [])) := (Below.heap_alloc _ _ _ (by simp)).trans (World.alloc_heap_new w _)
theorem ranged_size (w : World) (r : Loop) : (ranged w r).heap.size = w.heap.size + 1 + 1 := by simp [ranged]
theorem ranged_below (w : World) (r : Loop) : Below w.heap.size w (ranged w r) := ((Below.refl _ w).alloc (Nat.le_refl _) _).alloc (by simp) _
theorem enter35 : ∀ args w, (callFunc 34 args).run Tryz.prog w = .ok (.enter 34 args) w := enters_of Tryz.func34 (by kernel_rfl) rfl
theorem grownBy_putObj' (w : World) (k : Nat) (o : Obj) : w.grownBy (w.putObj k o) (some k) := ⟨rfl, rfl, rfl, by simp, fun i _ hne => World.putObj_heap_other (fun e => hne (by rw [e]))⟩

end Go.Proofs.YtnnpkomedpjlcaaGreatDoor
