/- Depth of what is no tree; the law's two function values under Walk. -/
import Derived.RangeFuncNested
import Derived.RangeFuncBound
import Derived.RangeFuncCalls
import Derived.RangeFuncLeaves
import Derived.Shelf.RegionOpen
import Derived.OwnWalkIn
import Derived.TacticsInMore
import Derived.LoopNIn
import Derived.LoopIn
import Derived.Test.YtoffpbaddehncaaGreatDoorTQ
import Derived.Test.YtoffpbaddehncaaGreatDoorSC
namespace Go.Proofs.YtoffpbaddehncaaGreatDoor
set_option linter.unusedSimpArgs false
set_option linter.unusedVariables false
open Go.RowKit Go.Shelf

theorem enter34 : ∀ args w, (callFunc 34 args).run Tryz.prog w = .ok (.enter 34 args) w := enters_of Tryz.func34 (by kernel_rfl) rfl
theorem enter17 : ∀ args w, (callFunc 17 args).run Tryz.prog w = .ok (.enter 17 args) w := enters_of Tryz.func17 (by kernel_rfl) rfl
theorem enter18 : ∀ args w, (callFunc 18 args).run Tryz.prog w = .ok (.enter 18 args) w := enters_of Tryz.func18 (by kernel_rfl) rfl
set_option maxRecDepth 100000 in
theorem walk1_in (n : Nat) (y : Value) (W : World) : CallsIn Fence.wide n Tryz.prog 34 #[y] W fun e W' => (∃ v, e = .returned v) ∧ W' = W := by
  refine callsIn_of_wp Tryz.func34 rfl trivial ?_ rfl
  simp only [Tryz.ntmps34, List.size_toArray, List.length_cons, List.length_nil, Nat.reduceAdd, Nat.reduceSub, Array.replicate_succ, Array.replicate_zero, List.push_toArray, List.append_toArray, List.nil_append, List.cons_append]
  gi_wp2
  simp only [bodyPost]
  exact ⟨trivial, _, results_none rfl _ _ _, ⟨_, rfl⟩, trivial⟩
theorem walk1_any (y : Value) (W : World) : Calls Tryz.prog 34 #[y] W fun e W' => (∃ v, e = .returned v) ∧ W' = W := callsIn_wide.1 (walk1_in 1 y W)

set_option maxRecDepth 100000 in
set_option maxHeartbeats 4000000 in
theorem depth_bad (w : World) (M : Nat) (v : Value) (l : List Nd) (hN : Nodes w M v l) (hM : M ≤ w.heap.size) (h : ¬ (chkP l).2 = 0) :
    CallsIn Fence.wide 8 Tryz.prog 19 #[.agg #[v]] w fun e w' => e = .returned (.int .i64 0) ∧ Below w.heap.size w w' := by
  obtain ⟨W1, hW1⟩ : ∃ W1, (w.alloc (.cells #[v] 24)).alloc (.cells #[.int .i64 0] 3) = W1 := ⟨_, rfl⟩
  have hB1 : Below w.heap.size w W1 := by rw [← hW1]; exact ((Below.refl _ w).alloc (Nat.le_refl _) _).alloc (by simp) _
  have hz1 : W1.heap.size = w.heap.size + 1 + 1 := by rw [← hW1]; simp
  have b1 : Boxed W1 (w.heap.size + 1) 3 (.int .i64 0) := by
    have := Boxed.new (w.alloc (.cells #[v] 24)) 3 (.int .i64 0)
    rw [World.size_alloc] at this
    rw [← hW1]; exact this
  have HW : Hid (Calls Tryz.prog 16 #[.agg #[v]] ((w.alloc (.cells #[v] 24)).alloc (.cells #[.int .i64 0] 3)) fun e w' => e = .returned (.func (.func 34) #[] #[]) ∧ Below W1.heap.size W1 w') := by rw [hW1]; exact walk_bad W1 M v l (hN.keep hB1 hM) (Nat.le_trans hM hB1.size) h
  obtain ⟨va, vc, rfl, _, _⟩ := hN.len
  have HB1 := hide b1
  clear hN b1 hW1
  refine callsIn_of_wp_marks Tryz.func19 rfl trivial ?_ rfl
  simp only [Tryz.ntmps19, List.size_toArray, List.length_cons, List.length_nil, Nat.reduceAdd, Nat.reduceSub, Array.replicate_succ, Array.replicate_zero, List.push_toArray, List.append_toArray, List.nil_append, List.cons_append]
  gi_wp2_with (refine ⟨trivial, ?_⟩; gi_at_call 16; refine (callsIn_wide.2 (unhide HW)).mono ?_; rintro e W2 ⟨rfl, hB2⟩)
  have hz2 := hB2.size
  refine range_enter rfl (by omega) (gf := 34) (lb := #[]) rfl trivial enter34 ?_
  intro fn hfn
  generalize hrc : recOf fn _ _ _ _ _ _ _ = rc
  obtain ⟨W3, hW3⟩ : ∃ W3, ranged W2 rc = W3 := ⟨_, rfl⟩
  have hz3 : W3.heap.size = W2.heap.size + 1 + 1 := by rw [← hW3]; exact ranged_size W2 rc
  have hB3 : Below W2.heap.size W2 W3 := by rw [← hW3]; exact ranged_below W2 rc
  have hl3 : W3.heap[W2.heap.size + 1]? = some (.loop rc) := by rw [← hW3]; exact ranged_l W2 rc
  have hd3 : W3.heap[W2.heap.size]? = some (.deferred (some [])) := by rw [← hW3]; exact ranged_d W2 rc
  rw [hW3]
  clear hW3
  have hB13 : Below W1.heap.size W1 W3 := hB2.trans (hB3.mono hz2)
  refine (walk1_in 7 _ W3).mono ?post
  case post =>
    rintro e W' ⟨⟨u, rfl⟩, rfl⟩
    have a3 : Boxed W' (w.heap.size + 1) 3 (.int .i64 0) := (hB13.block _ (by omega)).trans (unhide HB1)
    have a4 : Below w.heap.size w W' := hB1.trans (hB13.mono hB1.size)
    have hpe : rc.pending = none := by rw [← hrc]; rfl
    have hne : rc.state ≠ .busy := by rw [← hrc]; simp [recOf]
    have hend := run_endLoop (P := Tryz.prog) hl3 hne
    rw [hpe] at hend
    refine ⟨none, _, hend, ?_⟩
    obtain ⟨W7, hW7⟩ : ∃ W7, W'.putObj (W2.heap.size + 1) (.loop { rc with state := .exhausted, pending := none }) = W7 := ⟨_, rfl⟩
    have hk7 : ∀ k, k ≠ W2.heap.size + 1 → W7.heap[k]? = W'.heap[k]? := fun k hk => by rw [← hW7]; exact World.putObj_heap_other hk
    have hB7 : Below w.heap.size w W7 := by
      rw [← hW7]
      exact a4.trans ((Below.refl _ W').grown (grownBy_putObj' W' (W2.heap.size + 1) _) a4.size (fun k e => by cases e; omega))
    rw [hW7]
    clear hW7 hend
    dsimp only
    have bL : Boxed W7 (w.heap.size + 1) 3 (.int .i64 0) := (hk7 _ (by omega)).trans a3
    have hd7 : W7.heap[W2.heap.size]? = some (.deferred (some [])) := (hk7 _ (by omega)).trans hd3
    have cL := bL.cell
    gi_wp2
    refine ⟨by simp, .inl ⟨_, _, rfl, run_takeDeferred hd7, ?_⟩⟩
    refine ⟨.int .i64 0, ?_, rfl, ?_⟩
    · simp [results, Tryz.results19, go_sem]
    · exact hB7.trans ((Below.refl _ W7).grown (grownBy_putObj' W7 W2.heap.size _) hB7.size (fun k e => by cases e; omega))

/-- The first function value, where all is as it should be. -/
theorem fn17_any (i L c2 Bo Bn Bw Bb : Nat) (d bst : Int) (hL : L ≤ 2199023255552) (hi : i < L) (A : World) (ho : Boxed A Bo 4 (.bool true)) (hn : Boxed A Bn 3 (.int .i64 (i : Int))) (hw : Boxed A Bw 27 (.slice (some ⟨c2, 0, none⟩) L L)) (hc : A.cell? ⟨c2, i, none⟩ = some (.int .i64 d)) (hb : Boxed A Bb 3 (.int .i64 bst))
    (h1 : Bo ≠ Bn) (h2 : Bo ≠ Bw) (h3 : Bo ≠ Bb) (h4 : Bn ≠ Bw) (h5 : Bn ≠ Bb) (h6 : Bw ≠ Bb) (h7 : Bo ≠ c2) (h8 : Bn ≠ c2) (h9 : Bb ≠ c2) (hd0 : 0 ≤ d) (hd1 : d ≤ 2199023255552) (hb0 : 0 ≤ bst) (hb1 : bst ≤ 2199023255552) :
    Calls Tryz.prog 17 #[.int .i64 (i : Int), .int .i64 d, .pointer (some ⟨Bo, 0, none⟩), .pointer (some ⟨Bn, 0, none⟩), .pointer (some ⟨Bw, 0, none⟩), .pointer (some ⟨Bb, 0, none⟩)] A fun e A' => e = .returned (.bool true) ∧ Boxed A' Bo 4 (.bool true) ∧ Boxed A' Bn 3 (.int .i64 ((i + 1 : Nat) : Int)) ∧ Boxed A' Bb 3 (.int .i64 (max bst d)) ∧ (∀ k, k ≠ Bo → k ≠ Bn → k ≠ Bb → A'.heap[k]? = A.heap[k]?) ∧ A'.heap.size = A.heap.size ∧ (∀ N, N ≤ Bo → N ≤ Bn → N ≤ Bb → Below N A A') := by
  have co := ho.cell
  have cn := hn.cell
  have cw := hw.cell
  have cb := hb.cell
  have fo := ho.frozen
  have fn := hn.frozen
  have fb := hb.frozen
  have lo := ho.lt
  have ln := hn.lt
  have lw := hw.lt
  have lb := hb.lt
  have hi' : (i : Int) < L := by omega
  have hi0 : (0 : Int) ≤ (i : Int) := by omega
  have h1' := h1.symm
  have h3' := h3.symm
  have h5' := h5.symm
  have lc : c2 < A.heap.size := by
    rcases Nat.lt_or_ge c2 A.heap.size with h | h
    · exact h
    · exfalso
      have : A.heap[c2]? = none := Array.getElem?_eq_none h
      simp [World.cell?, this] at hc
  have HO := hide ho
  have HN := hide hn
  have HB := hide hb
  clear ho hn hw hb
  go_enter Tryz.func17, Tryz.ntmps17
  go_wp2
  go_ret
  obtain ⟨A1, hA1⟩ : ∃ A1, A.setCell ⟨Bo, 0, none⟩ (.bool true) = A1 := ⟨_, rfl⟩
  have p1 : ∀ k, k ≠ Bo → A1.heap[k]? = A.heap[k]? := fun k hk => by rw [← hA1]; exact Below.heap_setCell _ _ _ _ hk
  have b1 : Boxed A1 Bo 4 (.bool true) := by rw [← hA1]; exact (unhide HO).set _
  have z1 : A1.heap.size = A.heap.size := setCell_size hA1
  have B1 : ∀ N, N ≤ Bo → Below N A A1 := fun N h => by rw [← hA1]; exact (Below.refl _ _).setCell (p := ⟨Bo, 0, none⟩) h _
  rw [hA1]
  obtain ⟨A2, hA2⟩ : ∃ A2, A1.setCell ⟨Bb, 0, none⟩ (.int .i64 (max bst d)) = A2 := ⟨_, rfl⟩
  have p2 : ∀ k, k ≠ Bb → A2.heap[k]? = A1.heap[k]? := fun k hk => by rw [← hA2]; exact Below.heap_setCell _ _ _ _ hk
  have b2 : Boxed A2 Bb 3 (.int .i64 (max bst d)) := by rw [← hA2]; exact (show Boxed A1 Bb 3 (.int .i64 bst) from (p1 Bb h3.symm).trans (unhide HB)).set _
  have z2 : A2.heap.size = A1.heap.size := setCell_size hA2
  have B2 : ∀ N, N ≤ Bb → Below N A1 A2 := fun N h => by rw [← hA2]; exact (Below.refl _ _).setCell (p := ⟨Bb, 0, none⟩) h _
  rw [hA2]
  obtain ⟨A3, hA3⟩ : ∃ A3, A2.setCell ⟨Bn, 0, none⟩ (.int .i64 ((i : Int) + 1)) = A3 := ⟨_, rfl⟩
  have p3 : ∀ k, k ≠ Bn → A3.heap[k]? = A2.heap[k]? := fun k hk => by rw [← hA3]; exact Below.heap_setCell _ _ _ _ hk
  have b3 : Boxed A3 Bn 3 (.int .i64 ((i : Int) + 1)) := by rw [← hA3]; exact (show Boxed A2 Bn 3 (.int .i64 (i : Int)) from (p2 Bn h5).trans ((p1 Bn h1.symm).trans (unhide HN))).set _
  have z3 : A3.heap.size = A2.heap.size := setCell_size hA3
  have B3 : ∀ N, N ≤ Bn → Below N A2 A3 := fun N h => by rw [← hA3]; exact (Below.refl _ _).setCell (p := ⟨Bn, 0, none⟩) h _
  rw [hA3]
  exact ⟨rfl, (p3 Bo h1).trans ((p2 Bo h3).trans b1), by simpa using b3, (p3 Bb h5.symm).trans b2, fun k k1 k2 k3 => (p3 k k2).trans ((p2 k k3).trans (p1 k k1)), by omega, fun N n1 n2 n3 => (B1 N n1).trans ((B2 N n3).trans (B3 N n2))⟩

/-- The second function value. -/
theorem fn18_any (i Bn Bs : Nat) (k d st : Int) (hi : i ≤ 2199023255552) (A : World) (hn : Boxed A Bn 3 (.int .i64 (i : Int))) (hs : Boxed A Bs 3 (.int .i64 st)) (h1 : Bn ≠ Bs) :
    Calls Tryz.prog 18 #[.int .i64 k, .int .i64 d, .pointer (some ⟨Bn, 0, none⟩), .pointer (some ⟨Bs, 0, none⟩)] A fun e A' => e = .returned (.bool (decide (((i + 1 : Nat) : Int) < st))) ∧ Boxed A' Bn 3 (.int .i64 ((i + 1 : Nat) : Int)) ∧ (∀ k, k ≠ Bn → A'.heap[k]? = A.heap[k]?) ∧ A'.heap.size = A.heap.size ∧ (∀ N, N ≤ Bn → Below N A A') := by
  have cn := hn.cell
  have cs := hs.cell
  have fn := hn.frozen
  have ln := hn.lt
  have ls := hs.lt
  have h1' := h1.symm
  have HN := hide hn
  clear hn hs
  go_enter Tryz.func18, Tryz.ntmps18
  go_wp2
  go_ret
  obtain ⟨A3, hA3⟩ : ∃ A3, A.setCell ⟨Bn, 0, none⟩ (.int .i64 ((i : Int) + 1)) = A3 := ⟨_, rfl⟩
  have p3 : ∀ k, k ≠ Bn → A3.heap[k]? = A.heap[k]? := fun k hk => by rw [← hA3]; exact Below.heap_setCell _ _ _ _ hk
  have b3 : Boxed A3 Bn 3 (.int .i64 ((i : Int) + 1)) := by rw [← hA3]; exact (unhide HN).set _
  have z3 : A3.heap.size = A.heap.size := setCell_size hA3
  have B3 : ∀ N, N ≤ Bn → Below N A A3 := fun N h => by rw [← hA3]; exact (Below.refl _ _).setCell (p := ⟨Bn, 0, none⟩) h _
  rw [hA3]
  exact ⟨by simp, by simpa using b3, p3, z3, B3⟩
end Go.Proofs.YtoffpbaddehncaaGreatDoor
