/- Assigned; Keep's refusals of the statement. -/
import Derived.Test.YticdaphajanbbaaGreatDoorNH
namespace Go.Proofs.YticdaphajanbbaaGreatDoor
set_option linter.unusedSimpArgs false
set_option linter.unusedVariables false
set_option maxRecDepth 100000
set_option maxHeartbeats 4000000
open Go.RowKit Go.Shelf

variable {P : Program} {lo M : Nat} {mo : Option Nat} {dv : Value} {L : List Kt} {W : World}
/-- The boxes that Assigned begins with. -/
structure AB (W : World) (ar : Option Addr) (v : Int) (W1 : World) : Prop where
  b : Below W.heap.size W W1
  a : Bx W1 W.heap.size #[.pointer ar] 28
  v : Bx W1 (W.heap.size + 1) #[.int .i64 v] 3
  r : Bx W1 (W.heap.size + 2) #[.int .i64 0] 3
  e : Bx W1 (W.heap.size + 3) #[.int .i64 0] 24
theorem ab_made (W : World) (ar : Option Addr) (v : Int) (W1 : World) (h : (((W.alloc (.cells #[.pointer ar] 28)).alloc (.cells #[.int .i64 v] 3)).alloc (.cells #[.int .i64 0] 3)).alloc (.cells #[.int .i64 0] 24) = W1) : AB W ar v W1 := by
  obtain ⟨A1, h1⟩ : ∃ A1, W.alloc (.cells #[.pointer ar] 28) = A1 := ⟨_, rfl⟩
  obtain ⟨A2, h2⟩ : ∃ A2, A1.alloc (.cells #[.int .i64 v] 3) = A2 := ⟨_, rfl⟩
  obtain ⟨A3, h3⟩ : ∃ A3, A2.alloc (.cells #[.int .i64 0] 3) = A3 := ⟨_, rfl⟩
  rw [h1, h2, h3] at h
  have z1 : A1.heap.size = W.heap.size + 1 := by rw [← h1]; simp
  have z2 : A2.heap.size = W.heap.size + 2 := by rw [← h2]; simp [z1]
  have z3 : A3.heap.size = W.heap.size + 3 := by rw [← h3]; simp [z2]
  have z4 : W1.heap.size = W.heap.size + 4 := by rw [← h]; simp [z3]
  have b1 : Below W.heap.size W A1 := by rw [← h1]; exact (Below.refl _ W).alloc (Nat.le_refl _) _
  have b2 : Below A1.heap.size A1 A2 := by rw [← h2]; exact (Below.refl _ _).alloc (Nat.le_refl _) _
  have b3 : Below A2.heap.size A2 A3 := by rw [← h3]; exact (Below.refl _ _).alloc (Nat.le_refl _) _
  have b4 : Below A3.heap.size A3 W1 := by rw [← h]; exact (Below.refl _ _).alloc (Nat.le_refl _) _
  have x0 : Bx A1 W.heap.size #[.pointer ar] 28 := by rw [← h1]; exact al_at W _
  have x1 : Bx A2 (W.heap.size + 1) #[.int .i64 v] 3 := by rw [← h2, ← z1]; exact al_at A1 _
  have x2 : Bx A3 (W.heap.size + 2) #[.int .i64 0] 3 := by rw [← h3, ← z2]; exact al_at A2 _
  have x3 : Bx W1 (W.heap.size + 3) #[.int .i64 0] 24 := by rw [← h, ← z3]; exact al_at A3 _
  exact ⟨b1.trans ((b2.mono b1.size).trans ((b3.mono (Nat.le_trans b1.size b2.size)).trans (b4.mono (by omega)))), ((x0.below b2 (by omega)).below b3 (by omega)).below b4 (by omega), (x1.below b3 (by omega)).below b4 (by omega), x2.below b4 (by omega), x3⟩
theorem AB.grow {ar : Option Addr} {v : Int} {W1 w : World} (h : AB W ar v W1) (hb : Below W1.heap.size W1 w) : AB W ar v w :=
  ⟨h.b.trans (hb.mono h.b.size), h.a.below hb h.a.lt, h.v.below hb h.v.lt, h.r.below hb h.r.lt, h.e.below hb h.e.lt⟩
theorem AB.ret {ar : Option Addr} {v : Int} {w5 : World} (h : AB W ar v w5) (r e : Int) (w6 : World) (h6 : (w5.setCell ⟨W.heap.size + 1 + 1, 0, none⟩ (.int .i64 r)).setCell ⟨W.heap.size + 1 + 1 + 1, 0, none⟩ (.int .i64 e) = w6) : w6.cell? ⟨W.heap.size + 1 + 1, 0, none⟩ = some (.int .i64 r) ∧ w6.cell? ⟨W.heap.size + 1 + 1 + 1, 0, none⟩ = some (.int .i64 e) ∧ Below W.heap.size W w6 ∧ W.heap.size + 1 + 1 + 1 < w6.heap.size := by
  have a1 : Bx (w5.setCell ⟨W.heap.size + 1 + 1, 0, none⟩ (.int .i64 r)) (W.heap.size + 1 + 1) #[.int .i64 r] 3 := h.r.set (.int .i64 r)
  have a2 : Bx (w5.setCell ⟨W.heap.size + 1 + 1, 0, none⟩ (.int .i64 r)) (W.heap.size + 1 + 1 + 1) #[.int .i64 0] 24 := (Below.heap_setCell _ _ _ _ (by show W.heap.size + 1 + 1 + 1 ≠ W.heap.size + 1 + 1; omega)).trans h.e
  have b1 : Bx w6 (W.heap.size + 1 + 1) #[.int .i64 r] 3 := by rw [← h6]; exact (Below.heap_setCell _ _ _ _ (by show W.heap.size + 1 + 1 ≠ W.heap.size + 1 + 1 + 1; omega)).trans a1
  have b2 : Bx w6 (W.heap.size + 1 + 1 + 1) #[.int .i64 e] 24 := by rw [← h6]; exact a2.set (.int .i64 e)
  refine ⟨b1.cell 0 rfl, b2.cell 0 rfl, ?_, b2.lt⟩
  rw [← h6]
  exact (h.b.setCell (p := ⟨W.heap.size + 1 + 1, 0, none⟩) (by show W.heap.size ≤ W.heap.size + 1 + 1; omega) _).setCell (p := ⟨W.heap.size + 1 + 1 + 1, 0, none⟩) (by show W.heap.size ≤ W.heap.size + 1 + 1 + 1; omega) _
theorem assigned_nil (x v : Int) (W : World) : Calls Tryz.prog 5 #[.pointer none, .int .i64 x, .int .i64 v] W fun e w' => e = .returned (.tuple #[.int .i64 0, .int .i64 1]) ∧ Below W.heap.size W w' := by
  obtain ⟨W1, hW1⟩ : ∃ W1, (((W.alloc (.cells #[.pointer none] 28)).alloc (.cells #[.int .i64 v] 3)).alloc (.cells #[.int .i64 0] 3)).alloc (.cells #[.int .i64 0] 24) = W1 := ⟨_, rfl⟩
  have hab := ab_made W none v W1 hW1
  have HAB := hide hab
  have c0 := hab.a.cell 0 rfl
  have r0 := hab.r.cell 0 rfl
  have r1 := hab.e.cell 0 rfl
  have f0 := hab.r.free 0
  have f1 := hab.e.free 0
  have l3 := hab.e.lt
  have l0 := hab.a.lt
  clear hab
  go_enter Tryz.func5, Tryz.ntmps5
  go_wp2
  go_step3
  go_wp2
  rw [Exit.noGoto_ret]
  obtain ⟨w6, hw6⟩ : ∃ w6, (W1.setCell ⟨W.heap.size + 1 + 1, 0, none⟩ (.int .i64 0)).setCell ⟨W.heap.size + 1 + 1 + 1, 0, none⟩ (.int .i64 1) = w6 := ⟨_, rfl⟩
  obtain ⟨z0, z1, zb, zl⟩ := (unhide HAB).ret 0 1 w6 hw6
  rw [hw6]
  have zl2 : W.heap.size + 1 + 1 < w6.heap.size := by omega
  clear hw6 r0 r1 f0 f1
  refine bodyPost_ret (v := .tuple #[.int .i64 0, .int .i64 1]) ?_ rfl ⟨rfl, zb⟩
  simp [results, Tryz.results5, go_sem, z0, z1]
theorem assigned_out (x : Int) (W : World) (hH : ∀ w, Below W.heap.size W w → Calls Tryz.prog 10 #[.pointer (some ⟨M, 0, none⟩), .int .i64 x] w fun e w' => e = .returned (.bool false) ∧ w' = w) : Calls Tryz.prog 5 #[.pointer (some ⟨M, 0, none⟩), .int .i64 x, .int .i64 0] W fun e w' => e = .returned (.tuple #[.int .i64 0, .int .i64 11]) ∧ Below W.heap.size W w' := by
  obtain ⟨W1, hW1⟩ : ∃ W1, (((W.alloc (.cells #[.pointer (some ⟨M, 0, none⟩)] 28)).alloc (.cells #[.int .i64 0] 3)).alloc (.cells #[.int .i64 0] 3)).alloc (.cells #[.int .i64 0] 24) = W1 := ⟨_, rfl⟩
  have hab := ab_made W (some ⟨M, 0, none⟩) 0 W1 hW1
  have HAB := hide hab
  have HH := hide (hH W1 hab.b)
  have c0 := hab.a.cell 0 rfl
  have r0 := hab.r.cell 0 rfl
  have r1 := hab.e.cell 0 rfl
  have f0 := hab.r.free 0
  have f1 := hab.e.free 0
  have l3 := hab.e.lt
  have l0 := hab.a.lt
  clear hab hH
  go_enter Tryz.func5, Tryz.ntmps5
  go_wp2
  go_step3
  go_wp2_with (first
    | (go_at_call 10
       refine (unhide HH).mono ?_
       rintro e w7 ⟨rfl, h7⟩
       rw [h7]
       clear h7))
  rw [Exit.noGoto_ret]
  obtain ⟨w6, hw6⟩ : ∃ w6, (W1.setCell ⟨W.heap.size + 1 + 1, 0, none⟩ (.int .i64 0)).setCell ⟨W.heap.size + 1 + 1 + 1, 0, none⟩ (.int .i64 11) = w6 := ⟨_, rfl⟩
  obtain ⟨z0, z1, zb, zl⟩ := (unhide HAB).ret 0 11 w6 hw6
  rw [hw6]
  have zl2 : W.heap.size + 1 + 1 < w6.heap.size := by omega
  clear hw6 r0 r1 f0 f1
  refine bodyPost_ret (v := .tuple #[.int .i64 0, .int .i64 11]) ?_ rfl ⟨rfl, zb⟩
  simp [results, Tryz.results5, go_sem, z0, z1]
/-- Of a type that is no union: the declared one. -/
theorem assigned_plain (x : Int) (kk : Int) (W : World) (hk : kk ≠ 16) (hH : ∀ w y, y = x ∨ y = 0 → Below W.heap.size W w → Calls Tryz.prog 10 #[.pointer (some ⟨M, 0, none⟩), .int .i64 y] w fun e w' => e = .returned (.bool true) ∧ w' = w)
    (hK : ∀ w, Below W.heap.size W w → Calls Tryz.prog 15 #[.pointer (some ⟨M, 0, none⟩), .int .i64 x] w fun e w' => e = .returned (.int .i64 kk) ∧ Below w.heap.size w w') : Calls Tryz.prog 5 #[.pointer (some ⟨M, 0, none⟩), .int .i64 x, .int .i64 0] W fun e w' => e = .returned (.tuple #[.int .i64 x, .int .i64 0]) ∧ Below W.heap.size W w' := by
  obtain ⟨W1, hW1⟩ : ∃ W1, (((W.alloc (.cells #[.pointer (some ⟨M, 0, none⟩)] 28)).alloc (.cells #[.int .i64 0] 3)).alloc (.cells #[.int .i64 0] 3)).alloc (.cells #[.int .i64 0] 24) = W1 := ⟨_, rfl⟩
  have hab := ab_made W (some ⟨M, 0, none⟩) 0 W1 hW1
  have HAB := hide hab
  have HH : Hid (∀ y, y = x ∨ y = 0 → Calls Tryz.prog 10 #[.pointer (some ⟨M, 0, none⟩), .int .i64 y] W1 fun e w' => e = .returned (.bool true) ∧ w' = W1) := fun y hy => hH W1 y hy hab.b
  have HK := hide (hK W1 hab.b)
  have n16 : (kk == 16) = false := by simpa using hk
  have n16' : (kk != 16) = true := by simp [bne, n16]
  have c0 := hab.a.cell 0 rfl
  have v0 := hab.v.cell 0 rfl
  have l3 := hab.e.lt
  have l0 := hab.a.lt
  clear hab hH hK hk
  go_enter Tryz.func5, Tryz.ntmps5
  go_wp2
  go_step3
  go_wp2_with (first
    | (go_at_call 10
       (with_reducible refine (unhide HH x (.inl rfl)).mono ?_)
       rintro e w7 ⟨rfl, h7⟩
       rw [h7]
       clear h7)
    | (go_at_call 10
       refine (unhide HH 0 (.inr rfl)).mono ?_
       rintro e w8 ⟨rfl, h8⟩
       rw [h8]
       clear h8)
    | (go_at_call 15
       refine (unhide HK).mono ?_
       rintro e w9 ⟨rfl, hb9⟩
       have hab9 := (unhide HAB).grow hb9
       have HAB9 := hide hab9
       have r0 := hab9.r.cell 0 rfl
       have r1 := hab9.e.cell 0 rfl
       have f0 := hab9.r.free 0
       have f1 := hab9.e.free 0
       have m3 := hab9.e.lt
       clear hb9 hab9 c0 v0))
  rw [Exit.noGoto_ret]
  obtain ⟨w6, hw6⟩ : ∃ w6, (w9.setCell ⟨W.heap.size + 1 + 1, 0, none⟩ (.int .i64 x)).setCell ⟨W.heap.size + 1 + 1 + 1, 0, none⟩ (.int .i64 0) = w6 := ⟨_, rfl⟩
  obtain ⟨z0, z1, zb, zl⟩ := (unhide HAB9).ret x 0 w6 hw6
  rw [hw6]
  have zl2 : W.heap.size + 1 + 1 < w6.heap.size := by omega
  clear hw6 r0 r1 f0 f1
  refine bodyPost_ret (v := .tuple #[.int .i64 x, .int .i64 0]) ?_ rfl ⟨rfl, zb⟩
  simp [results, Tryz.results5, go_sem, z0, z1]
end Go.Proofs.YticdaphajanbbaaGreatDoor
