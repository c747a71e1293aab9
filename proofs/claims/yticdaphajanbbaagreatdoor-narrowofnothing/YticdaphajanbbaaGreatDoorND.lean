/- What stands for a part; a test of kinds. -/
import Derived.Test.YticdaphajanbbaaGreatDoorNA
namespace Go.Proofs.YticdaphajanbbaaGreatDoor
set_option linter.unusedSimpArgs false
set_option linter.unusedVariables false
set_option maxRecDepth 100000
set_option maxHeartbeats 4000000
open Go.RowKit Go.Shelf

theorem place_any (q : Qn) (p : Pt) (h1 : q.tk ≠ 1) (h2 : q.tk ≠ 2) (W : World) : Calls Tryz.prog 12 #[.agg q.v, .agg p.v] W fun e w' => e = .returned (.tuple #[.int .i64 p.id, .int .i64 0]) ∧ Below W.heap.size W w' := by
  obtain ⟨tk, tt, ty, ar, qk, qn, qt, qpa, qa, qb, qna, qc, qd, qma, qe, qf, qid⟩ := q
  obtain ⟨k, n, t, pa, a, b, na, c, d, ma, x, f, id⟩ := p
  unfold Qn.v Pt.v
  dsimp only at h1 h2 ⊢
  have n1 : (tk == 1) = false := by simpa using h1
  have n2 : (tk == 2) = false := by simpa using h2
  clear h1 h2
  obtain ⟨W1, hW1⟩ : ∃ W1, (W.alloc (.cells #[.int .i64 tk, .string tt, .int .i64 ty, .pointer ar, .int .i64 qk, .int .i64 qn, .string qt, .slice qpa qa qb, .slice qna qc qd, .slice qma qe qf, .int .i64 qid] 40)).alloc (.cells #[.int .i64 k, .int .i64 n, .string t, .slice pa a b, .slice na c d, .slice ma x f, .int .i64 id] 38) = W1 := ⟨_, rfl⟩
  have hq : Bx W1 W.heap.size #[.int .i64 tk, .string tt, .int .i64 ty, .pointer ar, .int .i64 qk, .int .i64 qn, .string qt, .slice qpa qa qb, .slice qna qc qd, .slice qma qe qf, .int .i64 qid] 40 := by rw [← hW1]; exact (Below.heap_alloc _ _ _ (by simp)).trans (al_at W _)
  have hp : Bx W1 (W.heap.size + 1) #[.int .i64 k, .int .i64 n, .string t, .slice pa a b, .slice na c d, .slice ma x f, .int .i64 id] 38 := by
    rw [← hW1]
    have := al_at (W.alloc (.cells #[.int .i64 tk, .string tt, .int .i64 ty, .pointer ar, .int .i64 qk, .int .i64 qn, .string qt, .slice qpa qa qb, .slice qna qc qd, .slice qma qe qf, .int .i64 qid] 40)) (.cells #[.int .i64 k, .int .i64 n, .string t, .slice pa a b, .slice na c d, .slice ma x f, .int .i64 id] 38)
    rw [World.size_alloc] at this
    exact this
  have hb : Below W.heap.size W W1 := by rw [← hW1]; exact ((Below.refl _ W).alloc (Nat.le_refl _) _).alloc (by simp) _
  have HB := hide hb
  have HPX := hide hp
  have HQX := hide hq
  have q0 := hq.cell 0 rfl
  have q1 := hq.cell 1 rfl
  have p0 := hp.cell 0 rfl
  have p6 := hp.cell 6 rfl
  have l0 := hq.lt
  have l1 := hp.lt
  clear hq hp hb
  go_enter Tryz.func12, Tryz.ntmps12
  go_wp2
  refine bodyPost_ret (v := .tuple #[.int .i64 id, .int .i64 0]) (by simp [results, Tryz.results12, go_sem]) rfl ⟨rfl, unhide HB⟩
/-- What a test for the kind string says of number and string. -/
def kindSays (k : Int) : Int := if k = 7 then 1 else 2
theorem ofKind_any (q : Qn) (p : Pt) (ht : q.tt = strS) (h : p.k = 7 ∨ p.k = 8) (W : World) : Calls Tryz.prog 19 #[.agg q.v, .agg p.v] W fun e w' => e = .returned (.tuple #[.int .i64 (kindSays p.k), .int .i64 0]) ∧ Below W.heap.size W w' := by
  have HT := hide (typeof_any p h)
  have HS := hide sure_any
  obtain ⟨tk, tt, ty, ar, qk, qn, qt, qpa, qa, qb, qna, qc, qd, qma, qe, qf, qid⟩ := q
  obtain ⟨k, n, t, pa, a, b, na, c, d, ma, x, f, id⟩ := p
  unfold Pt.v at HT
  unfold Qn.v Pt.v
  dsimp only at ht h HT ⊢
  subst ht
  obtain ⟨W1, hW1⟩ : ∃ W1, (W.alloc (.cells #[.int .i64 tk, .string strS, .int .i64 ty, .pointer ar, .int .i64 qk, .int .i64 qn, .string qt, .slice qpa qa qb, .slice qna qc qd, .slice qma qe qf, .int .i64 qid] 40)).alloc (.cells #[.int .i64 k, .int .i64 n, .string t, .slice pa a b, .slice na c d, .slice ma x f, .int .i64 id] 38) = W1 := ⟨_, rfl⟩
  have hq : Bx W1 W.heap.size #[.int .i64 tk, .string strS, .int .i64 ty, .pointer ar, .int .i64 qk, .int .i64 qn, .string qt, .slice qpa qa qb, .slice qna qc qd, .slice qma qe qf, .int .i64 qid] 40 := by rw [← hW1]; exact (Below.heap_alloc _ _ _ (by simp)).trans (al_at W _)
  have hp : Bx W1 (W.heap.size + 1) #[.int .i64 k, .int .i64 n, .string t, .slice pa a b, .slice na c d, .slice ma x f, .int .i64 id] 38 := by
    rw [← hW1]
    have := al_at (W.alloc (.cells #[.int .i64 tk, .string strS, .int .i64 ty, .pointer ar, .int .i64 qk, .int .i64 qn, .string qt, .slice qpa qa qb, .slice qna qc qd, .slice qma qe qf, .int .i64 qid] 40)) (.cells #[.int .i64 k, .int .i64 n, .string t, .slice pa a b, .slice na c d, .slice ma x f, .int .i64 id] 38)
    rw [World.size_alloc] at this
    exact this
  have hb : Below W.heap.size W W1 := by rw [← hW1]; exact ((Below.refl _ W).alloc (Nat.le_refl _) _).alloc (by simp) _
  have HB := hide hb
  have HPX := hide hp
  have HQX := hide hq
  have q0 := hq.cell 0 rfl
  have q1 := hq.cell 1 rfl
  have p0 := hp.cell 0 rfl
  have p6 := hp.cell 6 rfl
  have l0 := hq.lt
  have l1 := hp.lt
  clear hq hp hb
  unfold strS at hW1 HQX q1
  rcases h with rfl | rfl
  all_goals (
    simp only [if_pos, show ¬ ((8 : Int) = 7) by omega, if_neg, not_false_iff] at HT
    unfold numS strS at *
    go_enter Tryz.func19, Tryz.ntmps19
    go_wp2_with (first
      | (have hx0 := unhide HPX
         refine wpList_load_row rfl 38 _ rfl (W.heap.size + 1) rfl 38 _ (0, 0) _ hx0 Tryz.underlying38 rfl info38 ?_)
      | (go_at_call 38
         refine (unhide HT _).mono ?_
         rintro e w2 ⟨rfl, hb2⟩
         have HB2 := hide ((unhide HB).trans (hb2.mono (unhide HB).size))
         have r1 := ((unhide HQX).below hb2 (unhide HQX).lt).cell 1 rfl
         have m1 := ((unhide HQX).below hb2 (unhide HQX).lt).lt
         clear hb2 HPX)
      | (go_at_call 13
         refine (unhide HS _ _).mono ?_
         rintro e w3 ⟨rfl, rfl⟩))
    refine bodyPost_ret (v := .tuple #[.int .i64 (kindSays _), .int .i64 0]) (by simp [results, Tryz.results19, go_sem]; rfl) rfl ⟨rfl, unhide HB2⟩)
end Go.Proofs.YticdaphajanbbaaGreatDoor
