/- The rule of a question: where a value is wanting. -/
import Derived.Test.YticdaphajanbbaaGreatDoorNR
namespace Go.Proofs.YticdaphajanbbaaGreatDoor
set_option linter.unusedSimpArgs false
set_option linter.unusedVariables false
set_option maxRecDepth 100000
set_option maxHeartbeats 4000000
open Go.RowKit Go.Shelf

theorem rule_no (q : Qn) (hm : q.tk = 2 ∨ q.tk = 5) (hp : q.p.k = 0 ∨ q.p.k = 7) (W : World) : Calls Tryz.prog 9 #[.agg q.v] W fun e w' => e = .returned (.tuple #[.nilFunc, .bool false]) ∧ Below W.heap.size W w' := by
  have HN := hide (needs_any q)
  have HM := hide (rule_mem q W)
  have HO := hide (isOne_no q.p)
  obtain ⟨tk, tt, ty, ar, k, n, t, pa, a, b, na, c, d, ma, e, f, id⟩ := q
  unfold Qn.v at HN HM ⊢
  unfold Pt.v at HO
  dsimp only at HN HM HO hm hp ⊢
  obtain ⟨W1, hW1⟩ : ∃ W1, W.alloc (.cells #[.int .i64 tk, .string tt, .int .i64 ty, .pointer ar, .int .i64 k, .int .i64 n, .string t, .slice pa a b, .slice na c d, .slice ma e f, .int .i64 id] 40) = W1 := ⟨_, rfl⟩
  have hx : Bx W1 W.heap.size #[.int .i64 tk, .string tt, .int .i64 ty, .pointer ar, .int .i64 k, .int .i64 n, .string t, .slice pa a b, .slice na c d, .slice ma e f, .int .i64 id] 40 := by rw [← hW1]; exact al_at W _
  have HX := hide hx
  rcases hm with rfl | rfl
  · have hl := hx.lt
    clear hx
    go_enter Tryz.func9, Tryz.ntmps9
    go_wp2_with (first
      | (refine wpList_load_row rfl 40 _ rfl W.heap.size rfl 40 _ (0, 0) _ (unhide HX) Tryz.underlying40 rfl info40 ?_)
      | (refine wpList_store_row rfl 65 _ _ rfl W1.heap.size _ rfl rfl 65 _ (al_at W1 _) info65 rfl (one65 _) ?_
         obtain ⟨W2, hW2⟩ : ∃ W2, (W1.alloc (.cells #[.nilFunc, .nilFunc, .nilFunc, .nilFunc, .nilFunc, .nilFunc] 65)).setRow W1.heap.size (tabV #[.int .i64 2, .string tt, .int .i64 ty, .pointer ar, .int .i64 k, .int .i64 n, .string t, .slice pa a b, .slice na c d, .slice ma e f, .int .i64 id]) = W2 := ⟨_, rfl⟩
         obtain ⟨hx2, ht2, hb2⟩ := unhide HM W1 W2 hW1 _ hW2 rfl
         have HX2 := hide hx2
         have HB2 := hide hb2
         have HT2 := hide ht2
         obtain ⟨c0, c1, c2, c3, c4, c5, c6, c7, c8, c9, c10⟩ := cells11 hx2
         have l0 := hx2.lt
         have l2 := ht2.lt
         unfold tabV at hW2
         clear hx2 ht2 hb2)
      | (go_at_call 24
         refine (unhide HN _).mono ?_
         rintro e w2 ⟨rfl, hb3⟩
         have HB3 := hide ((unhide HB2).trans (hb3.mono (unhide HB2).size))
         have hx3 := (unhide HX2).below hb3 (unhide HX2).lt
         have ht3 := (unhide HT2).below hb3 (unhide HT2).lt
         obtain ⟨d0, d1, d2, d3, d4, d5, d6, d7, d8, d9, d10⟩ := cells11 hx3
         have e0 := hx3.lt
         have g0 : w2.cell? ⟨W1.heap.size, 2, none⟩ = some (.func (.func 20) #[.agg #[.int .i64 2, .string tt, .int .i64 ty, .pointer ar, .int .i64 k, .int .i64 n, .string t, .slice pa a b, .slice na c d, .slice ma e f, .int .i64 id]] #[]) := ht3.cell 2 rfl
         have e2 := ht3.lt
         clear hb3 hx3 ht3)
      | (go_at_call 25
         refine (unhide HO hp _).mono ?_
         rintro e w3 ⟨rfl, hb4⟩
         have HB4 := hide ((unhide HB3).trans (hb4.mono (unhide HB3).size))
         clear hb4))
    refine bodyPost_ret (v := .tuple #[.nilFunc, .bool false]) (by simp [results, Tryz.results9, go_sem]) rfl ⟨rfl, unhide HB4⟩
  · have hl := hx.lt
    clear hx
    go_enter Tryz.func9, Tryz.ntmps9
    go_wp2_with (first
      | (refine wpList_load_row rfl 40 _ rfl W.heap.size rfl 40 _ (0, 0) _ (unhide HX) Tryz.underlying40 rfl info40 ?_)
      | (refine wpList_store_row rfl 65 _ _ rfl W1.heap.size _ rfl rfl 65 _ (al_at W1 _) info65 rfl (one65 _) ?_
         obtain ⟨W2, hW2⟩ : ∃ W2, (W1.alloc (.cells #[.nilFunc, .nilFunc, .nilFunc, .nilFunc, .nilFunc, .nilFunc] 65)).setRow W1.heap.size (tabV #[.int .i64 5, .string tt, .int .i64 ty, .pointer ar, .int .i64 k, .int .i64 n, .string t, .slice pa a b, .slice na c d, .slice ma e f, .int .i64 id]) = W2 := ⟨_, rfl⟩
         obtain ⟨hx2, ht2, hb2⟩ := unhide HM W1 W2 hW1 _ hW2 rfl
         have HX2 := hide hx2
         have HB2 := hide hb2
         have HT2 := hide ht2
         obtain ⟨c0, c1, c2, c3, c4, c5, c6, c7, c8, c9, c10⟩ := cells11 hx2
         have l0 := hx2.lt
         have l2 := ht2.lt
         unfold tabV at hW2
         clear hx2 ht2 hb2)
      | (go_at_call 24
         refine (unhide HN _).mono ?_
         rintro e w2 ⟨rfl, hb3⟩
         have HB3 := hide ((unhide HB2).trans (hb3.mono (unhide HB2).size))
         have hx3 := (unhide HX2).below hb3 (unhide HX2).lt
         have ht3 := (unhide HT2).below hb3 (unhide HT2).lt
         obtain ⟨d0, d1, d2, d3, d4, d5, d6, d7, d8, d9, d10⟩ := cells11 hx3
         have e0 := hx3.lt
         have g0 : w2.cell? ⟨W1.heap.size, 5, none⟩ = some (.func (.func 23) #[.agg #[.int .i64 5, .string tt, .int .i64 ty, .pointer ar, .int .i64 k, .int .i64 n, .string t, .slice pa a b, .slice na c d, .slice ma e f, .int .i64 id]] #[]) := ht3.cell 5 rfl
         have e2 := ht3.lt
         clear hb3 hx3 ht3)
      | (go_at_call 25
         refine (unhide HO hp _).mono ?_
         rintro e w3 ⟨rfl, hb4⟩
         have HB4 := hide ((unhide HB3).trans (hb4.mono (unhide HB3).size))
         clear hb4))
    refine bodyPost_ret (v := .tuple #[.nilFunc, .bool false]) (by simp [results, Tryz.results9, go_sem]) rfl ⟨rfl, unhide HB4⟩
end Go.Proofs.YticdaphajanbbaaGreatDoor
