/- Keep, where it answers: by the rule 21. -/
import Derived.Test.YticdaphajanbbaaGreatDoorNI
import Derived.Test.YticdaphajanbbaaGreatDoorNG
namespace Go.Proofs.YticdaphajanbbaaGreatDoor
set_option linter.unusedSimpArgs false
set_option linter.unusedVariables false
set_option maxRecDepth 100000
set_option maxHeartbeats 4000000
open Go.RowKit Go.Shelf
attribute [local go_sem] Oper.semAt_some

variable {P : Program} {lo M : Nat} {mo : Option Nat} {dv : Value} {L : List Kt} {W : World}
theorem keep_ok21 (i : Nat) (tk ty : Int) (tt : ByteArray) (yes : Bool) (kq k : Kt) (b : Nat) (ps : List Int) (vd : Int → Int) (r : Int) (W : World) (hAr : AAt Tryz.prog lo M (some b) dv L W) (hki : L[i]? = some k) (hok : Okt k)
    (hA : ∀ w, Below W.heap.size W w → Calls Tryz.prog 8 #[.pointer (some ⟨M, 0, none⟩), .agg #[.int .i64 tk, .string tt, .int .i64 ty]] w (AskQ tk tt ty (some ⟨M, 0, none⟩) kq w))
    (hR : ∀ (p : Pt), p.k = kq.kind → ∀ w, Calls Tryz.prog 9 #[.agg (Qn.v ⟨tk, tt, ty, some ⟨M, 0, none⟩, p⟩)] w fun e w' => e = .returned (.tuple #[.func (.func 21) #[.agg (Qn.v ⟨tk, tt, ty, some ⟨M, 0, none⟩, p⟩)] #[], .bool true]) ∧ Below w.heap.size w w')
    (hps : (k.kind ≠ 16 ∧ ps = [(i : Int)]) ∨ (k.kind = 16 ∧ k.parts = ps)) (hlen : ps.length ≤ 1000)
    (hT : ∀ p ∈ ps, ∃ (n : Nat) (kp : Kt), p = (n : Int) ∧ L[n]? = some kp ∧ Okt kp ∧ kp.kind = p + 1)
    (hv : ∀ p ∈ ps, vd (p + 1) = 0 ∨ vd (p + 1) = 1 ∨ vd (p + 1) = 2)
    (hS : ∀ (Q : Qn) (q : Pt), Q.tk = tk → Q.tt = tt → (∃ p ∈ ps, q.k = p + 1) → ∀ w, Calls Tryz.prog 21 #[.agg Q.v, .agg q.v] w fun e w' => e = .returned (.tuple #[.int .i64 (vd q.k), .int .i64 0]) ∧ Below w.heap.size w w')
    (hI : yes = true → ∀ (Q : Qn) (q : Pt), Q.tk = tk → ∀ w, Calls Tryz.prog 12 #[.agg Q.v, .agg q.v] w fun e w' => e = .returned (.tuple #[.int .i64 q.id, .int .i64 0]) ∧ Below w.heap.size w w')
    (hU : ∀ w pa pc, AAt Tryz.prog lo M (some b) dv L w → RowR 3 w (.slice pa (keptP vd yes ps).length pc) (iv (keptP vd yes ps)) → Calls Tryz.prog 14 #[.pointer (some ⟨M, 0, none⟩), .slice pa (keptP vd yes ps).length pc] w fun e w' => e = .returned (.tuple #[.int .i64 r, .int .i64 0]) ∧ Below w.heap.size w w') :
    CallsIn Fence.wide 9 Tryz.prog 4 #[.pointer (some ⟨M, 0, none⟩), .int .i64 (i : Int), .agg #[.int .i64 tk, .string tt, .int .i64 ty], .bool yes] W fun e w' => e = .returned (.tuple #[.int .i64 r, .int .i64 0]) ∧ Below W.heap.size W w' := by
  obtain ⟨W1, hW1⟩ : ∃ W1, (((W.alloc (.cells #[.int .i64 tk, .string tt, .int .i64 ty] 23)).alloc (.cells #[.bool yes] 4)).alloc (.cells #[.int .i64 0] 3)).alloc (.cells #[.int .i64 0] 24) = W1 := ⟨_, rfl⟩
  obtain ⟨hk, hz⟩ := kb_made W tk tt ty yes W1 hW1
  have HKB : Hid (∀ w, Below W1.heap.size W1 w → KB W tk tt ty yes w) := fun w hb => hk.below hz hb
  have HZ := hide hz
  have HASK := hide (hA W1 hk.b)
  have HT := hide hk.t
  have HB1 := hide hk.b
  have HR := hide hR
  have HAr : Hid (∀ w, Below W.heap.size W w → AAt Tryz.prog lo M (some b) dv L w) := fun w hb => hAr.below hb
  have HH : Hid (∀ w, Below W1.heap.size W1 w → Calls Tryz.prog 10 #[.pointer (some ⟨M, 0, none⟩), .int .i64 (i : Int)] w fun e w' => e = .returned (.bool true) ∧ w' = w) := fun w hb => by
    have hA5 := hAr.below (hk.b.trans (hb.mono hk.b.size))
    obtain ⟨ta, tc, m0, -⟩ := hA5.cells
    refine (nhas_any (some ⟨M, 0, none⟩) L.length (i : Int) (len_any w M ta L.length tc m0)).mono fun e w' ⟨h1, h2⟩ => ⟨?_, h2⟩
    rw [h1, decide_eq_true]
    have := (List.getElem?_eq_some_iff.1 hki).1
    omega
  have HPS := hide hps
  have HTT := hide hT
  have HV := hide hv
  have HSY := hide hS
  have HIP := hide hI
  have HU := hide hU
  have HKI := hide hki
  have HOK := hide hok
  have HLEN := hide hlen
  clear hps hT hv hS hI hU hki hok hAr hlen
  clear hk hz hA hR
  refine callsIn_of_wp_marks Tryz.func4 rfl trivial ?_ rfl
  simp only [Tryz.ntmps4, List.size_toArray, List.length_cons, List.length_nil, Nat.reduceAdd, Nat.reduceSub, Array.replicate_succ, Array.replicate_zero, List.push_toArray, List.append_toArray, List.nil_append, List.cons_append]
  refine wpIn_wide.2 ?_
  go_wp2
  go_step3
  go_wp2_with (first
      | (have hx0 := unhide HT
         refine wpList_load_row rfl 23 _ rfl W.heap.size rfl 23 _ (0, 0) _ hx0 Tryz.underlying23 rfl info23 ?_
         clear HT)
      | (go_at_call 8
         refine (unhide HASK).mono ?_
         rintro e w2 ⟨⟨k', n, t, pa, a, b, na, c, d, ma, x, f, i'⟩, rfl, hkk, hb2⟩
         have HKK := hide hkk
         have HB2 := hide hb2
         unfold Qn.v
         dsimp only
         clear HASK hkk hb2)
      | (have hb3 := unhide HB2
         refine wpList_store_row rfl 40 _ _ rfl w2.heap.size _ rfl rfl 40 _ (al_at w2 _) info40 rfl (one11 ⟨_, _, _, _, ⟨_, _, _, _, _, _, _, _, _, _, _, _, _⟩⟩) ?_
         obtain ⟨w3, hw3⟩ : ∃ w3, (w2.alloc (.cells #[.int .i64 0, .string ⟨#[]⟩, .int .i64 0, .pointer none, .int .i64 0, .int .i64 0, .string ⟨#[]⟩, .slice none 0 0, .slice none 0 0, .slice none 0 0, .int .i64 0] 40)).setRow w2.heap.size #[.int .i64 tk, .string tt, .int .i64 ty, .pointer (some ⟨M, 0, none⟩), .int .i64 k', .int .i64 n, .string t, .slice pa a b, .slice na c d, .slice ma x f, .int .i64 i'] = w3 := ⟨_, rfl⟩
         have HX3 : Hid (Bx w3 w2.heap.size #[.int .i64 tk, .string tt, .int .i64 ty, .pointer (some ⟨M, 0, none⟩), .int .i64 k', .int .i64 n, .string t, .slice pa a b, .slice na c d, .slice ma x f, .int .i64 i'] 40) := (by rw [← hw3]; exact setRow_heap _ _ _ _ _ _ (al_at w2 _))
         have HB3 : Hid (Below W1.heap.size W1 w3) := (by rw [← hw3]; exact below_row (hb3.alloc hb3.size _) hb3.size _)
         have HQ := hide (unhide HR ⟨k', n, t, pa, a, b, na, c, d, ma, x, f, i'⟩ (unhide HKK) w3)
         unfold Qn.v at HQ
         dsimp only at HQ
         obtain ⟨y0, y1, y2, y3, y4, y5, y6, y7, y8, y9, y10⟩ := cells11 (unhide HX3)
         have ly := (unhide HX3).lt
         clear hb3 HB2 HR)
      | (go_at_call 9
         refine (unhide HQ).mono ?_
         rintro e w4 ⟨rfl, hb4⟩
         have hb5 := (unhide HB3).trans (hb4.mono (unhide HB3).size)
         have HB4 := hide hb5
         obtain ⟨w5, hw5⟩ : ∃ w5, (w4.alloc (.cells #[.nilFunc] 43)).setCell ⟨w4.heap.size, 0, none⟩ (.func (.func 21) #[.agg #[.int .i64 tk, .string tt, .int .i64 ty, .pointer (some ⟨M, 0, none⟩), .int .i64 k', .int .i64 n, .string t, .slice pa a b, .slice na c d, .slice ma x f, .int .i64 i']] #[]) = w5 := ⟨_, rfl⟩
         have hb6 : Below W1.heap.size W1 w5 := (by rw [← hw5]; exact (hb5.alloc hb5.size _).setCell hb5.size _)
         have hkb := unhide HKB w5 hb6
         have HS5 : Hid (Bx w5 w4.heap.size #[(.func (.func 21) #[.agg #[.int .i64 tk, .string tt, .int .i64 ty, .pointer (some ⟨M, 0, none⟩), .int .i64 k', .int .i64 n, .string t, .slice pa a b, .slice na c d, .slice ma x f, .int .i64 i']] #[])] 43) := (by rw [← hw5]; exact Bx.set (i := 0) (cs := #[.nilFunc]) (al_at w4 _) (.func (.func 21) #[.agg #[.int .i64 tk, .string tt, .int .i64 ty, .pointer (some ⟨M, 0, none⟩), .int .i64 k', .int .i64 n, .string t, .slice pa a b, .slice na c d, .slice ma x f, .int .i64 i']] #[]))
         have HQ5 : Hid (Bx w5 w2.heap.size #[.int .i64 tk, .string tt, .int .i64 ty, .pointer (some ⟨M, 0, none⟩), .int .i64 k', .int .i64 n, .string t, .slice pa a b, .slice na c d, .slice ma x f, .int .i64 i'] 40) := (by
           have hx := (unhide HX3).below hb4 (unhide HX3).lt
           have hl := hx.lt
           rw [← hw5]
           exact (Below.heap_setCell _ _ _ _ (by show w2.heap.size ≠ w4.heap.size; omega)).trans ((Below.heap_alloc _ _ _ hl).trans hx))
         have HK5 := hide hkb
         have HB6 := hide hb6
         clear hb4 hb5 hb6 hkb HQ y0 y1 y2 y3 y4 y5 y6 y7 y8 y9 y10 ly)
      | (go_at_call 10
         refine (unhide HH w5 (unhide HB6)).mono ?_
         rintro e w7 ⟨rfl, h7⟩
         rw [h7]
         clear h7))
  obtain ⟨w6, hw6⟩ : ∃ w6, w5.alloc (.cells #[.slice none 0 0] 32) = w6 := ⟨_, rfl⟩
  have hx6 : Bx w6 w5.heap.size #[.slice none 0 0] 32 := by rw [← hw6]; exact al_at w5 _
  have hb56 : Below w5.heap.size w5 w6 := by rw [← hw6]; exact (Below.refl _ w5).alloc (Nat.le_refl _) _
  have hz6 : w6.heap.size = w5.heap.size + 1 := by rw [← hw6]; simp
  have hb6 : Below W1.heap.size W1 w6 := (unhide HB6).trans (hb56.mono (unhide HB6).size)
  have hbW6 : Below W.heap.size W w6 := (unhide HB1).trans (hb6.mono (unhide HB1).size)
  have HPA : Hid (∀ (p n : Nat) (kp : Kt), p = n → L[n]? = some kp → Okt kp → ∀ w, Below W.heap.size W w → Calls Tryz.prog 18 #[.pointer (some ⟨M, 0, none⟩), .int .i64 (p : Int)] w (PartQ kp (p : Int) w)) := fun p n kp e h1 h2 w hb => by
    subst e
    exact partAt_of (some ⟨M, 0, none⟩) kp (p : Int) fun w' hb' => ty_at (unhide HAr w' (hb.trans (hb'.mono hb.size))) p kp h1 h2
  have HPO := hide (partsOf_of (W := w6) (some ⟨M, 0, none⟩) k (i : Int) fun w hb => unhide HPA i i k rfl (unhide HKI) (unhide HOK) w (hbW6.trans (hb.mono hbW6.size)))
  have HX6 := hide hx6
  have HZ6 := hide hz6
  have HB56 := hide hb56
  have HBW6 := hide hbW6
  rw [hw6]
  clear hw6 hx6 hb56 hz6 hb6 hbW6
  go_step3
  go_wp2_with (first
    | (go_at_call 11
       refine (unhide HPO).mono ?_
       rintro e w8 ⟨⟨ck, cn, ct, cpa, ca, cb, cna, cc, cd, cma, cx, cf, cid⟩, b1, rfl, hck, hca, hcid, hbb1, hbb2, hrow, hb8⟩
       have HCK := hide hck
       have HCA := hide hca
       have HCI := hide hcid
       have HBB1 := hide hbb1
       have HBB2 := hide hbb2
       have HROW := hide hrow
       have HB8 := hide hb8
       clear hck hca hcid hbb1 hbb2 hrow hb8))
  clear hW1
  generalize Value.tuple #[Value.func (.func 21) #[.agg #[.int .i64 tk, .string tt, .int .i64 ty, .pointer (some ⟨M, 0, none⟩), .int .i64 k', .int .i64 n, .string t, .slice pa a b, .slice na c d, .slice ma x f, .int .i64 i']] #[], .bool true] = VT
  generalize Value.func (.func 21) #[.agg #[.int .i64 tk, .string tt, .int .i64 ty, .pointer (some ⟨M, 0, none⟩), .int .i64 k', .int .i64 n, .string t, .slice pa a b, .slice na c d, .slice ma x f, .int .i64 i']] #[] = VF
  generalize Value.agg #[.int .i64 tk, .string tt, .int .i64 ty, .pointer (some ⟨M, 0, none⟩), .int .i64 k', .int .i64 n, .string t, .slice pa a b, .slice na c d, .slice ma x f, .int .i64 i'] = VQ
  generalize Value.agg #[.int .i64 tk, .string tt, .int .i64 ty] = V2
  refine (wpIn_wide (n := 9)).1 ?_
  refine range_enter rfl (by omega) (gf := 27) (lb := #[.pointer (some ⟨b1, 0, none⟩), .pointer (some ⟨w6.heap.size, 0, none⟩)]) rfl trivial enter27 ?_
  intro fn hfn
  generalize hrc : recOf fn _ _ _ _ _ _ _ = rc
  obtain ⟨W3, hW3⟩ : ∃ W3, ranged w8 rc = W3 := ⟨_, rfl⟩
  have hz3 : W3.heap.size = w8.heap.size + 1 + 1 := by rw [← hW3]; exact ranged_size w8 rc
  have hB3 : Below w8.heap.size w8 W3 := by rw [← hW3]; exact ranged_below w8 rc
  have hl3 : W3.heap[w8.heap.size + 1]? = some (.loop rc) := by rw [← hW3]; exact ranged_l w8 rc
  have hd3 : W3.heap[w8.heap.size]? = some (.deferred (some [])) := by rw [← hW3]; exact ranged_d w8 rc
  rw [hW3]
  clear hW3
  obtain ⟨j0, hj, hy0, hy1, hy2⟩ := info_parts infoInt
  have hz6 := unhide HZ6
  have hb8 := unhide HB8
  have hs8 := hb8.size
  have hB63 : Below w6.heap.size w6 W3 := hb8.trans (hB3.mono hs8)
  have hblN : w5.heap.size < W3.heap.size := by omega
  have hlpN : w8.heap.size + 1 < W3.heap.size := by omega
  have hbllp : w5.heap.size ≠ w8.heap.size + 1 := by omega
  have hx63 := (unhide HX6).below hB63 (unhide HX6).lt
  have hls0 : LSt W3 W3.heap.size w5.heap.size (w8.heap.size + 1) rc [] W3 := ⟨rfl, rfl, rfl, Nat.le_refl _, fun _ _ _ _ => rfl, hl3, .slice none 0 0, hx63, World.ownsRow_nil _ _ _ _⟩
  have hb53 : Below w5.heap.size w5 W3 := (unhide HB56).trans (hB63.mono (unhide HB56).size)
  have hs5 := (unhide HS5).lt
  have hq5 := (unhide HQ5).lt
  have hy5 := (unhide HK5).y.lt
  have HSB : Hid (∀ A rd l, LSt W3 W3.heap.size w5.heap.size (w8.heap.size + 1) rd l A → Bx A w4.heap.size #[(.func (.func 21) #[.agg #[.int .i64 tk, .string tt, .int .i64 ty, .pointer (some ⟨M, 0, none⟩), .int .i64 k', .int .i64 n, .string t, .slice pa a b, .slice na c d, .slice ma x f, .int .i64 i']] #[])] 43) := fun A rd l h => (h.keep _ (by omega) (by omega) (by omega)).trans ((unhide HS5).below hb53 hs5)
  have HQB : Hid (∀ A rd l, LSt W3 W3.heap.size w5.heap.size (w8.heap.size + 1) rd l A → Bx A w2.heap.size #[.int .i64 tk, .string tt, .int .i64 ty, .pointer (some ⟨M, 0, none⟩), .int .i64 k', .int .i64 n, .string t, .slice pa a b, .slice na c d, .slice ma x f, .int .i64 i'] 40) := fun A rd l h => (h.keep _ (by omega) (by omega) (by omega)).trans ((unhide HQ5).below hb53 hq5)
  have HYB : Hid (∀ A rd l, LSt W3 W3.heap.size w5.heap.size (w8.heap.size + 1) rd l A → Bx A (W.heap.size + 1) #[.bool yes] 4) := fun A rd l h => (h.keep _ (by omega) (by omega) (by omega)).trans ((unhide HK5).y.below hb53 hy5)
  have HZ3 := hide hz3
  clear hz3 hz6
  have hround : ∀ (l : List Int) (A : World) (q : Pt), LSt W3 W3.heap.size w5.heap.size (w8.heap.size + 1) rc l A → l.length ≤ 1000 → q.id ∈ ps → q.k = q.id + 1 → YieldAt Fence.wide 7 Tryz.prog (w8.heap.size + 1) #[.agg q.v] A fun e A' => e = .returned (.bool true) ∧ LSt W3 W3.heap.size w5.heap.size (w8.heap.size + 1) rc (if (vd (q.id + 1) == 0 || vd (q.id + 1) == sureP yes) = true then l ++ [q.id] else l) A' := by
    rintro l A ⟨qk, qn, qt, qpa, qa, qb, qna, qc, qd, qma, qx, qf, qid⟩ hL hll hm hqk
    dsimp only at hm hqk
    subst hqk
    have HSQ : Hid (∀ w, Calls Tryz.prog 21 #[.agg #[.int .i64 tk, .string tt, .int .i64 ty, .pointer (some ⟨M, 0, none⟩), .int .i64 k', .int .i64 n, .string t, .slice pa a b, .slice na c d, .slice ma x f, .int .i64 i'], .agg #[.int .i64 (qid + 1), .int .i64 qn, .string qt, .slice qpa qa qb, .slice qna qc qd, .slice qma qx qf, .int .i64 qid]] w fun e w' => e = .returned (.tuple #[.int .i64 (vd (qid + 1)), .int .i64 0]) ∧ Below w.heap.size w w') := fun w => unhide HSY ⟨tk, tt, ty, some ⟨M, 0, none⟩, ⟨k', n, t, pa, a, b, na, c, d, ma, x, f, i'⟩⟩ ⟨qid + 1, qn, qt, qpa, qa, qb, qna, qc, qd, qma, qx, qf, qid⟩ rfl rfl ⟨qid, hm, rfl⟩ w
    have HIQ0 : Hid (yes = true → ∀ w, Calls Tryz.prog 12 #[.agg #[.int .i64 tk, .string tt, .int .i64 ty, .pointer (some ⟨M, 0, none⟩), .int .i64 k', .int .i64 n, .string t, .slice pa a b, .slice na c d, .slice ma x f, .int .i64 i'], .agg #[.int .i64 (qid + 1), .int .i64 qn, .string qt, .slice qpa qa qb, .slice qna qc qd, .slice qma qx qf, .int .i64 qid]] w fun e w' => e = .returned (.tuple #[.int .i64 qid, .int .i64 0]) ∧ Below w.heap.size w w') := fun hy w => unhide HIP hy ⟨tk, tt, ty, some ⟨M, 0, none⟩, ⟨k', n, t, pa, a, b, na, c, d, ma, x, f, i'⟩⟩ ⟨qid + 1, qn, qt, qpa, qa, qb, qna, qc, qd, qma, qx, qf, qid⟩ rfl w
    have hvv3 := unhide HV qid hm
    unfold Pt.v
    dsimp only
    obtain ⟨A0, hA0⟩ : ∃ A0, A.alloc (.cells #[.int .i64 0, .int .i64 0, .string ⟨#[]⟩, .slice none 0 0, .slice none 0 0, .slice none 0 0, .int .i64 0] 38) = A0 := ⟨_, rfl⟩
    have hx0 : Bx A0 A.heap.size #[.int .i64 0, .int .i64 0, .string ⟨#[]⟩, .slice none 0 0, .slice none 0 0, .slice none 0 0, .int .i64 0] 38 := by rw [← hA0]; exact al_at A _
    have hb0 : Below A.heap.size A A0 := by rw [← hA0]; exact (Below.refl _ A).alloc (Nat.le_refl _) _
    obtain ⟨c0, c1, c2, c3, c4, c5, c6⟩ := cells7 hx0
    obtain ⟨f0, f1, f2, f3, f4, f5, f6⟩ := free7 hx0
    have l0 := hx0.lt
    obtain ⟨A1, hA1⟩ : ∃ A1, (((((((A0.setCell ⟨A.heap.size, 0, none⟩ (.int .i64 (qid + 1))).setCell ⟨A.heap.size, 1, none⟩ (.int .i64 qn)).setCell ⟨A.heap.size, 2, none⟩ (.string qt)).setCell ⟨A.heap.size, 3, none⟩ (.slice qpa qa qb)).setCell ⟨A.heap.size, 4, none⟩ (.slice qna qc qd)).setCell ⟨A.heap.size, 5, none⟩ (.slice qma qx qf)).setCell ⟨A.heap.size, 6, none⟩ (.int .i64 qid)) = A1 := ⟨_, rfl⟩
    have hpx : Bx A1 A.heap.size #[.int .i64 (qid + 1), .int .i64 qn, .string qt, .slice qpa qa qb, .slice qna qc qd, .slice qma qx qf, .int .i64 qid] 38 := by rw [← hA1]; exact set7 hx0 _ _ _ _ _ _ _
    have hbA1 : Below A.heap.size A A1 := by rw [← hA1]; exact bel7 hb0 (Nat.le_refl _) _ _ _ _ _ _ _
    have hL1 := hL.below hblN hlpN hbA1
    clear hx0 hb0 hbA1
    have hTM := congrArg Loop.tmps hrc
    dsimp only [recOf] at hTM
    have HTM := hide hTM
    have HRC := hide hrc
    clear hrc hTM
    cases yes with
    | true =>
     have HIQ := hide (unhide HIQ0 rfl)
     clear HIQ0
     rcases hvv3 with hvv | hvv | hvv
     · have hfin : (if (vd (qid + 1) == 0 || vd (qid + 1) == sureP true) = true then l ++ [qid] else l) = l ++ [qid] := by rw [hvv]; rfl
       rw [hfin]
       rw [hvv] at HSQ
       clear hfin hvv
       have hlp := hL.loop
       rw [← unhide HRC] at hlp
       have hlp1 := hL1.loop
       rw [← unhide HRC, ← hA1] at hlp1
       have HLP := hide hlp
       have HLP1 := hide hlp1
       have HA1 := hide hA1
       clear hlp hlp1 hA1
       refine yield_round (W₁ := (((((((A0.setCell ⟨A.heap.size, 0, none⟩ (.int .i64 (qid + 1))).setCell ⟨A.heap.size, 1, none⟩ (.int .i64 qn)).setCell ⟨A.heap.size, 2, none⟩ (.string qt)).setCell ⟨A.heap.size, 3, none⟩ (.slice qpa qa qb)).setCell ⟨A.heap.size, 4, none⟩ (.slice qna qc qd)).setCell ⟨A.heap.size, 5, none⟩ (.slice qma qx qf)).setCell ⟨A.heap.size, 6, none⟩ (.int .i64 qid))) hfn (unhide HLP) rfl { tmps := (rc.tmps.setIfInBounds 41 (.agg #[.int .i64 (qid + 1), .int .i64 qn, .string qt, .slice qpa qa qb, .slice qna qc qd, .slice qma qx qf, .int .i64 qid])).setIfInBounds 14 (.pointer (some ⟨A.heap.size, 0, none⟩)), defers := [] } (unhide HLP1) ?_ ?_
       · intro K hK
         rw [← unhide HTM] at hK
         clear HLP HLP1 HRC HTM HA1 HSQ
         simp only [List.setIfInBounds_toArray, List.set_cons_succ, List.set_cons_zero] at hK
         gi_wp2
         exact hK
       · have hrb : { (recOf fn _ _ _ _ _ .busy none : Loop) with state := .ready, pending := none } = rc := unhide HRC
         generalize recOf fn _ _ _ _ _ .busy none = rb at hrb ⊢
         rw [← unhide HTM]
         simp only [List.setIfInBounds_toArray, List.set_cons_succ, List.set_cons_zero]
         clear HLP HLP1 HRC HTM
         rw [unhide HA1]
         obtain ⟨A2, hA2⟩ : ∃ A2, A1.putObj (w8.heap.size + 1) (.loop rb) = A2 := ⟨_, rfl⟩
         have hL2 : LSt W3 W3.heap.size w5.heap.size (w8.heap.size + 1) rb l A2 := by rw [← hA2]; exact hL1.put hlpN hbllp
         have hpx2 : Bx A2 A.heap.size #[.int .i64 (qid + 1), .int .i64 qn, .string qt, .slice qpa qa qb, .slice qna qc qd, .slice qma qx qf, .int .i64 qid] 38 := by rw [← hA2]; exact (World.putObj_heap_other (by have := hL.size; omega)).trans hpx
         rw [hA2]
         have HL2 := hide hL2
         have HPX2 := hide hpx2
         have s0 := (unhide HSB A2 rb l hL2).cell 0 rfl
         have sl := (unhide HSB A2 rb l hL2).lt
         obtain ⟨p0, p1, p2, p3, p4, p5, p6⟩ := cells7 hpx2
         have pl := hpx2.lt
         have HRB := hide hrb
         clear hA2 hL2 hpx2 hrb c0 c1 c2 c3 c4 c5 c6 f0 f1 f2 f3 f4 f5 f6 l0
         gi_wp2_with (first
           | (refine ⟨trivial, ?_⟩
              gi_at_call 21
              refine (callsIn_wide.2 (unhide HSQ A2)).mono ?_
              rintro e A3 ⟨rfl, hb3⟩
              have hL3 := (unhide HL2).below hblN hlpN hb3
              have hpx3 := (unhide HPX2).below hb3 (unhide HPX2).lt
              have HL3 := hide hL3
              have HPX3 := hide hpx3
              have y0 := (unhide HYB A3 rb l hL3).cell 0 rfl
              have yl := (unhide HYB A3 rb l hL3).lt
              obtain ⟨u0, u1, u2, u3, u4, u5, u6⟩ := cells7 hpx3
              have ul := hpx3.lt
              obtain ⟨g0, g1, g2, g3, g4, g5, g6, g7, g8, g9, g10⟩ := cells11 (unhide HQB A3 rb l hL3)
              have gl := (unhide HQB A3 rb l hL3).lt
              clear s0 sl p0 p1 p2 p3 p4 p5 p6 pl hb3 hL3 hpx3)
           | (refine ⟨trivial, ?_⟩
              gi_at_call 12
              refine (callsIn_wide.2 (unhide HIQ A3)).mono ?_
              rintro e A4 ⟨rfl, hb4⟩
              have hL4 := (unhide HL3).below hblN hlpN hb4
              have HL4 := hide hL4
              obtain ⟨lv, hlx, hlo⟩ := hL4.left
              obtain ⟨va, vc, hlv⟩ : ∃ va vc, lv = .slice va l.length vc := (by
                rcases hlo.2 with ⟨e, e'⟩ | ⟨g, cap, cur, e, _⟩
                · exact ⟨none, 0, by rw [e, e']⟩
                · exact ⟨_, _, e⟩)
              subst hlv
              have HLX := hide hlx
              have HLO := hide hlo
              have d0 := hlx.cell 0 rfl
              have df := hlx.free 0
              have dl := hlx.lt
              clear hlx hlo y0 yl u0 u1 u2 u3 u4 u5 u6 ul g0 g1 g2 g3 g4 g5 g6 g7 g8 g9 g10 gl hb4 hL4)
           | (refine ⟨trivial, ?_⟩
              gi_at_call 13
              refine (callsIn_wide.2 (sure_any _ _)).mono ?_
              rintro e A9 ⟨rfl, h9⟩
              rw [h9]
              clear h9)
           | (gi_at_builtin
              refine wpListIn_append_own_at _ rfl _ _ 32 rfl W3.heap.size 3 j0 (.int .i64 0) 1 8 Tryz.underlying32 hj hy0 hy1 hy2 rfl (by decide) _ _ _ rfl ((unhide HLO).alloc _) ⟨A4.heap.size, 0, none⟩ 1 1 [.int .i64 qid] rfl rfl (cell_one_new _ _ _) (ints_oneCell .i64 [qid]) ?q10True ?q20True ?q30True ?_
              rotate_left 3
              intro v' w9 hown9 hgrow9 hnil9 hat9
              obtain ⟨va9, vc9, hv9⟩ : ∃ va9 vc9, v' = .slice va9 (l.length + 1) vc9 := (by
                rcases hown9.2 with ⟨e, e'⟩ | ⟨g, cap, cur, e, _⟩
                · omega
                · exact ⟨_, _, e⟩)
              subst hv9
              have hbo : ∀ k, (Value.slice va l.length vc).ownBlock = some k → W3.heap.size ≤ k := fun k e => (row_ty (unhide HLO) e).2.2
              have HAPP := hide ((unhide HL4).app hblN hlpN hbllp (unhide HLX) hbo hown9 hgrow9)
              have hx9 : Bx w9 w5.heap.size #[.slice va l.length vc] 32 := (hgrow9.block _ (by simp; omega) (fun e => by have := hbo _ e.symm; omega)).trans ((Below.heap_alloc _ _ _ dl).trans (unhide HLX))
              have h0 := hx9.cell 0 rfl
              have hf := hx9.free 0
              have hl9 := hx9.lt
              clear hown9 hgrow9 hnil9 hat9 hx9 hbo))
         case q10True => unfold maxLen; omega
         case q20True => omega
         case q30True => (have hsz := (unhide HL4).size; first | omega | (simp; omega))
         have hE := unhide HAPP
         have e7 : { rb with state := if (none : Option Code).isNone then LoopState.ready else LoopState.done, pending := none } = rc := unhide HRB
         refine ⟨_, _, run_endRound none hE.loop, rfl, ?_⟩
         rw [e7]
         exact hE.put hlpN hbllp
     · have hfin : (if (vd (qid + 1) == 0 || vd (qid + 1) == sureP true) = true then l ++ [qid] else l) = l := by rw [hvv]; rfl
       rw [hfin]
       rw [hvv] at HSQ
       clear hfin hvv
       have hlp := hL.loop
       rw [← unhide HRC] at hlp
       have hlp1 := hL1.loop
       rw [← unhide HRC, ← hA1] at hlp1
       have HLP := hide hlp
       have HLP1 := hide hlp1
       have HA1 := hide hA1
       clear hlp hlp1 hA1
       refine yield_round (W₁ := (((((((A0.setCell ⟨A.heap.size, 0, none⟩ (.int .i64 (qid + 1))).setCell ⟨A.heap.size, 1, none⟩ (.int .i64 qn)).setCell ⟨A.heap.size, 2, none⟩ (.string qt)).setCell ⟨A.heap.size, 3, none⟩ (.slice qpa qa qb)).setCell ⟨A.heap.size, 4, none⟩ (.slice qna qc qd)).setCell ⟨A.heap.size, 5, none⟩ (.slice qma qx qf)).setCell ⟨A.heap.size, 6, none⟩ (.int .i64 qid))) hfn (unhide HLP) rfl { tmps := (rc.tmps.setIfInBounds 41 (.agg #[.int .i64 (qid + 1), .int .i64 qn, .string qt, .slice qpa qa qb, .slice qna qc qd, .slice qma qx qf, .int .i64 qid])).setIfInBounds 14 (.pointer (some ⟨A.heap.size, 0, none⟩)), defers := [] } (unhide HLP1) ?_ ?_
       · intro K hK
         rw [← unhide HTM] at hK
         clear HLP HLP1 HRC HTM HA1 HSQ
         simp only [List.setIfInBounds_toArray, List.set_cons_succ, List.set_cons_zero] at hK
         gi_wp2
         exact hK
       · have hrb : { (recOf fn _ _ _ _ _ .busy none : Loop) with state := .ready, pending := none } = rc := unhide HRC
         generalize recOf fn _ _ _ _ _ .busy none = rb at hrb ⊢
         rw [← unhide HTM]
         simp only [List.setIfInBounds_toArray, List.set_cons_succ, List.set_cons_zero]
         clear HLP HLP1 HRC HTM
         rw [unhide HA1]
         obtain ⟨A2, hA2⟩ : ∃ A2, A1.putObj (w8.heap.size + 1) (.loop rb) = A2 := ⟨_, rfl⟩
         have hL2 : LSt W3 W3.heap.size w5.heap.size (w8.heap.size + 1) rb l A2 := by rw [← hA2]; exact hL1.put hlpN hbllp
         have hpx2 : Bx A2 A.heap.size #[.int .i64 (qid + 1), .int .i64 qn, .string qt, .slice qpa qa qb, .slice qna qc qd, .slice qma qx qf, .int .i64 qid] 38 := by rw [← hA2]; exact (World.putObj_heap_other (by have := hL.size; omega)).trans hpx
         rw [hA2]
         have HL2 := hide hL2
         have HPX2 := hide hpx2
         have s0 := (unhide HSB A2 rb l hL2).cell 0 rfl
         have sl := (unhide HSB A2 rb l hL2).lt
         obtain ⟨p0, p1, p2, p3, p4, p5, p6⟩ := cells7 hpx2
         have pl := hpx2.lt
         have HRB := hide hrb
         clear hA2 hL2 hpx2 hrb c0 c1 c2 c3 c4 c5 c6 f0 f1 f2 f3 f4 f5 f6 l0
         gi_wp2_with (first
           | (refine ⟨trivial, ?_⟩
              gi_at_call 21
              refine (callsIn_wide.2 (unhide HSQ A2)).mono ?_
              rintro e A3 ⟨rfl, hb3⟩
              have hL3 := (unhide HL2).below hblN hlpN hb3
              have hpx3 := (unhide HPX2).below hb3 (unhide HPX2).lt
              have HL3 := hide hL3
              have HPX3 := hide hpx3
              have y0 := (unhide HYB A3 rb l hL3).cell 0 rfl
              have yl := (unhide HYB A3 rb l hL3).lt
              obtain ⟨u0, u1, u2, u3, u4, u5, u6⟩ := cells7 hpx3
              have ul := hpx3.lt
              clear s0 sl p0 p1 p2 p3 p4 p5 p6 pl hb3 hL3 hpx3)
           | (refine ⟨trivial, ?_⟩
              gi_at_call 13
              refine (callsIn_wide.2 (sure_any _ _)).mono ?_
              rintro e A9 ⟨rfl, h9⟩
              rw [h9]
              clear h9))
         have hE := unhide HL3
         have e7 : { rb with state := if (none : Option Code).isNone then LoopState.ready else LoopState.done, pending := none } = rc := unhide HRB
         refine ⟨_, _, run_endRound none hE.loop, rfl, ?_⟩
         rw [e7]
         exact hE.put hlpN hbllp
     · have hfin : (if (vd (qid + 1) == 0 || vd (qid + 1) == sureP true) = true then l ++ [qid] else l) = l ++ [qid] := by rw [hvv]; rfl
       rw [hfin]
       rw [hvv] at HSQ
       clear hfin hvv
       have hlp := hL.loop
       rw [← unhide HRC] at hlp
       have hlp1 := hL1.loop
       rw [← unhide HRC, ← hA1] at hlp1
       have HLP := hide hlp
       have HLP1 := hide hlp1
       have HA1 := hide hA1
       clear hlp hlp1 hA1
       refine yield_round (W₁ := (((((((A0.setCell ⟨A.heap.size, 0, none⟩ (.int .i64 (qid + 1))).setCell ⟨A.heap.size, 1, none⟩ (.int .i64 qn)).setCell ⟨A.heap.size, 2, none⟩ (.string qt)).setCell ⟨A.heap.size, 3, none⟩ (.slice qpa qa qb)).setCell ⟨A.heap.size, 4, none⟩ (.slice qna qc qd)).setCell ⟨A.heap.size, 5, none⟩ (.slice qma qx qf)).setCell ⟨A.heap.size, 6, none⟩ (.int .i64 qid))) hfn (unhide HLP) rfl { tmps := (rc.tmps.setIfInBounds 41 (.agg #[.int .i64 (qid + 1), .int .i64 qn, .string qt, .slice qpa qa qb, .slice qna qc qd, .slice qma qx qf, .int .i64 qid])).setIfInBounds 14 (.pointer (some ⟨A.heap.size, 0, none⟩)), defers := [] } (unhide HLP1) ?_ ?_
       · intro K hK
         rw [← unhide HTM] at hK
         clear HLP HLP1 HRC HTM HA1 HSQ
         simp only [List.setIfInBounds_toArray, List.set_cons_succ, List.set_cons_zero] at hK
         gi_wp2
         exact hK
       · have hrb : { (recOf fn _ _ _ _ _ .busy none : Loop) with state := .ready, pending := none } = rc := unhide HRC
         generalize recOf fn _ _ _ _ _ .busy none = rb at hrb ⊢
         rw [← unhide HTM]
         simp only [List.setIfInBounds_toArray, List.set_cons_succ, List.set_cons_zero]
         clear HLP HLP1 HRC HTM
         rw [unhide HA1]
         obtain ⟨A2, hA2⟩ : ∃ A2, A1.putObj (w8.heap.size + 1) (.loop rb) = A2 := ⟨_, rfl⟩
         have hL2 : LSt W3 W3.heap.size w5.heap.size (w8.heap.size + 1) rb l A2 := by rw [← hA2]; exact hL1.put hlpN hbllp
         have hpx2 : Bx A2 A.heap.size #[.int .i64 (qid + 1), .int .i64 qn, .string qt, .slice qpa qa qb, .slice qna qc qd, .slice qma qx qf, .int .i64 qid] 38 := by rw [← hA2]; exact (World.putObj_heap_other (by have := hL.size; omega)).trans hpx
         rw [hA2]
         have HL2 := hide hL2
         have HPX2 := hide hpx2
         have s0 := (unhide HSB A2 rb l hL2).cell 0 rfl
         have sl := (unhide HSB A2 rb l hL2).lt
         obtain ⟨p0, p1, p2, p3, p4, p5, p6⟩ := cells7 hpx2
         have pl := hpx2.lt
         have HRB := hide hrb
         clear hA2 hL2 hpx2 hrb c0 c1 c2 c3 c4 c5 c6 f0 f1 f2 f3 f4 f5 f6 l0
         gi_wp2_with (first
           | (refine ⟨trivial, ?_⟩
              gi_at_call 21
              refine (callsIn_wide.2 (unhide HSQ A2)).mono ?_
              rintro e A3 ⟨rfl, hb3⟩
              have hL3 := (unhide HL2).below hblN hlpN hb3
              have hpx3 := (unhide HPX2).below hb3 (unhide HPX2).lt
              have HL3 := hide hL3
              have HPX3 := hide hpx3
              have y0 := (unhide HYB A3 rb l hL3).cell 0 rfl
              have yl := (unhide HYB A3 rb l hL3).lt
              obtain ⟨u0, u1, u2, u3, u4, u5, u6⟩ := cells7 hpx3
              have ul := hpx3.lt
              obtain ⟨lv, hlx, hlo⟩ := hL3.left
              obtain ⟨va, vc, hlv⟩ : ∃ va vc, lv = .slice va l.length vc := (by
                rcases hlo.2 with ⟨e, e'⟩ | ⟨g, cap, cur, e, _⟩
                · exact ⟨none, 0, by rw [e, e']⟩
                · exact ⟨_, _, e⟩)
              subst hlv
              have HLX := hide hlx
              have HLO := hide hlo
              have d0 := hlx.cell 0 rfl
              have df := hlx.free 0
              have dl := hlx.lt
              clear hlx hlo
              clear s0 sl p0 p1 p2 p3 p4 p5 p6 pl hb3 hL3 hpx3)
           | (refine ⟨trivial, ?_⟩
              gi_at_call 13
              refine (callsIn_wide.2 (sure_any _ _)).mono ?_
              rintro e A9 ⟨rfl, h9⟩
              rw [h9]
              clear h9)
           | (gi_at_builtin
              refine wpListIn_append_own_at _ rfl _ _ 32 rfl W3.heap.size 3 j0 (.int .i64 0) 1 8 Tryz.underlying32 hj hy0 hy1 hy2 rfl (by decide) _ _ _ rfl ((unhide HLO).alloc _) ⟨A3.heap.size, 0, none⟩ 1 1 [.int .i64 qid] rfl rfl (cell_one_new _ _ _) (ints_oneCell .i64 [qid]) ?q12True ?q22True ?q32True ?_
              rotate_left 3
              intro v' w9 hown9 hgrow9 hnil9 hat9
              obtain ⟨va9, vc9, hv9⟩ : ∃ va9 vc9, v' = .slice va9 (l.length + 1) vc9 := (by
                rcases hown9.2 with ⟨e, e'⟩ | ⟨g, cap, cur, e, _⟩
                · omega
                · exact ⟨_, _, e⟩)
              subst hv9
              have hbo : ∀ k, (Value.slice va l.length vc).ownBlock = some k → W3.heap.size ≤ k := fun k e => (row_ty (unhide HLO) e).2.2
              have HAPP := hide ((unhide HL3).app hblN hlpN hbllp (unhide HLX) hbo hown9 hgrow9)
              have hx9 : Bx w9 w5.heap.size #[.slice va l.length vc] 32 := (hgrow9.block _ (by simp; omega) (fun e => by have := hbo _ e.symm; omega)).trans ((Below.heap_alloc _ _ _ dl).trans (unhide HLX))
              have h0 := hx9.cell 0 rfl
              have hf := hx9.free 0
              have hl9 := hx9.lt
              clear hown9 hgrow9 hnil9 hat9 hx9 hbo))
         case q12True => unfold maxLen; omega
         case q22True => omega
         case q32True => (have hsz := (unhide HL3).size; first | omega | (simp; omega))
         have hE := unhide HAPP
         have e7 : { rb with state := if (none : Option Code).isNone then LoopState.ready else LoopState.done, pending := none } = rc := unhide HRB
         refine ⟨_, _, run_endRound none hE.loop, rfl, ?_⟩
         rw [e7]
         exact hE.put hlpN hbllp
    | false =>
     clear HIQ0
     rcases hvv3 with hvv | hvv | hvv
     · have hfin : (if (vd (qid + 1) == 0 || vd (qid + 1) == sureP false) = true then l ++ [qid] else l) = l ++ [qid] := by rw [hvv]; rfl
       rw [hfin]
       rw [hvv] at HSQ
       clear hfin hvv
       have hlp := hL.loop
       rw [← unhide HRC] at hlp
       have hlp1 := hL1.loop
       rw [← unhide HRC, ← hA1] at hlp1
       have HLP := hide hlp
       have HLP1 := hide hlp1
       have HA1 := hide hA1
       clear hlp hlp1 hA1
       refine yield_round (W₁ := (((((((A0.setCell ⟨A.heap.size, 0, none⟩ (.int .i64 (qid + 1))).setCell ⟨A.heap.size, 1, none⟩ (.int .i64 qn)).setCell ⟨A.heap.size, 2, none⟩ (.string qt)).setCell ⟨A.heap.size, 3, none⟩ (.slice qpa qa qb)).setCell ⟨A.heap.size, 4, none⟩ (.slice qna qc qd)).setCell ⟨A.heap.size, 5, none⟩ (.slice qma qx qf)).setCell ⟨A.heap.size, 6, none⟩ (.int .i64 qid))) hfn (unhide HLP) rfl { tmps := (rc.tmps.setIfInBounds 41 (.agg #[.int .i64 (qid + 1), .int .i64 qn, .string qt, .slice qpa qa qb, .slice qna qc qd, .slice qma qx qf, .int .i64 qid])).setIfInBounds 14 (.pointer (some ⟨A.heap.size, 0, none⟩)), defers := [] } (unhide HLP1) ?_ ?_
       · intro K hK
         rw [← unhide HTM] at hK
         clear HLP HLP1 HRC HTM HA1 HSQ
         simp only [List.setIfInBounds_toArray, List.set_cons_succ, List.set_cons_zero] at hK
         gi_wp2
         exact hK
       · have hrb : { (recOf fn _ _ _ _ _ .busy none : Loop) with state := .ready, pending := none } = rc := unhide HRC
         generalize recOf fn _ _ _ _ _ .busy none = rb at hrb ⊢
         rw [← unhide HTM]
         simp only [List.setIfInBounds_toArray, List.set_cons_succ, List.set_cons_zero]
         clear HLP HLP1 HRC HTM
         rw [unhide HA1]
         obtain ⟨A2, hA2⟩ : ∃ A2, A1.putObj (w8.heap.size + 1) (.loop rb) = A2 := ⟨_, rfl⟩
         have hL2 : LSt W3 W3.heap.size w5.heap.size (w8.heap.size + 1) rb l A2 := by rw [← hA2]; exact hL1.put hlpN hbllp
         have hpx2 : Bx A2 A.heap.size #[.int .i64 (qid + 1), .int .i64 qn, .string qt, .slice qpa qa qb, .slice qna qc qd, .slice qma qx qf, .int .i64 qid] 38 := by rw [← hA2]; exact (World.putObj_heap_other (by have := hL.size; omega)).trans hpx
         rw [hA2]
         have HL2 := hide hL2
         have HPX2 := hide hpx2
         have s0 := (unhide HSB A2 rb l hL2).cell 0 rfl
         have sl := (unhide HSB A2 rb l hL2).lt
         obtain ⟨p0, p1, p2, p3, p4, p5, p6⟩ := cells7 hpx2
         have pl := hpx2.lt
         have HRB := hide hrb
         clear hA2 hL2 hpx2 hrb c0 c1 c2 c3 c4 c5 c6 f0 f1 f2 f3 f4 f5 f6 l0
         gi_wp2_with (first
           | (refine ⟨trivial, ?_⟩
              gi_at_call 21
              refine (callsIn_wide.2 (unhide HSQ A2)).mono ?_
              rintro e A3 ⟨rfl, hb3⟩
              have hL3 := (unhide HL2).below hblN hlpN hb3
              have hpx3 := (unhide HPX2).below hb3 (unhide HPX2).lt
              have HL3 := hide hL3
              have HPX3 := hide hpx3
              have y0 := (unhide HYB A3 rb l hL3).cell 0 rfl
              have yl := (unhide HYB A3 rb l hL3).lt
              obtain ⟨u0, u1, u2, u3, u4, u5, u6⟩ := cells7 hpx3
              have ul := hpx3.lt
              obtain ⟨lv, hlx, hlo⟩ := hL3.left
              obtain ⟨va, vc, hlv⟩ : ∃ va vc, lv = .slice va l.length vc := (by
                rcases hlo.2 with ⟨e, e'⟩ | ⟨g, cap, cur, e, _⟩
                · exact ⟨none, 0, by rw [e, e']⟩
                · exact ⟨_, _, e⟩)
              subst hlv
              have HLX := hide hlx
              have HLO := hide hlo
              have d0 := hlx.cell 0 rfl
              have df := hlx.free 0
              have dl := hlx.lt
              clear hlx hlo
              clear s0 sl p0 p1 p2 p3 p4 p5 p6 pl hb3 hL3 hpx3)
           | (refine ⟨trivial, ?_⟩
              gi_at_call 13
              refine (callsIn_wide.2 (sure_any _ _)).mono ?_
              rintro e A9 ⟨rfl, h9⟩
              rw [h9]
              clear h9)
           | (gi_at_builtin
              refine wpListIn_append_own_at _ rfl _ _ 32 rfl W3.heap.size 3 j0 (.int .i64 0) 1 8 Tryz.underlying32 hj hy0 hy1 hy2 rfl (by decide) _ _ _ rfl ((unhide HLO).alloc _) ⟨A3.heap.size, 0, none⟩ 1 1 [.int .i64 qid] rfl rfl (cell_one_new _ _ _) (ints_oneCell .i64 [qid]) ?q10False ?q20False ?q30False ?_
              rotate_left 3
              intro v' w9 hown9 hgrow9 hnil9 hat9
              obtain ⟨va9, vc9, hv9⟩ : ∃ va9 vc9, v' = .slice va9 (l.length + 1) vc9 := (by
                rcases hown9.2 with ⟨e, e'⟩ | ⟨g, cap, cur, e, _⟩
                · omega
                · exact ⟨_, _, e⟩)
              subst hv9
              have hbo : ∀ k, (Value.slice va l.length vc).ownBlock = some k → W3.heap.size ≤ k := fun k e => (row_ty (unhide HLO) e).2.2
              have HAPP := hide ((unhide HL3).app hblN hlpN hbllp (unhide HLX) hbo hown9 hgrow9)
              have hx9 : Bx w9 w5.heap.size #[.slice va l.length vc] 32 := (hgrow9.block _ (by simp; omega) (fun e => by have := hbo _ e.symm; omega)).trans ((Below.heap_alloc _ _ _ dl).trans (unhide HLX))
              have h0 := hx9.cell 0 rfl
              have hf := hx9.free 0
              have hl9 := hx9.lt
              clear hown9 hgrow9 hnil9 hat9 hx9 hbo)
           | (refine ⟨trivial, ?_⟩))
         case q10False => unfold maxLen; omega
         case q20False => omega
         case q30False => (have hsz := (unhide HL3).size; first | omega | (simp; omega))
         have hE := unhide HAPP
         have e7 : { rb with state := if (none : Option Code).isNone then LoopState.ready else LoopState.done, pending := none } = rc := unhide HRB
         refine ⟨_, _, run_endRound none hE.loop, rfl, ?_⟩
         rw [e7]
         exact hE.put hlpN hbllp
     · have hfin : (if (vd (qid + 1) == 0 || vd (qid + 1) == sureP false) = true then l ++ [qid] else l) = l ++ [qid] := by rw [hvv]; rfl
       rw [hfin]
       rw [hvv] at HSQ
       clear hfin hvv
       have hlp := hL.loop
       rw [← unhide HRC] at hlp
       have hlp1 := hL1.loop
       rw [← unhide HRC, ← hA1] at hlp1
       have HLP := hide hlp
       have HLP1 := hide hlp1
       have HA1 := hide hA1
       clear hlp hlp1 hA1
       refine yield_round (W₁ := (((((((A0.setCell ⟨A.heap.size, 0, none⟩ (.int .i64 (qid + 1))).setCell ⟨A.heap.size, 1, none⟩ (.int .i64 qn)).setCell ⟨A.heap.size, 2, none⟩ (.string qt)).setCell ⟨A.heap.size, 3, none⟩ (.slice qpa qa qb)).setCell ⟨A.heap.size, 4, none⟩ (.slice qna qc qd)).setCell ⟨A.heap.size, 5, none⟩ (.slice qma qx qf)).setCell ⟨A.heap.size, 6, none⟩ (.int .i64 qid))) hfn (unhide HLP) rfl { tmps := (rc.tmps.setIfInBounds 41 (.agg #[.int .i64 (qid + 1), .int .i64 qn, .string qt, .slice qpa qa qb, .slice qna qc qd, .slice qma qx qf, .int .i64 qid])).setIfInBounds 14 (.pointer (some ⟨A.heap.size, 0, none⟩)), defers := [] } (unhide HLP1) ?_ ?_
       · intro K hK
         rw [← unhide HTM] at hK
         clear HLP HLP1 HRC HTM HA1 HSQ
         simp only [List.setIfInBounds_toArray, List.set_cons_succ, List.set_cons_zero] at hK
         gi_wp2
         exact hK
       · have hrb : { (recOf fn _ _ _ _ _ .busy none : Loop) with state := .ready, pending := none } = rc := unhide HRC
         generalize recOf fn _ _ _ _ _ .busy none = rb at hrb ⊢
         rw [← unhide HTM]
         simp only [List.setIfInBounds_toArray, List.set_cons_succ, List.set_cons_zero]
         clear HLP HLP1 HRC HTM
         rw [unhide HA1]
         obtain ⟨A2, hA2⟩ : ∃ A2, A1.putObj (w8.heap.size + 1) (.loop rb) = A2 := ⟨_, rfl⟩
         have hL2 : LSt W3 W3.heap.size w5.heap.size (w8.heap.size + 1) rb l A2 := by rw [← hA2]; exact hL1.put hlpN hbllp
         have hpx2 : Bx A2 A.heap.size #[.int .i64 (qid + 1), .int .i64 qn, .string qt, .slice qpa qa qb, .slice qna qc qd, .slice qma qx qf, .int .i64 qid] 38 := by rw [← hA2]; exact (World.putObj_heap_other (by have := hL.size; omega)).trans hpx
         rw [hA2]
         have HL2 := hide hL2
         have HPX2 := hide hpx2
         have s0 := (unhide HSB A2 rb l hL2).cell 0 rfl
         have sl := (unhide HSB A2 rb l hL2).lt
         obtain ⟨p0, p1, p2, p3, p4, p5, p6⟩ := cells7 hpx2
         have pl := hpx2.lt
         have HRB := hide hrb
         clear hA2 hL2 hpx2 hrb c0 c1 c2 c3 c4 c5 c6 f0 f1 f2 f3 f4 f5 f6 l0
         gi_wp2_with (first
           | (refine ⟨trivial, ?_⟩
              gi_at_call 21
              refine (callsIn_wide.2 (unhide HSQ A2)).mono ?_
              rintro e A3 ⟨rfl, hb3⟩
              have hL3 := (unhide HL2).below hblN hlpN hb3
              have hpx3 := (unhide HPX2).below hb3 (unhide HPX2).lt
              have HL3 := hide hL3
              have HPX3 := hide hpx3
              have y0 := (unhide HYB A3 rb l hL3).cell 0 rfl
              have yl := (unhide HYB A3 rb l hL3).lt
              obtain ⟨u0, u1, u2, u3, u4, u5, u6⟩ := cells7 hpx3
              have ul := hpx3.lt
              obtain ⟨lv, hlx, hlo⟩ := hL3.left
              obtain ⟨va, vc, hlv⟩ : ∃ va vc, lv = .slice va l.length vc := (by
                rcases hlo.2 with ⟨e, e'⟩ | ⟨g, cap, cur, e, _⟩
                · exact ⟨none, 0, by rw [e, e']⟩
                · exact ⟨_, _, e⟩)
              subst hlv
              have HLX := hide hlx
              have HLO := hide hlo
              have d0 := hlx.cell 0 rfl
              have df := hlx.free 0
              have dl := hlx.lt
              clear hlx hlo
              clear s0 sl p0 p1 p2 p3 p4 p5 p6 pl hb3 hL3 hpx3)
           | (refine ⟨trivial, ?_⟩
              gi_at_call 13
              refine (callsIn_wide.2 (sure_any _ _)).mono ?_
              rintro e A9 ⟨rfl, h9⟩
              rw [h9]
              clear h9)
           | (gi_at_builtin
              refine wpListIn_append_own_at _ rfl _ _ 32 rfl W3.heap.size 3 j0 (.int .i64 0) 1 8 Tryz.underlying32 hj hy0 hy1 hy2 rfl (by decide) _ _ _ rfl ((unhide HLO).alloc _) ⟨A3.heap.size, 0, none⟩ 1 1 [.int .i64 qid] rfl rfl (cell_one_new _ _ _) (ints_oneCell .i64 [qid]) ?q11False ?q21False ?q31False ?_
              rotate_left 3
              intro v' w9 hown9 hgrow9 hnil9 hat9
              obtain ⟨va9, vc9, hv9⟩ : ∃ va9 vc9, v' = .slice va9 (l.length + 1) vc9 := (by
                rcases hown9.2 with ⟨e, e'⟩ | ⟨g, cap, cur, e, _⟩
                · omega
                · exact ⟨_, _, e⟩)
              subst hv9
              have hbo : ∀ k, (Value.slice va l.length vc).ownBlock = some k → W3.heap.size ≤ k := fun k e => (row_ty (unhide HLO) e).2.2
              have HAPP := hide ((unhide HL3).app hblN hlpN hbllp (unhide HLX) hbo hown9 hgrow9)
              have hx9 : Bx w9 w5.heap.size #[.slice va l.length vc] 32 := (hgrow9.block _ (by simp; omega) (fun e => by have := hbo _ e.symm; omega)).trans ((Below.heap_alloc _ _ _ dl).trans (unhide HLX))
              have h0 := hx9.cell 0 rfl
              have hf := hx9.free 0
              have hl9 := hx9.lt
              clear hown9 hgrow9 hnil9 hat9 hx9 hbo))
         case q11False => unfold maxLen; omega
         case q21False => omega
         case q31False => (have hsz := (unhide HL3).size; first | omega | (simp; omega))
         have hE := unhide HAPP
         have e7 : { rb with state := if (none : Option Code).isNone then LoopState.ready else LoopState.done, pending := none } = rc := unhide HRB
         refine ⟨_, _, run_endRound none hE.loop, rfl, ?_⟩
         rw [e7]
         exact hE.put hlpN hbllp
     · have hfin : (if (vd (qid + 1) == 0 || vd (qid + 1) == sureP false) = true then l ++ [qid] else l) = l := by rw [hvv]; rfl
       rw [hfin]
       rw [hvv] at HSQ
       clear hfin hvv
       have hlp := hL.loop
       rw [← unhide HRC] at hlp
       have hlp1 := hL1.loop
       rw [← unhide HRC, ← hA1] at hlp1
       have HLP := hide hlp
       have HLP1 := hide hlp1
       have HA1 := hide hA1
       clear hlp hlp1 hA1
       refine yield_round (W₁ := (((((((A0.setCell ⟨A.heap.size, 0, none⟩ (.int .i64 (qid + 1))).setCell ⟨A.heap.size, 1, none⟩ (.int .i64 qn)).setCell ⟨A.heap.size, 2, none⟩ (.string qt)).setCell ⟨A.heap.size, 3, none⟩ (.slice qpa qa qb)).setCell ⟨A.heap.size, 4, none⟩ (.slice qna qc qd)).setCell ⟨A.heap.size, 5, none⟩ (.slice qma qx qf)).setCell ⟨A.heap.size, 6, none⟩ (.int .i64 qid))) hfn (unhide HLP) rfl { tmps := (rc.tmps.setIfInBounds 41 (.agg #[.int .i64 (qid + 1), .int .i64 qn, .string qt, .slice qpa qa qb, .slice qna qc qd, .slice qma qx qf, .int .i64 qid])).setIfInBounds 14 (.pointer (some ⟨A.heap.size, 0, none⟩)), defers := [] } (unhide HLP1) ?_ ?_
       · intro K hK
         rw [← unhide HTM] at hK
         clear HLP HLP1 HRC HTM HA1 HSQ
         simp only [List.setIfInBounds_toArray, List.set_cons_succ, List.set_cons_zero] at hK
         gi_wp2
         exact hK
       · have hrb : { (recOf fn _ _ _ _ _ .busy none : Loop) with state := .ready, pending := none } = rc := unhide HRC
         generalize recOf fn _ _ _ _ _ .busy none = rb at hrb ⊢
         rw [← unhide HTM]
         simp only [List.setIfInBounds_toArray, List.set_cons_succ, List.set_cons_zero]
         clear HLP HLP1 HRC HTM
         rw [unhide HA1]
         obtain ⟨A2, hA2⟩ : ∃ A2, A1.putObj (w8.heap.size + 1) (.loop rb) = A2 := ⟨_, rfl⟩
         have hL2 : LSt W3 W3.heap.size w5.heap.size (w8.heap.size + 1) rb l A2 := by rw [← hA2]; exact hL1.put hlpN hbllp
         have hpx2 : Bx A2 A.heap.size #[.int .i64 (qid + 1), .int .i64 qn, .string qt, .slice qpa qa qb, .slice qna qc qd, .slice qma qx qf, .int .i64 qid] 38 := by rw [← hA2]; exact (World.putObj_heap_other (by have := hL.size; omega)).trans hpx
         rw [hA2]
         have HL2 := hide hL2
         have HPX2 := hide hpx2
         have s0 := (unhide HSB A2 rb l hL2).cell 0 rfl
         have sl := (unhide HSB A2 rb l hL2).lt
         obtain ⟨p0, p1, p2, p3, p4, p5, p6⟩ := cells7 hpx2
         have pl := hpx2.lt
         have HRB := hide hrb
         clear hA2 hL2 hpx2 hrb c0 c1 c2 c3 c4 c5 c6 f0 f1 f2 f3 f4 f5 f6 l0
         gi_wp2_with (first
           | (refine ⟨trivial, ?_⟩
              gi_at_call 21
              refine (callsIn_wide.2 (unhide HSQ A2)).mono ?_
              rintro e A3 ⟨rfl, hb3⟩
              have hL3 := (unhide HL2).below hblN hlpN hb3
              have hpx3 := (unhide HPX2).below hb3 (unhide HPX2).lt
              have HL3 := hide hL3
              have HPX3 := hide hpx3
              have y0 := (unhide HYB A3 rb l hL3).cell 0 rfl
              have yl := (unhide HYB A3 rb l hL3).lt
              obtain ⟨u0, u1, u2, u3, u4, u5, u6⟩ := cells7 hpx3
              have ul := hpx3.lt
              clear s0 sl p0 p1 p2 p3 p4 p5 p6 pl hb3 hL3 hpx3)
           | (refine ⟨trivial, ?_⟩
              gi_at_call 13
              refine (callsIn_wide.2 (sure_any _ _)).mono ?_
              rintro e A9 ⟨rfl, h9⟩
              rw [h9]
              clear h9))
         have hE := unhide HL3
         have e7 : { rb with state := if (none : Option Code).isNone then LoopState.ready else LoopState.done, pending := none } = rc := unhide HRB
         refine ⟨_, _, run_endRound none hE.loop, rfl, ?_⟩
         rw [e7]
         exact hE.put hlpN hbllp
  have hkept : ∀ j p, ps[j]? = some p → (if (vd (p + 1) == 0 || vd (p + 1) == sureP yes) = true then keptP vd yes (ps.take j) ++ [p] else keptP vd yes (ps.take j)) = keptP vd yes (ps.take (j + 1)) := fun j p h => by
    rw [List.take_add_one, h, Option.toList, kept_snoc]
  have hkl : ∀ j, (keptP vd yes (ps.take j)).length ≤ 1000 := fun j => Nat.le_trans (List.length_filter_le _ _) (by rw [List.length_take]; have := unhide HLEN; omega)
  have hit : CallsIn Fence.wide 8 Tryz.prog 27 #[.func (.yield (w8.heap.size + 1)) #[] #[], .pointer (some ⟨b1, 0, none⟩), .pointer (some ⟨w6.heap.size, 0, none⟩)] W3 fun e W' => (∃ v, e = .returned v) ∧ LSt W3 W3.heap.size w5.heap.size (w8.heap.size + 1) rc (keptP vd yes ps) W' := by
    have hx1 := (unhide HBB1).below hB3 (unhide HBB1).lt
    rcases unhide HPS with ⟨hk16, rfl⟩ | ⟨hk16, hpp⟩
    · have hr := hround [] W3 ⟨ck, cn, ct, cpa, ca, cb, cna, cc, cd, cma, cx, cf, cid⟩ hls0 (by simp) (by rw [unhide HCI]; simp) (by
        obtain ⟨n0, kp, e1, e2, e3, e4⟩ := unhide HTT (i : Int) (by simp)
        have : n0 = i := by omega
        subst this
        rw [unhide HKI] at e2
        cases e2
        have := unhide HCK
        have h2 := unhide HCI
        dsimp only at this h2 ⊢
        omega)
      have h0 := hkept 0 (i : Int) rfl
      have hc : cid = (i : Int) := unhide HCI
      subst hc
      have e2 : keptP vd yes (([(i : Int)] : List Int).take 0) = [] := rfl
      rw [e2] at h0
      dsimp only at hr
      rw [h0] at hr
      exact parts_one 8 (by omega) _ b1 _ ⟨ck, cn, ct, cpa, ca, cb, cna, cc, cd, cma, cx, cf, (i : Int)⟩ W3 _ (by have h1 := unhide HCK; dsimp only at h1 ⊢; rw [h1]; exact hk16) hx1 hr
    · have hfin := parts_union 8 (by omega) (w8.heap.size + 1) b1 w6.heap.size ⟨ck, cn, ct, cpa, ca, cb, cna, cc, cd, cma, cx, cf, cid⟩ ps (some ⟨M, 0, none⟩) W3 (fun j A => LSt W3 W3.heap.size w5.heap.size (w8.heap.size + 1) rc (keptP vd yes (ps.take j)) A) (fun j q => ∃ p, ps[j]? = some p ∧ q.id = p ∧ q.k = p + 1) ((unhide HCK).trans hk16) ((unhide HCA).trans (by rw [hpp])) (by have := unhide HLEN; omega) ?hM ?hP ?hY hls0
      · rw [List.take_length] at hfin
        exact hfin
      case hM =>
        intro j A hj
        have hb1l := (unhide HBB1).lt
        have hz3 := unhide HZ3
        have hz6 := unhide HZ6
        have hrow := unhide HROW
        rw [hpp] at hrow
        have n1 : b1 ≠ w5.heap.size := fun e => by
          have h1 : w8.heap[b1]? = _ := unhide HBB1
          have h2 : w8.heap[w5.heap.size]? = _ := (unhide HX6).below hb8 (by omega)
          rw [e, h2] at h1
          simp at h1
        refine ⟨(hj.keep b1 (by omega) n1 (by omega)).trans hx1, (hj.keep _ (by omega) (by omega) (by omega)).trans ((unhide HBB2).below hB3 (unhide HBB2).lt), ?_⟩
        refine (hrow.below hB3).keep fun k hk ht => hj.keep k hk (fun e => ?_) (fun e => ?_)
        · subst e
          have h1 : W3.heap[w5.heap.size]? = _ := hx63
          simp [tyOf, h1] at ht
        · subst e
          simp [tyOf, hl3] at ht
      case hP =>
        intro j A p hj hp
        obtain ⟨n0, kp, e1, e2, e3, e4⟩ := unhide HTT p (List.mem_of_getElem? hp)
        have hbA : Below W.heap.size W A := by
          have h6 := unhide HBW6
          have hs6 := h6.size
          have hz6 := unhide HZ6
          have hz3 := unhide HZ3
          have hb1s := (unhide HB1).size
          have h5 := (unhide HB6).size
          have hW3 : Below W.heap.size W W3 := h6.trans (hB63.mono hs6)
          exact ⟨hj.os.trans hW3.os, hj.tape.trans hW3.tape, hj.output.trans hW3.output, Nat.le_trans hW3.size hj.size, fun k hk => (hj.keep k (by omega) (by omega) (by omega)).trans (hW3.block k hk)⟩
        subst e1
        refine (unhide HPA n0 n0 kp rfl e2 e3 A hbA).mono fun e A' hq => ?_
        obtain ⟨q, he, h1, h2, h3, h4, h5⟩ := hq
        exact ⟨q, he, ⟨_, hp, h3, h1.trans e4⟩, hj.below hblN hlpN h5⟩
      case hY =>
        intro j A q hj hq hjl
        obtain ⟨p, hp, h1, h2⟩ := hq
        have hr := hround (keptP vd yes (ps.take j)) A q hj (hkl j) (by rw [h1]; exact List.mem_of_getElem? hp) (by rw [h1]; exact h2)
        rw [h1, hkept j p hp] at hr
        exact hr
  refine hit.mono ?_
  clear hround hit hkept hkl
  rintro e W' ⟨⟨u, rfl⟩, hE⟩
  have hpe : rc.pending = none := by rw [← hrc]; rfl
  have hne : rc.state ≠ .busy := by rw [← hrc]; simp [recOf]
  clear hrc
  have hend := run_endLoop (P := Tryz.prog) hE.loop hne
  rw [hpe] at hend
  refine ⟨none, _, hend, ?_⟩
  obtain ⟨W7, hW7⟩ : ∃ W7, W'.putObj (w8.heap.size + 1) (.loop { rc with state := .exhausted, pending := none }) = W7 := ⟨_, rfl⟩
  have hE7 : LSt W3 W3.heap.size w5.heap.size (w8.heap.size + 1) { rc with state := .exhausted, pending := none } (keptP vd yes ps) W7 := by rw [← hW7]; exact hE.put hlpN hbllp
  rw [hW7]
  clear hW7 hend hE
  dsimp only
  have h6 := unhide HBW6
  have hs6 := h6.size
  have hz6 := unhide HZ6
  have hz3 := unhide HZ3
  have hb1s := (unhide HB1).size
  have h5 := (unhide HB6).size
  have hk5 := unhide HK5
  have hk5l := hk5.e.lt
  have hW3 : Below W.heap.size W W3 := h6.trans (hB63.mono hs6)
  have hbW7 : Below W.heap.size W W7 := ⟨hE7.os.trans hW3.os, hE7.tape.trans hW3.tape, hE7.output.trans hW3.output, Nat.le_trans hW3.size hE7.size, fun k hk => (hE7.keep k (by omega) (by omega) (by omega)).trans (hW3.block k hk)⟩
  have hkb7 : KB W tk tt ty yes W7 := ⟨hbW7, (hE7.keep _ (by omega) (by omega) (by omega)).trans (hk5.t.below hb53 hk5.t.lt), (hE7.keep _ (by omega) (by omega) (by omega)).trans (hk5.y.below hb53 hk5.y.lt), (hE7.keep _ (by omega) (by omega) (by omega)).trans (hk5.r.below hb53 hk5.r.lt), (hE7.keep _ (by omega) (by omega) (by omega)).trans (hk5.e.below hb53 hk5.e.lt)⟩
  have hd7 : W7.heap[w8.heap.size]? = some (.deferred (some [])) := (hE7.keep _ (by omega) (by omega) (by omega)).trans hd3
  obtain ⟨lv, hlx, hlo⟩ := hE7.left
  have hlr := own_rowR (show W7.ownsRow W3.heap.size 3 1 lv (iv (keptP vd yes ps)).length (iv (keptP vd yes ps)) by rw [iv_len]; exact hlo)
  obtain ⟨va, vc, hlv⟩ : ∃ va vc, lv = .slice va (keptP vd yes ps).length vc := by
    rcases hlo.2 with ⟨e, e'⟩ | ⟨g, cap, cur, e, _⟩
    · exact ⟨none, 0, by rw [e, e']⟩
    · exact ⟨_, _, e⟩
  subst hlv
  have HUU := hide (unhide HU W7 va vc (unhide HAr W7 hbW7) hlr)
  have d0 := hlx.cell 0 rfl
  have dl := hlx.lt
  have HKB7 := hide hkb7
  have HD7 := hide hd7
  have hdl : w8.heap.size < W7.heap.size := (Array.getElem?_eq_some_iff.1 hd7).1
  have hWw8 : W.heap.size ≤ w8.heap.size := by omega
  clear h6 hz6 hz3 hk5 hk5l hW3 hbW7 hkb7 hd7 hlx hlo hlr hE7 hpe hne hls0 hx63 hl3 hd3 hB3 hB63 hb53 hb8
  gi_wp2
  go_wp2_with (first
    | (go_at_call 14
       refine (unhide HUU).mono ?_
       rintro e w9 ⟨rfl, hb9⟩
       have hkb := unhide HKB7
       have hkb9 : KB W tk tt ty yes w9 := ⟨hkb.b.trans (hb9.mono hkb.b.size), hkb.t.below hb9 hkb.t.lt, hkb.y.below hb9 hkb.y.lt, hkb.r.below hb9 hkb.r.lt, hkb.e.below hb9 hkb.e.lt⟩
       have r0 := hkb9.r.cell 0 rfl
       have r1 := hkb9.e.cell 0 rfl
       have g0 := hkb9.r.free 0
       have g1 := hkb9.e.free 0
       have l3 := hkb9.e.lt
       have HKB9 := hide hkb9
       have HD9 := hide ((hb9.block _ hdl).trans (unhide HD7))
       clear hb9 hkb hkb9 d0 dl))
  rw [Exit.noGoto_ret]
  obtain ⟨w10, hw10⟩ : ∃ w10, (w9.setCell ⟨W.heap.size + 1 + 1, 0, none⟩ (.int .i64 r)).setCell ⟨W.heap.size + 1 + 1 + 1, 0, none⟩ (.int .i64 0) = w10 := ⟨_, rfl⟩
  obtain ⟨z0, z1, zb, zl⟩ := (unhide HKB9).ret r 0 w10 hw10
  have hd10 : w10.heap[w8.heap.size]? = some (.deferred (some [])) := by
    have hz6 := unhide HZ6
    rw [← hw10]
    exact (Below.heap_setCell _ _ _ _ (by show w8.heap.size ≠ W.heap.size + 1 + 1 + 1; have := (unhide HK5).e.lt; omega)).trans ((Below.heap_setCell _ _ _ _ (by show w8.heap.size ≠ W.heap.size + 1 + 1; have := (unhide HK5).e.lt; omega)).trans (unhide HD9))
  rw [hw10]
  have zl2 : W.heap.size + 1 + 1 < w10.heap.size := by omega
  clear hw10 r0 r1 g0 g1
  refine ⟨by simp, .inl ⟨_, _, rfl, run_takeDeferred hd10, ?_⟩⟩
  obtain ⟨w11, hw11⟩ : ∃ w11, w10.putObj w8.heap.size (.deferred none) = w11 := ⟨_, rfl⟩
  have hl8 : W.heap.size + 1 + 1 + 1 < w8.heap.size := by
    have hz6 := unhide HZ6
    have h1 : W.heap.size + 3 < w5.heap.size := (unhide HK5).e.lt
    omega
  have hk8 : ∀ (k : Nat), k ≠ w8.heap.size → w11.heap[k]? = w10.heap[k]? := fun k hk => by rw [← hw11]; exact World.putObj_heap_other hk
  have z0' := (World.cell?_of_block (w := w10) (a := ⟨W.heap.size + 1 + 1, 0, none⟩) (hk8 (W.heap.size + 1 + 1) (by omega))).trans z0
  have z1' := (World.cell?_of_block (w := w10) (a := ⟨W.heap.size + 1 + 1 + 1, 0, none⟩) (hk8 (W.heap.size + 1 + 1 + 1) (by omega))).trans z1
  have hb11 : Below W.heap.size W w11 := by
    rw [← hw11]
    exact zb.trans ((Below.refl _ w10).grown (grownBy_putObj' w10 w8.heap.size _) zb.size (fun k e => by cases e; omega))
  rw [hw11]
  refine ⟨.tuple #[.int .i64 r, .int .i64 0], ?_, rfl, hb11⟩
  simp [results, Tryz.results4, go_sem, z0', z1']
end Go.Proofs.YticdaphajanbbaaGreatDoor
