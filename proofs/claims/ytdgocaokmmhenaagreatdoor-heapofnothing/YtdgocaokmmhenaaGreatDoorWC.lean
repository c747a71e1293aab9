/- Merged: N4, N5, N6. -/
import Derived.Deep.CutRange
import Derived.Deep.RegionWith
import Derived.LoopTactic
import Derived.Test.YtdgocaokmmhenaaGreatDoorWB
/- A text's runes: how many there are, and the one at a number. -/
namespace Go.Proofs.YtdgocaokmmhenaaGreatDoor
set_option linter.unusedSimpArgs false
set_option linter.unusedVariables false
set_option maxRecDepth 100000
set_option maxHeartbeats 2000000
open Go.RowKit Go.Shelf

theorem count_from (s : ByteArray) (m : Nat) (hm : Runes (gS s) s.size m) : ∀ f k, k ≤ m → s.size ≤ posn (gS s) s.size k + f → Lib.runeCountFrom s f (posn (gS s) s.size k) = m - k := by
  intro f
  induction f with
  | zero =>
    intro k hk h
    have hl := posn_le (gS s) s.size k
    have : ¬ k < m := fun h' => by have := hm.2 k h'; omega
    show 0 = m - k
    omega
  | succ f ih =>
    intro k hk h
    simp only [Lib.runeCountFrom]
    by_cases h1 : k < m
    · have l1 := hm.2 k h1
      have hp := step_pos (g := gS s) l1
      have sa : posn (gS s) s.size (k + 1) = posn (gS s) s.size k + stepN (gS s) s.size (posn (gS s) s.size k) := rfl
      rw [if_pos l1, (dec_eq s _ l1).2, ← sa, ih (k + 1) (by omega) (by omega)]
      omega
    · have e1 : k = m := by omega
      have l1 : posn (gS s) s.size k = s.size := by rw [e1]; exact hm.1
      rw [if_neg (by omega)]
      omega
theorem count_is (s : ByteArray) (m : Nat) (hm : Runes (gS s) s.size m) : Lib.runeCount s = m := by
  have := count_from s m hm s.size 0 (Nat.zero_le _) (Nat.le_add_left _ _)
  exact this
theorem runeAt_any (s : ByteArray) (hs : s.size ≤ 1048576) (n : Int) (m : Nat) (hm : Runes (gS s) s.size m) (k1 : Int) (t1 : ByteArray) (hr : (0 ≤ n ∧ n < m ∧ k1 = 4 ∧ t1 = Utf8.encode (rn s n.toNat)) ∨ (¬ (0 ≤ n ∧ n < m) ∧ k1 = 0 ∧ t1 = ⟨#[]⟩)) : Ret 56 #[.string s, .int .i64 n] (.agg (Vc k1 0 t1)) := by
  intro W
  obtain ⟨W2, hW2, b2, hb, hz⟩ := one_box W
  have B2 := hide b2
  have HB := hide hb
  have HZ := hide hz
  have HR := hide hr
  have HM := hide hm
  have hml := hm.le
  have HML := hide hml
  have hsz : (s.size : Int) ≤ 1048576 := by omega
  by_cases hlen : (s.size : Int) ≤ n
  · obtain ⟨d0, d1, d2, g0, g1, g2, lt'⟩ := b2.all
    have hq : k1 = 0 ∧ t1 = ⟨#[]⟩ := by
      rcases hr with ⟨_, h, _⟩ | ⟨_, h⟩
      · omega
      · exact h
    obtain ⟨rfl, rfl⟩ := hq
    clear hr hm b2 hb hz hs hml
    go_enter Tryz.func56, Tryz.ntmps56
    go_wp2
    exact ret_v Tryz.results56 rfl (unhide B2) rfl (unhide HB) (Nat.le_refl _) rfl
  · clear hr hm hml
    go_enter Tryz.func56, Tryz.ntmps56
    go_wp2
    go_loopw [5] (fun x wr => ∃ k : Nat, x = .int .i64 k ∧ k ≤ m ∧ (n < 0 ∨ (k : Int) ≤ n) ∧ wr.heap[W.heap.size + 1]? = some (.stringIter s (posn (gS s) s.size k)) ∧ Bv wr W.heap.size 0 0 ⟨#[]⟩ ∧ Below W.heap.size W wr) (fun x _ => m - (intOf x).toNat)
    case atStart => exact ⟨0, rfl, Nat.zero_le _, by omega, by have := World.iter_heap W2 s 0; rw [unhide HZ] at this; exact this, (unhide B2).below (below_iter W2 s 0) (by omega), Below.upp hb (below_iter W2 s 0)⟩
    case round =>
      obtain ⟨k, rfl, hk, hkn, hit, hbv, hbw⟩ := hrel
      have HBV := hide hbv
      have HBW := hide hbw
      have HKN := hide hkn
      have hz' := unhide HZ
      by_cases h1 : k < m
      · have l1 := (unhide HM).2 k h1
        obtain ⟨w1, hnx, hit1, hz1, hB1⟩ := next_at (P := Tryz.prog) wr (W.heap.size + 1) s _ hit l1
        have er := (dec_eq s _ l1).1
        have es := (dec_eq s _ l1).2
        have e1 : ((Utf8.decode s (posn (gS s) s.size k)).1 : Int) = rn s k := er
        rw [es] at hit1
        rw [e1] at hnx
        have HIT := hide hit1
        have HB1 := hide (hB1 W.heap.size W hbw (by omega))
        have HQ := hide (hB1 wr.heap.size wr)
        have X1 : Hid (Bv w1 W.heap.size 0 0 ⟨#[]⟩) := hbv.below (B := W.heap.size + 1) (hB1 (W.heap.size + 1) wr (Below.refl _ _) (Nat.le_refl _)) (by omega)
        obtain ⟨d0, d1, d2, g0, g1, g2, lt'⟩ := (unhide X1).all
        have hkm : (k : Int) ≤ 1048576 := by have := unhide HML; omega
        clear hit hbv hbw hkn er es e1 hit1 hz1 hB1
        by_cases he : (k : Int) = n
        · have hq : k1 = 4 ∧ t1 = Utf8.encode (rn s k) := by
            rcases unhide HR with ⟨_, _, h, h'⟩ | ⟨h, _⟩
            · rw [h', show n.toNat = k by omega]; exact ⟨h, rfl⟩
            · omega
          obtain ⟨rfl, ht1⟩ := hq
          have HU := hide ht1
          clear ht1
          subst he
          go_wp2_with (go_at_call 68; rw [← unhide HU]; refine (words_any _ _).mono ?_; rintro e w3 ⟨rfl, q3⟩; unfold Vc; have X3 := hide ((unhide X1).up2 q3); have HB3 := hide ((unhide HB1).trans (q3.mono (unhide HB1).size)); obtain ⟨d0, d1, d2, g0, g1, g2, lt'⟩ := (unhide X3).all; clear q3)
          exact ret_v Tryz.results56 rfl (unhide X3) rfl (unhide HB3) (Nat.le_refl _) rfl
        · have hne : ((k : Int) == n) = false := by simpa using he
          go_wp2
          refine ⟨⟨k + 1, by congr 1, by omega, by have := unhide HKN; omega, unhide HIT, unhide X1, unhide HB1⟩, by simp [intOf]; omega⟩
      · have e1 : k = m := by omega
        have l1 : ¬ posn (gS s) s.size k < s.size := by rw [e1, (unhide HM).1]; omega
        have hnx := next_end (P := Tryz.prog) wr (W.heap.size + 1) s _ hit l1
        obtain ⟨d0, d1, d2, g0, g1, g2, lt'⟩ := hbv.all
        have hq : k1 = 0 ∧ t1 = ⟨#[]⟩ := by
          rcases unhide HR with ⟨h, h', _⟩ | ⟨_, h⟩
          · omega
          · exact h
        obtain ⟨rfl, rfl⟩ := hq
        clear hit hbv hbw hkn
        go_wp2
        exact ret_v Tryz.results56 rfl (unhide HBV) rfl (unhide HBW) (Nat.le_refl _) rfl
end Go.Proofs.YtdgocaokmmhenaaGreatDoor

/- A Heap that has nothing: Put and At. -/
namespace Go.Proofs.YtdgocaokmmhenaaGreatDoor
set_option linter.unusedSimpArgs false
set_option linter.unusedVariables false
set_option maxRecDepth 100000
set_option maxHeartbeats 2000000
open Go.RowKit Go.Shelf

theorem boxes3 (W : World) (k n k' n' k2 n2 : Int) (t t' t2 : ByteArray) : ∃ W2, ((W.alloc (.cells #[.int .i64 k, .int .i64 n, .string t] 23)).alloc (.cells #[.int .i64 k', .int .i64 n', .string t'] 23)).alloc (.cells #[.int .i64 k2, .int .i64 n2, .string t2] 23) = W2 ∧ Bv W2 W.heap.size k n t ∧ Bv W2 (W.heap.size + 1) k' n' t' ∧ Bv W2 (W.heap.size + 2) k2 n2 t2 ∧ Below W.heap.size W W2 ∧ W2.heap.size = W.heap.size + 3 := by
  refine ⟨_, rfl, ((Bx.new W _ _).alloc _).alloc _, ?_, ?_, below_three _ _ _ _, by simp⟩
  · have := Bx.new (W.alloc (.cells #[.int .i64 k, .int .i64 n, .string t] 23)) (Vc k' n' t') 23
    rw [World.size_alloc] at this
    exact this.alloc _
  · have := Bx.new ((W.alloc (.cells #[.int .i64 k, .int .i64 n, .string t] 23)).alloc (.cells #[.int .i64 k', .int .i64 n', .string t'] 23)) (Vc k2 n2 t2) 23
    rw [World.size_alloc, World.size_alloc] at this
    exact this
def putT (K : Int) : ByteArray := if K = 4 then noMem else noIdx
theorem nPut (A : World) (p : Value) (h : Hp A p) (k n k' n' k2 n2 : Int) (t t' t2 : ByteArray) : RetA A 22 #[p, .agg (Vc k n t), .agg (Vc k' n' t'), .agg (Vc k2 n2 t2)] (.tuple #[.string (putT (sK k')), .int .i64 1]) := by
  intro W hA
  obtain ⟨W2, hW2, b1, b2, b3, hb', hz⟩ := boxes3 W k n k' n' k2 n2 t t' t2
  obtain ⟨x0, x1, x2, y0, y1, y2, ly⟩ := b2.all
  have HS := hide (nsettled A p h k' n' t' W2 (Below.upp hA hb'))
  have HA := hide hA
  have HAR : Hid (∀ w, Below W.heap.size W w → Calls Tryz.prog 57 #[p, .agg (Vc k n t)] w fun e w' => e = .returned (.tuple #[.pointer none, .bool false]) ∧ Below w.heap.size w w') := fun w hw => narray A p h k n t w (Below.upp hA hw)
  have HST : Hid (∀ w (T : ByteArray), Below W.heap.size W w → Calls Tryz.prog 11 #[p, .agg (Vc k n t), .string T, .agg (Vc k2 n2 t2)] w fun e w' => e = .returned (.tuple #[.string noMem, .int .i64 1]) ∧ Below w.heap.size w w') := fun w T hw => nSet A p h k n k2 n2 t T t2 w (Below.upp hA hw)
  have B1 := hide b1
  have B2 := hide b2
  have B3 := hide b3
  have HB := hide hb'
  have HZ := hide hz
  generalize sK k' = K at *
  generalize sN k' n' = N at *
  generalize stlT k' t' = T at *
  clear b1 b2 b3 hb' hz h hA
  by_cases h4 : K = 4
  · subst h4
    rw [show putT 4 = noMem from rfl]
    unfold Vc at HS HAR HST ⊢
    go_enter Tryz.func22, Tryz.ntmps22
    go_wp2_with (first
      | (go_at_call 41; refine (unhide HS).mono ?_; clear HS; rintro e w1 ⟨rfl, hb1⟩; have hz := unhide HZ; have E1 := hide ((unhide B1).below hb1 (by omega)); have E2 := hide ((unhide B2).below hb1 (by omega)); have E3 := hide ((unhide B3).below hb1 (by omega)); obtain ⟨x0, x1, x2, y0, y1, y2, ly⟩ := (unhide E2).all; obtain ⟨W3, hW3, e1, e2, e3, e4⟩ := over w1 (W.heap.size + 1) k' n' 4 N t' T (unhide E2); have s1 := hb1.size; have X1 := hide (e3 _ _ _ _ (unhide E1) (by omega)); have X2 := hide e1; have X3 := hide (e3 _ _ _ _ (unhide E3) (by omega)); have HB3 := hide (e2 _ _ ((unhide HB).trans (hb1.mono (by omega))) (by omega)); obtain ⟨c0, c1, c2, f0, f1, f2, lt⟩ := (unhide X1).all; clear e1 e2 e3 e4)
      | (go_at_call 57; refine (unhide HAR _ (unhide HB3)).mono ?_; rintro e w4 ⟨rfl, q4⟩; have Y1 := hide ((unhide X1).up2 q4); have Y2 := hide ((unhide X2).up2 q4); have Y3 := hide ((unhide X3).up2 q4); have HB4 := hide (Below.upp (unhide HB3) q4); obtain ⟨c0, c1, c2, f0, f1, f2, lt⟩ := (unhide Y1).all; obtain ⟨x0, x1, x2, y0, y1, y2, ly⟩ := (unhide Y2).all; obtain ⟨d0, d1, d2, g0, g1, g2, ld⟩ := (unhide Y3).all; clear q4)
      | (go_at_call 11; refine (unhide HST _ T (unhide HB4)).mono ?_; rintro e w5 ⟨rfl, q5⟩; have HB5 := hide (Below.upp (unhide HB4) q5); clear q5))
    go_ret2
    exact ⟨rfl, unhide HB5⟩
  · have hK : (K == 4) = false := by simpa using h4
    rw [show putT K = noIdx by simp [putT, h4]]
    clear h4
    unfold Vc at HS HAR HST ⊢
    go_enter Tryz.func22, Tryz.ntmps22
    go_wp2_with (first
      | (go_at_call 41; refine (unhide HS).mono ?_; clear HS; rintro e w1 ⟨rfl, hb1⟩; have hz := unhide HZ; have E1 := hide ((unhide B1).below hb1 (by omega)); have E2 := hide ((unhide B2).below hb1 (by omega)); have E3 := hide ((unhide B3).below hb1 (by omega)); obtain ⟨x0, x1, x2, y0, y1, y2, ly⟩ := (unhide E2).all; obtain ⟨W3, hW3, e1, e2, e3, e4⟩ := over w1 (W.heap.size + 1) k' n' K N t' T (unhide E2); have s1 := hb1.size; have X1 := hide (e3 _ _ _ _ (unhide E1) (by omega)); have X2 := hide e1; have X3 := hide (e3 _ _ _ _ (unhide E3) (by omega)); have HB3 := hide (e2 _ _ ((unhide HB).trans (hb1.mono (by omega))) (by omega)); obtain ⟨c0, c1, c2, f0, f1, f2, lt⟩ := (unhide X1).all; clear e1 e2 e3 e4)
      | (go_at_call 57; refine (unhide HAR _ (unhide HB3)).mono ?_; rintro e w4 ⟨rfl, q4⟩; have Y1 := hide ((unhide X1).up2 q4); have Y2 := hide ((unhide X2).up2 q4); have HB4 := hide (Below.upp (unhide HB3) q4); obtain ⟨x0, x1, x2, y0, y1, y2, ly⟩ := (unhide Y2).all; clear q4))
    go_quiet (fail)
    go_wp2_with (go_at_call 37; refine (clone21 noIdx _ (by decide)).mono ?_; rintro e w5 ⟨rfl, q5⟩; have HB5 := hide ((unhide HB4).trans (show Below W.heap.size w4 w5 from ⟨q5.os, q5.tape, q5.output, q5.size, fun k hk => q5.block k (Nat.lt_of_lt_of_le hk (unhide HB4).size)⟩)); clear q5)
    go_ret2
    exact ⟨rfl, unhide HB5⟩
end Go.Proofs.YtdgocaokmmhenaaGreatDoor

/- A Heap that has nothing: At. -/
namespace Go.Proofs.YtdgocaokmmhenaaGreatDoor
set_option linter.unusedSimpArgs false
set_option linter.unusedVariables false
set_option maxRecDepth 100000
set_option maxHeartbeats 2000000
open Go.RowKit Go.Shelf

/-- Both boxes written over, in either order; the third one as it was. -/
def Three (w : World) (b : Nat) (k n : Int) (t : ByteArray) (k' n' : Int) (t' : ByteArray) : Prop := Bv w b k n t ∧ Bv w (b + 1) k' n' t' ∧ Bv w (b + 2) 0 0 ⟨#[]⟩
theorem Three.below {w w' : World} {b B : Nat} {k n k' n' : Int} {t t' : ByteArray} (h : Three w b k n t k' n' t') (hb : Below B w w') (hB : b + 2 < B) : Three w' b k n t k' n' t' := ⟨h.1.below hb (by omega), h.2.1.below hb (by omega), h.2.2.below hb hB⟩
theorem three_over1 {w : World} {b : Nat} {k n k' n' k0 n0 k1 n1 : Int} {t t' t0 t1 : ByteArray} (h : Three w b k n t k' n' t') : Three (put3 (put3 w b (.int .i64 k0) (.int .i64 n0) (.string t0)) (b + 1) (.int .i64 k1) (.int .i64 n1) (.string t1)) b k0 n0 t0 k1 n1 t1 :=
  ⟨Bx.puts_ne (Bx.puts h.1 _ _ _) (by omega) _ _ _, Bx.puts (Bx.puts_ne h.2.1 (by omega) _ _ _) _ _ _, Bx.puts_ne (Bx.puts_ne h.2.2 (by omega) _ _ _) (by omega) _ _ _⟩
theorem three_over2 {w : World} {b : Nat} {k n k' n' k0 n0 k1 n1 : Int} {t t' t0 t1 : ByteArray} (h : Three w b k n t k' n' t') : Three (put3 (put3 w (b + 1) (.int .i64 k1) (.int .i64 n1) (.string t1)) b (.int .i64 k0) (.int .i64 n0) (.string t0)) b k0 n0 t0 k1 n1 t1 :=
  ⟨Bx.puts (Bx.puts_ne h.1 (by omega) _ _ _) _ _ _, Bx.puts_ne (Bx.puts h.2.1 _ _ _) (by omega) _ _ _, Bx.puts_ne (Bx.puts_ne h.2.2 (by omega) _ _ _) (by omega) _ _ _⟩
def zeroR : R5 := ⟨0, 0, ByteArray.empty, ⟨#[]⟩, 0⟩
open Classical in
/-- The rune at a number, as a value. -/
noncomputable def runeQ (T : ByteArray) (N : Int) : R5 := if 0 ≤ N ∧ N < (Lib.runeCount T : Int) then ⟨4, 0, Utf8.encode (rn T N.toNat), ⟨#[]⟩, 0⟩ else zeroR
theorem encode_small (r : Int) : (Utf8.encode r).size ≤ 281474976710656 := by
  unfold Utf8.encode
  generalize (if Utf8.valid r then r.toNat else Utf8.runeError) = c
  dsimp only
  by_cases h1 : c < 128
  · rw [if_pos h1]; show 1 ≤ 281474976710656; decide
  · rw [if_neg h1]
    by_cases h2 : c < 2048
    · rw [if_pos h2]; show 2 ≤ 281474976710656; decide
    · rw [if_neg h2]
      by_cases h3 : c < 65536
      · rw [if_pos h3]; show 3 ≤ 281474976710656; decide
      · rw [if_neg h3]; show 4 ≤ 281474976710656; decide
theorem runeQ_ret (T : ByteArray) (N : Int) (hz : T.size ≤ 1048576) : ∃ k1 t1, runeQ T N = ⟨k1, 0, t1, ⟨#[]⟩, 0⟩ ∧ Ret 56 #[.string T, .int .i64 N] (.agg (Vc k1 0 t1)) ∧ t1.size ≤ 281474976710656 := by
  obtain ⟨m, hm, _⟩ := runes_exist (gS T) T.size
  have hc := count_is T m hm
  unfold runeQ
  rw [hc]
  by_cases h : 0 ≤ N ∧ N < (m : Int)
  · rw [if_pos h]
    exact ⟨4, _, rfl, runeAt_any T hz N m hm 4 _ (.inl ⟨h.1, h.2, rfl, rfl⟩), encode_small _⟩
  · rw [if_neg h]
    exact ⟨0, ⟨#[]⟩, rfl, runeAt_any T hz N m hm 0 ⟨#[]⟩ (.inr ⟨h, rfl, rfl⟩), by decide⟩
/-- What At answers of values as they count. -/
noncomputable def atQ (K : Int) (T : ByteArray) (K' N' : Int) (T' : ByteArray) : R5 := if K = 0 ∨ K = 1 then ⟨0, 0, ByteArray.empty, noMem, 1⟩ else if K' = 4 then getP K T T' else if K' = 3 then (if K = 4 then runeQ T N' else zeroR) else ⟨0, 0, ByteArray.empty, noIdx, 1⟩
theorem sK_sK (k : Int) : sK (sK k) = sK k := by
  have h := sK_in k
  have h2 := sK_id k
  generalize sK k = x at *
  unfold sK
  rw [if_neg (by omega)]
  exact h2
theorem nAt_gen (A : World) (p : Value) (h : Hp A p) (k n k' n' K N K' N' : Int) (t t' T T' : ByteArray) (r : R5) (HA0 : RetA A 41 #[p, .agg (Vc k n t)] (.agg (Vc K N T))) (HB0 : RetA A 41 #[p, .agg (Vc k' n' t')] (.agg (Vc K' N' T')))
    (hr : (K = 0 ∧ r = ⟨0, 0, ByteArray.empty, noMem, 1⟩) ∨ (K = 1 ∧ r = ⟨0, 0, ByteArray.empty, noMem, 1⟩) ∨ ((K == 0) = false ∧ (K == 1) = false ∧ K' = 4 ∧ RetA A 14 #[p, .agg (Vc K N T), .string T'] r.tr) ∨ ((K == 0) = false ∧ (K == 1) = false ∧ (K' == 4) = false ∧ (K' != 3) = true ∧ r = ⟨0, 0, ByteArray.empty, noIdx, 1⟩) ∨
      (K = 4 ∧ K' = 3 ∧ ∃ k1 t1, r = ⟨k1, 0, t1, ⟨#[]⟩, 0⟩ ∧ Ret 56 #[.string T, .int .i64 N'] (.agg (Vc k1 0 t1)) ∧ t1.size ≤ 281474976710656) ∨ ((K == 0) = false ∧ (K == 1) = false ∧ (K == 4) = false ∧ K' = 3 ∧ r = zeroR)) :
    RetA A 20 #[p, .agg (Vc k n t), .agg (Vc k' n' t')] r.tr := by
  intro W hA0
  obtain ⟨W2, hW2, b1, b2, b3, hb, hz⟩ := boxes3 W k n k' n' 0 0 t t' ⟨#[]⟩
  have HA' : Hid (∀ w, Below W2.heap.size W2 w → Calls Tryz.prog 41 #[p, .agg (Vc k n t)] w fun e w' => e = .returned (.agg (Vc K N T)) ∧ Below w.heap.size w w') := fun w hw => HA0 w (Below.upp (Below.upp hA0 hb) hw)
  have HB' : Hid (∀ w, Below W2.heap.size W2 w → Calls Tryz.prog 41 #[p, .agg (Vc k' n' t')] w fun e w' => e = .returned (.agg (Vc K' N' T')) ∧ Below w.heap.size w w') := fun w hw => HB0 w (Below.upp (Below.upp hA0 hb) hw)
  have HAR : Hid (∀ w, Below W.heap.size W w → Calls Tryz.prog 57 #[p, .agg (Vc K N T)] w fun e w' => e = .returned (.tuple #[.pointer none, .bool false]) ∧ Below w.heap.size w w') := fun w hw => narray A p h K N T w (Below.upp hA0 hw)
  have HRR := hide hr
  have HAA := hide hA0
  clear h HA0 HB0 hA0 hr
  unfold Vc at HA' HB' HAR ⊢
  have T2 : Hid (Three W2 W.heap.size k n t k' n' t') := ⟨b1, b2, b3⟩
  obtain ⟨c0, c1, c2, f0, f1, f2, lt⟩ := b1.all
  obtain ⟨x0, x1, x2, y0, y1, y2, ly⟩ := b2.all
  have HB := hide hb
  have HZ := hide hz
  clear b1 b2 b3 hb hz
  go_enter Tryz.func20, Tryz.ntmps20
  go_upto_region 2 with fail
  go_cut [] from 11 to 16 (fun wx => Three wx W.heap.size K N T K' N' T' ∧ Below W.heap.size W wx)
  case first =>
    go_region_with (first
      | (go_at_call_of 41 n
         refine (unhide HA' _ (by first | exact Below.refl _ _ | exact (Below.refl _ W2).drew | exact h1b)).mono ?_
         rintro e wa ⟨rfl, hba⟩
         have h1a : Below W2.heap.size W2 wa := (by first | exact hba | exact ((Below.refl _ W2).drew).trans (hba.mono (by simp)) | exact h1b.trans (hba.mono h1b.size))
         have Ta := hide ((unhide T2).below h1a (by have := unhide HZ; omega))
         obtain ⟨c0, c1, c2, f0, f1, f2, lt⟩ := (unhide Ta).1.all
         obtain ⟨x0, x1, x2, y0, y1, y2, ly⟩ := (unhide Ta).2.1.all
         clear hba)
      | (go_at_call_of 41 n'
         refine (unhide HB' _ (by first | exact Below.refl _ _ | exact (Below.refl _ W2).drew | exact h1a)).mono ?_
         rintro e wb ⟨rfl, hbb⟩
         have h1b : Below W2.heap.size W2 wb := (by first | exact hbb | exact ((Below.refl _ W2).drew).trans (hbb.mono (by simp)) | exact h1a.trans (hbb.mono h1a.size))
         have Tb := hide ((unhide T2).below h1b (by have := unhide HZ; omega))
         obtain ⟨c0, c1, c2, f0, f1, f2, lt⟩ := (unhide Tb).1.all
         obtain ⟨x0, x1, x2, y0, y1, y2, ly⟩ := (unhide Tb).2.1.all
         clear hbb))
    all_goals (go_wp2_with fail; go_meet; case rel => (first
          | exact ⟨three_over1 (unhide Tb), below_put3 (below_put3 ((unhide HB).trans (h1b.mono (by have := unhide HZ; omega))) (by omega) _ _ _) (by omega) _ _ _⟩
          | exact ⟨three_over2 (unhide Tb), below_put3 (below_put3 ((unhide HB).trans (h1b.mono (by have := unhide HZ; omega))) (by omega) _ _ _) (by omega) _ _ _⟩
          | exact ⟨three_over1 (unhide Ta), below_put3 (below_put3 ((unhide HB).trans (h1a.mono (by have := unhide HZ; omega))) (by omega) _ _ _) (by omega) _ _ _⟩
          | exact ⟨three_over2 (unhide Ta), below_put3 (below_put3 ((unhide HB).trans (h1a.mono (by have := unhide HZ; omega))) (by omega) _ _ _) (by omega) _ _ _⟩))
  case rest =>
    obtain ⟨T3, hB3⟩ := hcut
    have X2 := hide T3.2.2
    have HB3 := hide hB3
    have HQ : Hid (Below A.heap.size A wc) := Below.upp (unhide HAA) hB3
    obtain ⟨c0, c1, c2, f0, f1, f2, lt⟩ := T3.1.all
    obtain ⟨x0, x1, x2, y0, y1, y2, ly⟩ := T3.2.1.all
    clear T3 hB3 HA' HB' T2
    rcases unhide HRR with ⟨rfl, rfl⟩ | ⟨rfl, rfl⟩ | ⟨e0, e1, rfl, hG⟩ | ⟨e0, e1, e2, e3, rfl⟩ | ⟨rfl, rfl, k1, t1, rfl, hG, hs⟩ | ⟨e0, e1, e2, rfl, rfl⟩
    · clear HRR
      go_wp2_with (first
        | (go_at_call 46; refine (threw_any noMem (by decide) _).mono ?_; unfold Tr; rintro e w4 ⟨rfl, hb4⟩; unfold Vc; have X4 := hide ((unhide X2).up2 hb4); have HB4 := hide (Below.upp (unhide HB3) hb4); obtain ⟨d0, d1, d2, g0, g1, g2, lt'⟩ := (unhide X4).all))
      exact ret_vsf Tryz.results20 rfl rfl rfl (unhide X4) rfl (unhide HB4) (by omega) rfl
    · clear HRR
      go_wp2_with (first
        | (go_at_call 46; refine (threw_any noMem (by decide) _).mono ?_; unfold Tr; rintro e w4 ⟨rfl, hb4⟩; unfold Vc; have X4 := hide ((unhide X2).up2 hb4); have HB4 := hide (Below.upp (unhide HB3) hb4); obtain ⟨d0, d1, d2, g0, g1, g2, lt'⟩ := (unhide X4).all))
      exact ret_vsf Tryz.results20 rfl rfl rfl (unhide X4) rfl (unhide HB4) (by omega) rfl
    · clear HRR
      have HG := hide (hG wc (unhide HQ))
      clear hG
      unfold R5.tr Tr at HG
      unfold Vc at HG
      go_wp2_with (go_at_call 14; refine (unhide HG).mono ?_; rintro e w4 ⟨rfl, hb4⟩; have X4 := hide ((unhide X2).up2 hb4); have HB4 := hide (Below.upp (unhide HB3) hb4); obtain ⟨d0, d1, d2, g0, g1, g2, lt'⟩ := (unhide X4).all)
      exact ret_vsf Tryz.results20 rfl rfl rfl (unhide X4) rfl (unhide HB4) (by omega) rfl
    · clear HRR
      go_wp2_with (first
        | (go_at_call 46; refine (threw_any noIdx (by decide) _).mono ?_; unfold Tr; rintro e w4 ⟨rfl, hb4⟩; unfold Vc; have X4 := hide ((unhide X2).up2 hb4); have HB4 := hide (Below.upp (unhide HB3) hb4); obtain ⟨d0, d1, d2, g0, g1, g2, lt'⟩ := (unhide X4).all))
      exact ret_vsf Tryz.results20 rfl rfl rfl (unhide X4) rfl (unhide HB4) (by omega) rfl
    · clear HRR
      have HG := hide hG
      have HL := hide (told_any k1 0 t1 hs)
      clear hG hs
      unfold Tr at HL
      unfold Vc at HG HL
      go_wp2_with (first
        | (go_at_call 56; refine (unhide HG _).mono ?_; rintro e w3 ⟨rfl, hb3⟩; have X3 := hide ((unhide X2).up2 hb3); have HBQ := hide (Below.upp (unhide HB3) hb3))
        | (go_at_call 47; refine (unhide HL _).mono ?_; rintro e w4 ⟨rfl, hb4⟩; have X4 := hide ((unhide X3).up2 hb4); have HB4 := hide (Below.upp (unhide HBQ) hb4); obtain ⟨d0, d1, d2, g0, g1, g2, lt'⟩ := (unhide X4).all))
      exact ret_vsf Tryz.results20 rfl rfl rfl (unhide X4) rfl (unhide HB4) (by omega) rfl
    · clear HRR
      have HL := hide (told_any 0 0 ⟨#[]⟩ (by decide))
      unfold Tr at HL
      unfold Vc at HL
      go_wp2_with (first
        | (go_at_call 57; refine (unhide HAR _ (unhide HB3)).mono ?_; rintro e w3 ⟨rfl, hb3⟩; have X3 := hide ((unhide X2).up2 hb3); have HBQ := hide (Below.upp (unhide HB3) hb3))
        | (go_at_call 47; refine (unhide HL _).mono ?_; rintro e w4 ⟨rfl, hb4⟩; have X4 := hide ((unhide X3).up2 hb4); have HB4 := hide (Below.upp (unhide HBQ) hb4); obtain ⟨d0, d1, d2, g0, g1, g2, lt'⟩ := (unhide X4).all))
      exact ret_vsf Tryz.results20 rfl rfl rfl (unhide X4) rfl (unhide HB4) (by omega) rfl
theorem nAt (A : World) (p : Value) (h : Hp A p) (k n k' n' : Int) (t t' : ByteArray) (ht : t.size ≤ 1048576) : RetA A 20 #[p, .agg (Vc k n t), .agg (Vc k' n' t')] (atQ (sK k) (stlT k t) (sK k') (sN k' n') (stlT k' t')).tr := by
  have HA := nsettled A p h k n t
  have HB := nsettled A p h k' n' t'
  have hK := sK_in k
  have hz := stlT_le k t _ ht
  have HG := nGet A p h (sK k) (sN k n) (stlT k t) (stlT k' t') hz
  rw [sK_sK, sT_id] at HG
  generalize sK k = K at *
  generalize sN k n = N at *
  generalize stlT k t = T at *
  generalize sK k' = K' at *
  generalize sN k' n' = N' at *
  generalize stlT k' t' = T' at *
  refine nAt_gen A p h k n k' n' K N K' N' t t' T T' _ HA HB ?_
  unfold atQ
  by_cases h0 : K = 0
  · exact .inl ⟨h0, by rw [if_pos (.inl h0)]⟩
  by_cases h1 : K = 1
  · exact .inr (.inl ⟨h1, by rw [if_pos (.inr h1)]⟩)
  have q0 : (K == 0) = false := by simpa using h0
  have q1 : (K == 1) = false := by simpa using h1
  rw [if_neg (by omega)]
  by_cases h4 : K' = 4
  · rw [if_pos h4]; exact .inr (.inr (.inl ⟨q0, q1, h4, HG⟩))
  rw [if_neg h4]
  have q4 : (K' == 4) = false := by simpa using h4
  by_cases h3 : K' = 3
  · rw [if_pos h3]
    by_cases hk : K = 4
    · rw [if_pos hk]
      exact .inr (.inr (.inr (.inr (.inl ⟨hk, h3, runeQ_ret T N' hz⟩))))
    · rw [if_neg hk]
      exact .inr (.inr (.inr (.inr (.inr ⟨q0, q1, by simpa using hk, h3, rfl⟩))))
  · rw [if_neg h3]
    exact .inr (.inr (.inr (.inl ⟨q0, q1, q4, by simpa using h3, rfl⟩)))
end Go.Proofs.YtdgocaokmmhenaaGreatDoor
