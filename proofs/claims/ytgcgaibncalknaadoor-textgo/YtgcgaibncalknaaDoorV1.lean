/- shucklaw1.TextGo, walked at every row of bytes. -/
import Derived.Laws.EntriesVeiled
import Derived.Laws.RangeString
import Derived.Test.YtgcgaibncalknaaDoorV0
import Derived.Test.YtgcgaibncalknaaDoorS5
namespace Go.Proofs.YtgcgaibncalknaaDoor
set_option linter.unusedSimpArgs false
set_option linter.unusedVariables false
open Go.RowKit Go.Shelf

set_option maxHeartbeats 1000000 in
theorem textGo_big {a : Option Addr} {len cap : Nat} (w : World) (h : 4000 < len) (hm : len ≤ maxLen) :
    Calls Tryd.prog 5 #[.slice a len cap] w fun e w' => e = .returned (.bool true) ∧ Below w.heap.size w w' := by
  unfold maxLen at hm
  have h' : (4000 : Int) < len := by omega
  go_enter Tryd.func5, Tryd.ntmps5
  go_wp2
  go_ret
  exact ⟨rfl, Below.refl _ _⟩

theorem rows_apart {W : World} {base base' : Nat} {e e' : TypeId} {size size' : Nat} {v u : Value} {k m : Nat} {xs ys : List Value} (h : W.ownsRow base e size v k xs) (h' : W.ownsRow base' e' size' u m ys) (hne : e ≠ e') : u.ownBlock = none ∨ u.ownBlock ≠ v.ownBlock := by
  rcases h'.2 with ⟨rfl, _⟩ | ⟨g', cap', cur', rfl, _, hg', _⟩
  · exact .inl rfl
  rcases h.2 with ⟨rfl, _⟩ | ⟨g, cap, cur, rfl, _, hg, _⟩
  · exact .inr (by simp [Value.ownBlock])
  refine .inr fun e1 => ?_
  obtain rfl : g' = g := by simpa [Value.ownBlock] using e1
  have := hg.symm.trans hg'
  simp at this
  exact hne this.2
theorem other_kept {W w1 : World} {N B B' : Nat} {t t' e e' : TypeId} {v v' u : Value} {k n : Nat} {xs ys : List Value} {tmp : Obj} (hv : Boxed W B t v) (hrow : W.ownsRow N e 1 v k xs) (hu : Boxed W B' t' u) (hurow : W.ownsRow N e' 1 u n ys) (hBB : B' ≠ B) (h1 : t' ≠ e) (h2 : t ≠ e') (h3 : e ≠ e')
    (hgrow : (W.alloc tmp).grownBy w1 v.ownBlock) : Boxed (w1.setCell ⟨B, 0, none⟩ v') B' t' u ∧ (w1.setCell ⟨B, 0, none⟩ v').ownsRow N e' 1 u n ys := by
  refine ⟨((hu.alloc tmp).kept hgrow (hu.not_row h1 hrow)).other hBB _, ((hurow.alloc tmp).kept hgrow (rows_apart hrow hurow h3)).kept (grownBy_setCell' w1 B v') (.inr ((hv.not_row h2 hurow).symm))⟩

theorem infoI64 : (Tryd.prog.info? 3).map (fun i => (i.zero, i.size, i.bytes)) = some (some (.int .i64 0), 1, 8) := by kernel_rfl
theorem infoI32 : (Tryd.prog.info? 21).map (fun i => (i.zero, i.size, i.bytes)) = some (some (.int .i32 0), 1, 4) := by kernel_rfl

/-- Between two rounds of TextGo's loop. -/
def GoI (s : ByteArray) (N : Nat) (A : World) (k : Nat) (v u : Value) (W : World) : Prop :=
  Boxed W N 38 v ∧ Boxed W (N + 1) 39 u ∧ W.ownsRow N 3 1 v k (pcs (gS s) s.size k) ∧ W.ownsRow N 21 1 u k (rcs (gS s) s.size k) ∧ W.heap[N + 1 + 1]? = some (.stringIter s (posn (gS s) s.size k)) ∧ Below N A W
theorem GoI.iter {s : ByteArray} {N : Nat} {A : World} {k : Nat} {v u : Value} {W : World} (h : GoI s N A k v u W) (pos : Nat) :
    Boxed (W.iterAt (N + 1 + 1) s pos) N 38 v ∧ Boxed (W.iterAt (N + 1 + 1) s pos) (N + 1) 39 u ∧ (W.iterAt (N + 1 + 1) s pos).ownsRow N 3 1 v k (pcs (gS s) s.size k) ∧ (W.iterAt (N + 1 + 1) s pos).ownsRow N 21 1 u k (rcs (gS s) s.size k) ∧ (W.iterAt (N + 1 + 1) s pos).heap[N + 1 + 1]? = some (.stringIter s pos) ∧ Below N A (W.iterAt (N + 1 + 1) s pos) ∧ (W.iterAt (N + 1 + 1) s pos).heap.size = W.heap.size := by
  obtain ⟨h1, h2, h3, h4, h5, h6⟩ := h
  have row : ∀ {e : TypeId} {x : Value} {n : Nat} {xs : List Value}, W.ownsRow N e 1 x n xs → (W.iterAt (N + 1 + 1) s pos).ownsRow N e 1 x n xs := fun {e x n xs} hr => by
    refine ⟨hr.1, ?_⟩
    rcases hr.2 with h0 | ⟨g, cap, cur, rfl, q1, q2, q3⟩
    · exact .inl h0
    · refine .inr ⟨g, cap, cur, rfl, q1, (Lib.iterAt_other _ _ _ _ _ (fun e1 => ?_)).trans q2, q3⟩
      rw [e1, h5] at q2; cases q2
  exact ⟨(Lib.iterAt_other _ _ _ _ _ (by omega)).trans h1, (Lib.iterAt_other _ _ _ _ _ (by omega)).trans h2, row h3, row h4, Lib.iterAt_heap _ _ _ _ _ h5, Lib.below_iterAt h6 (by omega) _ _, Lib.iterAt_size _ _ _ _⟩

set_option maxRecDepth 100000 in
set_option maxHeartbeats 4000000 in
theorem textGo_small {a : Option Addr} {cap : Nat} (s : ByteArray) (w : World) (h : s.size ≤ 4000) (hR : Src w (.slice a s.size cap) s.size (gS s)) (hcv : ∀ W, Below w.heap.size w W → (convert 22 9 (.slice a s.size cap)).run Tryd.prog W = .ok (.string s) W) (hp : 0 < w.heap.size) :
    Calls Tryd.prog 5 #[.slice a s.size cap] w fun e w' => e = .returned (.bool true) ∧ Below w.heap.size w w' := by
  have h' : ¬ (4000 : Int) < s.size := by omega
  obtain ⟨i3, hi3, hz30, hz31, hz32⟩ := info_parts infoI64
  obtain ⟨i21, hi21, hy0, hy1, hy2⟩ := info_parts infoI32
  have HR := hide hR
  have HCV := hide hcv
  clear hR hcv
  have hnf := it_not_nil
  go_enter Tryd.func5, Tryd.ntmps5
  go_wp2_with (go_at_call 15; refine (runes_any (g := gS s) (by omega) (unhide HR) hp).mono ?_; rintro e w1 ⟨Bk, c, sv, rfl, hBk, hSc, hc1, hc2, hc3, hB1⟩; have HBk := hide hBk; have HSc := hide hSc; have HB1 := hide hB1; have HC := hide (And.intro hc1 (And.intro hc2 hc3)); have hcw := unhide HCV ((w1.alloc (.cells #[.slice none 0 0] 38)).alloc (.cells #[.slice none 0 0] 39)) (((unhide HB1).alloc (unhide HB1).size _).alloc (by have := (unhide HB1).size; simp; omega) _); clear hBk hSc hc1 hc2 hc3 hB1)
  clear hnf hcw
  have hz := (unhide HB1).size
  have e2 : ((w1.alloc (.cells #[.slice none 0 0] 38)).alloc (.cells #[.slice none 0 0] 39)).heap.size = w1.heap.size + 1 + 1 := by simp
  have hi0 : ∃ v u, GoI s w1.heap.size w1 0 v u (((w1.alloc (.cells #[.slice none 0 0] 38)).alloc (.cells #[.slice none 0 0] 39)).iter s 0) := by
    refine ⟨.slice none 0 0, .slice none 0 0, ((Boxed.new w1 38 _).alloc _).alloc _, ?_, World.ownsRow_nil _ _ _ _, World.ownsRow_nil _ _ _ _, ?_, (((Below.refl _ w1).alloc (Nat.le_refl _) _).alloc (by simp) _).alloc (by simp; omega) _⟩
    · have := (Boxed.new (w1.alloc (.cells #[.slice none 0 0] 38)) 39 (.slice none 0 0)).alloc (.stringIter s 0)
      rw [World.size_alloc] at this; exact this
    · have := World.iter_heap ((w1.alloc (.cells #[.slice none 0 0] 38)).alloc (.cells #[.slice none 0 0] 39)) s 0
      rw [e2] at this; exact this
  go_loopw [6] (fun _ wr => ∃ k v u, Before (gS s) s.size k ∧ GoI s w1.heap.size w1 k v u wr) (fun _ wr => s.size - wr.iterPos (w1.heap.size + 1 + 1))
  case atStart =>
    obtain ⟨v, u, hh⟩ := hi0
    exact ⟨0, v, u, fun j hj => by omega, hh⟩
  case round =>
    clear hi0
    obtain ⟨k, v, u, hbf, hG⟩ := hrel
    have hit := hG.2.2.2.2.1
    have hszr : w1.heap.size + 1 + 1 < wr.heap.size := (Array.getElem?_eq_some_iff.1 hit).1
    by_cases hlt : posn (gS s) s.size k < s.size
    · have hkl := posn_ge hbf
      have hsp := step_pos (g := gS s) hlt
      obtain ⟨hd1, hd2⟩ := dec_eq s _ hlt
      obtain ⟨W1, hW1⟩ : ∃ W1, wr.iterAt (w1.heap.size + 1 + 1) s (posn (gS s) s.size (k + 1)) = W1 := ⟨_, rfl⟩
      have hnx : ∀ ty, (Instr.next (.pointer (some ⟨w1.heap.size + 1 + 1, 0, none⟩)) true ty).run Tryd.prog wr = .ok (.tuple #[.bool true, .int .i64 (posn (gS s) s.size k : Int), .int .i32 (dRune (gS s) s.size (posn (gS s) s.size k))]) W1 := fun ty => by
        rw [Lib.run_next_any_at wr (w1.heap.size + 1 + 1) s _ ty hit hlt, hd1, hd2, ← hW1]; rfl
      have hI := hG.iter (posn (gS s) s.size (k + 1))
      rw [hW1] at hI
      obtain ⟨b1, b2, r1, r2, i1, B1, z1⟩ := hI
      have hz1 : w1.heap.size + 1 + 1 < W1.heap.size := by omega
      clear z1 hszr
      have HM := hide hit
      clear hd1 hd2 hW1 hG hit
      have hl := posn_le (gS s) s.size k
      have q1 := b1.cell
      obtain ⟨ao, cv, rfl⟩ := ownsRow_slice r1
      obtain ⟨ao', cv', rfl⟩ := ownsRow_slice r2
      have R1 := hide r1
      have R2 := hide r2
      have I1 := hide i1
      clear r1 r2 i1
      go_wp2_with (at_builtin; refine wpList_append_own _ rfl _ _ 38 rfl w1.heap.size 3 i3 _ 1 8 Tryd.underlying38 hi3 hz30 hz31 hz32 rfl (by decide) _ _ _ rfl ((unhide R1).alloc _) ⟨W1.heap.size, 0, none⟩ 1 1 [.int .i64 (posn (gS s) s.size k : Int)] rfl rfl ?c1 ?c2 ?c3 ?c4 ?c5 ?_)
      case c1 =>
        intro j x hj
        match j, hj with
        | 0, hj => simp at hj; subst hj; simp [Addr.add]
      case c2 => intro x hx; simp at hx; subst hx; rfl
      case c3 => unfold maxLen; omega
      case c4 => omega
      case c5 => simp; omega
      intro v2 w2 hown2 hg2 _
      obtain ⟨x1, x2, x3, x4, x5⟩ := b1.appended (by decide) (unhide R1) (by omega) (Nat.le_refl _) hown2 hg2
      obtain ⟨y1, y2⟩ := other_kept (v' := v2) b1 (unhide R1) b2 (unhide R2) (by omega) (by decide) (by decide) (by decide) hg2
      have I2 := hide (x4.2 _ _ (unhide I1) rfl)
      obtain ⟨g2, c2, rfl⟩ := ownsRow_succ hown2
      have x1c := x1.cell
      have x1f := x1.frozen
      have y1c := y1.cell
      have HG2 := hide hg2
      have z2 := x5.size
      clear hg2
      obtain ⟨W2, hW2⟩ : ∃ W2, w2.setCell ⟨w1.heap.size, 0, none⟩ (.slice (some ⟨g2, 0, none⟩) (k + 1) c2) = W2 := ⟨_, rfl⟩
      rw [hW2] at x2 x3 x5 y1 y2 y1c I2 z2
      have X3 := hide x3
      have Y2 := hide y2
      have hz2 : w1.heap.size + 1 + 1 < W2.heap.size := (Array.getElem?_eq_some_iff.1 (unhide I2)).1
      have hB2 := B1.trans x5
      clear x3 y2 hown2 b1 b2 R1 R2 I1 HG2 x4 x1 x5 B1 q1
      go_wp2_with (at_builtin; refine wpList_append_own _ rfl _ _ 39 rfl w1.heap.size 21 i21 _ 1 4 Tryd.underlying39 hi21 hy0 hy1 hy2 rfl (by decide) _ _ _ rfl ((unhide Y2).alloc _) ⟨W2.heap.size, 0, none⟩ 1 1 [.int .i32 (dRune (gS s) s.size (posn (gS s) s.size k))] rfl rfl ?c1 ?c2 ?c3 ?c4 ?c5 ?_)
      case c1 =>
        intro j x hj
        match j, hj with
        | 0, hj => simp at hj; subst hj; simp [Addr.add]
      case c2 => intro x hx; simp at hx; subst hx; rfl
      case c3 => unfold maxLen; omega
      case c4 => omega
      case c5 => simp; omega
      intro v3 w3 hown3 hg3 _
      obtain ⟨t1, t2, t3, t4, t5⟩ := y1.appended (by decide) (unhide Y2) (by omega) (by omega) hown3 hg3
      obtain ⟨s1, s2⟩ := other_kept (v' := v3) y1 (unhide Y2) x2 (unhide X3) (by omega) (by decide) (by decide) (by decide) hg3
      have I3 := hide (t4.2 _ _ (unhide I2) rfl)
      obtain ⟨g3, c3, rfl⟩ := ownsRow_succ hown3
      have t1c := t1.cell
      have t1f := t1.frozen
      have HG : Hid (GoI s w1.heap.size w1 (k + 1) (.slice (some ⟨g2, 0, none⟩) (k + 1) c2) (.slice (some ⟨g3, 0, none⟩) (k + 1) c3) (w3.setCell ⟨w1.heap.size + 1, 0, none⟩ (.slice (some ⟨g3, 0, none⟩) (k + 1) c3))) := by
        refine ⟨s1, t2, ?_, ?_, unhide I3, hB2.trans t5⟩
        · rw [pcs, upto_succ]; exact s2
        · rw [rcs, upto_succ]; exact t3
      clear hg3 t2 t3 t4 t5 s1 s2 I2 X3 Y2 hown3
      go_wp2
      refine ⟨⟨k + 1, _, _, hbf.succ hlt, unhide HG⟩, ?_⟩
      have i3 := (unhide HG).2.2.2.2.1
      have ps : posn (gS s) s.size (k + 1) = posn (gS s) s.size k + stepN (gS s) s.size (posn (gS s) s.size k) := rfl
      simp only [World.iterPos, i3, unhide HM]
      omega
    · have hpl := posn_le (gS s) s.size k
      have hnx : ∀ ty, (Instr.next (.pointer (some ⟨w1.heap.size + 1 + 1, 0, none⟩)) true ty).run Tryd.prog wr = .ok (.tuple #[.bool false]) wr := fun ty => Lib.run_next_end_at wr (w1.heap.size + 1 + 1) s _ ty hit hlt
      have hm : Runes (gS s) s.size k := ⟨by omega, hbf⟩
      obtain ⟨b1, b2, r1, r2, _, hB⟩ := hG
      have hBU : Below wr.heap.size wr ((wr.alloc (.cells #[.int .i64 0] 3)).alloc (.cells #[.bool true] 4)) := ((Below.refl _ wr).alloc (Nat.le_refl _) _).alloc (by simp) _
      have u1 : Boxed ((wr.alloc (.cells #[.int .i64 0] 3)).alloc (.cells #[.bool true] 4)) (wr.heap.size + 1) 4 (.bool true) := by
        have := Boxed.new (wr.alloc (.cells #[.int .i64 0] 3)) 4 (.bool true)
        rw [World.size_alloc] at this; exact this
      have u2 : Boxed ((wr.alloc (.cells #[.int .i64 0] 3)).alloc (.cells #[.bool true] 4)) wr.heap.size 3 (.int .i64 0) := (Boxed.new wr 3 _).alloc _
      have u3 := (b1.alloc (.cells #[.int .i64 0] 3)).alloc (.cells #[.bool true] 4)
      have u4 := (b2.alloc (.cells #[.int .i64 0] 3)).alloc (.cells #[.bool true] 4)
      have hkl := (unhide HBk).lt
      have hcc := (unhide HC).2.1
      have u6 := ((boxed_below (unhide HBk) hB hkl).alloc (.cells #[.int .i64 0] 3)).alloc (.cells #[.bool true] 4)
      have u7 : Sl ((wr.alloc (.cells #[.int .i64 0] 3)).alloc (.cells #[.bool true] 4)) c sv s.size (gS s) := (unhide HSc).keep (fun k e => by subst e; exact (hBU.block k (by omega)).trans (hB.block k (by omega)))
      obtain ⟨ao, cv, rfl⟩ := ownsRow_slice r1
      have HRUN := hide (go_run (gS_bd s) (by omega) hm u1 u2 u3 u4 (ownsRow_below r1 hBU) (ownsRow_below r2 hBU) u6 u7 (by simp; omega) (by omega) (by omega) (by omega) (by omega) (by omega) (by omega) (by omega) (by omega) (by omega) (fun e => by have := (r1.lt _ e).2; omega))
      have U3 := hide u3
      clear u1 u2 u3 u4 u6 u7 r1 r2 b1 b2
      go_wp2_with (first | (go_at_call 33; refine (unhide HRUN).mono ?_; rintro e A ⟨⟨u, rfl⟩, hF, hbo, hbn⟩; have y1 := hbo.cell; have y2 := hbn.cell; have y3 := (boxed_fr (unhide U3) hF (by rintro (h | h) <;> omega)).cell) | (go_at_call 13; refine (known_any _).mono ?_; rintro e A5 ⟨rfl, hB5⟩))
      go_ret
      have hBA : Below w.heap.size w A := (unhide HB1).trans ((hB.trans ((hBU.mono (by omega)).trans (hF.toBelow (by simp; omega) (fun k hk => by rintro (h | h) <;> omega)))).mono hz)
      exact ⟨rfl, hBA.trans (hB5.mono hBA.size)⟩

theorem textGo_any {a : Option Addr} {len cap : Nat} {g : Nat → Int} (hg : ∀ j, 0 ≤ g j ∧ g j ≤ 255) (w : World) (h : len ≤ 4000) (hR : Src w (.slice a len cap) len g) (hp : 0 < w.heap.size) :
    Calls Tryd.prog 5 #[.slice a len cap] w fun e w' => e = .returned (.bool true) ∧ Below w.heap.size w w' := by
  obtain ⟨s, hs⟩ : ∃ s, s = strOfNums (upto g len) := ⟨_, rfl⟩
  have hsz : s.size = len := by rw [hs, strOfNums_size, upto_length]
  have hSrc : ∀ W, Below w.heap.size w W → Src W (.slice a len cap) len g := fun W hW => by
    rcases hR with h | ⟨ad, cap', h1, h2⟩
    · exact .inl h
    · exact .inr ⟨ad, cap', h1, fun j hj => (hW.cell (p := ad.add j) (World.block_lt_of_cell? w _ (h2 j hj))).trans (h2 j hj)⟩
  have hcv : ∀ W, Below w.heap.size w W → (convert 22 9 (.slice a len cap)).run Tryd.prog W = .ok (.string s) W := fun W hW => by rw [hs]; exact conv_run (hSrc W hW)
  have hR' : Src w (.slice a len cap) len (gS s) := by
    rcases hR with h | ⟨ad, cap', h1, h2⟩
    · exact .inl h
    · exact .inr ⟨ad, cap', h1, fun j hj => by rw [hs, gS_nums g hg len j hj]; exact h2 j hj⟩
  clear hs hSrc hR
  subst hsz
  exact textGo_small s w h hR' hcv hp
end Go.Proofs.YtgcgaibncalknaaDoor
