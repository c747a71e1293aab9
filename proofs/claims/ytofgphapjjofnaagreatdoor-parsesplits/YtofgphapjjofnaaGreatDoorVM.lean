/- Towards the law: QB0 QB QC QJ. -/
import Derived.BigRegion
import Derived.Deep.RegionHeld3
import Derived.Test.YtofgphapjjofnaaGreatDoorVI
import Derived.Test.YtofgphapjjofnaaGreatDoorVL
set_option linter.unusedSimpArgs false
set_option linter.unusedVariables false
set_option maxRecDepth 100000
set_option maxHeartbeats 8000000
namespace Go.Proofs.YtofgphapjjofnaaGreatDoor
section
open Go.RowKit Go.Shelf
theorem paramsAhead_no {E : En} {nv : Value} {s : PS} {W : World} (h : RAt E nv s W) (hb : isP [40] s = false) : Calls Tryz.prog 95 #[.pointer (some ⟨E.M, 0, none⟩)] W fun e w' => e = .returned (.bool false) ∧ Below W.heap.size W w' := by
 have hml := h.rd.lt
 have HC : Hid (∀ w, Below W.heap.size W w → Calls Tryz.prog 92 #[.pointer (some ⟨E.M, 0, none⟩), .string ⟨#[40]⟩] w fun e w' => e = .returned (.bool false) ∧ Below w.heap.size w w') := fun w hw => by
  have := ris_any E.M E.tv s.n s.tk nv E.lv E.cv E.bv w (h.below hw).rd h.by' ⟨#[40]⟩ [40] ⟨rfl, by intro z hz; simp at hz; omega⟩
  rw [show isT s.tk [40] = false from hb] at this;exact this
 clear h hb;go_enter Tryz.func95, Tryz.ntmps95;go_wp2
 first | go_region_with (go_at_call 92; refine (U HC _ (Below.refl _ _).drew).mono ?_; rintro e w1 ⟨rfl, h1⟩) | fail
 all_goals (go_wp2; go_ret; exact ⟨rfl, (Below.refl _ _).drew.trans h1⟩)
theorem RdAt.rest {W : World} {M : Nat} {tv : Value} {n : Nat} {t : Tok} {nv lv cv bv : Value} (h : RdAt W M tv n t nv lv cv bv) : W.cell? ⟨M, 7, none⟩ = some lv ∧ W.cell? ⟨M, 8, none⟩ = some cv ∧ W.cell? ⟨M, 9, none⟩ = some bv := by
 have h' : W.heap[M]? = some (.cells (rdC tv n t nv lv cv bv) 72) := h;simp [World.cell?, h', rdC]
theorem ClRow.cells {W : World} {cv : Value} {cl : List Nat} (h : ClRow W cv cl) : ∃ cb cap, cv = .slice (some ⟨cb, 0, none⟩) cl.length cap ∧ cl.length ≤ cap ∧ cap ≤ maxLen ∧ ∀ j, j < cl.length → W.cell? ⟨cb, j, none⟩ = some (.int .i64 (cl.getD j 0 : Int)) := by
 obtain ⟨cb, cap, cur, fr, e, q1, q2, hh, hc⟩ := h;refine ⟨cb, cap, e, q1, q2, fun j hj => ?_⟩;have := hc j (cl.getD j 0) (by rw [List.getD_eq_getElem?_getD, List.getElem?_eq_getElem hj]; rfl);simp [World.cell?, hh, this]
theorem TkRow.all {W : World} {tv : Value} {l : List Tok} (h : TkRow W tv l) : ∃ tb cap, tv = .slice (some ⟨tb, 0, none⟩) l.length cap ∧ l.length ≤ cap ∧ cap ≤ maxLen ∧ l.length ≤ 100000 ∧ ∀ j, j < l.length → W.cell? ⟨tb, j * 4, none⟩ = some (.int .i64 (l.getD j tok0).1) ∧ W.cell? ⟨tb, j * 4 + 1, none⟩ = some (.string (strOfNums (l.getD j tok0).2.1)) ∧ W.cell? ⟨tb, j * 4 + 2, none⟩ = some (.int .i64 ((l.getD j tok0).2.2.1 : Int)) ∧ W.cell? ⟨tb, j * 4 + 3, none⟩ = some (.int .i64 ((l.getD j tok0).2.2.2 : Int)) := by
 obtain ⟨tb, cap, e, q1, q2, hpos, hl, hc⟩ := h;exact ⟨tb, cap, e, q1, q2, hl, fun j hj => hc j _ (by rw [List.getD_eq_getElem?_getD, List.getElem?_eq_getElem hj]; rfl)⟩
theorem paramsAhead_any {E : En} (hE : E.Ok) {nv : Value} {s : PS} {W : World} (h : RAt E nv s W) : Calls Tryz.prog 95 #[.pointer (some ⟨E.M, 0, none⟩)] W fun e w' => e = .returned (.bool (paramsAheadP E.c s)) ∧ Below W.heap.size W w' := by
  have hml := h.rd.lt;obtain ⟨b, hb⟩ : ∃ b, isP [40] s = b := ⟨_, rfl⟩
  have HC : Hid (∀ w, Below W.heap.size W w → Calls Tryz.prog 92 #[.pointer (some ⟨E.M, 0, none⟩), .string ⟨#[40]⟩] w fun e w' => e = .returned (.bool b) ∧ Below w.heap.size w w') := fun w hw => by
    have := ris_any E.M E.tv s.n s.tk nv E.lv E.cv E.bv w (h.below hw).rd h.by' ⟨#[40]⟩ [40] ⟨rfl, by intro z hz; simp at hz; omega⟩
    rw [show isT s.tk [40] = b from hb] at this;exact this
  cases b with
  | false =>
    rw [show paramsAheadP E.c s = false by simp [paramsAheadP, hb]];exact paramsAhead_no h hb
  | true =>
    obtain ⟨cb, cap, ecv, q1, q2, hcl⟩ := h.cl.cells;have hnl : s.n < E.c.cl.length := by rw [hE.cll]; exact h.le.1
    obtain ⟨k, hk⟩ : ∃ k, E.c.cl.getD s.n 0 = k := ⟨_, rfl⟩;obtain ⟨nn, hnn⟩ : ∃ n, s.n = n := ⟨_, rfl⟩;obtain ⟨L, hL⟩ : ∃ n, E.c.cl.length = n := ⟨_, rfl⟩
    have HS1 : Hid (∀ w', Below W.heap.size W w' → w'.cell? ⟨E.M, 8, none⟩ = some (.slice (some ⟨cb, 0, none⟩) L cap) ∧ w'.cell? ⟨E.M, 1, none⟩ = some (.int .i64 (nn : Int)) ∧ w'.cell? ⟨cb, nn, none⟩ = some (.int .i64 (k : Int))) := fun w' hb => by
      have h' := h.below hb;obtain ⟨cb', cap', ecv', _, _, hcl'⟩ := h'.cl.cells;rw [ecv] at ecv';cases ecv';refine ⟨by rw [← hL, ← ecv]; exact h'.rd.rest.2.1, by rw [← hnn]; exact h'.rd.two.2, by rw [← hk, ← hnn]; exact hcl' _ hnl⟩
    have hnL : nn < L := by omega
    rw [hL] at q1;unfold maxLen at q2;obtain ⟨c1, c2, c3⟩ := U HS1 W (Below.refl _ _);by_cases hk0 : k = 0
    · rw [show paramsAheadP E.c s = false by unfold paramsAheadP; rw [hk, hk0]; simp]
      have hkb0 : ((k : Int) == 0) = true := by simp [hk0]
      have HSS := HS1;clear h hb hcl hk hnn hL ecv hnl hE HS1;go_enter Tryz.func95, Tryz.ntmps95;go_wp2;go_region_held3 (fun w' => w'.cell? ⟨E.M, 8, none⟩ = some (.slice (some ⟨cb, 0, none⟩) L cap) ∧ w'.cell? ⟨E.M, 1, none⟩ = some (.int .i64 (nn : Int)) ∧ w'.cell? ⟨cb, nn, none⟩ = some (.int .i64 (k : Int)))
      (with_reducible first
        | exact U HSS _ (Below.refl _ _)
        | exact U HSS _ (Below.refl _ _).drew
        | exact U HSS _ hb1
        | assumption)
      ((go_at_call 92; refine (U HC _ (Below.refl _ _).drew).mono ?_; rintro e w1 ⟨rfl, h1⟩; have hb1 : Below W.heap.size W w1 := (Below.refl _ W).drew.trans h1; clear h1))
      all_goals (go_wp2; go_ret; exact ⟨rfl, hb1⟩)
    · have hkm : k ∈ E.c.cl := by rw [← hk, List.getD_eq_getElem?_getD, List.getElem?_eq_getElem hnl]; exact List.getElem_mem hnl
      have hkb := hE.clb k hkm hk0;obtain ⟨j, hj⟩ : ∃ j, k + 1 = j := ⟨_, rfl⟩;rw [hj] at hkb;obtain ⟨tb, capT, etv, r1, r2, r3, htk⟩ := h.tk.all;obtain ⟨T, hT⟩ : ∃ n, E.c.toks.length = n := ⟨_, rfl⟩;obtain ⟨t', ht'⟩ : ∃ t, E.c.toks.getD j tok0 = t := ⟨_, rfl⟩
      have hbt : Bys t'.2.1 := by
        rw [← ht', List.getD_eq_getElem?_getD, List.getElem?_eq_getElem hkb];exact hE.toks _ (List.getElem_mem hkb)
      obtain ⟨b2, hb2⟩ : ∃ b, isT t' [61, 62] = b := ⟨_, rfl⟩;rw [show paramsAheadP E.c s = b2 by unfold paramsAheadP; rw [hk, hj, ht', hb2, hb]; simp [hk0]]
      have HI : Hid (∀ w, Calls Tryz.prog 62 #[tkV t', .string ⟨#[61, 62]⟩] w fun e w' => e = .returned (.bool b2) ∧ Below w.heap.size w w') := fun w => by
        have := is_any t' hbt ⟨#[61, 62]⟩ [61, 62] ⟨rfl, by intro z hz; simp at hz; omega⟩ w;rw [hb2] at this;exact this
      unfold tkV at HI;obtain ⟨t1, e1⟩ : ∃ x, t'.1 = x := ⟨_, rfl⟩;obtain ⟨t2, e2⟩ : ∃ x, strOfNums t'.2.1 = x := ⟨_, rfl⟩;obtain ⟨t3, e3⟩ : ∃ x, (t'.2.2.1 : Int) = x := ⟨_, rfl⟩;obtain ⟨t4, e4⟩ : ∃ x, (t'.2.2.2 : Int) = x := ⟨_, rfl⟩;rw [e1, e2, e3, e4] at HI
      have HSS : Hid (∀ w', Below W.heap.size W w' → w'.cell? ⟨E.M, 8, none⟩ = some (.slice (some ⟨cb, 0, none⟩) L cap) ∧ w'.cell? ⟨E.M, 1, none⟩ = some (.int .i64 (nn : Int)) ∧ w'.cell? ⟨cb, nn, none⟩ = some (.int .i64 (k : Int)) ∧ w'.cell? ⟨E.M, 0, none⟩ = some (.slice (some ⟨tb, 0, none⟩) T capT) ∧ w'.cell? ⟨tb, j * 4, none⟩ = some (.int .i64 t1) ∧ w'.cell? ⟨tb, j * 4 + 1, none⟩ = some (.string t2) ∧ w'.cell? ⟨tb, j * 4 + 2, none⟩ = some (.int .i64 t3) ∧ w'.cell? ⟨tb, j * 4 + 3, none⟩ = some (.int .i64 t4)) := fun w' hb => by
        have h' := h.below hb;obtain ⟨a1, a2, a3⟩ := U HS1 w' hb;obtain ⟨tb', cap', etv', _, _, _, htk'⟩ := h'.tk.all;rw [etv] at etv';cases etv';have := htk' j hkb;rw [ht', e1, e2, e3, e4] at this;exact ⟨a1, a2, a3, by rw [← hT, ← etv]; exact h'.rd.two.1, this⟩
      have HS2 := HSS;have hkT : j < T := by omega
      have hkb0 : ((k : Int) == 0) = false := by simpa using hk0
      have hws : IntKind.i64.wrap ((k : Int) + 1) = (j : Int) := by rw [IntKind.wrap_i64]; omega
      rw [hT] at r1 r3;unfold maxLen at r2;clear h hb hcl hk hnn hL ecv hnl hE htk hT ht' e1 e2 e3 e4 hb2 hbt hkm hkb etv c1 c2 c3 hj;clear HSS;have HSS := HS1;obtain ⟨c1, c2, c3⟩ := U HS1 W (Below.refl _ _);go_enter Tryz.func95, Tryz.ntmps95;go_wp2;go_region_held3 (fun w' => w'.cell? ⟨E.M, 8, none⟩ = some (.slice (some ⟨cb, 0, none⟩) L cap) ∧ w'.cell? ⟨E.M, 1, none⟩ = some (.int .i64 (nn : Int)) ∧ w'.cell? ⟨cb, nn, none⟩ = some (.int .i64 (k : Int)))
      (with_reducible first
        | exact U HSS _ (Below.refl _ _)
        | exact U HSS _ (Below.refl _ _).drew
        | exact U HSS _ hb1
        | assumption)
      ((go_at_call 92; refine (U HC _ (Below.refl _ _).drew).mono ?_; rintro e w1 ⟨rfl, h1⟩; have hb1 : Below W.heap.size W w1 := (Below.refl _ W).drew.trans h1; clear h1))
      clear HSS
      all_goals (
        have HB1 := Hi hb1;have HSS : Hid (∀ w', Below w1.heap.size w1 w' → w'.cell? ⟨E.M, 8, none⟩ = some (.slice (some ⟨cb, 0, none⟩) L cap) ∧ w'.cell? ⟨E.M, 1, none⟩ = some (.int .i64 (nn : Int)) ∧ w'.cell? ⟨cb, nn, none⟩ = some (.int .i64 (k : Int)) ∧ w'.cell? ⟨E.M, 0, none⟩ = some (.slice (some ⟨tb, 0, none⟩) T capT) ∧ w'.cell? ⟨tb, j * 4, none⟩ = some (.int .i64 t1) ∧ w'.cell? ⟨tb, j * 4 + 1, none⟩ = some (.string t2) ∧ w'.cell? ⟨tb, j * 4 + 2, none⟩ = some (.int .i64 t3) ∧ w'.cell? ⟨tb, j * 4 + 3, none⟩ = some (.int .i64 t4)) := fun w' hb => U HS2 w' ((U HB1).trans (hb.mono (U HB1).size))
        obtain ⟨d1, d2, d3, d4, d5, d6, d7, d8⟩ := U HSS w1 (Below.refl _ _);clear hb1 c1 c2 c3;go_wp2;go_region_held3 (fun w' => w'.cell? ⟨E.M, 8, none⟩ = some (.slice (some ⟨cb, 0, none⟩) L cap) ∧ w'.cell? ⟨E.M, 1, none⟩ = some (.int .i64 (nn : Int)) ∧ w'.cell? ⟨cb, nn, none⟩ = some (.int .i64 (k : Int)) ∧ w'.cell? ⟨E.M, 0, none⟩ = some (.slice (some ⟨tb, 0, none⟩) T capT) ∧ w'.cell? ⟨tb, j * 4, none⟩ = some (.int .i64 t1) ∧ w'.cell? ⟨tb, j * 4 + 1, none⟩ = some (.string t2) ∧ w'.cell? ⟨tb, j * 4 + 2, none⟩ = some (.int .i64 t3) ∧ w'.cell? ⟨tb, j * 4 + 3, none⟩ = some (.int .i64 t4))
      (with_reducible first
        | exact U HSS _ (Below.refl _ _)
        | exact U HSS _ (Below.refl _ _).drew
        | exact U HSS _ hb1
        | assumption)
      ((go_at_call 62; refine (U HI _).mono ?_; rintro e w2 ⟨rfl, h2⟩; have hb1 : Below w1.heap.size w1 w2 := (Below.refl _ w1).drew.trans h2; clear h2))
        all_goals (go_wp2; go_ret; exact ⟨rfl, (U HB1).trans (hb1.mono (U HB1).size)⟩))
theorem arrowAhead_any {E : En} (hE : E.Ok) {nv : Value} {s : PS} {W : World} (h : RAt E nv s W) : Calls Tryz.prog 46 #[.pointer (some ⟨E.M, 0, none⟩)] W fun e w' => e = .returned (.bool ((fun s => if s.tk.1 = 1 then isT (behindP E.c 1 s) [61, 62] else isP [60] s || paramsAheadP E.c s) s)) ∧ Below W.heap.size W w' := by
 have hl := h.rd.lt;have c2 := h.rd.tok.1;have HB0 := Hi (Below.refl W.heap.size W);by_cases hk : s.tk.1 = 1
 · obtain ⟨t', ht'⟩ : ∃ t, behindP E.c 1 s = t := ⟨_, rfl⟩
   have hbt : Bys t'.2.1 := by rw [← ht']; exact behind_ok hE.toks
   have HBH : Hid (∀ w, Below W.heap.size W w → Calls Tryz.prog 63 #[.pointer (some ⟨E.M, 0, none⟩), .int .i64 1] w fun e w' => e = .returned (tkV t') ∧ Below w.heap.size w w') := fun w hw => by
    have h' := h.below hw;have := behind_any E.M E.tv s.n s.tk nv E.lv E.cv E.bv w E.c.toks h'.rd h'.tk h.le' 1 (by omega);rw [show E.c.toks.getD (min (s.n + 1) (E.c.toks.length - 1)) tok0 = t' from ht'] at this;exact this
   obtain ⟨b2, hb2⟩ : ∃ b, isT t' [61, 62] = b := ⟨_, rfl⟩
   have HI : Hid (∀ w, Calls Tryz.prog 62 #[tkV t', .string ⟨#[61, 62]⟩] w fun e w' => e = .returned (.bool b2) ∧ Below w.heap.size w w') := fun w => by
    have := is_any t' hbt ⟨#[61, 62]⟩ [61, 62] ⟨rfl, by intro z hz; simp at hz; omega⟩ w;rw [hb2] at this;exact this
   simp only [hk, if_true];rw [ht', hb2];rw [hk] at c2;have HX1 := Hi (U HBH W (Below.refl _ _));unfold tkV at HX1 HI;clear h ht' hbt hb2;go_enter Tryz.func46, Tryz.ntmps46;go_wp2_with (go_at_call 63; refine (U HX1).mono ?_)
   rintro e w1 ⟨rfl, h1⟩
   have hb1 := (U HB0).trans (h1.mono (U HB0).size);have HB1 := Hi hb1;clear h1 hb1;have HX2 := Hi (U HI w1);go_wp2_with (go_at_call 62; refine (U HX2).mono ?_)
   rintro e w2 ⟨rfl, h2⟩
   have hb2 := (U HB1).trans (h2.mono (U HB1).size);have HB2 := Hi hb2;clear h2 hb2;go_wp2;go_ret;exact ⟨rfl, U HB2⟩
 · have hkb : (s.tk.1 == 1) = false := beq_eq_false_iff_ne.2 hk
   simp only [hk, if_false];obtain ⟨b1, hb1⟩ : ∃ b, isP [60] s = b := ⟨_, rfl⟩
   have HI : Hid (∀ w, Below W.heap.size W w → Calls Tryz.prog 92 #[.pointer (some ⟨E.M, 0, none⟩), .string ⟨#[60]⟩] w fun e w' => e = .returned (.bool b1) ∧ Below w.heap.size w w') := fun w hw => by
    have := ris_any E.M E.tv s.n s.tk nv E.lv E.cv E.bv w (h.below hw).rd h.by' ⟨#[60]⟩ [60] ⟨rfl, by intro z hz; simp at hz; omega⟩
    rw [show isT s.tk [60] = b1 from hb1] at this;exact this
   obtain ⟨b2, hb2⟩ : ∃ b, paramsAheadP E.c s = b := ⟨_, rfl⟩
   have HP : Hid (∀ w, Below W.heap.size W w → Calls Tryz.prog 95 #[.pointer (some ⟨E.M, 0, none⟩)] w fun e w' => e = .returned (.bool b2) ∧ Below w.heap.size w w') := fun w hw => by
    have := paramsAhead_any hE (h.below hw);rw [hb2] at this;exact this
   rw [hb1, hb2];have HX1 := Hi (U HI W (Below.refl _ _));clear h hb1 hb2 hk;cases b1 with
   | true =>
     go_enter Tryz.func46, Tryz.ntmps46;go_wp2_with (go_at_call 92; refine (U HX1).mono ?_)
     rintro e w1 ⟨rfl, h1⟩
     have hb1 := (U HB0).trans (h1.mono (U HB0).size);have HB1 := Hi hb1;clear h1 hb1;go_wp2;go_ret;exact ⟨rfl, U HB1⟩
   | false =>
     go_enter Tryz.func46, Tryz.ntmps46;go_wp2_with (go_at_call 92; refine (U HX1).mono ?_)
     rintro e w1 ⟨rfl, h1⟩
     have hb1 := (U HB0).trans (h1.mono (U HB0).size);have HB1 := Hi hb1;clear h1 hb1;have HX2 := Hi (U HP w1 (U HB1));go_wp2_with (go_at_call 95; refine (U HX2).mono ?_)
     rintro e w2 ⟨rfl, h2⟩
     have hb2 := (U HB1).trans (h2.mono (U HB1).size);have HB2 := Hi hb2;clear h2 hb2;go_wp2;go_ret;exact ⟨rfl, U HB2⟩
theorem isAssign_any (m : List Int) (hbm : Bys m) (W : World) : Calls Tryz.prog 49 #[.string (strOfNums m)] W fun e w' => e = .returned (.bool (isAssignL.contains m)) ∧ w' = W := by
 by_cases e0 : m = [61]
 · subst e0
   rw [show isAssignL.contains [61] = true from by decide, show strOfNums [61] = ⟨#[61]⟩ from rfl];clear hbm;go_enter Tryz.func49, Tryz.ntmps49;go_wp2;go_ret;exact ⟨rfl, rfl⟩
 by_cases e1 : m = [43, 61]
 · subst e1
   rw [show isAssignL.contains [43, 61] = true from by decide, show strOfNums [43, 61] = ⟨#[43, 61]⟩ from rfl];clear hbm;go_enter Tryz.func49, Tryz.ntmps49;go_wp2;go_ret;exact ⟨rfl, rfl⟩
 by_cases e2 : m = [45, 61]
 · subst e2
   rw [show isAssignL.contains [45, 61] = true from by decide, show strOfNums [45, 61] = ⟨#[45, 61]⟩ from rfl];clear hbm;go_enter Tryz.func49, Tryz.ntmps49;go_wp2;go_ret;exact ⟨rfl, rfl⟩
 by_cases e3 : m = [42, 61]
 · subst e3
   rw [show isAssignL.contains [42, 61] = true from by decide, show strOfNums [42, 61] = ⟨#[42, 61]⟩ from rfl];clear hbm;go_enter Tryz.func49, Tryz.ntmps49;go_wp2;go_ret;exact ⟨rfl, rfl⟩
 by_cases e4 : m = [37, 61]
 · subst e4
   rw [show isAssignL.contains [37, 61] = true from by decide, show strOfNums [37, 61] = ⟨#[37, 61]⟩ from rfl];clear hbm;go_enter Tryz.func49, Tryz.ntmps49;go_wp2;go_ret;exact ⟨rfl, rfl⟩
 have g0 := mark_ne hbm (l := [61]) (by intro z hz; simp at hz; omega) e0;have g1 := mark_ne hbm (l := [43, 61]) (by intro z hz; simp at hz; omega) e1;have g2 := mark_ne hbm (l := [45, 61]) (by intro z hz; simp at hz; omega) e2;have g3 := mark_ne hbm (l := [42, 61]) (by intro z hz; simp at hz; omega) e3;have g4 := mark_ne hbm (l := [37, 61]) (by intro z hz; simp at hz; omega) e4;have hf : isAssignL.contains m = false := by simp [isAssignL, e0, e1, e2, e3, e4]
 rw [hf];obtain ⟨S, hS⟩ : ∃ S, strOfNums m = S := ⟨_, rfl⟩;rw [hS] at g0 g1 g2 g3 g4 ⊢;clear hS hf hbm e0 e1 e2 e3 e4;replace g0 : (S.toList == [61]) = false := g0;replace g1 : (S.toList == [43, 61]) = false := g1;replace g2 : (S.toList == [45, 61]) = false := g2;replace g3 : (S.toList == [42, 61]) = false := g3;replace g4 : (S.toList == [37, 61]) = false := g4;go_enter Tryz.func49, Tryz.ntmps49;go_wp2;go_ret;exact ⟨rfl, rfl⟩
def isTgt (k : Int) : Bool := k == 17 || (k == 29 || k == 30)
theorem isTarget_any (k : Int) (W : World) : Calls Tryz.prog 51 #[.int .i64 k] W fun e w' => e = .returned (.bool (isTgt k)) ∧ w' = W := by
 unfold isTgt;by_cases h1 : k = 17
 · subst h1
   go_enter Tryz.func51, Tryz.ntmps51;go_wp2;go_ret;exact ⟨rfl, rfl⟩
 have b1 : (k == 17) = false := beq_eq_false_iff_ne.2 h1;by_cases h2 : k = 29
 · subst h2
   go_enter Tryz.func51, Tryz.ntmps51;go_wp2;go_ret;exact ⟨rfl, rfl⟩
 have b2 : (k == 29) = false := beq_eq_false_iff_ne.2 h2;by_cases h3 : k = 30
 · subst h3
   go_enter Tryz.func51, Tryz.ntmps51;go_wp2;go_ret;exact ⟨rfl, rfl⟩
 have b3 : (k == 30) = false := beq_eq_false_iff_ne.2 h3;rw [b1, b2, b3];go_enter Tryz.func51, Tryz.ntmps51;go_wp2;go_ret;exact ⟨rfl, rfl⟩
theorem ndsC_get : ∀ (l : List PN) (kvs : List Value) (i : Nat) (x : PN), kvs.length = l.length → l[i]? = some x → (ndsC l kvs)[i * 5]? = some (.int .i64 x.kind)
 | [], _, i, x, _, h => by simp at h
 | y :: l, [], i, x, hl, h => by simp at hl
 | y :: l, k :: kvs, 0, x, hl, h => by simp at h; subst h; rfl
 | y :: l, k :: kvs, i + 1, x, hl, h => by
   have := ndsC_get l kvs i x (by simpa using hl) (by simpa using h);rw [show (i + 1) * 5 = i * 5 + 5 by omega];show (ndC y k ++ ndsC l kvs)[i * 5 + 5]? = _
   rw [List.getElem?_append_right (by simp [ndC])];simpa [ndC] using this
def nd0 : PN := ⟨0, [], 0, [], 0⟩
theorem nd_kind {Z : Nat → Prop} {W : World} {nv : Value} {l : List PN} (h : NdRow Z W nv l) {i : Nat} (hi : i < l.length) : ∃ g cap, nv = .slice (some ⟨g, 0, none⟩) l.length cap ∧ l.length ≤ cap ∧ cap ≤ 9223372036854775807 ∧ ∀ w', Below W.heap.size W w' → w'.cell? ⟨g, i * 5, none⟩ = some (.int .i64 (l.getD i nd0).kind) := by
 obtain ⟨kvs, h1, h2, h3⟩ := h;have hx : l[i]? = some (l.getD i nd0) := by rw [List.getD_eq_getElem?_getD, List.getElem?_eq_getElem hi]; rfl
 have hc := ndsC_get l kvs i _ h1 hx;rcases h2.2 with ⟨e, e2⟩ | ⟨g, cap, cur, e, _, hh, q1, q2, _⟩
 · omega
 · have := h2.cells (g := g) (by rw [e]; rfl) _ _ hc
   refine ⟨g, cap, e, q1, by unfold maxLen at q2; omega, fun w' hw => ?_⟩;refine (hw.cell (p := ⟨g, i * 5, none⟩) (Array.getElem?_eq_some_iff.1 hh).1).trans ?_;rw [show (⟨g, i * 5, none⟩ : Addr) = (⟨g, 0, none⟩ : Addr).add (i * 5) by unfold Addr.add; split <;> simp_all];exact this
theorem expr_step {E : En} (hE : E.Ok) {n : Nat}  (IW : IHA E n .arrow 47 #[.pointer (some ⟨E.M, 0, none⟩)]) (IC : IHA E n .cond 48 #[.pointer (some ⟨E.M, 0, none⟩)]) (IX : IHA E n .expr 24 #[.pointer (some ⟨E.M, 0, none⟩)]) : IHA E (n + 1) .expr 24 #[.pointer (some ⟨E.M, 0, none⟩)] := by
 intro nv s W h hne;obtain ⟨R, hR⟩ : ∃ R, parP E.c (n + 1) .expr s = R := ⟨_, rfl⟩;rw [hR] at hne ⊢;simp only [parP, bodyP] at hR;have HR0 := Hi hR;have H0 := Hi (Lf.refl h);have HE := Hi hE;have HNE := Hi hne;have HIW := Hi IW;have HIC := Hi IC;have HIX := Hi IX;clear hR hne h hE IW IC IX;go_enter Tryz.func24, Tryz.ntmps24;have HC1 := Hi (arrowAhead_any (U HE) (U H0).1);obtain ⟨b1, hb1⟩ : ∃ b, (fun s => if s.tk.1 = 1 then isT (behindP E.c 1 s) [61, 62] else isP [60] s || paramsAheadP E.c s) s = b := ⟨_, rfl⟩;rw [hb1] at HC1;have hR1 : testP (fun s => if s.tk.1 = 1 then isT (behindP E.c 1 s) [61, 62] else isP [60] s || paramsAheadP E.c s) s = .ok b1 s := by show Res.ok ((fun s => if s.tk.1 = 1 then isT (behindP E.c 1 s) [61, 62] else isP [60] s || paramsAheadP E.c s) s) s = _; rw [hb1]
 have HR1 := br hR1 HR0;clear hb1 hR1;go_wp2_with (go_at_call 46; refine (U HC1).mono ?_)
 rintro e w1 ⟨rfl, h1⟩
 have H1 := Hi ((U H0).below h1);clear h1;cases b1 with
 | false =>
   try simp only [Bool.false_eq_true, if_false] at HR1
   have d2 := (U H1).1.rd.tok.2.2.1;have hl2 := (U H1).1.rd.lt;have hR2 := U HR1;rw [bd_ok (p := atP) rfl] at hR2;replace HR1 := Hi hR2;clear hR2;have hp3 := bd_ne (p := parP E.c n .cond) (U HR1) (U HNE);have HC3 := Hi (U HIC _ _ _ (U H1).1 hp3);cases hq3 : parP E.c n .cond s with
   | out => exact absurd hq3 hp3
   | no s3 =>
     have hR3 := (bd_no hq3).symm.trans (U HR1);subst hR3;replace HC3 := rn HC3 hq3;clear hq3 hp3;go_wp2_with (go_at_call 48; refine (U HC3).mono ?_)
     rintro e w3 ⟨rfl, nv3, h3⟩
     have H3 := Hi ((U H1).trans h3);clear h3;go_wp2;exact ⟨rfl, rfl, nv3, U H3⟩
   | ok a3 s3 =>
     have HR3 := br hq3 HR1;replace HC3 := ro HC3 hq3;clear hq3 hp3;go_wp2_with (go_at_call 48; refine (U HC3).mono ?_)
     rintro e w3 ⟨rfl, nv3, h3⟩
     have H3 := Hi ((U H1).trans h3);clear h3;obtain ⟨t2_4, t3_4, t4_4, t5_4⟩ := (U H3).1.rd.tok;have hl4 := (U H3).1.rd.lt;have HC4 := Hi (mark_any s3.tk w3);unfold tkV at HC4;have hR4 := U HR3;rw [bd_ok (p := markP) rfl] at hR4;obtain ⟨ba, hba⟩ : ∃ b, isAssignL.contains (mark s3.tk) = b := ⟨_, rfl⟩;rw [hba] at hR4
     have HIA : Hid (∀ w', Calls Tryz.prog 49 #[.string (strOfNums (mark s3.tk))] w' fun e w'' => e = .returned (.bool ba) ∧ w'' = w') := fun w' => by
      have := isAssign_any (mark s3.tk) (mark_bys (U H3).1.by') w';rw [hba] at this;exact this
     have HR4 := Hi hR4;clear hR4 hba;go_wp2_with (go_at_call 50; refine (U HC4).mono ?_)
     rintro e w4 ⟨rfl, h4⟩
     have H4 := Hi ((U H3).below h4);clear h4;go_wp2_with (go_at_call 49; refine (U HIA w4).mono ?_)
     first | rintro e w' rfl hw | rintro e w' ⟨rfl, hw⟩
     subst hw;cases ba with
     | false =>
       have hR4 : (.ok a3 s3 : Res (List Nat)) = R := U HR4;subst hR4;go_wp2;go_ret;exact ⟨rfl, nv3, U H4⟩
     | true =>
       have hR4 : (if s3.nodes.length ≤ hd0 a3 then Res.out else if (s3.nodes.getD (hd0 a3) nd0).kind = 17 ∨ (s3.nodes.getD (hd0 a3) nd0).kind = 29 ∨ (s3.nodes.getD (hd0 a3) nd0).kind = 30 then (bd (nextP E.c) fun t => bd (parP E.c n .expr) fun r => one1 (putP ⟨26, t.2.1, 0, [hd0 a3, hd0 r], s.tk.2.2.1⟩)) s3 else .no s3) = R := U HR4
       have hin : hd0 a3 < s3.nodes.length := by
        rcases Nat.lt_or_ge (hd0 a3) s3.nodes.length with hh | hh
        · exact hh
        · rw [if_pos hh] at hR4
          exact absurd hR4.symm (U HNE)
       rw [if_neg (by omega)] at hR4;obtain ⟨g6, cap6, env6, q16, q26, hc6⟩ := nd_kind (U H4).1.nd hin;have c6 := (U H4).1.rd.nodes;rw [env6] at c6;have k6 := hc6 _ (Below.refl _ _);obtain ⟨kd, hkd⟩ : ∃ x, (s3.nodes.getD (hd0 a3) nd0).kind = x := ⟨_, rfl⟩;rw [hkd] at k6 hR4;have HIT := Hi (isTarget_any kd w');obtain ⟨bt, hbt⟩ : ∃ b, isTgt kd = b := ⟨_, rfl⟩;rw [hbt] at HIT;have hml6 := (U H4).1.rd.lt;have hg6 := World.block_lt_of_cell? _ _ k6;obtain ⟨ln6, hln6⟩ : ∃ x, s3.nodes.length = x := ⟨_, rfl⟩;obtain ⟨ix6, hix6⟩ : ∃ x, hd0 a3 = x := ⟨_, rfl⟩;have HIX6 := Hi hix6;rw [hln6] at c6 q16 hin;rw [hix6] at k6 hin;rw [hix6] at hR4;rw [hix6];clear hc6 hkd env6 hln6 hix6;go_wp2_with (go_at_call 51; refine (U HIT).mono ?_)
       rintro e wq ⟨rfl, hwq⟩
       subst hwq;cases bt with
       | false =>
         rw [if_neg (by unfold isTgt at hbt; intro hh; rcases hh with hh | hh | hh <;> subst hh <;> simp at hbt)] at hR4;have HR4n := Hi hR4;have H4n := Hi (U H4);clear hR4 hbt;have HC5 := Hi (refuse_any (.pointer (some ⟨E.M, 0, none⟩)) wq);have hR5 : (.no s3 : Res (List Nat)) = R := U HR4n;subst hR5;go_wp2_with (go_at_call 52; refine (U HC5).mono ?_)
         rintro e w5 ⟨rfl, h5⟩
         have H5 := Hi ((U H4n).below h5);clear h5;go_wp2;exact ⟨rfl, rfl, nv3, U H5⟩
       | true =>
         rw [if_pos (by unfold isTgt at hbt; simpa using hbt)] at hR4;have HR4y := Hi hR4;have H4y := Hi (U H4);clear hR4 hbt;have hp6 := bd_ne (p := nextP E.c) (U HR4y) (U HNE);obtain ⟨a6, s6, hq6⟩ : ∃ a s', nextP E.c s3 = .ok a s' := next_ok hp6;have HC6 := Hi (rq_ok (next_rq (U HE) (U H4y).1 hp6) hq6);have HR6 := br hq6 HR4y;clear hq6 hp6;unfold tkV at HC6;go_wp2_with (go_at_call 53; refine (U HC6).mono ?_)
         rintro e w6 ⟨rfl, nv6, h6⟩
         have H6 := Hi ((U H4y).trans h6);clear h6;have q16 := tf1 a6.1 (strOfNums a6.2.1) (a6.2.2.1 : Int) (a6.2.2.2 : Int) w6;have hp7 := bd_ne (p := parP E.c n .expr) (U HR6) (U HNE);have HC7 := Hi (U HIX _ _ _ (U H6).1 hp7);cases hq7 : parP E.c n .expr s6 with
         | out => exact absurd hq7 hp7
         | no s7 =>
           have hR7 := (bd_no hq7).symm.trans (U HR6);subst hR7;replace HC7 := rn HC7 hq7;clear hq7 hp7;go_wp2_with (go_at_call 24; refine (U HC7).mono ?_)
           rintro e w7 ⟨rfl, nv7, h7⟩
           have H7 := Hi ((U H6).trans h7);clear h7;go_wp2;exact ⟨rfl, rfl, nv7, U H7⟩
         | ok a7 s7 =>
           have HR7 := br hq7 HR6;replace HC7 := ro HC7 hq7;clear hq7 hp7;go_wp2_with (go_at_call 24; refine (U HC7).mono ?_)
           rintro e w7 ⟨rfl, nv7, h7⟩
           have H7 := Hi ((U H6).trans h7);clear h7;have hp8 := bd_ne (p := putP ⟨26, a6.2.1, 0, [ix6, hd0 a7], s.tk.2.2.1⟩) (U HR7) (U HNE);obtain ⟨a8, s8, hq8⟩ : ∃ a s', putP ⟨26, a6.2.1, 0, [ix6, hd0 a7], s.tk.2.2.1⟩ s7 = .ok a s' := put_ex hp8;have H8p := Hi ((U H7).below ((Below.refl _ w7).alloc NL (.cells #[.int .i64 ((ix6 : Nat) : Int), .int .i64 ((hd0 a7 : Nat) : Int)] 3)));have HC8 := Hi (rq_ok (put_rq (U H8p).1 _ _ _ (kid2 w7 (ix6) (hd0 a7) (U H7).1.zl) hp8) hq8);simp only [e0', List.length_cons, List.length_nil] at HC8;have HR8 := br hq8 HR7;clear hq8 hp8;go_wp2_with (go_at_call 32; refine (U HC8).mono ?_)
           rintro e w8 ⟨rfl, nv8, h8⟩
           have H8 := Hi ((U H8p).trans h8);clear h8;have hR8 : (.ok [a8] s8 : Res (List Nat)) = R := U HR8;subst hR8;go_wp2;go_ret;exact ⟨rfl, nv8, U H8⟩
 | true =>
   try simp only [if_true] at HR1
   have hp9 : parP E.c n .arrow s ≠ .out := fun e => U HNE ((U HR1).symm.trans e)
   have HC9 := Hi (U HIW _ _ _ (U H1).1 hp9);cases hq9 : parP E.c n .arrow s with
   | out => exact absurd hq9 hp9
   | no s9 =>
     have hR9 := hq9.symm.trans (U HR1);subst hR9;replace HC9 := rn HC9 hq9;clear hq9 hp9;go_wp2_with (go_at_call 47; refine (U HC9).mono ?_)
     rintro e w9 ⟨rfl, nv9, h9⟩
     have H9 := Hi ((U H1).trans h9);clear h9;go_wp2;exact ⟨rfl, rfl, nv9, U H9⟩
   | ok a9 s9 =>
     have HR9 := Hi (hq9.symm.trans (U HR1));replace HC9 := ro HC9 hq9;clear hq9 hp9;go_wp2_with (go_at_call 47; refine (U HC9).mono ?_)
     rintro e w9 ⟨rfl, nv9, h9⟩
     have H9 := Hi ((U H1).trans h9);clear h9;have hR9 := U HR9;subst hR9;go_wp2;go_ret;exact ⟨rfl, nv9, U H9⟩
end
end Go.Proofs.YtofgphapjjofnaaGreatDoor
