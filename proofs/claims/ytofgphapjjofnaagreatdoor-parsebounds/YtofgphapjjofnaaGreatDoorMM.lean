/- Towards the law: QB0 QB QC QJ. -/
import Derived.BigRegion
import Derived.Deep.RegionHeld3
import Derived.Test.YtofgphapjjofnaaGreatDoorMI
import Derived.Test.YtofgphapjjofnaaGreatDoorML
set_option linter.unusedSimpArgs false
set_option linter.unusedVariables false
set_option maxRecDepth 100000
set_option maxHeartbeats 8000000
namespace Go.Proofs.YtofgphapjjofnaaGreatDoor
section
open Go.RowKit Go.Shelf
theorem paramsAhead_no {E : En} {nv : Value} {s : PS} {W : World} (h : RAt E nv s W) (hb : isP [40] s = false) : Calls Tryz.prog 95 #[.pointer (some ⟨E.M, 0, none⟩)] W fun e w' => e = .returned (.bool false) ∧ Below W.heap.size W w' := by
 have hml := h.rd.lt
 have HC : Hid (∀ w, Below W.heap.size W w → Calls Tryz.prog 92 #[.pointer (some ⟨E.M, 0, none⟩), .string ⟨#[40]⟩] w fun e w' => e = .returned (.bool false) ∧ Below w.heap.size w w') := fun w hw => by
  have := ris_any E.M E.tv s.n s.tk nv E.lv E.cv E.bv w (h.below hw).rd h.by' ⟨#[40]⟩ [40] ⟨rfl, by intro z hz; simp at hz; omega⟩
  rw [show isT s.tk [40] = false from hb] at this;exact this
 clear h hb;go_enter Tryz.func95, Tryz.ntmps95;go_wp2
 first | go_region_with (go_at_call 92; refine (U HC _ (Below.refl _ _).drew).mono ?_; rintro e w1 ⟨rfl, h1⟩) | fail
 all_goals (go_wp2; go_ret; exact ⟨rfl, (Below.refl _ _).drew.trans h1⟩)
theorem RdAt.rest {W : World} {M : Nat} {tv : Value} {n : Nat} {t : Tok} {nv lv cv bv : Value} (h : RdAt W M tv n t nv lv cv bv) : W.cell? ⟨M, 7, none⟩ = some lv ∧ W.cell? ⟨M, 8, none⟩ = some cv ∧ W.cell? ⟨M, 9, none⟩ = some bv := by
 have h' : W.heap[M]? = some (.cells (rdC tv n t nv lv cv bv) 72) := h;simp [World.cell?, h', rdC]
theorem ClRow.cells {W : World} {cv : Value} {cl : List Nat} (h : ClRow W cv cl) : ∃ cb cap, cv = .slice (some ⟨cb, 0, none⟩) cl.length cap ∧ cl.length ≤ cap ∧ cap ≤ maxLen ∧ ∀ j, j < cl.length → W.cell? ⟨cb, j, none⟩ = some (.int .i64 (cl.getD j 0 : Int)) := by
 obtain ⟨cb, cap, cur, fr, e, q1, q2, hh, hc⟩ := h;refine ⟨cb, cap, e, q1, q2, fun j hj => ?_⟩;have := hc j (cl.getD j 0) (by rw [List.getD_eq_getElem?_getD, List.getElem?_eq_getElem hj]; rfl);simp [World.cell?, hh, this]
theorem TkRow.all {W : World} {tv : Value} {l : List Tok} (h : TkRow W tv l) : ∃ tb cap, tv = .slice (some ⟨tb, 0, none⟩) l.length cap ∧ l.length ≤ cap ∧ cap ≤ maxLen ∧ l.length ≤ 100000 ∧ ∀ j, j < l.length → W.cell? ⟨tb, j * 4, none⟩ = some (.int .i64 (l.getD j tok0).1) ∧ W.cell? ⟨tb, j * 4 + 1, none⟩ = some (.string (strOfNums (l.getD j tok0).2.1)) ∧ W.cell? ⟨tb, j * 4 + 2, none⟩ = some (.int .i64 ((l.getD j tok0).2.2.1 : Int)) ∧ W.cell? ⟨tb, j * 4 + 3, none⟩ = some (.int .i64 ((l.getD j tok0).2.2.2 : Int)) := by
 obtain ⟨tb, cap, e, q1, q2, hpos, hl, hc⟩ := h;exact ⟨tb, cap, e, q1, q2, hl, fun j hj => hc j _ (by rw [List.getD_eq_getElem?_getD, List.getElem?_eq_getElem hj]; rfl)⟩
theorem paramsAhead_any {E : En} (hE : E.Ok) {nv : Value} {s : PS} {W : World} (h : RAt E nv s W) : Calls Tryz.prog 95 #[.pointer (some ⟨E.M, 0, none⟩)] W fun e w' => e = .returned (.bool (paramsAheadP E.c s)) ∧ Below W.heap.size W w' := by
  have hml := h.rd.lt;obtain ⟨b, hb⟩ : ∃ b, isP [40] s = b := ⟨_, rfl⟩
  have HC : Hid (∀ w, Below W.heap.size W w → Calls Tryz.prog 92 #[.pointer (some ⟨E.M, 0, none⟩), .string ⟨#[40]⟩] w fun e w' => e = .returned (.bool b) ∧ Below w.heap.size w w') := fun w hw => by
    have := ris_any E.M E.tv s.n s.tk nv E.lv E.cv E.bv w (h.below hw).rd h.by' ⟨#[40]⟩ [40] ⟨rfl, by intro z hz; simp at hz; omega⟩
    rw [show isT s.tk [40] = b from hb] at this;exact this
  cases b with
  | false =>
    rw [show paramsAheadP E.c s = false by simp [paramsAheadP, hb]];exact paramsAhead_no h hb
  | true =>
    obtain ⟨cb, cap, ecv, q1, q2, hcl⟩ := h.cl.cells;have hnl : s.n < E.c.cl.length := by rw [hE.cll]; exact h.le.1
    obtain ⟨k, hk⟩ : ∃ k, E.c.cl.getD s.n 0 = k := ⟨_, rfl⟩;obtain ⟨nn, hnn⟩ : ∃ n, s.n = n := ⟨_, rfl⟩;obtain ⟨L, hL⟩ : ∃ n, E.c.cl.length = n := ⟨_, rfl⟩
    have HS1 : Hid (∀ w', Below W.heap.size W w' → w'.cell? ⟨E.M, 8, none⟩ = some (.slice (some ⟨cb, 0, none⟩) L cap) ∧ w'.cell? ⟨E.M, 1, none⟩ = some (.int .i64 (nn : Int)) ∧ w'.cell? ⟨cb, nn, none⟩ = some (.int .i64 (k : Int))) := fun w' hb => by
      have h' := h.below hb;obtain ⟨cb', cap', ecv', _, _, hcl'⟩ := h'.cl.cells;rw [ecv] at ecv';cases ecv';refine ⟨by rw [← hL, ← ecv]; exact h'.rd.rest.2.1, by rw [← hnn]; exact h'.rd.two.2, by rw [← hk, ← hnn]; exact hcl' _ hnl⟩
    have hnL : nn < L := by omega
    rw [hL] at q1;unfold maxLen at q2;obtain ⟨c1, c2, c3⟩ := U HS1 W (Below.refl _ _);by_cases hk0 : k = 0
    · rw [show paramsAheadP E.c s = false by unfold paramsAheadP; rw [hk, hk0]; simp]
      have hkb0 : ((k : Int) == 0) = true := by simp [hk0]
      have HSS := HS1;clear h hb hcl hk hnn hL ecv hnl hE HS1;go_enter Tryz.func95, Tryz.ntmps95;go_wp2;go_region_held3 (fun w' => w'.cell? ⟨E.M, 8, none⟩ = some (.slice (some ⟨cb, 0, none⟩) L cap) ∧ w'.cell? ⟨E.M, 1, none⟩ = some (.int .i64 (nn : Int)) ∧ w'.cell? ⟨cb, nn, none⟩ = some (.int .i64 (k : Int)))
      (with_reducible first
        | exact U HSS _ (Below.refl _ _)
        | exact U HSS _ (Below.refl _ _).drew
        | exact U HSS _ hb1
        | assumption)
      ((go_at_call 92; refine (U HC _ (Below.refl _ _).drew).mono ?_; rintro e w1 ⟨rfl, h1⟩; have hb1 : Below W.heap.size W w1 := (Below.refl _ W).drew.trans h1; clear h1))
      all_goals (go_wp2; go_ret; exact ⟨rfl, hb1⟩)
    · have hkm : k ∈ E.c.cl := by rw [← hk, List.getD_eq_getElem?_getD, List.getElem?_eq_getElem hnl]; exact List.getElem_mem hnl
      have hkb := hE.clb k hkm hk0;obtain ⟨j, hj⟩ : ∃ j, k + 1 = j := ⟨_, rfl⟩;rw [hj] at hkb;obtain ⟨tb, capT, etv, r1, r2, r3, htk⟩ := h.tk.all;obtain ⟨T, hT⟩ : ∃ n, E.c.toks.length = n := ⟨_, rfl⟩;obtain ⟨t', ht'⟩ : ∃ t, E.c.toks.getD j tok0 = t := ⟨_, rfl⟩
      have hbt : Bys t'.2.1 := by
        rw [← ht', List.getD_eq_getElem?_getD, List.getElem?_eq_getElem hkb];exact hE.toks _ (List.getElem_mem hkb)
      obtain ⟨b2, hb2⟩ : ∃ b, isT t' [61, 62] = b := ⟨_, rfl⟩;rw [show paramsAheadP E.c s = b2 by unfold paramsAheadP; rw [hk, hj, ht', hb2, hb]; simp [hk0]]
      have HI : Hid (∀ w, Calls Tryz.prog 62 #[tkV t', .string ⟨#[61, 62]⟩] w fun e w' => e = .returned (.bool b2) ∧ Below w.heap.size w w') := fun w => by
        have := is_any t' hbt ⟨#[61, 62]⟩ [61, 62] ⟨rfl, by intro z hz; simp at hz; omega⟩ w;rw [hb2] at this;exact this
      unfold tkV at HI;obtain ⟨t1, e1⟩ : ∃ x, t'.1 = x := ⟨_, rfl⟩;obtain ⟨t2, e2⟩ : ∃ x, strOfNums t'.2.1 = x := ⟨_, rfl⟩;obtain ⟨t3, e3⟩ : ∃ x, (t'.2.2.1 : Int) = x := ⟨_, rfl⟩;obtain ⟨t4, e4⟩ : ∃ x, (t'.2.2.2 : Int) = x := ⟨_, rfl⟩;rw [e1, e2, e3, e4] at HI
      have HSS : Hid (∀ w', Below W.heap.size W w' → w'.cell? ⟨E.M, 8, none⟩ = some (.slice (some ⟨cb, 0, none⟩) L cap) ∧ w'.cell? ⟨E.M, 1, none⟩ = some (.int .i64 (nn : Int)) ∧ w'.cell? ⟨cb, nn, none⟩ = some (.int .i64 (k : Int)) ∧ w'.cell? ⟨E.M, 0, none⟩ = some (.slice (some ⟨tb, 0, none⟩) T capT) ∧ w'.cell? ⟨tb, j * 4, none⟩ = some (.int .i64 t1) ∧ w'.cell? ⟨tb, j * 4 + 1, none⟩ = some (.string t2) ∧ w'.cell? ⟨tb, j * 4 + 2, none⟩ = some (.int .i64 t3) ∧ w'.cell? ⟨tb, j * 4 + 3, none⟩ = some (.int .i64 t4)) := fun w' hb => by
        have h' := h.below hb;obtain ⟨a1, a2, a3⟩ := U HS1 w' hb;obtain ⟨tb', cap', etv', _, _, _, htk'⟩ := h'.tk.all;rw [etv] at etv';cases etv';have := htk' j hkb;rw [ht', e1, e2, e3, e4] at this;exact ⟨a1, a2, a3, by rw [← hT, ← etv]; exact h'.rd.two.1, this⟩
      have HS2 := HSS;have hkT : j < T := by omega
      have hkb0 : ((k : Int) == 0) = false := by simpa using hk0
      have hws : IntKind.i64.wrap ((k : Int) + 1) = (j : Int) := by rw [IntKind.wrap_i64]; omega
      rw [hT] at r1 r3;unfold maxLen at r2;clear h hb hcl hk hnn hL ecv hnl hE htk hT ht' e1 e2 e3 e4 hb2 hbt hkm hkb etv c1 c2 c3 hj;clear HSS;have HSS := HS1;obtain ⟨c1, c2, c3⟩ := U HS1 W (Below.refl _ _);go_enter Tryz.func95, Tryz.ntmps95;go_wp2;go_region_held3 (fun w' => w'.cell? ⟨E.M, 8, none⟩ = some (.slice (some ⟨cb, 0, none⟩) L cap) ∧ w'.cell? ⟨E.M, 1, none⟩ = some (.int .i64 (nn : Int)) ∧ w'.cell? ⟨cb, nn, none⟩ = some (.int .i64 (k : Int)))
      (with_reducible first
        | exact U HSS _ (Below.refl _ _)
        | exact U HSS _ (Below.refl _ _).drew
        | exact U HSS _ hb1
        | assumption)
      ((go_at_call 92; refine (U HC _ (Below.refl _ _).drew).mono ?_; rintro e w1 ⟨rfl, h1⟩; have hb1 : Below W.heap.size W w1 := (Below.refl _ W).drew.trans h1; clear h1))
      clear HSS
      all_goals (
        have HB1 := Hi hb1;have HSS : Hid (∀ w', Below w1.heap.size w1 w' → w'.cell? ⟨E.M, 8, none⟩ = some (.slice (some ⟨cb, 0, none⟩) L cap) ∧ w'.cell? ⟨E.M, 1, none⟩ = some (.int .i64 (nn : Int)) ∧ w'.cell? ⟨cb, nn, none⟩ = some (.int .i64 (k : Int)) ∧ w'.cell? ⟨E.M, 0, none⟩ = some (.slice (some ⟨tb, 0, none⟩) T capT) ∧ w'.cell? ⟨tb, j * 4, none⟩ = some (.int .i64 t1) ∧ w'.cell? ⟨tb, j * 4 + 1, none⟩ = some (.string t2) ∧ w'.cell? ⟨tb, j * 4 + 2, none⟩ = some (.int .i64 t3) ∧ w'.cell? ⟨tb, j * 4 + 3, none⟩ = some (.int .i64 t4)) := fun w' hb => U HS2 w' ((U HB1).trans (hb.mono (U HB1).size))
        obtain ⟨d1, d2, d3, d4, d5, d6, d7, d8⟩ := U HSS w1 (Below.refl _ _);clear hb1 c1 c2 c3;go_wp2;go_region_held3 (fun w' => w'.cell? ⟨E.M, 8, none⟩ = some (.slice (some ⟨cb, 0, none⟩) L cap) ∧ w'.cell? ⟨E.M, 1, none⟩ = some (.int .i64 (nn : Int)) ∧ w'.cell? ⟨cb, nn, none⟩ = some (.int .i64 (k : Int)) ∧ w'.cell? ⟨E.M, 0, none⟩ = some (.slice (some ⟨tb, 0, none⟩) T capT) ∧ w'.cell? ⟨tb, j * 4, none⟩ = some (.int .i64 t1) ∧ w'.cell? ⟨tb, j * 4 + 1, none⟩ = some (.string t2) ∧ w'.cell? ⟨tb, j * 4 + 2, none⟩ = some (.int .i64 t3) ∧ w'.cell? ⟨tb, j * 4 + 3, none⟩ = some (.int .i64 t4))
      (with_reducible first
        | exact U HSS _ (Below.refl _ _)
        | exact U HSS _ (Below.refl _ _).drew
        | exact U HSS _ hb1
        | assumption)
      ((go_at_call 62; refine (U HI _).mono ?_; rintro e w2 ⟨rfl, h2⟩; have hb1 : Below w1.heap.size w1 w2 := (Below.refl _ w1).drew.trans h2; clear h2))
        all_goals (go_wp2; go_ret; exact ⟨rfl, (U HB1).trans (hb1.mono (U HB1).size)⟩))
theorem arrowAhead_any {E : En} (hE : E.Ok) {nv : Value} {s : PS} {W : World} (h : RAt E nv s W) : Calls Tryz.prog 46 #[.pointer (some ⟨E.M, 0, none⟩)] W fun e w' => e = .returned (.bool ((fun s => if s.tk.1 = 1 then isT (behindP E.c 1 s) [61, 62] else isP [60] s || paramsAheadP E.c s) s)) ∧ Below W.heap.size W w' := by
 have hl := h.rd.lt;have c2 := h.rd.tok.1;have HB0 := Hi (Below.refl W.heap.size W);by_cases hk : s.tk.1 = 1
 · obtain ⟨t', ht'⟩ : ∃ t, behindP E.c 1 s = t := ⟨_, rfl⟩
   have hbt : Bys t'.2.1 := by rw [← ht']; exact behind_ok hE.toks
   have HBH : Hid (∀ w, Below W.heap.size W w → Calls Tryz.prog 63 #[.pointer (some ⟨E.M, 0, none⟩), .int .i64 1] w fun e w' => e = .returned (tkV t') ∧ Below w.heap.size w w') := fun w hw => by
    have h' := h.below hw;have := behind_any E.M E.tv s.n s.tk nv E.lv E.cv E.bv w E.c.toks h'.rd h'.tk h.le' 1 (by omega);rw [show E.c.toks.getD (min (s.n + 1) (E.c.toks.length - 1)) tok0 = t' from ht'] at this;exact this
   obtain ⟨b2, hb2⟩ : ∃ b, isT t' [61, 62] = b := ⟨_, rfl⟩
   have HI : Hid (∀ w, Calls Tryz.prog 62 #[tkV t', .string ⟨#[61, 62]⟩] w fun e w' => e = .returned (.bool b2) ∧ Below w.heap.size w w') := fun w => by
    have := is_any t' hbt ⟨#[61, 62]⟩ [61, 62] ⟨rfl, by intro z hz; simp at hz; omega⟩ w;rw [hb2] at this;exact this
   simp only [hk, if_true];rw [ht', hb2];rw [hk] at c2;have HX1 := Hi (U HBH W (Below.refl _ _));unfold tkV at HX1 HI;clear h ht' hbt hb2;go_enter Tryz.func46, Tryz.ntmps46;go_wp2_with (go_at_call 63; refine (U HX1).mono ?_)
   rintro e w1 ⟨rfl, h1⟩
   have hb1 := (U HB0).trans (h1.mono (U HB0).size);have HB1 := Hi hb1;clear h1 hb1;have HX2 := Hi (U HI w1);go_wp2_with (go_at_call 62; refine (U HX2).mono ?_)
   rintro e w2 ⟨rfl, h2⟩
   have hb2 := (U HB1).trans (h2.mono (U HB1).size);have HB2 := Hi hb2;clear h2 hb2;go_wp2;go_ret;exact ⟨rfl, U HB2⟩
 · have hkb : (s.tk.1 == 1) = false := beq_eq_false_iff_ne.2 hk
   simp only [hk, if_false];obtain ⟨b1, hb1⟩ : ∃ b, isP [60] s = b := ⟨_, rfl⟩
   have HI : Hid (∀ w, Below W.heap.size W w → Calls Tryz.prog 92 #[.pointer (some ⟨E.M, 0, none⟩), .string ⟨#[60]⟩] w fun e w' => e = .returned (.bool b1) ∧ Below w.heap.size w w') := fun w hw => by
    have := ris_any E.M E.tv s.n s.tk nv E.lv E.cv E.bv w (h.below hw).rd h.by' ⟨#[60]⟩ [60] ⟨rfl, by intro z hz; simp at hz; omega⟩
    rw [show isT s.tk [60] = b1 from hb1] at this;exact this
   obtain ⟨b2, hb2⟩ : ∃ b, paramsAheadP E.c s = b := ⟨_, rfl⟩
   have HP : Hid (∀ w, Below W.heap.size W w → Calls Tryz.prog 95 #[.pointer (some ⟨E.M, 0, none⟩)] w fun e w' => e = .returned (.bool b2) ∧ Below w.heap.size w w') := fun w hw => by
    have := paramsAhead_any hE (h.below hw);rw [hb2] at this;exact this
   rw [hb1, hb2];have HX1 := Hi (U HI W (Below.refl _ _));clear h hb1 hb2 hk;cases b1 with
   | true =>
     go_enter Tryz.func46, Tryz.ntmps46;go_wp2_with (go_at_call 92; refine (U HX1).mono ?_)
     rintro e w1 ⟨rfl, h1⟩
     have hb1 := (U HB0).trans (h1.mono (U HB0).size);have HB1 := Hi hb1;clear h1 hb1;go_wp2;go_ret;exact ⟨rfl, U HB1⟩
   | false =>
     go_enter Tryz.func46, Tryz.ntmps46;go_wp2_with (go_at_call 92; refine (U HX1).mono ?_)
     rintro e w1 ⟨rfl, h1⟩
     have hb1 := (U HB0).trans (h1.mono (U HB0).size);have HB1 := Hi hb1;clear h1 hb1;have HX2 := Hi (U HP w1 (U HB1));go_wp2_with (go_at_call 95; refine (U HX2).mono ?_)
     rintro e w2 ⟨rfl, h2⟩
     have hb2 := (U HB1).trans (h2.mono (U HB1).size);have HB2 := Hi hb2;clear h2 hb2;go_wp2;go_ret;exact ⟨rfl, U HB2⟩
theorem tf0 (k : Int) (t : ByteArray) (a b : Int) (w : World) : (Instr.field 40 (.agg #[.int .i64 k, .string t, .int .i64 a, .int .i64 b]) 0).run Tryz.prog w = .ok (.int .i64 k) w := by kernel_rfl
theorem ofAhead_any {E : En} (hE : E.Ok) {nv : Value} {s : PS} {W : World} (h : RAt E nv s W) : Calls Tryz.prog 109 #[.pointer (some ⟨E.M, 0, none⟩)] W fun e w' => e = .returned (.bool ((fun s => (isP [108, 101, 116] s || isP [99, 111, 110, 115, 116] s) && ((behindP E.c 1 s).1 == 1) && isT (behindP E.c 2 s) [111, 102]) s)) ∧ Below W.heap.size W w' := by
 have hl := h.rd.lt;have HB0 := Hi (Below.refl W.heap.size W);obtain ⟨ta, hta⟩ : ∃ t, behindP E.c 1 s = t := ⟨_, rfl⟩;obtain ⟨tb, htb⟩ : ∃ t, behindP E.c 2 s = t := ⟨_, rfl⟩;have hbt : Bys tb.2.1 := by rw [← htb]; exact behind_ok hE.toks
 have HA1 : Hid (∀ w, Below W.heap.size W w → Calls Tryz.prog 63 #[.pointer (some ⟨E.M, 0, none⟩), .int .i64 1] w fun e w' => e = .returned (tkV ta) ∧ Below w.heap.size w w') := fun w hw => by
  have h' := h.below hw;have := behind_any E.M E.tv s.n s.tk nv E.lv E.cv E.bv w E.c.toks h'.rd h'.tk h.le' 1 (by omega);rw [show E.c.toks.getD (min (s.n + 1) (E.c.toks.length - 1)) tok0 = ta from hta] at this;exact this
 have HA2 : Hid (∀ w, Below W.heap.size W w → Calls Tryz.prog 63 #[.pointer (some ⟨E.M, 0, none⟩), .int .i64 2] w fun e w' => e = .returned (tkV tb) ∧ Below w.heap.size w w') := fun w hw => by
  have h' := h.below hw;have := behind_any E.M E.tv s.n s.tk nv E.lv E.cv E.bv w E.c.toks h'.rd h'.tk h.le' 2 (by omega);rw [show E.c.toks.getD (min (s.n + 2) (E.c.toks.length - 1)) tok0 = tb from htb] at this;exact this
 obtain ⟨b1, hb1⟩ : ∃ b, isP [108, 101, 116] s = b := ⟨_, rfl⟩;obtain ⟨b2, hb2⟩ : ∃ b, isP [99, 111, 110, 115, 116] s = b := ⟨_, rfl⟩
 have HI1 : Hid (∀ w, Below W.heap.size W w → Calls Tryz.prog 92 #[.pointer (some ⟨E.M, 0, none⟩), .string ⟨#[108, 101, 116]⟩] w fun e w' => e = .returned (.bool b1) ∧ Below w.heap.size w w') := fun w hw => by
  have := ris_any E.M E.tv s.n s.tk nv E.lv E.cv E.bv w (h.below hw).rd h.by' ⟨#[108, 101, 116]⟩ [108, 101, 116] ⟨rfl, by intro z hz; simp at hz; omega⟩
  rw [show isT s.tk [108, 101, 116] = b1 from hb1] at this;exact this
 have HI2 : Hid (∀ w, Below W.heap.size W w → Calls Tryz.prog 92 #[.pointer (some ⟨E.M, 0, none⟩), .string ⟨#[99, 111, 110, 115, 116]⟩] w fun e w' => e = .returned (.bool b2) ∧ Below w.heap.size w w') := fun w hw => by
  have := ris_any E.M E.tv s.n s.tk nv E.lv E.cv E.bv w (h.below hw).rd h.by' ⟨#[99, 111, 110, 115, 116]⟩ [99, 111, 110, 115, 116] ⟨rfl, by intro z hz; simp at hz; omega⟩
  rw [show isT s.tk [99, 111, 110, 115, 116] = b2 from hb2] at this;exact this
 obtain ⟨b5, hb5⟩ : ∃ b, isT tb [111, 102] = b := ⟨_, rfl⟩
 have HI5 : Hid (∀ w, Calls Tryz.prog 62 #[tkV tb, .string ⟨#[111, 102]⟩] w fun e w' => e = .returned (.bool b5) ∧ Below w.heap.size w w') := fun w => by
  have := is_any tb hbt ⟨#[111, 102]⟩ [111, 102] ⟨rfl, by intro z hz; simp at hz; omega⟩ w;rw [hb5] at this;exact this
 simp only [hta, htb, hb1, hb2, hb5];have HX1 := Hi (U HI1 W (Below.refl _ _));clear h hta htb hbt hb1 hb2 hb5;cases b1 with
 | true =>
   simp only [Bool.true_or, Bool.true_and];by_cases hka : ta.1 = 1
   · have hkv : ((ta.1 == 1) && b5) = b5 := by simp [hka]
     rw [hkv];clear hkv;go_enter Tryz.func109, Tryz.ntmps109;go_wp2_with (go_at_call 92; refine (U HX1).mono ?_)
     rintro e w1 ⟨rfl, h1⟩
     have hb1 := (U HB0).trans (h1.mono (U HB0).size);have HB1 := Hi hb1;clear h1 hb1;have HX2 := Hi (U HA1 w1 (U HB1));unfold tkV at HX2;go_wp2_with (go_at_call 63; refine (U HX2).mono ?_)
     rintro e w2 ⟨rfl, h2⟩
     have hb2 := (U HB1).trans (h2.mono (U HB1).size);have HB2 := Hi hb2;clear h2 hb2;have q2 := tf0 ta.1 (strOfNums ta.2.1) (ta.2.2.1 : Int) (ta.2.2.2 : Int) w2;rw [hka] at q2;rw [hka];have HX3 := Hi (U HA2 w2 (U HB2));unfold tkV at HX3 HI5;go_wp2_with (go_at_call 63; refine (U HX3).mono ?_)
     rintro e w3 ⟨rfl, h3⟩
     have hb3 := (U HB2).trans (h3.mono (U HB2).size);have HB3 := Hi hb3;clear h3 hb3;have HX4 := Hi (U HI5 w3);go_wp2_with (go_at_call 62; refine (U HX4).mono ?_)
     rintro e w4 ⟨rfl, h4⟩
     have hb4 := (U HB3).trans (h4.mono (U HB3).size);have HB4 := Hi hb4;clear h4 hb4;go_wp2;go_ret;exact ⟨rfl, U HB4⟩
   · have hkab : (ta.1 == 1) = false := beq_eq_false_iff_ne.2 hka
     have hkv : ((ta.1 == 1) && b5) = false := by simp [hkab]
     rw [hkv];clear hkv;go_enter Tryz.func109, Tryz.ntmps109;go_wp2_with (go_at_call 92; refine (U HX1).mono ?_)
     rintro e w1 ⟨rfl, h1⟩
     have hb1 := (U HB0).trans (h1.mono (U HB0).size);have HB1 := Hi hb1;clear h1 hb1;have HX2 := Hi (U HA1 w1 (U HB1));unfold tkV at HX2;go_wp2_with (go_at_call 63; refine (U HX2).mono ?_)
     rintro e w2 ⟨rfl, h2⟩
     have hb2 := (U HB1).trans (h2.mono (U HB1).size);have HB2 := Hi hb2;clear h2 hb2;have q2 := tf0 ta.1 (strOfNums ta.2.1) (ta.2.2.1 : Int) (ta.2.2.2 : Int) w2;go_wp2;go_ret;exact ⟨rfl, U HB2⟩
 | false =>
   cases b2 with
   | false =>
     simp only [Bool.or_self, Bool.false_and];go_enter Tryz.func109, Tryz.ntmps109;go_wp2_with (go_at_call 92; refine (U HX1).mono ?_)
     rintro e w1 ⟨rfl, h1⟩
     have hb1 := (U HB0).trans (h1.mono (U HB0).size);have HB1 := Hi hb1;clear h1 hb1;have HX2 := Hi (U HI2 w1 (U HB1));go_wp2_with (go_at_call 92; refine (U HX2).mono ?_)
     rintro e w2 ⟨rfl, h2⟩
     have hb2 := (U HB1).trans (h2.mono (U HB1).size);have HB2 := Hi hb2;clear h2 hb2;go_wp2;go_ret;exact ⟨rfl, U HB2⟩
   | true =>
     simp only [Bool.false_or, Bool.true_and];by_cases hka : ta.1 = 1
     · have hkv : ((ta.1 == 1) && b5) = b5 := by simp [hka]
       rw [hkv];clear hkv;go_enter Tryz.func109, Tryz.ntmps109;go_wp2_with (go_at_call 92; refine (U HX1).mono ?_)
       rintro e w1 ⟨rfl, h1⟩
       have hb1 := (U HB0).trans (h1.mono (U HB0).size);have HB1 := Hi hb1;clear h1 hb1;have HX2 := Hi (U HI2 w1 (U HB1));go_wp2_with (go_at_call 92; refine (U HX2).mono ?_)
       rintro e w2 ⟨rfl, h2⟩
       have hb2 := (U HB1).trans (h2.mono (U HB1).size);have HB2 := Hi hb2;clear h2 hb2;have HX3 := Hi (U HA1 w2 (U HB2));unfold tkV at HX3;go_wp2_with (go_at_call 63; refine (U HX3).mono ?_)
       rintro e w3 ⟨rfl, h3⟩
       have hb3 := (U HB2).trans (h3.mono (U HB2).size);have HB3 := Hi hb3;clear h3 hb3;have q3 := tf0 ta.1 (strOfNums ta.2.1) (ta.2.2.1 : Int) (ta.2.2.2 : Int) w3;rw [hka] at q3;rw [hka];have HX4 := Hi (U HA2 w3 (U HB3));unfold tkV at HX4 HI5;go_wp2_with (go_at_call 63; refine (U HX4).mono ?_)
       rintro e w4 ⟨rfl, h4⟩
       have hb4 := (U HB3).trans (h4.mono (U HB3).size);have HB4 := Hi hb4;clear h4 hb4;have HX5 := Hi (U HI5 w4);go_wp2_with (go_at_call 62; refine (U HX5).mono ?_)
       rintro e w5 ⟨rfl, h5⟩
       have hb5 := (U HB4).trans (h5.mono (U HB4).size);have HB5 := Hi hb5;clear h5 hb5;go_wp2;go_ret;exact ⟨rfl, U HB5⟩
     · have hkab : (ta.1 == 1) = false := beq_eq_false_iff_ne.2 hka
       have hkv : ((ta.1 == 1) && b5) = false := by simp [hkab]
       rw [hkv];clear hkv;go_enter Tryz.func109, Tryz.ntmps109;go_wp2_with (go_at_call 92; refine (U HX1).mono ?_)
       rintro e w1 ⟨rfl, h1⟩
       have hb1 := (U HB0).trans (h1.mono (U HB0).size);have HB1 := Hi hb1;clear h1 hb1;have HX2 := Hi (U HI2 w1 (U HB1));go_wp2_with (go_at_call 92; refine (U HX2).mono ?_)
       rintro e w2 ⟨rfl, h2⟩
       have hb2 := (U HB1).trans (h2.mono (U HB1).size);have HB2 := Hi hb2;clear h2 hb2;have HX3 := Hi (U HA1 w2 (U HB2));unfold tkV at HX3;go_wp2_with (go_at_call 63; refine (U HX3).mono ?_)
       rintro e w3 ⟨rfl, h3⟩
       have hb3 := (U HB2).trans (h3.mono (U HB2).size);have HB3 := Hi hb3;clear h3 hb3;have q3 := tf0 ta.1 (strOfNums ta.2.1) (ta.2.2.1 : Int) (ta.2.2.2 : Int) w3;go_wp2;go_ret;exact ⟨rfl, U HB3⟩
theorem loop_step {E : En} (hE : E.Ok) {n : Nat}  (IB : IHA E n .block 60 #[.pointer (some ⟨E.M, 0, none⟩)]) (IF : ∀ at' : Nat, IHA E n (.forOf at') 110 #[.pointer (some ⟨E.M, 0, none⟩), .int .i64 (at' : Int)]) (IV : IHA E n (.variable 0) 61 #[.pointer (some ⟨E.M, 0, none⟩), .int .i64 0]) (IU1 : IHA E n (.until [59] .expr) 68 #[.pointer (some ⟨E.M, 0, none⟩), .string ⟨#[59]⟩, .func (.func 24) #[.pointer (some ⟨E.M, 0, none⟩)] #[]]) (IU2 : IHA E n (.until [41] .expr) 68 #[.pointer (some ⟨E.M, 0, none⟩), .string ⟨#[41]⟩, .func (.func 24) #[.pointer (some ⟨E.M, 0, none⟩)] #[]]) : IHA E (n + 1) .loop 67 #[.pointer (some ⟨E.M, 0, none⟩)] := by
 intro nv s W h hne;obtain ⟨R, hR⟩ : ∃ R, parP E.c (n + 1) .loop s = R := ⟨_, rfl⟩;rw [hR] at hne ⊢;simp only [parP, bodyP] at hR;have HR0 := Hi hR;have H0 := Hi (Lf.refl h);have HE := Hi hE;have HNE := Hi hne;have HIB := Hi IB;have HIF := Hi IF;have HIV := Hi IV;have HIU1 := Hi IU1;have HIU2 := Hi IU2;clear hR hne h hE IB IF IV IU1 IU2;go_enter Tryz.func67, Tryz.ntmps67;have hp1 := bd_ne (p := nextP E.c) (U HR0) (U HNE);obtain ⟨a1, s1, hq1⟩ : ∃ a s', nextP E.c s = .ok a s' := next_ok hp1;have HC1 := Hi (rq_ok (next_rq (U HE) (U H0).1 hp1) hq1);have HR1 := br hq1 HR0;clear hq1 hp1;unfold tkV at HC1;go_wp2_with (go_at_call 53; refine (U HC1).mono ?_)
 rintro e w1 ⟨rfl, nv1, h1⟩
 have H1 := Hi ((U H0).trans h1);clear h1;have q21 := tf2 a1.1 (strOfNums a1.2.1) (a1.2.2.1 : Int) (a1.2.2.2 : Int) w1;have hp2 := bd_ne (p := wantP E.c [40]) (U HR1) (U HNE);have HC2 := Hi (want_rq (U HE) (U H1).1 (x := ⟨#[40]⟩) ⟨rfl, by intro z hz; simp at hz; omega⟩ hp2);cases hq2 : wantP E.c [40] s1 with
 | out => exact absurd hq2 hp2
 | no s2 =>
   have hR2 := (bd_no hq2).symm.trans (U HR1);subst hR2;replace HC2 := rn HC2 hq2;clear hq2 hp2;go_wp2_with (go_at_call 94; refine (U HC2).mono ?_)
   rintro e w2 ⟨rfl, nv2, h2⟩
   have H2 := Hi ((U H1).trans h2);clear h2;go_wp2;exact ⟨rfl, rfl, nv2, U H2⟩
 | ok a2 s2 =>
   have HR2 := br hq2 HR1;replace HC2 := ro HC2 hq2;clear hq2 hp2;go_wp2_with (go_at_call 94; refine (U HC2).mono ?_)
   rintro e w2 ⟨rfl, nv2, h2⟩
   have H2 := Hi ((U H1).trans h2);clear h2;have HC3 := Hi (ofAhead_any (U HE) (U H2).1);obtain ⟨b3, hb3⟩ : ∃ b, (fun s => (isP [108, 101, 116] s || isP [99, 111, 110, 115, 116] s) && ((behindP E.c 1 s).1 == 1) && isT (behindP E.c 2 s) [111, 102]) s2 = b := ⟨_, rfl⟩;rw [hb3] at HC3;have hR3 : testP (fun s => (isP [108, 101, 116] s || isP [99, 111, 110, 115, 116] s) && ((behindP E.c 1 s).1 == 1) && isT (behindP E.c 2 s) [111, 102]) s2 = .ok b3 s2 := by show Res.ok ((fun s => (isP [108, 101, 116] s || isP [99, 111, 110, 115, 116] s) && ((behindP E.c 1 s).1 == 1) && isT (behindP E.c 2 s) [111, 102]) s2) s2 = _; rw [hb3]
   have HR3 := br hR3 HR2;clear hb3 hR3;go_wp2_with (go_at_call 109; refine (U HC3).mono ?_)
   rintro e w3 ⟨rfl, h3⟩
   have H3 := Hi ((U H2).below h3);clear h3;cases b3 with
   | false =>
     try simp only [Bool.false_eq_true, if_false] at HR3
     have HC4 := Hi (ris_any E.M E.tv s2.n s2.tk nv2 E.lv E.cv E.bv w3 (U H3).1.rd (U H3).1.by' ⟨#[108, 101, 116]⟩ [108, 101, 116] ⟨rfl, by intro z hz; simp at hz; omega⟩);have hR4 := U HR3;rw [bd_ok (p := testP (isP [108, 101, 116])) rfl] at hR4;have HR4 := Hi hR4;clear hR4;obtain ⟨b4, hb4⟩ : ∃ b, isP [108, 101, 116] s2 = b := ⟨_, rfl⟩;rw [show isT s2.tk [108, 101, 116] = b4 from hb4] at HC4;simp only [hb4] at HR4;clear hb4;go_wp2_with (go_at_call 92; refine (U HC4).mono ?_)
     rintro e w4 ⟨rfl, h4⟩
     have H4 := Hi ((U H3).below h4);clear h4;cases b4 with
     | false =>
       try simp only [Bool.false_eq_true, if_false] at HR4
       have hp5 := bd_ne (p := noneP) (U HR4) (U HNE);obtain ⟨a5, s5, hq5⟩ : ∃ a s', noneP s2 = .ok a s' := put_ex hp5;have HC5 := Hi (rq_ok (none_rq (U H4).1 hp5) hq5);have HR5 := br hq5 HR4;clear hq5 hp5;go_wp2_with (go_at_call 111; refine (U HC5).mono ?_)
       rintro e w5 ⟨rfl, nv5, h5⟩
       have H5 := Hi ((U H4).trans h5);clear h5;have hp6 := bd_ne (p := wantP E.c [59]) (U HR5) (U HNE);have HC6 := Hi (want_rq (U HE) (U H5).1 (x := ⟨#[59]⟩) ⟨rfl, by intro z hz; simp at hz; omega⟩ hp6);cases hq6 : wantP E.c [59] s5 with
       | out => exact absurd hq6 hp6
       | no s6 =>
         have hR6 := (bd_no hq6).symm.trans (U HR5);subst hR6;replace HC6 := rn HC6 hq6;clear hq6 hp6;go_wp2_with (go_at_call 94; refine (U HC6).mono ?_)
         rintro e w6 ⟨rfl, nv6, h6⟩
         have H6 := Hi ((U H5).trans h6);clear h6;go_wp2;exact ⟨rfl, rfl, nv6, U H6⟩
       | ok a6 s6 =>
         have HR6 := br hq6 HR5;replace HC6 := ro HC6 hq6;clear hq6 hp6;go_wp2_with (go_at_call 94; refine (U HC6).mono ?_)
         rintro e w6 ⟨rfl, nv6, h6⟩
         have H6 := Hi ((U H5).trans h6);clear h6;have hp7 := bd_ne (p := parP E.c n (.until [59] .expr)) (U HR6) (U HNE);have HC7 := Hi (U HIU1 _ _ _ (U H6).1 hp7);cases hq7 : parP E.c n (.until [59] .expr) s6 with
         | out => exact absurd hq7 hp7
         | no s7 =>
           have hR7 := (bd_no hq7).symm.trans (U HR6);subst hR7;replace HC7 := rn HC7 hq7;clear hq7 hp7;go_wp2_with (go_at_call 68; refine (U HC7).mono ?_)
           rintro e w7 ⟨rfl, nv7, h7⟩
           have H7 := Hi ((U H6).trans h7);clear h7;go_wp2;exact ⟨rfl, rfl, nv7, U H7⟩
         | ok a7 s7 =>
           have HR7 := br hq7 HR6;replace HC7 := ro HC7 hq7;clear hq7 hp7;go_wp2_with (go_at_call 68; refine (U HC7).mono ?_)
           rintro e w7 ⟨rfl, nv7, h7⟩
           have H7 := Hi ((U H6).trans h7);clear h7;have hp8 := bd_ne (p := parP E.c n (.until [41] .expr)) (U HR7) (U HNE);have HC8 := Hi (U HIU2 _ _ _ (U H7).1 hp8);cases hq8 : parP E.c n (.until [41] .expr) s7 with
           | out => exact absurd hq8 hp8
           | no s8 =>
             have hR8 := (bd_no hq8).symm.trans (U HR7);subst hR8;replace HC8 := rn HC8 hq8;clear hq8 hp8;go_wp2_with (go_at_call 68; refine (U HC8).mono ?_)
             rintro e w8 ⟨rfl, nv8, h8⟩
             have H8 := Hi ((U H7).trans h8);clear h8;go_wp2;exact ⟨rfl, rfl, nv8, U H8⟩
           | ok a8 s8 =>
             have HR8 := br hq8 HR7;replace HC8 := ro HC8 hq8;clear hq8 hp8;go_wp2_with (go_at_call 68; refine (U HC8).mono ?_)
             rintro e w8 ⟨rfl, nv8, h8⟩
             have H8 := Hi ((U H7).trans h8);clear h8;have hp9 := bd_ne (p := parP E.c n .block) (U HR8) (U HNE);have HC9 := Hi (U HIB _ _ _ (U H8).1 hp9);cases hq9 : parP E.c n .block s8 with
             | out => exact absurd hq9 hp9
             | no s9 =>
               have hR9 := (bd_no hq9).symm.trans (U HR8);subst hR9;replace HC9 := rn HC9 hq9;clear hq9 hp9;go_wp2_with (go_at_call 60; refine (U HC9).mono ?_)
               rintro e w9 ⟨rfl, nv9, h9⟩
               have H9 := Hi ((U H8).trans h9);clear h9;go_wp2;exact ⟨rfl, rfl, nv9, U H9⟩
             | ok a9 s9 =>
               have HR9 := br hq9 HR8;replace HC9 := ro HC9 hq9;clear hq9 hp9;go_wp2_with (go_at_call 60; refine (U HC9).mono ?_)
               rintro e w9 ⟨rfl, nv9, h9⟩
               have H9 := Hi ((U H8).trans h9);clear h9;have hp10 := bd_ne (p := putP ⟨55, [], 0, [a5, hd0 a7, hd0 a8, hd0 a9], a1.2.2.1⟩) (U HR9) (U HNE);obtain ⟨a10, s10, hq10⟩ : ∃ a s', putP ⟨55, [], 0, [a5, hd0 a7, hd0 a8, hd0 a9], a1.2.2.1⟩ s9 = .ok a s' := put_ex hp10;have H10p := Hi ((U H9).below ((Below.refl _ w9).alloc NL (.cells #[.int .i64 ((a5 : Nat) : Int), .int .i64 ((hd0 a7 : Nat) : Int), .int .i64 ((hd0 a8 : Nat) : Int), .int .i64 ((hd0 a9 : Nat) : Int)] 3)));have HC10 := Hi (rq_ok (put_rq (U H10p).1 _ _ _ (kid4 w9 (a5) (hd0 a7) (hd0 a8) (hd0 a9) (U H9).1.zl) hp10) hq10);simp only [e0', List.length_cons, List.length_nil] at HC10;have HR10 := br hq10 HR9;clear hq10 hp10;go_wp2_with (go_at_call 32; refine (U HC10).mono ?_)
               rintro e w10 ⟨rfl, nv10, h10⟩
               have H10 := Hi ((U H10p).trans h10);clear h10;have hR10 : (.ok [a10] s10 : Res (List Nat)) = R := U HR10;subst hR10;go_wp2;go_ret;exact ⟨rfl, nv10, U H10⟩
     | true =>
       try simp only [if_true] at HR4
       have hp11 := bd_ne (p := parP E.c n (.variable 0)) (U HR4) (U HNE);have HC11 := Hi (U HIV _ _ _ (U H4).1 hp11);cases hq11 : parP E.c n (.variable 0) s2 with
       | out => exact absurd hq11 hp11
       | no s11 =>
         have hR11 := (bd_no hq11).symm.trans (U HR4);subst hR11;replace HC11 := rn HC11 hq11;clear hq11 hp11;go_wp2_with (go_at_call 61; refine (U HC11).mono ?_)
         rintro e w11 ⟨rfl, nv11, h11⟩
         have H11 := Hi ((U H4).trans h11);clear h11;go_wp2;exact ⟨rfl, rfl, nv11, U H11⟩
       | ok a11 s11 =>
         have HR11 := br hq11 HR4;replace HC11 := ro HC11 hq11;clear hq11 hp11;go_wp2_with (go_at_call 61; refine (U HC11).mono ?_)
         rintro e w11 ⟨rfl, nv11, h11⟩
         have H11 := Hi ((U H4).trans h11);clear h11;have hp12 := bd_ne (p := parP E.c n (.until [59] .expr)) (U HR11) (U HNE);have HC12 := Hi (U HIU1 _ _ _ (U H11).1 hp12);cases hq12 : parP E.c n (.until [59] .expr) s11 with
         | out => exact absurd hq12 hp12
         | no s12 =>
           have hR12 := (bd_no hq12).symm.trans (U HR11);subst hR12;replace HC12 := rn HC12 hq12;clear hq12 hp12;go_wp2_with (go_at_call 68; refine (U HC12).mono ?_)
           rintro e w12 ⟨rfl, nv12, h12⟩
           have H12 := Hi ((U H11).trans h12);clear h12;go_wp2;exact ⟨rfl, rfl, nv12, U H12⟩
         | ok a12 s12 =>
           have HR12 := br hq12 HR11;replace HC12 := ro HC12 hq12;clear hq12 hp12;go_wp2_with (go_at_call 68; refine (U HC12).mono ?_)
           rintro e w12 ⟨rfl, nv12, h12⟩
           have H12 := Hi ((U H11).trans h12);clear h12;have hp13 := bd_ne (p := parP E.c n (.until [41] .expr)) (U HR12) (U HNE);have HC13 := Hi (U HIU2 _ _ _ (U H12).1 hp13);cases hq13 : parP E.c n (.until [41] .expr) s12 with
           | out => exact absurd hq13 hp13
           | no s13 =>
             have hR13 := (bd_no hq13).symm.trans (U HR12);subst hR13;replace HC13 := rn HC13 hq13;clear hq13 hp13;go_wp2_with (go_at_call 68; refine (U HC13).mono ?_)
             rintro e w13 ⟨rfl, nv13, h13⟩
             have H13 := Hi ((U H12).trans h13);clear h13;go_wp2;exact ⟨rfl, rfl, nv13, U H13⟩
           | ok a13 s13 =>
             have HR13 := br hq13 HR12;replace HC13 := ro HC13 hq13;clear hq13 hp13;go_wp2_with (go_at_call 68; refine (U HC13).mono ?_)
             rintro e w13 ⟨rfl, nv13, h13⟩
             have H13 := Hi ((U H12).trans h13);clear h13;have hp14 := bd_ne (p := parP E.c n .block) (U HR13) (U HNE);have HC14 := Hi (U HIB _ _ _ (U H13).1 hp14);cases hq14 : parP E.c n .block s13 with
             | out => exact absurd hq14 hp14
             | no s14 =>
               have hR14 := (bd_no hq14).symm.trans (U HR13);subst hR14;replace HC14 := rn HC14 hq14;clear hq14 hp14;go_wp2_with (go_at_call 60; refine (U HC14).mono ?_)
               rintro e w14 ⟨rfl, nv14, h14⟩
               have H14 := Hi ((U H13).trans h14);clear h14;go_wp2;exact ⟨rfl, rfl, nv14, U H14⟩
             | ok a14 s14 =>
               have HR14 := br hq14 HR13;replace HC14 := ro HC14 hq14;clear hq14 hp14;go_wp2_with (go_at_call 60; refine (U HC14).mono ?_)
               rintro e w14 ⟨rfl, nv14, h14⟩
               have H14 := Hi ((U H13).trans h14);clear h14;have hp15 := bd_ne (p := putP ⟨55, [], 0, [hd0 a11, hd0 a12, hd0 a13, hd0 a14], a1.2.2.1⟩) (U HR14) (U HNE);obtain ⟨a15, s15, hq15⟩ : ∃ a s', putP ⟨55, [], 0, [hd0 a11, hd0 a12, hd0 a13, hd0 a14], a1.2.2.1⟩ s14 = .ok a s' := put_ex hp15;have H15p := Hi ((U H14).below ((Below.refl _ w14).alloc NL (.cells #[.int .i64 ((hd0 a11 : Nat) : Int), .int .i64 ((hd0 a12 : Nat) : Int), .int .i64 ((hd0 a13 : Nat) : Int), .int .i64 ((hd0 a14 : Nat) : Int)] 3)));have HC15 := Hi (rq_ok (put_rq (U H15p).1 _ _ _ (kid4 w14 (hd0 a11) (hd0 a12) (hd0 a13) (hd0 a14) (U H14).1.zl) hp15) hq15);simp only [e0', List.length_cons, List.length_nil] at HC15;have HR15 := br hq15 HR14;clear hq15 hp15;go_wp2_with (go_at_call 32; refine (U HC15).mono ?_)
               rintro e w15 ⟨rfl, nv15, h15⟩
               have H15 := Hi ((U H15p).trans h15);clear h15;have hR15 : (.ok [a15] s15 : Res (List Nat)) = R := U HR15;subst hR15;go_wp2;go_ret;exact ⟨rfl, nv15, U H15⟩
   | true =>
     try simp only [if_true] at HR3
     have hp16 : parP E.c n (.forOf a1.2.2.1) s2 ≠ .out := fun e => U HNE ((U HR3).symm.trans e)
     have HC16 := Hi (U HIF a1.2.2.1 _ _ _ (U H3).1 hp16);cases hq16 : parP E.c n (.forOf a1.2.2.1) s2 with
     | out => exact absurd hq16 hp16
     | no s16 =>
       have hR16 := hq16.symm.trans (U HR3);subst hR16;replace HC16 := rn HC16 hq16;clear hq16 hp16;go_wp2_with (go_at_call 110; refine (U HC16).mono ?_)
       rintro e w16 ⟨rfl, nv16, h16⟩
       have H16 := Hi ((U H3).trans h16);clear h16;go_wp2;exact ⟨rfl, rfl, nv16, U H16⟩
     | ok a16 s16 =>
       have HR16 := Hi (hq16.symm.trans (U HR3));replace HC16 := ro HC16 hq16;clear hq16 hp16;go_wp2_with (go_at_call 110; refine (U HC16).mono ?_)
       rintro e w16 ⟨rfl, nv16, h16⟩
       have H16 := Hi ((U H3).trans h16);clear h16;have hR16 := U HR16;subst hR16;go_wp2;go_ret;exact ⟨rfl, nv16, U H16⟩
theorem arrow_step {E : En} (hE : E.Ok) {n : Nat}  (IP : IHA E n .param 97 #[.pointer (some ⟨E.M, 0, none⟩)]) (IT : IHA E n .typeParams 98 #[.pointer (some ⟨E.M, 0, none⟩)]) (IQ : IHA E n (.params .param) 99 #[.pointer (some ⟨E.M, 0, none⟩), .func (.func 97) #[.pointer (some ⟨E.M, 0, none⟩)] #[]]) (IY : IHA E n .body 100 #[.pointer (some ⟨E.M, 0, none⟩)]) : IHA E (n + 1) .arrow 47 #[.pointer (some ⟨E.M, 0, none⟩)] := by
 intro nv s W h hne;obtain ⟨R, hR⟩ : ∃ R, parP E.c (n + 1) .arrow s = R := ⟨_, rfl⟩;rw [hR] at hne ⊢;simp only [parP, bodyP] at hR;have HR0 := Hi hR;have H0 := Hi (Lf.refl h);have HE := Hi hE;have HNE := Hi hne;have HIP := Hi IP;have HIT := Hi IT;have HIQ := Hi IQ;have HIY := Hi IY;clear hR hne h hE IP IT IQ IY;go_enter Tryz.func47, Tryz.ntmps47;have d1 := (U H0).1.rd.tok.2.2.1;have hl1 := (U H0).1.rd.lt;have hR1 := U HR0;rw [bd_ok (p := atP) rfl] at hR1;replace HR0 := Hi hR1;clear hR1;have hR2 := U HR0;rw [bd_ok (p := kindP) rfl] at hR2;have HR2 := Hi hR2;have H2 := Hi (U H0);clear hR2;have c2_3 := (U H2).1.rd.tok.1;have hl3 := (U H2).1.rd.lt;have hR3 := U HR2;have H3 := Hi (U H2);by_cases hk3 : s.tk.1 = 1
 · rw [if_pos hk3] at hR3
   rw [hk3] at c2_3;have HR3 := Hi hR3;clear hR3;have hp4 := bd_ne (p := listP []) (U HR3) (U HNE);obtain ⟨a4, s4, hq4⟩ : ∃ a s', listP [] s = .ok a s' := put_ex hp4;have HC4 := Hi (rq_ok (list_rq (U H3).1 [] none 0 ⟨none, 0, rfl, NL, Nat.zero_le _, .inl rfl⟩ hp4) hq4);have HR4 := br hq4 HR3;clear hq4 hp4;simp only [List.length_nil] at HC4;go_wp2_with (go_at_call 96; refine (U HC4).mono ?_)
   rintro e w4 ⟨rfl, nv4, h4⟩
   have H4 := Hi ((U H3).trans h4);clear h4;have hp5 := bd_ne (p := parP E.c n .param) (U HR4) (U HNE);have HC5 := Hi (U HIP _ _ _ (U H4).1 hp5);cases hq5 : parP E.c n .param s4 with
   | out => exact absurd hq5 hp5
   | no s5 =>
     have hR5 := (bd_no hq5).symm.trans (U HR4);subst hR5;replace HC5 := rn HC5 hq5;clear hq5 hp5;go_wp2_with (go_at_call 97; refine (U HC5).mono ?_)
     rintro e w5 ⟨rfl, nv5, h5⟩
     have H5 := Hi ((U H4).trans h5);clear h5;go_wp2;exact ⟨rfl, rfl, nv5, U H5⟩
   | ok a5 s5 =>
     have HR5 := br hq5 HR4;replace HC5 := ro HC5 hq5;clear hq5 hp5;go_wp2_with (go_at_call 97; refine (U HC5).mono ?_)
     rintro e w5 ⟨rfl, nv5, h5⟩
     have H5 := Hi ((U H4).trans h5);clear h5;have hp6 := bd_ne (p := listP [hd0 a5]) (U HR5) (U HNE);obtain ⟨a6, s6, hq6⟩ : ∃ a s', listP [hd0 a5] s5 = .ok a s' := put_ex hp6;have H6p := Hi ((U H5).below ((Below.refl _ w5).alloc NL (.cells #[.int .i64 ((hd0 a5 : Nat) : Int)] 3)));have HC6 := Hi (rq_ok (list_rq (U H6p).1 [hd0 a5] (some ⟨w5.heap.size, 0, none⟩) 1 (kid1 w5 (hd0 a5) (U H5).1.zl) hp6) hq6);have HR6 := br hq6 HR5;clear hq6 hp6;simp only [List.length_cons, List.length_nil] at HC6;go_wp2_with (go_at_call 96; refine (U HC6).mono ?_)
     rintro e w6 ⟨rfl, nv6, h6⟩
     have H6 := Hi ((U H6p).trans h6);clear h6;have hp7 := bd_ne (p := wantP E.c [61, 62]) (U HR6) (U HNE);have HC7 := Hi (want_rq (U HE) (U H6).1 (x := ⟨#[61, 62]⟩) ⟨rfl, by intro z hz; simp at hz; omega⟩ hp7);cases hq7 : wantP E.c [61, 62] s6 with
     | out => exact absurd hq7 hp7
     | no s7 =>
       have hR7 := (bd_no hq7).symm.trans (U HR6);subst hR7;replace HC7 := rn HC7 hq7;clear hq7 hp7;go_wp2_with (go_at_call 94; refine (U HC7).mono ?_)
       rintro e w7 ⟨rfl, nv7, h7⟩
       have H7 := Hi ((U H6).trans h7);clear h7;go_wp2;exact ⟨rfl, rfl, nv7, U H7⟩
     | ok a7 s7 =>
       have HR7 := br hq7 HR6;replace HC7 := ro HC7 hq7;clear hq7 hp7;go_wp2_with (go_at_call 94; refine (U HC7).mono ?_)
       rintro e w7 ⟨rfl, nv7, h7⟩
       have H7 := Hi ((U H6).trans h7);clear h7;have hp8 := bd_ne (p := parP E.c n .body) (U HR7) (U HNE);have HC8 := Hi (U HIY _ _ _ (U H7).1 hp8);cases hq8 : parP E.c n .body s7 with
       | out => exact absurd hq8 hp8
       | no s8 =>
         have hR8 := (bd_no hq8).symm.trans (U HR7);subst hR8;replace HC8 := rn HC8 hq8;clear hq8 hp8;go_wp2_with (go_at_call 100; refine (U HC8).mono ?_)
         rintro e w8 ⟨rfl, nv8, h8⟩
         have H8 := Hi ((U H7).trans h8);clear h8;go_wp2;exact ⟨rfl, rfl, nv8, U H8⟩
       | ok a8 s8 =>
         have HR8 := br hq8 HR7;replace HC8 := ro HC8 hq8;clear hq8 hp8;go_wp2_with (go_at_call 100; refine (U HC8).mono ?_)
         rintro e w8 ⟨rfl, nv8, h8⟩
         have H8 := Hi ((U H7).trans h8);clear h8;have hp9 := bd_ne (p := putP ⟨22, [], 0, [a4, a6, hd0 a8], s.tk.2.2.1⟩) (U HR8) (U HNE);obtain ⟨a9, s9, hq9⟩ : ∃ a s', putP ⟨22, [], 0, [a4, a6, hd0 a8], s.tk.2.2.1⟩ s8 = .ok a s' := put_ex hp9;have H9p := Hi ((U H8).below ((Below.refl _ w8).alloc NL (.cells #[.int .i64 ((a4 : Nat) : Int), .int .i64 ((a6 : Nat) : Int), .int .i64 ((hd0 a8 : Nat) : Int)] 3)));have HC9 := Hi (rq_ok (put_rq (U H9p).1 _ _ _ (kid3 w8 (a4) (a6) (hd0 a8) (U H8).1.zl) hp9) hq9);simp only [e0', List.length_cons, List.length_nil] at HC9;have HR9 := br hq9 HR8;clear hq9 hp9;go_wp2_with (go_at_call 32; refine (U HC9).mono ?_)
         rintro e w9 ⟨rfl, nv9, h9⟩
         have H9 := Hi ((U H9p).trans h9);clear h9;have hR9 : (.ok [a9] s9 : Res (List Nat)) = R := U HR9;subst hR9;go_wp2;go_ret;exact ⟨rfl, nv9, U H9⟩
 · rw [if_neg hk3] at hR3
   have hkb3 : (s.tk.1 == 1) = false := beq_eq_false_iff_ne.2 hk3;have HR3 := Hi hR3;clear hR3;have hp10 := bd_ne (p := parP E.c n .typeParams) (U HR3) (U HNE);have HC10 := Hi (U HIT _ _ _ (U H3).1 hp10);cases hq10 : parP E.c n .typeParams s with
   | out => exact absurd hq10 hp10
   | no s10 =>
     have hR10 := (bd_no hq10).symm.trans (U HR3);subst hR10;replace HC10 := rn HC10 hq10;clear hq10 hp10;go_wp2_with (go_at_call 98; refine (U HC10).mono ?_)
     rintro e w10 ⟨rfl, nv10, h10⟩
     have H10 := Hi ((U H3).trans h10);clear h10;go_wp2;exact ⟨rfl, rfl, nv10, U H10⟩
   | ok a10 s10 =>
     have HR10 := br hq10 HR3;replace HC10 := ro HC10 hq10;clear hq10 hp10;go_wp2_with (go_at_call 98; refine (U HC10).mono ?_)
     rintro e w10 ⟨rfl, nv10, h10⟩
     have H10 := Hi ((U H3).trans h10);clear h10;have hp11 := bd_ne (p := parP E.c n (.params .param)) (U HR10) (U HNE);have HC11 := Hi (U HIQ _ _ _ (U H10).1 hp11);cases hq11 : parP E.c n (.params .param) s10 with
     | out => exact absurd hq11 hp11
     | no s11 =>
       have hR11 := (bd_no hq11).symm.trans (U HR10);subst hR11;replace HC11 := rn HC11 hq11;clear hq11 hp11;go_wp2_with (go_at_call 99; refine (U HC11).mono ?_)
       rintro e w11 ⟨rfl, nv11, h11⟩
       have H11 := Hi ((U H10).trans h11);clear h11;go_wp2;exact ⟨rfl, rfl, nv11, U H11⟩
     | ok a11 s11 =>
       have HR11 := br hq11 HR10;replace HC11 := ro HC11 hq11;clear hq11 hp11;go_wp2_with (go_at_call 99; refine (U HC11).mono ?_)
       rintro e w11 ⟨rfl, nv11, h11⟩
       have H11 := Hi ((U H10).trans h11);clear h11;have hp12 := bd_ne (p := wantP E.c [61, 62]) (U HR11) (U HNE);have HC12 := Hi (want_rq (U HE) (U H11).1 (x := ⟨#[61, 62]⟩) ⟨rfl, by intro z hz; simp at hz; omega⟩ hp12);cases hq12 : wantP E.c [61, 62] s11 with
       | out => exact absurd hq12 hp12
       | no s12 =>
         have hR12 := (bd_no hq12).symm.trans (U HR11);subst hR12;replace HC12 := rn HC12 hq12;clear hq12 hp12;go_wp2_with (go_at_call 94; refine (U HC12).mono ?_)
         rintro e w12 ⟨rfl, nv12, h12⟩
         have H12 := Hi ((U H11).trans h12);clear h12;go_wp2;exact ⟨rfl, rfl, nv12, U H12⟩
       | ok a12 s12 =>
         have HR12 := br hq12 HR11;replace HC12 := ro HC12 hq12;clear hq12 hp12;go_wp2_with (go_at_call 94; refine (U HC12).mono ?_)
         rintro e w12 ⟨rfl, nv12, h12⟩
         have H12 := Hi ((U H11).trans h12);clear h12;have hp13 := bd_ne (p := parP E.c n .body) (U HR12) (U HNE);have HC13 := Hi (U HIY _ _ _ (U H12).1 hp13);cases hq13 : parP E.c n .body s12 with
         | out => exact absurd hq13 hp13
         | no s13 =>
           have hR13 := (bd_no hq13).symm.trans (U HR12);subst hR13;replace HC13 := rn HC13 hq13;clear hq13 hp13;go_wp2_with (go_at_call 100; refine (U HC13).mono ?_)
           rintro e w13 ⟨rfl, nv13, h13⟩
           have H13 := Hi ((U H12).trans h13);clear h13;go_wp2;exact ⟨rfl, rfl, nv13, U H13⟩
         | ok a13 s13 =>
           have HR13 := br hq13 HR12;replace HC13 := ro HC13 hq13;clear hq13 hp13;go_wp2_with (go_at_call 100; refine (U HC13).mono ?_)
           rintro e w13 ⟨rfl, nv13, h13⟩
           have H13 := Hi ((U H12).trans h13);clear h13;have hp14 := bd_ne (p := putP ⟨22, [], 0, [hd0 a10, hd0 a11, hd0 a13], s.tk.2.2.1⟩) (U HR13) (U HNE);obtain ⟨a14, s14, hq14⟩ : ∃ a s', putP ⟨22, [], 0, [hd0 a10, hd0 a11, hd0 a13], s.tk.2.2.1⟩ s13 = .ok a s' := put_ex hp14;have H14p := Hi ((U H13).below ((Below.refl _ w13).alloc NL (.cells #[.int .i64 ((hd0 a10 : Nat) : Int), .int .i64 ((hd0 a11 : Nat) : Int), .int .i64 ((hd0 a13 : Nat) : Int)] 3)));have HC14 := Hi (rq_ok (put_rq (U H14p).1 _ _ _ (kid3 w13 (hd0 a10) (hd0 a11) (hd0 a13) (U H13).1.zl) hp14) hq14);simp only [e0', List.length_cons, List.length_nil] at HC14;have HR14 := br hq14 HR13;clear hq14 hp14;go_wp2_with (go_at_call 32; refine (U HC14).mono ?_)
           rintro e w14 ⟨rfl, nv14, h14⟩
           have H14 := Hi ((U H14p).trans h14);clear h14;have hR14 : (.ok [a14] s14 : Res (List Nat)) = R := U HR14;subst hR14;go_wp2;go_ret;exact ⟨rfl, nv14, U H14⟩
theorem isAssign_any (m : List Int) (hbm : Bys m) (W : World) : Calls Tryz.prog 49 #[.string (strOfNums m)] W fun e w' => e = .returned (.bool (isAssignL.contains m)) ∧ w' = W := by
 by_cases e0 : m = [61]
 · subst e0
   rw [show isAssignL.contains [61] = true from by decide, show strOfNums [61] = ⟨#[61]⟩ from rfl];clear hbm;go_enter Tryz.func49, Tryz.ntmps49;go_wp2;go_ret;exact ⟨rfl, rfl⟩
 by_cases e1 : m = [43, 61]
 · subst e1
   rw [show isAssignL.contains [43, 61] = true from by decide, show strOfNums [43, 61] = ⟨#[43, 61]⟩ from rfl];clear hbm;go_enter Tryz.func49, Tryz.ntmps49;go_wp2;go_ret;exact ⟨rfl, rfl⟩
 by_cases e2 : m = [45, 61]
 · subst e2
   rw [show isAssignL.contains [45, 61] = true from by decide, show strOfNums [45, 61] = ⟨#[45, 61]⟩ from rfl];clear hbm;go_enter Tryz.func49, Tryz.ntmps49;go_wp2;go_ret;exact ⟨rfl, rfl⟩
 by_cases e3 : m = [42, 61]
 · subst e3
   rw [show isAssignL.contains [42, 61] = true from by decide, show strOfNums [42, 61] = ⟨#[42, 61]⟩ from rfl];clear hbm;go_enter Tryz.func49, Tryz.ntmps49;go_wp2;go_ret;exact ⟨rfl, rfl⟩
 by_cases e4 : m = [37, 61]
 · subst e4
   rw [show isAssignL.contains [37, 61] = true from by decide, show strOfNums [37, 61] = ⟨#[37, 61]⟩ from rfl];clear hbm;go_enter Tryz.func49, Tryz.ntmps49;go_wp2;go_ret;exact ⟨rfl, rfl⟩
 have g0 := mark_ne hbm (l := [61]) (by intro z hz; simp at hz; omega) e0;have g1 := mark_ne hbm (l := [43, 61]) (by intro z hz; simp at hz; omega) e1;have g2 := mark_ne hbm (l := [45, 61]) (by intro z hz; simp at hz; omega) e2;have g3 := mark_ne hbm (l := [42, 61]) (by intro z hz; simp at hz; omega) e3;have g4 := mark_ne hbm (l := [37, 61]) (by intro z hz; simp at hz; omega) e4;have hf : isAssignL.contains m = false := by simp [isAssignL, e0, e1, e2, e3, e4]
 rw [hf];obtain ⟨S, hS⟩ : ∃ S, strOfNums m = S := ⟨_, rfl⟩;rw [hS] at g0 g1 g2 g3 g4 ⊢;clear hS hf hbm e0 e1 e2 e3 e4;replace g0 : (S.toList == [61]) = false := g0;replace g1 : (S.toList == [43, 61]) = false := g1;replace g2 : (S.toList == [45, 61]) = false := g2;replace g3 : (S.toList == [42, 61]) = false := g3;replace g4 : (S.toList == [37, 61]) = false := g4;go_enter Tryz.func49, Tryz.ntmps49;go_wp2;go_ret;exact ⟨rfl, rfl⟩
def isTgt (k : Int) : Bool := k == 17 || (k == 29 || k == 30)
theorem isTarget_any (k : Int) (W : World) : Calls Tryz.prog 51 #[.int .i64 k] W fun e w' => e = .returned (.bool (isTgt k)) ∧ w' = W := by
 unfold isTgt;by_cases h1 : k = 17
 · subst h1
   go_enter Tryz.func51, Tryz.ntmps51;go_wp2;go_ret;exact ⟨rfl, rfl⟩
 have b1 : (k == 17) = false := beq_eq_false_iff_ne.2 h1;by_cases h2 : k = 29
 · subst h2
   go_enter Tryz.func51, Tryz.ntmps51;go_wp2;go_ret;exact ⟨rfl, rfl⟩
 have b2 : (k == 29) = false := beq_eq_false_iff_ne.2 h2;by_cases h3 : k = 30
 · subst h3
   go_enter Tryz.func51, Tryz.ntmps51;go_wp2;go_ret;exact ⟨rfl, rfl⟩
 have b3 : (k == 30) = false := beq_eq_false_iff_ne.2 h3;rw [b1, b2, b3];go_enter Tryz.func51, Tryz.ntmps51;go_wp2;go_ret;exact ⟨rfl, rfl⟩
theorem ndsC_get : ∀ (l : List PN) (kvs : List Value) (i : Nat) (x : PN), kvs.length = l.length → l[i]? = some x → (ndsC l kvs)[i * 5]? = some (.int .i64 x.kind)
 | [], _, i, x, _, h => by simp at h
 | y :: l, [], i, x, hl, h => by simp at hl
 | y :: l, k :: kvs, 0, x, hl, h => by simp at h; subst h; rfl
 | y :: l, k :: kvs, i + 1, x, hl, h => by
   have := ndsC_get l kvs i x (by simpa using hl) (by simpa using h);rw [show (i + 1) * 5 = i * 5 + 5 by omega];show (ndC y k ++ ndsC l kvs)[i * 5 + 5]? = _
   rw [List.getElem?_append_right (by simp [ndC])];simpa [ndC] using this
def nd0 : PN := ⟨0, [], 0, [], 0⟩
theorem nd_kind {Z : Nat → Prop} {W : World} {nv : Value} {l : List PN} (h : NdRow Z W nv l) {i : Nat} (hi : i < l.length) : ∃ g cap, nv = .slice (some ⟨g, 0, none⟩) l.length cap ∧ l.length ≤ cap ∧ cap ≤ 9223372036854775807 ∧ ∀ w', Below W.heap.size W w' → w'.cell? ⟨g, i * 5, none⟩ = some (.int .i64 (l.getD i nd0).kind) := by
 obtain ⟨kvs, h1, h2, h3⟩ := h;have hx : l[i]? = some (l.getD i nd0) := by rw [List.getD_eq_getElem?_getD, List.getElem?_eq_getElem hi]; rfl
 have hc := ndsC_get l kvs i _ h1 hx;rcases h2.2 with ⟨e, e2⟩ | ⟨g, cap, cur, e, _, hh, q1, q2, _⟩
 · omega
 · have := h2.cells (g := g) (by rw [e]; rfl) _ _ hc
   refine ⟨g, cap, e, q1, by unfold maxLen at q2; omega, fun w' hw => ?_⟩;refine (hw.cell (p := ⟨g, i * 5, none⟩) (Array.getElem?_eq_some_iff.1 hh).1).trans ?_;rw [show (⟨g, i * 5, none⟩ : Addr) = (⟨g, 0, none⟩ : Addr).add (i * 5) by unfold Addr.add; split <;> simp_all];exact this
theorem expr_step {E : En} (hE : E.Ok) {n : Nat}  (IW : IHA E n .arrow 47 #[.pointer (some ⟨E.M, 0, none⟩)]) (IC : IHA E n .cond 48 #[.pointer (some ⟨E.M, 0, none⟩)]) (IX : IHA E n .expr 24 #[.pointer (some ⟨E.M, 0, none⟩)]) : IHA E (n + 1) .expr 24 #[.pointer (some ⟨E.M, 0, none⟩)] := by
 intro nv s W h hne;obtain ⟨R, hR⟩ : ∃ R, parP E.c (n + 1) .expr s = R := ⟨_, rfl⟩;rw [hR] at hne ⊢;simp only [parP, bodyP] at hR;have HR0 := Hi hR;have H0 := Hi (Lf.refl h);have HE := Hi hE;have HNE := Hi hne;have HIW := Hi IW;have HIC := Hi IC;have HIX := Hi IX;clear hR hne h hE IW IC IX;go_enter Tryz.func24, Tryz.ntmps24;have HC1 := Hi (arrowAhead_any (U HE) (U H0).1);obtain ⟨b1, hb1⟩ : ∃ b, (fun s => if s.tk.1 = 1 then isT (behindP E.c 1 s) [61, 62] else isP [60] s || paramsAheadP E.c s) s = b := ⟨_, rfl⟩;rw [hb1] at HC1;have hR1 : testP (fun s => if s.tk.1 = 1 then isT (behindP E.c 1 s) [61, 62] else isP [60] s || paramsAheadP E.c s) s = .ok b1 s := by show Res.ok ((fun s => if s.tk.1 = 1 then isT (behindP E.c 1 s) [61, 62] else isP [60] s || paramsAheadP E.c s) s) s = _; rw [hb1]
 have HR1 := br hR1 HR0;clear hb1 hR1;go_wp2_with (go_at_call 46; refine (U HC1).mono ?_)
 rintro e w1 ⟨rfl, h1⟩
 have H1 := Hi ((U H0).below h1);clear h1;cases b1 with
 | false =>
   try simp only [Bool.false_eq_true, if_false] at HR1
   have d2 := (U H1).1.rd.tok.2.2.1;have hl2 := (U H1).1.rd.lt;have hR2 := U HR1;rw [bd_ok (p := atP) rfl] at hR2;replace HR1 := Hi hR2;clear hR2;have hp3 := bd_ne (p := parP E.c n .cond) (U HR1) (U HNE);have HC3 := Hi (U HIC _ _ _ (U H1).1 hp3);cases hq3 : parP E.c n .cond s with
   | out => exact absurd hq3 hp3
   | no s3 =>
     have hR3 := (bd_no hq3).symm.trans (U HR1);subst hR3;replace HC3 := rn HC3 hq3;clear hq3 hp3;go_wp2_with (go_at_call 48; refine (U HC3).mono ?_)
     rintro e w3 ⟨rfl, nv3, h3⟩
     have H3 := Hi ((U H1).trans h3);clear h3;go_wp2;exact ⟨rfl, rfl, nv3, U H3⟩
   | ok a3 s3 =>
     have HR3 := br hq3 HR1;replace HC3 := ro HC3 hq3;clear hq3 hp3;go_wp2_with (go_at_call 48; refine (U HC3).mono ?_)
     rintro e w3 ⟨rfl, nv3, h3⟩
     have H3 := Hi ((U H1).trans h3);clear h3;obtain ⟨t2_4, t3_4, t4_4, t5_4⟩ := (U H3).1.rd.tok;have hl4 := (U H3).1.rd.lt;have HC4 := Hi (mark_any s3.tk w3);unfold tkV at HC4;have hR4 := U HR3;rw [bd_ok (p := markP) rfl] at hR4;obtain ⟨ba, hba⟩ : ∃ b, isAssignL.contains (mark s3.tk) = b := ⟨_, rfl⟩;rw [hba] at hR4
     have HIA : Hid (∀ w', Calls Tryz.prog 49 #[.string (strOfNums (mark s3.tk))] w' fun e w'' => e = .returned (.bool ba) ∧ w'' = w') := fun w' => by
      have := isAssign_any (mark s3.tk) (mark_bys (U H3).1.by') w';rw [hba] at this;exact this
     have HR4 := Hi hR4;clear hR4 hba;go_wp2_with (go_at_call 50; refine (U HC4).mono ?_)
     rintro e w4 ⟨rfl, h4⟩
     have H4 := Hi ((U H3).below h4);clear h4;go_wp2_with (go_at_call 49; refine (U HIA w4).mono ?_)
     first | rintro e w' rfl hw | rintro e w' ⟨rfl, hw⟩
     subst hw;cases ba with
     | false =>
       have hR4 : (.ok a3 s3 : Res (List Nat)) = R := U HR4;subst hR4;go_wp2;go_ret;exact ⟨rfl, nv3, U H4⟩
     | true =>
       have hR4 : (if s3.nodes.length ≤ hd0 a3 then Res.out else if (s3.nodes.getD (hd0 a3) nd0).kind = 17 ∨ (s3.nodes.getD (hd0 a3) nd0).kind = 29 ∨ (s3.nodes.getD (hd0 a3) nd0).kind = 30 then (bd (nextP E.c) fun t => bd (parP E.c n .expr) fun r => one1 (putP ⟨26, t.2.1, 0, [hd0 a3, hd0 r], s.tk.2.2.1⟩)) s3 else .no s3) = R := U HR4
       have hin : hd0 a3 < s3.nodes.length := by
        rcases Nat.lt_or_ge (hd0 a3) s3.nodes.length with hh | hh
        · exact hh
        · rw [if_pos hh] at hR4
          exact absurd hR4.symm (U HNE)
       rw [if_neg (by omega)] at hR4;obtain ⟨g6, cap6, env6, q16, q26, hc6⟩ := nd_kind (U H4).1.nd hin;have c6 := (U H4).1.rd.nodes;rw [env6] at c6;have k6 := hc6 _ (Below.refl _ _);obtain ⟨kd, hkd⟩ : ∃ x, (s3.nodes.getD (hd0 a3) nd0).kind = x := ⟨_, rfl⟩;rw [hkd] at k6 hR4;have HIT := Hi (isTarget_any kd w');obtain ⟨bt, hbt⟩ : ∃ b, isTgt kd = b := ⟨_, rfl⟩;rw [hbt] at HIT;have hml6 := (U H4).1.rd.lt;have hg6 := World.block_lt_of_cell? _ _ k6;obtain ⟨ln6, hln6⟩ : ∃ x, s3.nodes.length = x := ⟨_, rfl⟩;obtain ⟨ix6, hix6⟩ : ∃ x, hd0 a3 = x := ⟨_, rfl⟩;have HIX6 := Hi hix6;rw [hln6] at c6 q16 hin;rw [hix6] at k6 hin;rw [hix6] at hR4;rw [hix6];clear hc6 hkd env6 hln6 hix6;go_wp2_with (go_at_call 51; refine (U HIT).mono ?_)
       rintro e wq ⟨rfl, hwq⟩
       subst hwq;cases bt with
       | false =>
         rw [if_neg (by unfold isTgt at hbt; intro hh; rcases hh with hh | hh | hh <;> subst hh <;> simp at hbt)] at hR4;have HR4n := Hi hR4;have H4n := Hi (U H4);clear hR4 hbt;have HC5 := Hi (refuse_any (.pointer (some ⟨E.M, 0, none⟩)) wq);have hR5 : (.no s3 : Res (List Nat)) = R := U HR4n;subst hR5;go_wp2_with (go_at_call 52; refine (U HC5).mono ?_)
         rintro e w5 ⟨rfl, h5⟩
         have H5 := Hi ((U H4n).below h5);clear h5;go_wp2;exact ⟨rfl, rfl, nv3, U H5⟩
       | true =>
         rw [if_pos (by unfold isTgt at hbt; simpa using hbt)] at hR4;have HR4y := Hi hR4;have H4y := Hi (U H4);clear hR4 hbt;have hp6 := bd_ne (p := nextP E.c) (U HR4y) (U HNE);obtain ⟨a6, s6, hq6⟩ : ∃ a s', nextP E.c s3 = .ok a s' := next_ok hp6;have HC6 := Hi (rq_ok (next_rq (U HE) (U H4y).1 hp6) hq6);have HR6 := br hq6 HR4y;clear hq6 hp6;unfold tkV at HC6;go_wp2_with (go_at_call 53; refine (U HC6).mono ?_)
         rintro e w6 ⟨rfl, nv6, h6⟩
         have H6 := Hi ((U H4y).trans h6);clear h6;have q16 := tf1 a6.1 (strOfNums a6.2.1) (a6.2.2.1 : Int) (a6.2.2.2 : Int) w6;have hp7 := bd_ne (p := parP E.c n .expr) (U HR6) (U HNE);have HC7 := Hi (U HIX _ _ _ (U H6).1 hp7);cases hq7 : parP E.c n .expr s6 with
         | out => exact absurd hq7 hp7
         | no s7 =>
           have hR7 := (bd_no hq7).symm.trans (U HR6);subst hR7;replace HC7 := rn HC7 hq7;clear hq7 hp7;go_wp2_with (go_at_call 24; refine (U HC7).mono ?_)
           rintro e w7 ⟨rfl, nv7, h7⟩
           have H7 := Hi ((U H6).trans h7);clear h7;go_wp2;exact ⟨rfl, rfl, nv7, U H7⟩
         | ok a7 s7 =>
           have HR7 := br hq7 HR6;replace HC7 := ro HC7 hq7;clear hq7 hp7;go_wp2_with (go_at_call 24; refine (U HC7).mono ?_)
           rintro e w7 ⟨rfl, nv7, h7⟩
           have H7 := Hi ((U H6).trans h7);clear h7;have hp8 := bd_ne (p := putP ⟨26, a6.2.1, 0, [ix6, hd0 a7], s.tk.2.2.1⟩) (U HR7) (U HNE);obtain ⟨a8, s8, hq8⟩ : ∃ a s', putP ⟨26, a6.2.1, 0, [ix6, hd0 a7], s.tk.2.2.1⟩ s7 = .ok a s' := put_ex hp8;have H8p := Hi ((U H7).below ((Below.refl _ w7).alloc NL (.cells #[.int .i64 ((ix6 : Nat) : Int), .int .i64 ((hd0 a7 : Nat) : Int)] 3)));have HC8 := Hi (rq_ok (put_rq (U H8p).1 _ _ _ (kid2 w7 (ix6) (hd0 a7) (U H7).1.zl) hp8) hq8);simp only [e0', List.length_cons, List.length_nil] at HC8;have HR8 := br hq8 HR7;clear hq8 hp8;go_wp2_with (go_at_call 32; refine (U HC8).mono ?_)
           rintro e w8 ⟨rfl, nv8, h8⟩
           have H8 := Hi ((U H8p).trans h8);clear h8;have hR8 : (.ok [a8] s8 : Res (List Nat)) = R := U HR8;subst hR8;go_wp2;go_ret;exact ⟨rfl, nv8, U H8⟩
 | true =>
   try simp only [if_true] at HR1
   have hp9 : parP E.c n .arrow s ≠ .out := fun e => U HNE ((U HR1).symm.trans e)
   have HC9 := Hi (U HIW _ _ _ (U H1).1 hp9);cases hq9 : parP E.c n .arrow s with
   | out => exact absurd hq9 hp9
   | no s9 =>
     have hR9 := hq9.symm.trans (U HR1);subst hR9;replace HC9 := rn HC9 hq9;clear hq9 hp9;go_wp2_with (go_at_call 47; refine (U HC9).mono ?_)
     rintro e w9 ⟨rfl, nv9, h9⟩
     have H9 := Hi ((U H1).trans h9);clear h9;go_wp2;exact ⟨rfl, rfl, nv9, U H9⟩
   | ok a9 s9 =>
     have HR9 := Hi (hq9.symm.trans (U HR1));replace HC9 := ro HC9 hq9;clear hq9 hp9;go_wp2_with (go_at_call 47; refine (U HC9).mono ?_)
     rintro e w9 ⟨rfl, nv9, h9⟩
     have H9 := Hi ((U H1).trans h9);clear h9;have hR9 := U HR9;subst hR9;go_wp2;go_ret;exact ⟨rfl, nv9, U H9⟩
end
end Go.Proofs.YtofgphapjjofnaaGreatDoor
