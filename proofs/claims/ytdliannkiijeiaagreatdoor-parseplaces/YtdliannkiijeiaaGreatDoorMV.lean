/- Towards the law: RIb RJb. -/
import Derived.Test.YtdliannkiijeiaaGreatDoorMT
set_option linter.unusedSimpArgs false
set_option linter.unusedVariables false
set_option maxRecDepth 100000
set_option maxHeartbeats 8000000
namespace Go.Proofs.YtdliannkiijeiaaGreatDoor
section
open Go.RowKit Go.Shelf
theorem whole_bad {W : World} {ba : Option Addr} {bl bc gg : Nat} {i : Int} (hT : ∀ w, Below W.heap.size W w → Calls Tryz.prog 12 #[.slice ba bl bc] w fun e w' => e = .returned (.tuple #[.slice none 0 0, .int .i64 i, .int .i64 3]) ∧ Below w.heap.size w w') :
 Calls Tryz.prog 18 #[.slice ba bl bc, .func (.func gg) #[] #[]] W fun e A => e = .returned (.tuple #[.agg #[.slice none 0 0], .int .i64 i, .int .i64 3]) ∧ Below W.heap.size W A := by
 have HT := Hi hT;clear hT;have hB0 : Below W.heap.size W ((W.alloc (.cells #[.func (.func gg) #[] #[]] 51)).alloc (.cells #[.slice none 0 0] 25)) := ((Below.refl _ W).alloc NL _).alloc (by simp) _;have HB0 := Hi hB0;have HR0 := Hi (al_at' W (.cells #[.slice none 0 0] 25) (.cells #[.func (.func gg) #[] #[]] 51));clear hB0;go_enter Tryz.func18, Tryz.ntmps18;go_wp2_with (go_at_call 12; refine (U HT _ (U HB0)).mono ?_)
 first | rintro e w1 rfl h1 | rintro e w1 ⟨rfl, h1⟩
 have hr : w1.heap[W.heap.size + 1]? = some (.cells #[.slice none 0 0] 25) := (h1.block _ (by simp)).trans (U HR0);have c0 : w1.cell? ⟨W.heap.size + 1, 0, none⟩ = some (.slice none 0 0) := by simp [World.cell?, hr]
 have f0 : w1.frozen? ⟨W.heap.size + 1, 0, none⟩ = false := by simp [World.frozen?, hr]
 have hl0 := World.block_lt_of_cell? w1 _ c0;have HV := Hi (show (w1.setCell ⟨W.heap.size + 1, 0, none⟩ (.slice none 0 0)).heap[W.heap.size + 1]? = some (.cells #[.slice none 0 0] 25) by simp [World.setCell, Array.getElem?_modify, hr]);have HF := Hi (show Below W.heap.size W (w1.setCell ⟨W.heap.size + 1, 0, none⟩ (.slice none 0 0)) from ((U HB0).trans (h1.mono (by simp; omega))).trans ⟨rfl, rfl, rfl, by simp [World.setCell], fun k hk => keep_set (by omega)⟩);clear h1 hr;go_wp2;refine bodyPost_ret (results_cell3 rfl _ _ (W.heap.size + 1) 25 #[.slice none 0 0] (0, 0) _ rfl (U HV) Tryz.underlying25 rfl rfl) rfl ?_;exact ⟨rfl, U HF⟩
theorem whole_deep {W : World} {ba : Option Addr} {bl bc gg : Nat} {l : List Tok} {n : Nat} {t : Tok} (hT : ∀ w, Below W.heap.size W w → Calls Tryz.prog 12 #[.slice ba bl bc] w (TokQ l w)) (hd : deepF l = (n : Int)) (ht : l[n]? = some t) :
 Calls Tryz.prog 18 #[.slice ba bl bc, .func (.func gg) #[] #[]] W fun e A => e = .returned (.tuple #[.agg #[.slice none 0 0], .int .i64 (t.2.2.1 : Int), .int .i64 5]) ∧ Below W.heap.size W A := by
 have HT := Hi hT;have HD := Hi hd;have HTT := Hi ht;clear hT hd ht;have hB0 : Below W.heap.size W ((W.alloc (.cells #[.func (.func gg) #[] #[]] 51)).alloc (.cells #[.slice none 0 0] 25)) := ((Below.refl _ W).alloc NL _).alloc (by simp) _;have HB0 := Hi hB0;have HR0 := Hi (al_at' W (.cells #[.slice none 0 0] 25) (.cells #[.func (.func gg) #[] #[]] 51));clear hB0;go_enter Tryz.func18, Tryz.ntmps18;go_wp2_with (go_at_call 12; refine (U HT _ (U HB0)).mono ?_)
 first | rintro e w1 tv rfl hk1 hy1 h1 | rintro e w1 ⟨tv, rfl, hk1, hy1, h1⟩
 have HC := Hi (depth_tk hk1);rw [U HD] at HC;have HK1 := Hi hk1;have HB1 := Hi ((U HB0).trans (h1.mono (by simp; omega)));have HR1 := Hi ((h1.block _ (by simp)).trans (U HR0));clear hk1 hy1 h1;go_wp2_with (go_at_call 24; refine (U HC).mono ?_)
 first | rintro e w2 d rfl h2 | rintro e w2 ⟨⟨d, rfl⟩, h2⟩
 obtain ⟨tb, cap, rfl, q1, q2, hpos, hl, hc⟩ := TkRow.keep (S0 := fun _ => False) (U HK1) (below_fr h2) (fun _ _ h => h);obtain ⟨d0, d1, d2, d3⟩ := hc n t (U HTT);have hnl : n < l.length := (List.getElem?_eq_some_iff.1 (U HTT)).1;have hr : w2.heap[W.heap.size + 1]? = some (.cells #[.slice none 0 0] 25) := (h2.block _ (Array.getElem?_eq_some_iff.1 (U HR1)).1).trans (U HR1);have c0 : w2.cell? ⟨W.heap.size + 1, 0, none⟩ = some (.slice none 0 0) := by simp [World.cell?, hr]
 have f0 : w2.frozen? ⟨W.heap.size + 1, 0, none⟩ = false := by simp [World.frozen?, hr]
 have hl0 := World.block_lt_of_cell? w2 _ c0;have hdl := World.block_lt_of_cell? w2 _ d2
 have hnb : tb ≠ W.heap.size + 1 := fun e => by
  subst e;simp [World.cell?, hr] at d2
 have HV := Hi (show (w2.setCell ⟨W.heap.size + 1, 0, none⟩ (.slice none 0 0)).heap[W.heap.size + 1]? = some (.cells #[.slice none 0 0] 25) by simp [World.setCell, Array.getElem?_modify, hr]);have HF := Hi (show Below W.heap.size W (w2.setCell ⟨W.heap.size + 1, 0, none⟩ (.slice none 0 0)) from ((U HB1).trans (h2.mono (U HB1).size)).trans ⟨rfl, rfl, rfl, by simp [World.setCell], fun k hk => keep_set (by omega)⟩);unfold maxLen at q2;clear h2 hr hc d0 d1 d3;have hn0 : (0 : Int) ≤ (n : Int) := by omega
 go_wp2;go_region
 all_goals (
  go_wp2;refine bodyPost_ret (results_cell3 rfl _ _ (W.heap.size + 1) 25 #[.slice none 0 0] (0, 0) _ rfl (U HV) Tryz.underlying25 rfl rfl) rfl ?_
  first | exact ⟨rfl, U HF⟩ | exact ⟨rfl, (U HF).drew⟩)
theorem whole_no_program {W : World} {ba : Option Addr} {bl bc : Nat} {l : List Tok} {n : Nat} {s' : PS} (hT : ∀ w, Below W.heap.size W w → Calls Tryz.prog 12 #[.slice ba bl bc] w (TokQ l w)) (hG : GoodT l) (hpos : 0 < l.length) (hd : deepF l < 0) (hq : endP ⟨l, clL l⟩ n .program (startS l) = .no s') :
 Calls Tryz.prog 18 #[.slice ba bl bc, .func (.func 19) #[] #[]] W fun e A => e = .returned (.tuple #[.agg #[.slice none 0 0], .int .i64 (s'.tk.2.2.1 : Int), .int .i64 6]) ∧ WFr W A := by
 have HT := Hi hT;have HQ := Hi hq;have HG := Hi hG;obtain ⟨df, hdf⟩ : ∃ d, deepF l = d := ⟨_, rfl⟩;have HDF := Hi hdf;rw [hdf] at hd;have hdb : ¬ (0 : Int) ≤ df := by omega
 clear hd;have hB0 : Below W.heap.size W ((W.alloc (.cells #[.func (.func 19) #[] #[]] 51)).alloc (.cells #[.slice none 0 0] 25)) := ((Below.refl _ W).alloc NL _).alloc (by simp) _;have HB0 := Hi hB0;have HR0 := Hi (al_at' W (.cells #[.slice none 0 0] 25) (.cells #[.func (.func 19) #[] #[]] 51));have HX0 : Hid (((W.alloc (.cells #[.func (.func 19) #[] #[]] 51)).alloc (.cells #[.slice none 0 0] 25)).heap[W.heap.size]? = some (.cells #[.func (.func 19) #[] #[]] 51)) := al_lt (al_at _ _);clear hB0 hT hq hG hdf;go_enter Tryz.func18, Tryz.ntmps18;go_wp2_with (go_at_call 12; refine (U HT _ (U HB0)).mono ?_)
 first | rintro e w1 tv rfl hk1 hy1 h1 | rintro e w1 ⟨tv, rfl, hk1, hy1, h1⟩
 have HC := Hi (depth_tk hk1);rw [U HDF] at HC;have HK1 := Hi hk1;have HY1 := Hi hy1;have HB1 := Hi ((U HB0).trans (h1.mono (by simp; omega)));have HR1 := Hi ((h1.block _ (by simp)).trans (U HR0));have HX1 := Hi ((h1.block _ (by simp; omega)).trans (U HX0));obtain ⟨tb, tcap, rfl⟩ := sl_tv hk1;clear hk1 hy1 h1;go_wp2_with (go_at_call 24; refine (U HC).mono ?_)
 first | rintro e w2 d rfl h2 | rintro e w2 ⟨⟨d, rfl⟩, h2⟩
 have hT2 := TkRow.keep (S0 := fun _ => False) (U HK1) (below_fr h2) (fun _ _ h => h)
 have hY2 : TyAt w2 (.slice (some ⟨tb, 0, none⟩) l.length tcap) 40 := fun k hk => by
  have := U HY1 k hk;rw [tyOf_eq (h2.block k (ty_lt this (by omega)))];exact this
 have HNR := Hi (newReader_any hT2 hY2 (U HG).toks ((U HG).nums _ (by rw [List.getD_eq_getElem?_getD, List.getElem?_eq_getElem hpos]; exact List.getElem_mem hpos)) (U HG).cll);have HB2 := Hi ((U HB1).trans (h2.mono (U HB1).size));have HR2 := Hi ((h2.block _ (Array.getElem?_eq_some_iff.1 (U HR1)).1).trans (U HR1));have HX2 := Hi ((h2.block _ (Array.getElem?_eq_some_iff.1 (U HX1)).1).trans (U HX1));clear h2 hT2 hY2;go_wp2_with (go_at_call 30; refine (U HNR).mono ?_)
 first | rintro e w3 E rfl hEc hEt hEz hEM hR h3 | rintro e w3 ⟨E, rfl, hEc, hEt, hEz, hEM, hR, h3⟩
 have hE : E.Ok := by
  have := U HG;refine ⟨?_, ?_, ?_, ?_⟩ <;> rw [hEc]
  · exact this.toks
  · exact this.nums
  · exact this.cll
  · exact this.clb
 obtain ⟨w4, hw4⟩ : ∃ w, (w3.alloc (.cells #[.pointer (some ⟨E.M, 0, none⟩)] 53)).alloc (.cells #[.int .i64 0] 3) = w := ⟨_, rfl⟩;have h4 : Below w3.heap.size w3 w4 := by rw [← hw4]; exact ((Below.refl _ w3).alloc NL _).alloc (by simp) _
 have k0 : w4.heap[w3.heap.size]? = some (.cells #[.pointer (some ⟨E.M, 0, none⟩)] 53) := by rw [← hw4]; exact al_lt (al_at _ _)
 have k2 : w4.heap[w3.heap.size + 1]? = some (.cells #[.int .i64 0] 3) := by rw [← hw4]; exact al_at' _ _ _
 have kx : w4.heap[W.heap.size]? = some (.cells #[.func (.func 19) #[] #[]] 51) := (h4.block _ (Nat.lt_of_lt_of_le (Array.getElem?_eq_some_iff.1 (U HX2)).1 h3.size)).trans ((h3.block _ (Array.getElem?_eq_some_iff.1 (U HX2)).1).trans (U HX2));have kr : w4.heap[W.heap.size + 1]? = some (.cells #[.slice none 0 0] 25) := (h4.block _ (Nat.lt_of_lt_of_le (Array.getElem?_eq_some_iff.1 (U HR2)).1 h3.size)).trans ((h3.block _ (Array.getElem?_eq_some_iff.1 (U HR2)).1).trans (U HR2));have hR4 : RAt (E.off (w3.heap.size + 1)) (.slice none 0 0) (startS l) w4 := hR.off h4 (Nat.le_succ _) (Array.getElem?_eq_some_iff.1 k2).1;have hq' : endP E.c n .program (startS l) = .no s' := by rw [hEc]; exact U HQ
 have HATT := Hi (attempt_any 32 #[] #[.pointer (some ⟨w3.heap.size, 0, none⟩), .pointer (some ⟨W.heap.size, 0, none⟩), .pointer (some ⟨w3.heap.size + 1, 0, none⟩)] w4 _ _ (fun args w => by kernel_rfl) (whole1_program (fun Z => (all_any hE n n NL Z).program) (w3.heap.size + 1) hR4 k0 kx k2 (by rw [hq']; simp)));rw [← hw4] at HATT;have HB4 := Hi ((U HB2).trans ((h3.mono (U HB2).size).trans (h4.mono (Nat.le_trans (U HB2).size h3.size))));have HK0 := Hi k0;have HK2 := Hi k2;have HKR := Hi kr;have HW4 := Hi hw4;have HQ' := Hi hq';have HR4 := Hi hR4;have hM4 : E.M < w4.heap.size := hR4.rd.lt;have hWM : W.heap.size ≤ E.lo := Nat.le_trans (U HB2).size hEM;have hs3 : w2.heap.size ≤ w3.heap.size := h3.size;have hs2 := (U HB2).size
 have hMr : E.M ≠ W.heap.size + 1 := fun e => by
  have h1 := hR4.mty;rw [show (E.off (w3.heap.size + 1)).M = E.M from rfl, e] at h1;simp [tyOf, kr] at h1
 have hMg : w3.heap.size + 1 ≠ E.M := fun e => by
  have h1 := hR4.mty;rw [show (E.off (w3.heap.size + 1)).M = E.M from rfl, ← e] at h1;simp [tyOf, k2] at h1
 have hMb : w3.heap.size ≠ E.M := fun e => by
  have h1 := hR4.mty;rw [show (E.off (w3.heap.size + 1)).M = E.M from rfl, ← e] at h1;simp [tyOf, k0] at h1
 have hrw : W.heap.size + 1 < w3.heap.size := Nat.lt_of_lt_of_le (Array.getElem?_eq_some_iff.1 (U HR2)).1 hs3;have HLR := Hi (Lf.refl hR);have H4 := Hi h4;have HEZ := Hi hEz;have HB3 := Hi ((U HB2).trans (h3.mono (U HB2).size));have hg4 : w3.heap.size + 1 < w4.heap.size := (Array.getElem?_eq_some_iff.1 k2).1;clear k0 k2 kx kr hw4 hq' hR4 h3 h4 hE hEc hEt hEz hEM hR;go_wp2_with (go_at_call 31; refine (U HATT).mono ?_);rintro e w5 (⟨rfl, wA, hA, hbA⟩ | ⟨rfl, wA, hA, hbA⟩)
 · exfalso
   obtain ⟨l5, s5, nv5, wB, hq5, _⟩ := hA;rw [U HQ'] at hq5;cases hq5
 · rw [U HW4] at hA
   obtain ⟨s5, nv5, hq5, hl5⟩ := hA;rw [U HQ'] at hq5;cases hq5;have hl := hl5.below hbA;have hLA := (ct_lf (U HLR) (U H4) hg4 hl5 (ct_ty hl5 (U HK2) hMg) (FrP.refl _ _)).below hbA
   have x0 : w5.cell? ⟨w3.heap.size, 0, none⟩ = some (.pointer (some ⟨E.M, 0, none⟩)) := by
    have := ct_stay hl (U HK0) (by decide) (by decide) hMb;simp [World.cell?, this]
   have hr5 := ct_stay hl (U HKR) (by decide) (by decide) (fun e => hMr e.symm);have c0 : w5.cell? ⟨W.heap.size + 1, 0, none⟩ = some (.slice none 0 0) := by simp [World.cell?, hr5]
   have f0 : w5.frozen? ⟨W.heap.size + 1, 0, none⟩ = false := by simp [World.frozen?, hr5]
   have hl0 := World.block_lt_of_cell? w5 _ c0;have hx0 := World.block_lt_of_cell? w5 _ x0;obtain ⟨t0, t1, t2, t3⟩ := hl.1.rd.tok;have hM5 : E.M < w5.heap.size := hl.1.rd.lt;have t2' : w5.cell? ⟨E.M, 4, none⟩ = some (.int .i64 (s'.tk.2.2.1 : Int)) := t2;have HV := Hi (show (w5.setCell ⟨W.heap.size + 1, 0, none⟩ (.slice none 0 0)).heap[W.heap.size + 1]? = some (.cells #[.slice none 0 0] 25) by simp [World.setCell, Array.getElem?_modify, hr5]);have HF : Hid (WFr W (w5.setCell ⟨W.heap.size + 1, 0, none⟩ (.slice none 0 0))) := (whole_wfr (U HB3) (U HEZ) hWM hLA).set (Nat.le_succ _) hr5 (by decide) (by decide);clear hl5 hbA hl hLA hr5 t0 t1 t2 t3;go_wp2;go_region
   all_goals (
    go_wp2;refine bodyPost_ret (results_cell3 rfl _ _ (W.heap.size + 1) 25 #[.slice none 0 0] (0, 0) _ rfl (U HV) Tryz.underlying25 rfl rfl) rfl ?_
    first | exact ⟨rfl, U HF⟩ | exact ⟨rfl, (U HF).drew⟩)
theorem ans_no_program {W : World} {ba : Option Addr} {bl bc : Nat} {l : List Tok} {n : Nat} {s' : PS} (hT : ∀ w, Below W.heap.size W w → Calls Tryz.prog 12 #[.slice ba bl bc] w (TokQ l w)) (hG : GoodT l) (hpos : 0 < l.length) (hd : deepF l < 0) (hq : endP ⟨l, clL l⟩ n .program (startS l) = .no s') :
 Calls Tryz.prog 9 #[.slice ba bl bc] W (AnsQ (.bad (s'.tk.2.2.1 : Int) 6) W) :=
 front_program fun w hw => (whole_no_program (fun w' hw' => hT w' (hw.trans (hw'.mono hw.size))) hG hpos hd hq).mono fun e A ⟨he, hF⟩ => ⟨he, hF⟩
theorem ans_deep_program {W : World} {ba : Option Addr} {bl bc : Nat} {l : List Tok} {n : Nat} {t : Tok} (hT : ∀ w, Below W.heap.size W w → Calls Tryz.prog 12 #[.slice ba bl bc] w (TokQ l w)) (hd : deepF l = (n : Int)) (ht : l[n]? = some t) :
 Calls Tryz.prog 9 #[.slice ba bl bc] W (AnsQ (.bad (t.2.2.1 : Int) 5) W) :=
 front_program fun w hw => (whole_deep (fun w' hw' => hT w' (hw.trans (hw'.mono hw.size))) hd ht).mono fun e A ⟨he, hF⟩ => ⟨he, WFr.of hF⟩
theorem ans_bad_program {W : World} {ba : Option Addr} {bl bc : Nat} {i : Int} (hT : ∀ w, Below W.heap.size W w → Calls Tryz.prog 12 #[.slice ba bl bc] w fun e w' => e = .returned (.tuple #[.slice none 0 0, .int .i64 i, .int .i64 3]) ∧ Below w.heap.size w w') :
 Calls Tryz.prog 9 #[.slice ba bl bc] W (AnsQ (.bad i 3) W) :=
 front_program fun w hw => (whole_bad (fun w' hw' => hT w' (hw.trans (hw'.mono hw.size)))).mono fun e A ⟨he, hF⟩ => ⟨he, WFr.of hF⟩
end
end Go.Proofs.YtdliannkiijeiaaGreatDoor
