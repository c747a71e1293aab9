/- Towards the law: RIb RJb. -/
import Derived.Test.YtofgphapjjofnaaGreatDoorNT
set_option linter.unusedSimpArgs false
set_option linter.unusedVariables false
set_option maxRecDepth 100000
set_option maxHeartbeats 8000000
namespace Go.Proofs.YtofgphapjjofnaaGreatDoor
section
open Go.RowKit Go.Shelf
theorem whole_deep {W : World} {ba : Option Addr} {bl bc gg : Nat} {l : List Tok} {n : Nat} {t : Tok} (hT : ∀ w, Below W.heap.size W w → Calls Tryz.prog 11 #[.slice ba bl bc] w (TokQ l w)) (hd : deepF l = (n : Int)) (ht : l[n]? = some t) :
 Calls Tryz.prog 16 #[.slice ba bl bc, .func (.func gg) #[] #[]] W fun e A => e = .returned (.tuple #[.agg #[.slice none 0 0], .int .i64 (t.2.2.1 : Int), .int .i64 5]) ∧ Below W.heap.size W A := by
 have HT := Hi hT;have HD := Hi hd;have HTT := Hi ht;clear hT hd ht;have hB0 : Below W.heap.size W ((W.alloc (.cells #[.func (.func gg) #[] #[]] 49)).alloc (.cells #[.slice none 0 0] 25)) := ((Below.refl _ W).alloc NL _).alloc (by simp) _;have HB0 := Hi hB0;have HR0 := Hi (al_at' W (.cells #[.slice none 0 0] 25) (.cells #[.func (.func gg) #[] #[]] 49));clear hB0;go_enter Tryz.func16, Tryz.ntmps16;go_wp2_with (go_at_call 11; refine (U HT _ (U HB0)).mono ?_)
 first | rintro e w1 tv rfl hk1 hy1 h1 | rintro e w1 ⟨tv, rfl, hk1, hy1, h1⟩
 have HC := Hi (depth_tk hk1);rw [U HD] at HC;have HK1 := Hi hk1;have HB1 := Hi ((U HB0).trans (h1.mono (by simp; omega)));have HR1 := Hi ((h1.block _ (by simp)).trans (U HR0));clear hk1 hy1 h1;go_wp2_with (go_at_call 25; refine (U HC).mono ?_)
 first | rintro e w2 d rfl h2 | rintro e w2 ⟨⟨d, rfl⟩, h2⟩
 obtain ⟨tb, cap, rfl, q1, q2, hpos, hl, hc⟩ := TkRow.keep (S0 := fun _ => False) (U HK1) (below_fr h2) (fun _ _ h => h);obtain ⟨d0, d1, d2, d3⟩ := hc n t (U HTT);have hnl : n < l.length := (List.getElem?_eq_some_iff.1 (U HTT)).1;have hr : w2.heap[W.heap.size + 1]? = some (.cells #[.slice none 0 0] 25) := (h2.block _ (Array.getElem?_eq_some_iff.1 (U HR1)).1).trans (U HR1);have c0 : w2.cell? ⟨W.heap.size + 1, 0, none⟩ = some (.slice none 0 0) := by simp [World.cell?, hr]
 have f0 : w2.frozen? ⟨W.heap.size + 1, 0, none⟩ = false := by simp [World.frozen?, hr]
 have hl0 := World.block_lt_of_cell? w2 _ c0;have hdl := World.block_lt_of_cell? w2 _ d2
 have hnb : tb ≠ W.heap.size + 1 := fun e => by
  subst e;simp [World.cell?, hr] at d2
 have HV := Hi (show (w2.setCell ⟨W.heap.size + 1, 0, none⟩ (.slice none 0 0)).heap[W.heap.size + 1]? = some (.cells #[.slice none 0 0] 25) by simp [World.setCell, Array.getElem?_modify, hr]);have HF := Hi (show Below W.heap.size W (w2.setCell ⟨W.heap.size + 1, 0, none⟩ (.slice none 0 0)) from ((U HB1).trans (h2.mono (U HB1).size)).trans ⟨rfl, rfl, rfl, by simp [World.setCell], fun k hk => keep_set (by omega)⟩);unfold maxLen at q2;clear h2 hr hc d0 d1 d3;have hn0 : (0 : Int) ≤ (n : Int) := by omega
 go_wp2;go_region
 all_goals (
  go_wp2;refine bodyPost_ret (results_cell3 rfl _ _ (W.heap.size + 1) 25 #[.slice none 0 0] (0, 0) _ rfl (U HV) Tryz.underlying25 rfl rfl) rfl ?_
  first | exact ⟨rfl, U HF⟩ | exact ⟨rfl, (U HF).drew⟩)
theorem whole_ok_anyType {W : World} {ba : Option Addr} {bl bc : Nat} {l : List Tok} {n : Nat} {s' : PS} {r : List Nat} (hT : ∀ w, Below W.heap.size W w → Calls Tryz.prog 11 #[.slice ba bl bc] w (TokQ l w)) (hG : GoodT l) (hpos : 0 < l.length) (hd : deepF l < 0) (hKl : KidsLt s'.nodes) (hr0 : hd0 r < s'.nodes.length) (hll : (layP s'.nodes (s'.nodes.length + 1) (hd0 r) []).1.length ≤ 1000000) (hq : endP ⟨l, clL l⟩ n .anyType (startS l) = .ok r s') :
 Calls Tryz.prog 16 #[.slice ba bl bc, .func (.func 22) #[] #[]] W fun e A => ∃ tvv, e = .returned (.tuple #[.agg #[tvv], .int .i64 0, .int .i64 0]) ∧ NdRow (fun _ => False) A tvv (layP s'.nodes (s'.nodes.length + 1) (hd0 r) []).1 ∧ WFr W A := by
 have HT := Hi hT;have HKL := Hi hKl;have HR00 := Hi hr0;have HLL := Hi hll;have HQ := Hi hq;have HG := Hi hG;obtain ⟨df, hdf⟩ : ∃ d, deepF l = d := ⟨_, rfl⟩;have HDF := Hi hdf;rw [hdf] at hd;have hdb : ¬ (0 : Int) ≤ df := by omega
 clear hd;have hB0 : Below W.heap.size W ((W.alloc (.cells #[.func (.func 22) #[] #[]] 49)).alloc (.cells #[.slice none 0 0] 25)) := ((Below.refl _ W).alloc NL _).alloc (by simp) _;have HB0 := Hi hB0;have HR0 := Hi (al_at' W (.cells #[.slice none 0 0] 25) (.cells #[.func (.func 22) #[] #[]] 49));have HX0 : Hid (((W.alloc (.cells #[.func (.func 22) #[] #[]] 49)).alloc (.cells #[.slice none 0 0] 25)).heap[W.heap.size]? = some (.cells #[.func (.func 22) #[] #[]] 49)) := al_lt (al_at _ _);clear hB0 hT hq hG hdf hKl hr0 hll;go_enter Tryz.func16, Tryz.ntmps16;go_wp2_with (go_at_call 11; refine (U HT _ (U HB0)).mono ?_)
 first | rintro e w1 tv rfl hk1 hy1 h1 | rintro e w1 ⟨tv, rfl, hk1, hy1, h1⟩
 have HC := Hi (depth_tk hk1);rw [U HDF] at HC;have HK1 := Hi hk1;have HY1 := Hi hy1;have HB1 := Hi ((U HB0).trans (h1.mono (by simp; omega)));have HR1 := Hi ((h1.block _ (by simp)).trans (U HR0));have HX1 := Hi ((h1.block _ (by simp; omega)).trans (U HX0));obtain ⟨tb, tcap, rfl⟩ := sl_tv hk1;clear hk1 hy1 h1;go_wp2_with (go_at_call 25; refine (U HC).mono ?_)
 first | rintro e w2 d rfl h2 | rintro e w2 ⟨⟨d, rfl⟩, h2⟩
 have hT2 := TkRow.keep (S0 := fun _ => False) (U HK1) (below_fr h2) (fun _ _ h => h)
 have hY2 : TyAt w2 (.slice (some ⟨tb, 0, none⟩) l.length tcap) 40 := fun k hk => by
  have := U HY1 k hk;rw [tyOf_eq (h2.block k (ty_lt this (by omega)))];exact this
 have HNR := Hi (newReader_any hT2 hY2 (U HG).toks ((U HG).nums _ (by rw [List.getD_eq_getElem?_getD, List.getElem?_eq_getElem hpos]; exact List.getElem_mem hpos)) (U HG).cll);have HB2 := Hi ((U HB1).trans (h2.mono (U HB1).size));have HR2 := Hi ((h2.block _ (Array.getElem?_eq_some_iff.1 (U HR1)).1).trans (U HR1));have HX2 := Hi ((h2.block _ (Array.getElem?_eq_some_iff.1 (U HX1)).1).trans (U HX1));clear h2 hT2 hY2;go_wp2_with (go_at_call 26; refine (U HNR).mono ?_)
 first | rintro e w3 E rfl hEc hEt hEz hEM hR h3 | rintro e w3 ⟨E, rfl, hEc, hEt, hEz, hEM, hR, h3⟩
 have hE : E.Ok := by
  have := U HG;refine ⟨?_, ?_, ?_, ?_⟩ <;> rw [hEc]
  · exact this.toks
  · exact this.nums
  · exact this.cll
  · exact this.clb
 obtain ⟨w4, hw4⟩ : ∃ w, (w3.alloc (.cells #[.pointer (some ⟨E.M, 0, none⟩)] 51)).alloc (.cells #[.int .i64 0] 3) = w := ⟨_, rfl⟩;have h4 : Below w3.heap.size w3 w4 := by rw [← hw4]; exact ((Below.refl _ w3).alloc NL _).alloc (by simp) _
 have k0 : w4.heap[w3.heap.size]? = some (.cells #[.pointer (some ⟨E.M, 0, none⟩)] 51) := by rw [← hw4]; exact al_lt (al_at _ _)
 have k2 : w4.heap[w3.heap.size + 1]? = some (.cells #[.int .i64 0] 3) := by rw [← hw4]; exact al_at' _ _ _
 have kx : w4.heap[W.heap.size]? = some (.cells #[.func (.func 22) #[] #[]] 49) := (h4.block _ (Nat.lt_of_lt_of_le (Array.getElem?_eq_some_iff.1 (U HX2)).1 h3.size)).trans ((h3.block _ (Array.getElem?_eq_some_iff.1 (U HX2)).1).trans (U HX2));have kr : w4.heap[W.heap.size + 1]? = some (.cells #[.slice none 0 0] 25) := (h4.block _ (Nat.lt_of_lt_of_le (Array.getElem?_eq_some_iff.1 (U HR2)).1 h3.size)).trans ((h3.block _ (Array.getElem?_eq_some_iff.1 (U HR2)).1).trans (U HR2));have hR4 : RAt (E.off (w3.heap.size + 1)) (.slice none 0 0) (startS l) w4 := hR.off h4 (Nat.le_succ _) (Array.getElem?_eq_some_iff.1 k2).1;have hq' : endP E.c n .anyType (startS l) = .ok r s' := by rw [hEc]; exact U HQ
 have HATT := Hi (attempt_any 28 #[] #[.pointer (some ⟨w3.heap.size, 0, none⟩), .pointer (some ⟨W.heap.size, 0, none⟩), .pointer (some ⟨w3.heap.size + 1, 0, none⟩)] w4 _ _ (fun args w => by kernel_rfl) (whole1_anyType (fun Z => (all_any hE n n NL Z).anyType) (w3.heap.size + 1) hR4 k0 kx k2 (by rw [hq']; simp)));rw [← hw4] at HATT;have HB4 := Hi ((U HB2).trans ((h3.mono (U HB2).size).trans (h4.mono (Nat.le_trans (U HB2).size h3.size))));have HK0 := Hi k0;have HK2 := Hi k2;have HKR := Hi kr;have HW4 := Hi hw4;have HQ' := Hi hq';have HR4 := Hi hR4;have hM4 : E.M < w4.heap.size := hR4.rd.lt;have hWM : W.heap.size ≤ E.lo := Nat.le_trans (U HB2).size hEM;have hs3 : w2.heap.size ≤ w3.heap.size := h3.size;have hs2 := (U HB2).size
 have hMr : E.M ≠ W.heap.size + 1 := fun e => by
  have h1 := hR4.mty;rw [show (E.off (w3.heap.size + 1)).M = E.M from rfl, e] at h1;simp [tyOf, kr] at h1
 have hMg : w3.heap.size + 1 ≠ E.M := fun e => by
  have h1 := hR4.mty;rw [show (E.off (w3.heap.size + 1)).M = E.M from rfl, ← e] at h1;simp [tyOf, k2] at h1
 have hMb : w3.heap.size ≠ E.M := fun e => by
  have h1 := hR4.mty;rw [show (E.off (w3.heap.size + 1)).M = E.M from rfl, ← e] at h1;simp [tyOf, k0] at h1
 have hrw : W.heap.size + 1 < w3.heap.size := Nat.lt_of_lt_of_le (Array.getElem?_eq_some_iff.1 (U HR2)).1 hs3;have HLR := Hi (Lf.refl hR);have H4 := Hi h4;have HEZ := Hi hEz;have HB3 := Hi ((U HB2).trans (h3.mono (U HB2).size));have hg4 : w3.heap.size + 1 < w4.heap.size := (Array.getElem?_eq_some_iff.1 k2).1;clear k0 k2 kx kr hw4 hq' hR4 h3 h4 hE hEc hEt hEz hEM hR;go_wp2_with (go_at_call 27; refine (U HATT).mono ?_);rintro e w5 (⟨rfl, wA, hA, hbA⟩ | ⟨rfl, wA, hA, hbA⟩)
 · rw [U HW4] at hA
   obtain ⟨l5, s5, nv5, wB, hq5, hl5, rfl⟩ := hA;rw [U HQ'] at hq5;cases hq5;have htB := ct_ty hl5 (U HK2) hMg;have hLA := (ct_lf (U HLR) (U H4) hg4 hl5 htB ((FrP.refl (fun k => k = w3.heap.size + 1) wB).set (w3.heap.size + 1) 0 (.int .i64 (hd0 r : Int)) rfl)).below hbA;have v2 := ct_set hl5 (U HK2) hMg hbA;have v0 := ct_keep hl5 (U HK0) (by decide) (by decide) hMb (by omega) hbA;have hr5 := ct_keep hl5 (U HKR) (by decide) (by decide) (fun e => hMr e.symm) (by omega) hbA;have x0 : w5.cell? ⟨w3.heap.size, 0, none⟩ = some (.pointer (some ⟨E.M, 0, none⟩)) := by simp [World.cell?, v0]
   have x2 : w5.cell? ⟨w3.heap.size + 1, 0, none⟩ = some (.int .i64 (hd0 r : Int)) := by simp [World.cell?, v2]
   have hx0 := World.block_lt_of_cell? w5 _ x0;have hx2 := World.block_lt_of_cell? w5 _ x2;have HLO := Hi (laidOut_any (rc := rdC E.tv s'.n s'.tk nv5 E.lv E.cv E.bv) rfl hLA.1.rd hLA.1.nd hLA.1.zl (U HR00) (U HKL) (U HLL));have HWF := Hi (whole_wfr (U HB3) (U HEZ) hWM hLA);have HR5 := Hi hr5;clear hl5 hbA hLA v2 v0 hr5 htB;go_wp2_with (go_at_call 30; refine (U HLO).mono ?_)
   first | rintro e w6 tvv rfl hN h6 | rintro e w6 ⟨tvv, rfl, hN, h6⟩
   have hr6 : w6.heap[W.heap.size + 1]? = some (.cells #[.slice none 0 0] 25) := (h6.block _ (Array.getElem?_eq_some_iff.1 (U HR5)).1).trans (U HR5);have c0 : w6.cell? ⟨W.heap.size + 1, 0, none⟩ = some (.slice none 0 0) := by simp [World.cell?, hr6]
   have f0 : w6.frozen? ⟨W.heap.size + 1, 0, none⟩ = false := by simp [World.frozen?, hr6]
   have hl0 := World.block_lt_of_cell? w6 _ c0;obtain ⟨ta, tc, etv⟩ := nd_form hN;subst etv;have HF := Hi (((U HWF).trans (WFr.of h6)).set (i := 0) (v := .slice ta (layP s'.nodes (s'.nodes.length + 1) (hd0 r) []).1.length tc) (Nat.le_succ _) hr6 (by decide) (by decide));have HV := Hi (show (w6.setCell ⟨W.heap.size + 1, 0, none⟩ (.slice ta (layP s'.nodes (s'.nodes.length + 1) (hd0 r) []).1.length tc)).heap[W.heap.size + 1]? = some (.cells #[.slice ta (layP s'.nodes (s'.nodes.length + 1) (hd0 r) []).1.length tc] 25) by simp [World.setCell, Array.getElem?_modify, hr6])
   have HN : Hid (NdRow (fun _ => False) (w6.setCell ⟨W.heap.size + 1, 0, none⟩ (.slice ta (layP s'.nodes (s'.nodes.length + 1) (hd0 r) []).1.length tc)) (.slice ta (layP s'.nodes (s'.nodes.length + 1) (hd0 r) []).1.length tc) (layP s'.nodes (s'.nodes.length + 1) (hd0 r) []).1) := by
    have tR : tyOf w6 (W.heap.size + 1) = 25 := by simp [tyOf, hr6]
    exact (hN.lt (fun k _ _ h => h)).keep fun k e => keep_set fun e' => by subst e'; omega
   clear hN h6 hr6;generalize (layP s'.nodes (s'.nodes.length + 1) (hd0 r) []).1.length = LL at *;go_wp2;refine bodyPost_ret (results_cell3 rfl _ _ (W.heap.size + 1) 25 #[.slice ta LL tc] (0, 0) _ rfl (U HV) Tryz.underlying25 rfl rfl) rfl ?_;exact ⟨_, rfl, U HN, U HF⟩
 · exfalso
   obtain ⟨s5, nv5, hq5, _⟩ := hA;rw [U HQ'] at hq5;cases hq5
theorem ans_deep_expr {W : World} {ba : Option Addr} {bl bc : Nat} {l : List Tok} {n : Nat} {t : Tok} (hT : ∀ w, Below W.heap.size W w → Calls Tryz.prog 11 #[.slice ba bl bc] w (TokQ l w)) (hd : deepF l = (n : Int)) (ht : l[n]? = some t) :
 Calls Tryz.prog 15 #[.slice ba bl bc] W (AnsQ (.bad (t.2.2.1 : Int) 5) W) :=
 front_expr fun w hw => (whole_deep (fun w' hw' => hT w' (hw.trans (hw'.mono hw.size))) hd ht).mono fun e A ⟨he, hF⟩ => ⟨he, WFr.of hF⟩
end
end Go.Proofs.YtofgphapjjofnaaGreatDoor
