/- Towards the law: PL PM PN PO PQ PR. -/
import Derived.Test.YtofgphapjjofnaaGreatDoorV2
set_option linter.unusedSimpArgs false
set_option linter.unusedVariables false
set_option maxRecDepth 100000
set_option maxHeartbeats 8000000
namespace Go.Proofs.YtofgphapjjofnaaGreatDoor
section
open Go.RowKit Go.Shelf
def IHA (E : En) (n : Nat) (x : Cmd) (f : Nat) (args : Array Value) : Prop := ∀ nv s W, RAt E nv s W → parP E.c n x s ≠ .out → Calls Tryz.prog f args W (RQ E (fun l : List Nat => .int .i64 (hd0 l : Int)) nv s W (parP E.c n x s))
theorem put_ex {x : PN} {s : PS} (h : putP x s ≠ .out) : ∃ a s', putP x s = .ok a s' := ⟨_, _, put_ok h⟩
theorem next_ok {c : Cx} {s : PS} (h : nextP c s ≠ .out) : ∃ a s', nextP c s = .ok a s' := by
 unfold nextP at *;split at h
 · exact ⟨_, _, by rw [if_pos (by assumption)]⟩
 · exact absurd rfl h
theorem kid2 {Z : Nat → Prop} (W : World) (a b : Nat) (hz : ∀ k, Z k → k < W.heap.size) : KidR Z (W.alloc (.cells #[.int .i64 (a : Int), .int .i64 (b : Int)] 3)) (.slice (some ⟨W.heap.size, 0, none⟩) [a, b].length 2) [a, b] := by
 refine ⟨_, _, rfl, NL, by simp [maxLen], .inr ⟨_, _, _, _, rfl, fun h => Nat.lt_irrefl _ (hz _ h), World.alloc_heap_new W _, fun j k hj => ?_⟩⟩;match j, hj with
 | 0, hj => cases hj; rfl
 | 1, hj => cases hj; rfl
 | j + 2, hj => cases hj
theorem evaluated_step {E : En} (hE : E.Ok) {n : Nat} (k : Int) (at' : Nat) (IX : IHA E n .expr 24 #[.pointer (some ⟨E.M, 0, none⟩)]) : IHA E (n + 1) (.evaluated k at') 70 #[.pointer (some ⟨E.M, 0, none⟩), .int .i64 k, .int .i64 (at' : Int)] := by
 intro nv s W h hne;obtain ⟨R, hR⟩ : ∃ R, parP E.c (n + 1) (.evaluated k at') s = R := ⟨_, rfl⟩;rw [hR] at hne ⊢;simp only [parP, bodyP] at hR;have HR0 := Hi hR;have H0 := Hi (Lf.refl h);have HE := Hi hE;have HNE := Hi hne;have HIX := Hi IX;clear hR hne h hE IX;go_enter Tryz.func70, Tryz.ntmps70;have hp1 := bd_ne (p := parP E.c n .expr) (U HR0) (U HNE);have HC1 := Hi (U HIX _ _ _ (U H0).1 hp1);cases hq1 : parP E.c n .expr s with
 | out => exact absurd hq1 hp1
 | no s1 =>
   have hR1 := (bd_no hq1).symm.trans (U HR0);subst hR1;replace HC1 := rn HC1 hq1;clear hq1 hp1;go_wp2_with (go_at_call 24; refine (U HC1).mono ?_)
   rintro e w1 ⟨rfl, nv1, h1⟩
   have H1 := Hi ((U H0).trans h1);clear h1;go_wp2;exact ⟨rfl, rfl, nv1, U H1⟩
 | ok a1 s1 =>
   have HR1 := br hq1 HR0;replace HC1 := ro HC1 hq1;clear hq1 hp1;go_wp2_with (go_at_call 24; refine (U HC1).mono ?_)
   rintro e w1 ⟨rfl, nv1, h1⟩
   have H1 := Hi ((U H0).trans h1);clear h1;have hp2 := bd_ne (p := wantP E.c [59]) (U HR1) (U HNE);have HC2 := Hi (want_rq (U HE) (U H1).1 (x := ⟨#[59]⟩) ⟨rfl, by intro z hz; simp at hz; omega⟩ hp2);cases hq2 : wantP E.c [59] s1 with
   | out => exact absurd hq2 hp2
   | no s2 =>
     have hR2 := (bd_no hq2).symm.trans (U HR1);subst hR2;replace HC2 := rn HC2 hq2;clear hq2 hp2;go_wp2_with (go_at_call 94; refine (U HC2).mono ?_)
     rintro e w2 ⟨rfl, nv2, h2⟩
     have H2 := Hi ((U H1).trans h2);clear h2;go_wp2;exact ⟨rfl, rfl, nv2, U H2⟩
   | ok a2 s2 =>
     have HR2 := br hq2 HR1;replace HC2 := ro HC2 hq2;clear hq2 hp2;go_wp2_with (go_at_call 94; refine (U HC2).mono ?_)
     rintro e w2 ⟨rfl, nv2, h2⟩
     have H2 := Hi ((U H1).trans h2);clear h2;have hp3 := bd_ne (p := putP ⟨k, [], 0, [hd0 a1], at'⟩) (U HR2) (U HNE);obtain ⟨a3, s3, hq3⟩ : ∃ a s', putP ⟨k, [], 0, [hd0 a1], at'⟩ s2 = .ok a s' := put_ex hp3;have H3p := Hi ((U H2).below ((Below.refl _ w2).alloc NL (.cells #[.int .i64 ((hd0 a1 : Nat) : Int)] 3)));have HC3 := Hi (rq_ok (put_rq (U H3p).1 _ _ _ (kid1 w2 (hd0 a1) (U H2).1.zl) hp3) hq3);simp only [e0', List.length_cons, List.length_nil] at HC3;have HR3 := br hq3 HR2;clear hq3 hp3;go_wp2_with (go_at_call 32; refine (U HC3).mono ?_)
     rintro e w3 ⟨rfl, nv3, h3⟩
     have H3 := Hi ((U H3p).trans h3);clear h3;have hR3 : (.ok [a3] s3 : Res (List Nat)) = R := U HR3;subst hR3;go_wp2;go_ret;exact ⟨rfl, nv3, U H3⟩
theorem mark_ne {m l : List Int} (hm : Bys m) (hl : Bys l) (hne : m ≠ l) : ((strOfNums m).toList == Lib.bytesOf l) = false := by
 have h := str_eq hm hl;rw [Lib.strOfNums_toList l] at h;rw [h];exact beq_eq_false_iff_ne.2 hne
theorem unary_step {E : En} (hE : E.Ok) {n : Nat}  (IU : IHA E n .unary 159 #[.pointer (some ⟨E.M, 0, none⟩)]) (IF : IHA E n .postfix 205 #[.pointer (some ⟨E.M, 0, none⟩)]) : IHA E (n + 1) .unary 159 #[.pointer (some ⟨E.M, 0, none⟩)] := by
 intro nv s W h hne;obtain ⟨R, hR⟩ : ∃ R, parP E.c (n + 1) .unary s = R := ⟨_, rfl⟩;rw [hR] at hne ⊢;simp only [parP, bodyP] at hR;have HR0 := Hi hR;have H0 := Hi (Lf.refl h);have HE := Hi hE;have HNE := Hi hne;have HIU := Hi IU;have HIF := Hi IF;clear hR hne h hE IU IF;go_enter Tryz.func159, Tryz.ntmps159;have d1 := (U H0).1.rd.tok.2.2.1;have hl1 := (U H0).1.rd.lt;have hR1 := U HR0;rw [bd_ok (p := atP) rfl] at hR1;replace HR0 := Hi hR1;clear hR1;obtain ⟨t2_2, t3_2, t4_2, t5_2⟩ := (U H0).1.rd.tok;have hl2 := (U H0).1.rd.lt;have HC2 := Hi (mark_any s.tk W);have hbm2 : Bys (mark s.tk) := mark_bys (U H0).1.by'
 have hR2 := U HR0;rw [bd_ok (p := markP) rfl] at hR2;unfold tkV at HC2;obtain ⟨m2, hm2⟩ : ∃ m, mark s.tk = m := ⟨_, rfl⟩;rw [hm2] at HC2 hbm2 hR2;clear hm2;by_cases e2_0 : m2 = [33]
 · subst e2_0
   simp (config := { decide := true }) only [if_true, if_false] at hR2;have HR2 := Hi hR2;rw [show strOfNums [33] = ⟨#[33]⟩ from rfl] at HC2;clear hR2 hbm2;go_wp2_with (go_at_call 50; refine (U HC2).mono ?_)
   rintro e w2 ⟨rfl, h2⟩
   have H2 := Hi ((U H0).below h2);clear h2;have hp3 := bd_ne (p := nextP E.c) (U HR2) (U HNE);obtain ⟨a3, s3, hq3⟩ : ∃ a s', nextP E.c s = .ok a s' := next_ok hp3;have HC3 := Hi (rq_ok (next_rq (U HE) (U H2).1 hp3) hq3);have HR3 := br hq3 HR2;clear hq3 hp3;unfold tkV at HC3;go_wp2_with (go_at_call 53; refine (U HC3).mono ?_)
   rintro e w3 ⟨rfl, nv3, h3⟩
   have H3 := Hi ((U H2).trans h3);clear h3;have q13 := tf1 a3.1 (strOfNums a3.2.1) (a3.2.2.1 : Int) (a3.2.2.2 : Int) w3;have hp4 := bd_ne (p := parP E.c n .unary) (U HR3) (U HNE);have HC4 := Hi (U HIU _ _ _ (U H3).1 hp4);cases hq4 : parP E.c n .unary s3 with
   | out => exact absurd hq4 hp4
   | no s4 =>
     have hR4 := (bd_no hq4).symm.trans (U HR3);subst hR4;replace HC4 := rn HC4 hq4;clear hq4 hp4;go_wp2_with (go_at_call 159; refine (U HC4).mono ?_)
     rintro e w4 ⟨rfl, nv4, h4⟩
     have H4 := Hi ((U H3).trans h4);clear h4;go_wp2;exact ⟨rfl, rfl, nv4, U H4⟩
   | ok a4 s4 =>
     have HR4 := br hq4 HR3;replace HC4 := ro HC4 hq4;clear hq4 hp4;go_wp2_with (go_at_call 159; refine (U HC4).mono ?_)
     rintro e w4 ⟨rfl, nv4, h4⟩
     have H4 := Hi ((U H3).trans h4);clear h4;have hp5 := bd_ne (p := putP ⟨23, a3.2.1, 0, [hd0 a4], s.tk.2.2.1⟩) (U HR4) (U HNE);obtain ⟨a5, s5, hq5⟩ : ∃ a s', putP ⟨23, a3.2.1, 0, [hd0 a4], s.tk.2.2.1⟩ s4 = .ok a s' := put_ex hp5;have H5p := Hi ((U H4).below ((Below.refl _ w4).alloc NL (.cells #[.int .i64 ((hd0 a4 : Nat) : Int)] 3)));have HC5 := Hi (rq_ok (put_rq (U H5p).1 _ _ _ (kid1 w4 (hd0 a4) (U H4).1.zl) hp5) hq5);simp only [e0', List.length_cons, List.length_nil] at HC5;have HR5 := br hq5 HR4;clear hq5 hp5;go_wp2_with (go_at_call 32; refine (U HC5).mono ?_)
     rintro e w5 ⟨rfl, nv5, h5⟩
     have H5 := Hi ((U H5p).trans h5);clear h5;have hR5 : (.ok [a5] s5 : Res (List Nat)) = R := U HR5;subst hR5;go_wp2;go_ret;exact ⟨rfl, nv5, U H5⟩
 by_cases e2_1 : m2 = [45]
 · subst e2_1
   simp (config := { decide := true }) only [if_true, if_false] at hR2;have HR2 := Hi hR2;rw [show strOfNums [45] = ⟨#[45]⟩ from rfl] at HC2;clear hR2 hbm2;go_wp2_with (go_at_call 50; refine (U HC2).mono ?_)
   rintro e w2 ⟨rfl, h2⟩
   have H2 := Hi ((U H0).below h2);clear h2;have hp6 := bd_ne (p := nextP E.c) (U HR2) (U HNE);obtain ⟨a6, s6, hq6⟩ : ∃ a s', nextP E.c s = .ok a s' := next_ok hp6;have HC6 := Hi (rq_ok (next_rq (U HE) (U H2).1 hp6) hq6);have HR6 := br hq6 HR2;clear hq6 hp6;unfold tkV at HC6;go_wp2_with (go_at_call 53; refine (U HC6).mono ?_)
   rintro e w6 ⟨rfl, nv6, h6⟩
   have H6 := Hi ((U H2).trans h6);clear h6;have q16 := tf1 a6.1 (strOfNums a6.2.1) (a6.2.2.1 : Int) (a6.2.2.2 : Int) w6;have hp7 := bd_ne (p := parP E.c n .unary) (U HR6) (U HNE);have HC7 := Hi (U HIU _ _ _ (U H6).1 hp7);cases hq7 : parP E.c n .unary s6 with
   | out => exact absurd hq7 hp7
   | no s7 =>
     have hR7 := (bd_no hq7).symm.trans (U HR6);subst hR7;replace HC7 := rn HC7 hq7;clear hq7 hp7;go_wp2_with (go_at_call 159; refine (U HC7).mono ?_)
     rintro e w7 ⟨rfl, nv7, h7⟩
     have H7 := Hi ((U H6).trans h7);clear h7;go_wp2;exact ⟨rfl, rfl, nv7, U H7⟩
   | ok a7 s7 =>
     have HR7 := br hq7 HR6;replace HC7 := ro HC7 hq7;clear hq7 hp7;go_wp2_with (go_at_call 159; refine (U HC7).mono ?_)
     rintro e w7 ⟨rfl, nv7, h7⟩
     have H7 := Hi ((U H6).trans h7);clear h7;have hp8 := bd_ne (p := putP ⟨23, a6.2.1, 0, [hd0 a7], s.tk.2.2.1⟩) (U HR7) (U HNE);obtain ⟨a8, s8, hq8⟩ : ∃ a s', putP ⟨23, a6.2.1, 0, [hd0 a7], s.tk.2.2.1⟩ s7 = .ok a s' := put_ex hp8;have H8p := Hi ((U H7).below ((Below.refl _ w7).alloc NL (.cells #[.int .i64 ((hd0 a7 : Nat) : Int)] 3)));have HC8 := Hi (rq_ok (put_rq (U H8p).1 _ _ _ (kid1 w7 (hd0 a7) (U H7).1.zl) hp8) hq8);simp only [e0', List.length_cons, List.length_nil] at HC8;have HR8 := br hq8 HR7;clear hq8 hp8;go_wp2_with (go_at_call 32; refine (U HC8).mono ?_)
     rintro e w8 ⟨rfl, nv8, h8⟩
     have H8 := Hi ((U H8p).trans h8);clear h8;have hR8 : (.ok [a8] s8 : Res (List Nat)) = R := U HR8;subst hR8;go_wp2;go_ret;exact ⟨rfl, nv8, U H8⟩
 by_cases e2_2 : m2 = [126]
 · subst e2_2
   simp (config := { decide := true }) only [if_true, if_false] at hR2;have HR2 := Hi hR2;rw [show strOfNums [126] = ⟨#[126]⟩ from rfl] at HC2;clear hR2 hbm2;go_wp2_with (go_at_call 50; refine (U HC2).mono ?_)
   rintro e w2 ⟨rfl, h2⟩
   have H2 := Hi ((U H0).below h2);clear h2;have hp9 := bd_ne (p := nextP E.c) (U HR2) (U HNE);obtain ⟨a9, s9, hq9⟩ : ∃ a s', nextP E.c s = .ok a s' := next_ok hp9;have HC9 := Hi (rq_ok (next_rq (U HE) (U H2).1 hp9) hq9);have HR9 := br hq9 HR2;clear hq9 hp9;unfold tkV at HC9;go_wp2_with (go_at_call 53; refine (U HC9).mono ?_)
   rintro e w9 ⟨rfl, nv9, h9⟩
   have H9 := Hi ((U H2).trans h9);clear h9;have q19 := tf1 a9.1 (strOfNums a9.2.1) (a9.2.2.1 : Int) (a9.2.2.2 : Int) w9;have hp10 := bd_ne (p := parP E.c n .unary) (U HR9) (U HNE);have HC10 := Hi (U HIU _ _ _ (U H9).1 hp10);cases hq10 : parP E.c n .unary s9 with
   | out => exact absurd hq10 hp10
   | no s10 =>
     have hR10 := (bd_no hq10).symm.trans (U HR9);subst hR10;replace HC10 := rn HC10 hq10;clear hq10 hp10;go_wp2_with (go_at_call 159; refine (U HC10).mono ?_)
     rintro e w10 ⟨rfl, nv10, h10⟩
     have H10 := Hi ((U H9).trans h10);clear h10;go_wp2;exact ⟨rfl, rfl, nv10, U H10⟩
   | ok a10 s10 =>
     have HR10 := br hq10 HR9;replace HC10 := ro HC10 hq10;clear hq10 hp10;go_wp2_with (go_at_call 159; refine (U HC10).mono ?_)
     rintro e w10 ⟨rfl, nv10, h10⟩
     have H10 := Hi ((U H9).trans h10);clear h10;have hp11 := bd_ne (p := putP ⟨23, a9.2.1, 0, [hd0 a10], s.tk.2.2.1⟩) (U HR10) (U HNE);obtain ⟨a11, s11, hq11⟩ : ∃ a s', putP ⟨23, a9.2.1, 0, [hd0 a10], s.tk.2.2.1⟩ s10 = .ok a s' := put_ex hp11;have H11p := Hi ((U H10).below ((Below.refl _ w10).alloc NL (.cells #[.int .i64 ((hd0 a10 : Nat) : Int)] 3)));have HC11 := Hi (rq_ok (put_rq (U H11p).1 _ _ _ (kid1 w10 (hd0 a10) (U H10).1.zl) hp11) hq11);simp only [e0', List.length_cons, List.length_nil] at HC11;have HR11 := br hq11 HR10;clear hq11 hp11;go_wp2_with (go_at_call 32; refine (U HC11).mono ?_)
     rintro e w11 ⟨rfl, nv11, h11⟩
     have H11 := Hi ((U H11p).trans h11);clear h11;have hR11 : (.ok [a11] s11 : Res (List Nat)) = R := U HR11;subst hR11;go_wp2;go_ret;exact ⟨rfl, nv11, U H11⟩
 by_cases e2_3 : m2 = [116, 121, 112, 101, 111, 102]
 · subst e2_3
   simp (config := { decide := true }) only [if_true, if_false] at hR2;have HR2 := Hi hR2;rw [show strOfNums [116, 121, 112, 101, 111, 102] = ⟨#[116, 121, 112, 101, 111, 102]⟩ from rfl] at HC2;clear hR2 hbm2;go_wp2_with (go_at_call 50; refine (U HC2).mono ?_)
   rintro e w2 ⟨rfl, h2⟩
   have H2 := Hi ((U H0).below h2);clear h2;have hp12 := bd_ne (p := nextP E.c) (U HR2) (U HNE);obtain ⟨a12, s12, hq12⟩ : ∃ a s', nextP E.c s = .ok a s' := next_ok hp12;have HC12 := Hi (rq_ok (next_rq (U HE) (U H2).1 hp12) hq12);have HR12 := br hq12 HR2;clear hq12 hp12;unfold tkV at HC12;go_wp2_with (go_at_call 53; refine (U HC12).mono ?_)
   rintro e w12 ⟨rfl, nv12, h12⟩
   have H12 := Hi ((U H2).trans h12);clear h12;have q112 := tf1 a12.1 (strOfNums a12.2.1) (a12.2.2.1 : Int) (a12.2.2.2 : Int) w12;have hp13 := bd_ne (p := parP E.c n .unary) (U HR12) (U HNE);have HC13 := Hi (U HIU _ _ _ (U H12).1 hp13);cases hq13 : parP E.c n .unary s12 with
   | out => exact absurd hq13 hp13
   | no s13 =>
     have hR13 := (bd_no hq13).symm.trans (U HR12);subst hR13;replace HC13 := rn HC13 hq13;clear hq13 hp13;go_wp2_with (go_at_call 159; refine (U HC13).mono ?_)
     rintro e w13 ⟨rfl, nv13, h13⟩
     have H13 := Hi ((U H12).trans h13);clear h13;go_wp2;exact ⟨rfl, rfl, nv13, U H13⟩
   | ok a13 s13 =>
     have HR13 := br hq13 HR12;replace HC13 := ro HC13 hq13;clear hq13 hp13;go_wp2_with (go_at_call 159; refine (U HC13).mono ?_)
     rintro e w13 ⟨rfl, nv13, h13⟩
     have H13 := Hi ((U H12).trans h13);clear h13;have hp14 := bd_ne (p := putP ⟨23, a12.2.1, 0, [hd0 a13], s.tk.2.2.1⟩) (U HR13) (U HNE);obtain ⟨a14, s14, hq14⟩ : ∃ a s', putP ⟨23, a12.2.1, 0, [hd0 a13], s.tk.2.2.1⟩ s13 = .ok a s' := put_ex hp14;have H14p := Hi ((U H13).below ((Below.refl _ w13).alloc NL (.cells #[.int .i64 ((hd0 a13 : Nat) : Int)] 3)));have HC14 := Hi (rq_ok (put_rq (U H14p).1 _ _ _ (kid1 w13 (hd0 a13) (U H13).1.zl) hp14) hq14);simp only [e0', List.length_cons, List.length_nil] at HC14;have HR14 := br hq14 HR13;clear hq14 hp14;go_wp2_with (go_at_call 32; refine (U HC14).mono ?_)
     rintro e w14 ⟨rfl, nv14, h14⟩
     have H14 := Hi ((U H14p).trans h14);clear h14;have hR14 : (.ok [a14] s14 : Res (List Nat)) = R := U HR14;subst hR14;go_wp2;go_ret;exact ⟨rfl, nv14, U H14⟩
 have g2_0 := mark_ne hbm2 (l := [33]) (by intro z hz; simp at hz; omega) e2_0;have g2_1 := mark_ne hbm2 (l := [45]) (by intro z hz; simp at hz; omega) e2_1;have g2_2 := mark_ne hbm2 (l := [126]) (by intro z hz; simp at hz; omega) e2_2;have g2_3 := mark_ne hbm2 (l := [116, 121, 112, 101, 111, 102]) (by intro z hz; simp at hz; omega) e2_3;skip
 rw [if_neg (by simp [List.contains_iff_mem, e2_0, e2_1, e2_2, e2_3])] at hR2;obtain ⟨S2, hS2⟩ : ∃ S, strOfNums m2 = S := ⟨_, rfl⟩;rw [hS2] at HC2 g2_0 g2_1 g2_2 g2_3;have HR2 := Hi hR2;clear hR2 hS2 hbm2 e2_0 e2_1 e2_2 e2_3;replace g2_0 : (S2.toList == [33]) = false := g2_0;replace g2_1 : (S2.toList == [45]) = false := g2_1;replace g2_2 : (S2.toList == [126]) = false := g2_2;replace g2_3 : (S2.toList == [116, 121, 112, 101, 111, 102]) = false := g2_3;go_wp2_with (go_at_call 50; refine (U HC2).mono ?_)
 rintro e w2 ⟨rfl, h2⟩
 have H2 := Hi ((U H0).below h2);clear h2;have hp15 : parP E.c n .postfix s ≠ .out := fun e => U HNE ((U HR2).symm.trans e)
 have HC15 := Hi (U HIF _ _ _ (U H2).1 hp15);cases hq15 : parP E.c n .postfix s with
 | out => exact absurd hq15 hp15
 | no s15 =>
   have hR15 := hq15.symm.trans (U HR2);subst hR15;replace HC15 := rn HC15 hq15;clear hq15 hp15;go_wp2_with (go_at_call 205; refine (U HC15).mono ?_)
   rintro e w15 ⟨rfl, nv15, h15⟩
   have H15 := Hi ((U H2).trans h15);clear h15;go_wp2;exact ⟨rfl, rfl, nv15, U H15⟩
 | ok a15 s15 =>
   have HR15 := Hi (hq15.symm.trans (U HR2));replace HC15 := ro HC15 hq15;clear hq15 hp15;go_wp2_with (go_at_call 205; refine (U HC15).mono ?_)
   rintro e w15 ⟨rfl, nv15, h15⟩
   have H15 := Hi ((U H2).trans h15);clear h15;have hR15 := U HR15;subst hR15;go_wp2;go_ret;exact ⟨rfl, nv15, U H15⟩
def En.off (E : En) (g : Nat) : En := { E with Z := fun k => E.Z k ∨ k = g }
theorem En.Ok.off {E : En} (h : E.Ok) (g : Nat) : (E.off g).Ok := ⟨h.toks, h.nums, h.cll, h.clb⟩
theorem En.Ok.z {E : En} (h : E.Ok) (Z : Nat → Prop) : ({ E with Z := Z } : En).Ok := ⟨h.toks, h.nums, h.cll, h.clb⟩
theorem KidR.lt {Z Z' : Nat → Prop} {W : World} {kv : Value} {ks : List Nat} (h : KidR Z W kv ks) (hz : ∀ k, k < W.heap.size → ¬ Z k → ¬ Z' k) : KidR Z' W kv ks := by
 obtain ⟨a, cap, h1, h2, h3, h4⟩ := h;refine ⟨a, cap, h1, h2, h3, ?_⟩;rcases h4 with h4 | ⟨b, o, cur, fr, e, hn, hh, hc⟩
 · exact .inl h4
 · exact .inr ⟨b, o, cur, fr, e, hz b (Array.getElem?_eq_some_iff.1 hh).1 hn, hh, hc⟩
theorem NdRow.lt {Z Z' : Nat → Prop} {W : World} {nv : Value} {l : List PN} (h : NdRow Z W nv l) (hz : ∀ k, k < W.heap.size → ¬ Z k → ¬ Z' k) : NdRow Z' W nv l := by
 obtain ⟨kvs, h1, h2, h3⟩ := h;exact ⟨kvs, h1, h2, fun j x kv hx hkv => (h3 j x kv hx hkv).lt hz⟩
theorem OldOf.lt {Z Z' : Nat → Prop} {W : World} {nv u : Value} {l l' : List PN} (h : OldOf Z W nv l u l') (hz : ∀ k, k < W.heap.size → ¬ Z k → ¬ Z' k) : OldOf Z' W nv l u l' := ⟨h.1.lt hz, h.2⟩
theorem RAt.off {E : En} {nv : Value} {s : PS} {W A : World} {g : Nat} (h : RAt E nv s W) (hb : Below W.heap.size W A) (hg : W.heap.size ≤ g) (hl : g < A.heap.size) : RAt (E.off g) nv s A := by
 have hA := h.below hb;have hz : ∀ k, k < W.heap.size → ¬ E.Z k → ¬ (E.off g).Z k := fun k hk hn h => h.elim hn fun e => by omega
 refine ⟨hA.rd, hA.tk, hA.ty, hA.cl, hA.lv, hA.nc, (h.nd.lt hz).keep fun k e => hb.block k (by rcases e with e | e <;> exact ty_lt e (by omega)), fun k hk => ?_, hA.by', hA.le, hA.lo⟩;rcases hk with hk | hk
 · exact hA.zl k hk
 · omega
theorem RAt.on {E : En} {nv : Value} {s : PS} {W : World} {g : Nat} (h : RAt (E.off g) nv s W) : RAt E nv s W :=
 ⟨h.rd, h.tk, h.ty, h.cl, h.lv, h.nc, h.nd.lt fun k _ hn hz => hn (.inl hz), fun k hk => h.zl k (.inl hk), h.by', h.le, h.lo⟩
theorem NdRow.grow {Z : Nat → Prop} {W A : World} {nv : Value} {l : List PN} {g : Nat} (h : NdRow (fun k => Z k ∨ k = g) W nv l) (ht : tyOf W g = 3) (hk : ∀ k, k < W.heap.size → k ≠ g → A.heap[k]? = W.heap[k]?) : NdRow (fun k => Z k ∨ k = g) A nv l := by
 have hty := fun k e => nd_ty h (k := k) e
 obtain ⟨kvs, h1, h2, h3⟩ := h;refine ⟨kvs, h1, row_keep h2 fun k e => hk k (ty_lt (hty k e) (by omega)) fun e' => ?_, fun j x kv hx hkv => ?_⟩
 · have := hty k e
   subst e';omega
 · obtain ⟨a, cap, q1, q2, q3, q4⟩ := h3 j x kv hx hkv
   refine ⟨a, cap, q1, q2, q3, ?_⟩;rcases q4 with q4 | ⟨b, o, cur, fr, e, hn, hh, hc⟩
   · exact .inl q4
   · exact .inr ⟨b, o, cur, fr, e, hn, (hk b (Array.getElem?_eq_some_iff.1 hh).1 fun e' => hn (.inr e')).trans hh, hc⟩
theorem RAt.grow {E : En} {nv0 nv : Value} {s0 s : PS} {W0 W A : World} {g : Nat} (h0 : RAt E nv0 s0 W0) (hg : W0.heap.size ≤ g) (ht : tyOf W g = 3) (h : RAt (E.off g) nv s W) (hs : W.heap.size ≤ A.heap.size) (hk : ∀ k, k < W.heap.size → k ≠ g → A.heap[k]? = W.heap[k]?) : RAt (E.off g) nv s A := by
 have hM0 := h0.rd.lt;have hMk := hk E.M h.rd.lt (by omega);have hkt : ∀ k t, tyOf W k = t → t ≠ 0 → t ≠ 3 → A.heap[k]? = W.heap[k]? := fun k t e h1 h2 => hk k (ty_lt e h1) fun e' => by subst e'; omega
 refine ⟨h.rd.keep hMk, ?_, fun k e => ?_, ?_, ?_, h.nc.keep fun k e => hkt k 4 e (by omega) (by omega), h.nd.grow ht hk, fun k e => Nat.lt_of_lt_of_le (h.zl k e) hs, h.by', h.le, h.lo⟩
 · obtain ⟨tb, cap, e, q1, q2, hpos, hl, hc⟩ := h.tk
   have htb : tyOf W tb = 40 := h.ty tb (by rw [e]; rfl);have hh := hkt tb 40 htb (by omega) (by omega);have ec : ∀ o, A.cell? ⟨tb, o, none⟩ = W.cell? ⟨tb, o, none⟩ := fun o => by unfold World.cell?; rw [hh]
   refine ⟨tb, cap, e, q1, q2, hpos, hl, fun j t hj => ?_⟩;obtain ⟨a0, a1, a2, a3⟩ := hc j t hj;exact ⟨(ec _).trans a0, (ec _).trans a1, (ec _).trans a2, (ec _).trans a3⟩
 · have e' := h.ty k e
   rw [tyOf_eq (hkt k 40 e' (by omega) (by omega))];exact e'
 · obtain ⟨cb0, _, _, _, e0, _, _, hh0, _⟩ := h0.cl
   obtain ⟨cb, cap, cur, fr, e, q1, q2, hh, hc⟩ := h.cl;have e1 : E.cv = _ := e;rw [e0] at e1;cases e1;have := (Array.getElem?_eq_some_iff.1 hh0).1;exact ⟨cb0, _, cur, fr, e, q1, q2, (hk cb0 (Array.getElem?_eq_some_iff.1 hh).1 (by omega)).trans hh, hc⟩
 · obtain ⟨lb0, _, _, _, _, _, _, _, e0, _, _, hh0, _⟩ := h0.lv
   obtain ⟨lb, cap, cur, t, fr, t1, t2, t3, e, q1, q2, hh, hc⟩ := h.lv;have e1 : E.lv = _ := e;rw [e0] at e1;cases e1;have := (Array.getElem?_eq_some_iff.1 hh0).1;refine ⟨lb0, _, cur, t, fr, t1, t2, t3, e, q1, q2, (hk lb0 (Array.getElem?_eq_some_iff.1 hh).1 (by omega)).trans hh, fun i r hr => ?_⟩;obtain ⟨b, c, cu, f, a1, a2, a3, a4, a5⟩ := hc i r hr;exact ⟨b, c, cu, f, a1, a2, a3, (hkt b 9 (by simp [tyOf, a4]) (by omega) (by omega)).trans a4, a5⟩
structure Fil (E : En) (nv0 : Value) (s0 : PS) (W0 : World) (ks : List Nat) (g cap : Nat) (nv : Value) (s : PS) (W : World) : Prop where
 own : W.ownsRow W0.heap.size 3 1 (.slice (some ⟨g, 0, none⟩) ks.length cap) ks.length (ks.map fun k : Nat => .int .i64 (k : Int))
 ge : W0.heap.size ≤ g
 at' : RAt (E.off g) nv s W
 fz : Fz E.M E.lo W0 W
 old : ∀ u l', OldOf E.Z W0 nv0 s0.nodes u l' → OldOf (E.off g).Z W nv s.nodes u l'
theorem Fil.lf {E : En} {nv0 : Value} {s0 : PS} {W0 : World} {ks : List Nat} {g cap : Nat} {nv : Value} {s : PS} {W : World} (h : Fil E nv0 s0 W0 ks g cap nv s W) : Lf E nv0 s0 W0 nv s W :=
 ⟨h.at'.on, h.fz, fun u l o => (h.old u l o).lt fun k _ hn hz => hn (.inl hz)⟩
theorem own_ty {W : World} {B g n m cap : Nat} {xs : List Value} (h : W.ownsRow B 3 1 (.slice (some ⟨g, 0, none⟩) m cap) n xs) : tyOf W g = 3 := by
 rcases h.2 with ⟨h0, _⟩ | ⟨g', cap', cur, h0, _, hh, _⟩
 · cases h0
 · cases h0
   simp [tyOf, hh]
theorem Fil.read {E : En} {nv0 : Value} {s0 : PS} {W0 : World} {ks : List Nat} {g cap : Nat} {nv nv' : Value} {s s' : PS} {W A : World} (h : Fil E nv0 s0 W0 ks g cap nv s W) (hl : Lf (E.off g) nv s W nv' s' A) : Fil E nv0 s0 W0 ks g cap nv' s' A := by
 have hM := h.at'.mty;have hg := own_ty h.own;refine ⟨row_keep h.own fun k e => ?_, h.ge, hl.1, h.fz.trans hl.2.1, fun u l o => hl.2.2 u l (h.old u l o)⟩;have e' : g = k := by simpa [Value.ownBlock] using e
 subst e';refine hl.2.1.block g (ty_lt hg (by omega)) (fun e' => ?_) (by omega) (by omega);have hM' : tyOf W (E.off g).M = 72 := hM;rw [← e'] at hM';omega
theorem Fil.more {E : En} {nv0 : Value} {s0 : PS} {W0 : World} {ks : List Nat} {g cap g' cap' x : Nat} {nv : Value} {s : PS} {W B A : World} (h0 : RAt E nv0 s0 W0) (h : Fil E nv0 s0 W0 ks g cap nv s W) (hb : Below W.heap.size W B)
 (ho : A.ownsRow W0.heap.size 3 1 (.slice (some ⟨g', 0, none⟩) (ks.length + 1) cap') (ks.length + 1) ((ks.map fun k : Nat => .int .i64 (k : Int)) ++ [.int .i64 (x : Int)])) (hgr : B.grownBy A (some g)) (hat : g = g' ∨ g' = B.heap.size) (hlt : g' < A.heap.size) : Fil E nv0 s0 W0 (ks ++ [x]) g' cap' nv s A := by
 have hg := own_ty h.own;have hgl := ty_lt hg (by omega);have hgB : tyOf B g = 3 := by rw [tyOf_eq (hb.block g hgl)]; exact hg
 have hW0 := h.fz.size;have hMl : E.M < W.heap.size := h.at'.rd.lt;have hBs := hb.size;have hAs := hgr.size;have hkk : ∀ k, k < B.heap.size → k ≠ g → A.heap[k]? = B.heap[k]? := fun k hk hn => hgr.block k hk fun e => hn (by injection e)
 have hAB : RAt (E.off g) nv s A := RAt.grow h0 h.ge hgB (h.at'.below hb) hAs hkk
 have hO : ∀ u l', OldOf E.Z W0 nv0 s0.nodes u l' → OldOf (E.off g).Z A nv s.nodes u l' := fun u l' o => by
  have o1 := (h.old u l' o).below hb;exact ⟨NdRow.grow (Z := E.Z) o1.1 hgB hkk, o1.2⟩
 have hF : Fz E.M E.lo W0 A := by
  have hge := h.ge;refine ⟨hgr.os.trans (hb.os.trans h.fz.os), hgr.tape.trans (hb.tape.trans h.fz.tape), hgr.output.trans (hb.output.trans h.fz.output), by omega, fun k hk h1 h2 h3 => (hkk k (by omega) (by omega)).trans ((hb.block k (by omega)).trans (h.fz.block k hk h1 h2 h3)), fun k hk h1 => (hkk k (by omega) (by omega)).trans ((hb.block k (by omega)).trans (h.fz.low k hk h1))⟩
 have hN : ∀ u l', g' = B.heap.size → NdRow (E.off g).Z B u l' → NdRow (E.off g').Z A u l' := fun u l' e hn => by
  have n1 : NdRow (fun k => (E.Z k ∨ k = g') ∨ k = g) B u l' := hn.lt fun k hk hz hz' => by
   rcases hz' with (hz' | hz') | hz'
   · exact hz (.inl hz')
   · omega
   · exact hz (.inr hz')
  exact (NdRow.grow (Z := fun k => E.Z k ∨ k = g') n1 hgB hkk).lt fun k _ hz hz' => hz (.inl hz')
 refine ⟨by simpa using ho, ?_, ?_, hF, ?_⟩
 · rcases hat with e | e
   · rw [← e]; exact h.ge
   · omega
 · rcases hat with e | e
   · rw [← e]; exact hAB
   · refine ⟨hAB.rd, hAB.tk, hAB.ty, hAB.cl, hAB.lv, hAB.nc, hN nv s.nodes e (h.at'.below hb).nd, fun k hk => ?_, hAB.by', hAB.le, hAB.lo⟩
     rcases hk with hk | hk
     · exact hAB.zl k (.inl hk)
     · omega
 · intro u l' o
   rcases hat with e | e
   · rw [← e]; exact hO u l' o
   · exact ⟨hN u l' e ((h.old u l' o).below hb).1, (h.old u l' o).2⟩
theorem infoInt : (Tryz.prog.info? 3).map (fun i => (i.zero, i.size, i.bytes)) = some (some (.int .i64 0), 1, 8) := by kernel_rfl
def RQL (E : En) (nv : Value) (s : PS) (W : World) (r : Res (List Nat)) (e : Ending) (A : World) : Prop :=
 match r with
 | .ok l s' => ∃ ka kc nv', e = .returned (.slice ka l.length kc) ∧ KidR E.Z A (.slice ka l.length kc) l ∧ Lf E nv s W nv' s' A
 | .no s' => e = .panicked refC ∧ ∃ nv', Lf E nv s W nv' s' A
 | .out => False
def IHL (E : En) (n : Nat) (x : Cmd) (f : Nat) (args : Array Value) : Prop := ∀ nv s W, RAt E nv s W → parP E.c n x s ≠ .out → Calls Tryz.prog f args W (RQL E nv s W (parP E.c n x s))
theorem Fil.kids {E : En} {nv0 : Value} {s0 : PS} {W0 : World} {ks : List Nat} {g cap : Nat} {nv : Value} {s : PS} {W : World} (h0 : RAt E nv0 s0 W0) (h : Fil E nv0 s0 W0 ks g cap nv s W) : KidR E.Z W (.slice (some ⟨g, 0, none⟩) ks.length cap) ks := by
 rcases h.own.2 with ⟨e, _⟩ | ⟨g', cap', cur, e, _, hh, q1, q2, q3, q4⟩
 · cases e
 · cases e
   refine ⟨_, _, rfl, q1, q2, .inr ⟨g, 0, cur, _, rfl, fun hz => ?_, hh, fun j k hj => ?_⟩⟩
   · have := h0.zl g hz
     have := h.ge;omega
   · have hlt : j < ks.length := (List.getElem?_eq_some_iff.1 hj).1
     have e2 := congrArg (fun l => l[j]?) q4;simp only [List.getElem?_take, List.getElem?_map, hj, Option.map_some] at e2;rw [if_pos (by omega)] at e2;simpa using e2
theorem Fil.first {E : En} {nv0 : Value} {s0 : PS} {W0 : World} {x : Nat} {nv : Value} {s : PS} {W : World} (h : Lf E nv0 s0 W0 nv s W) : Fil E nv0 s0 W0 [x] W.heap.size 1 nv s (W.alloc (.cells #[.int .i64 (x : Int)] 3)) := by
 have hb : Below W.heap.size W (W.alloc (.cells #[.int .i64 (x : Int)] 3)) := (Below.refl _ W).alloc NL _;refine ⟨⟨rfl, .inr ⟨_, _, _, rfl, h.2.1.size, World.alloc_heap_new W _, NL, by simp [maxLen], rfl, rfl⟩⟩, h.2.1.size, h.1.off hb NL (by simp), h.2.1.trans (below_fz hb), fun u l' o => ?_⟩;have o1 : OldOf (E.off W.heap.size).Z W nv s.nodes u l' := (h.2.2 u l' o).lt fun k hk hn hz => hz.elim hn fun e => by omega
 exact o1.below hb
def SevI (E : En) (nv : Value) (s : PS) (W : World) (n : Nat) (R : Res (List Nat)) (x : List Nat → Cmd) (m : Nat) (t : Value) (wr : World) : Prop := m ≤ n ∧ ∃ (ks : List Nat) (g cap : Nat) (nv' : Value) (s' : PS), t = .slice (some ⟨g, 0, none⟩) ks.length cap ∧ Fil E nv s W ks g cap nv' s' wr ∧ parP E.c m (x ks) s' = R
theorem cap_ok {α β : Type} {l : List α} {k : Unit → Pr β} {s : PS} {R : Res β} (hR : bd (capP l) k s = R) (hne : R ≠ .out) : l.length < 1000000 ∧ k () s = R := by
 unfold bd capP at hR;split at hR
 · rename_i h
   split at h
   · cases h; exact ⟨by assumption, hR⟩
   · cases h
 · rename_i h
   split at h <;> cases h
 · exact absurd hR.symm hne
theorem several_step {E : En} (hE : E.Ok) {n : Nat} {one : Cmd} {f : Nat} (IOb : ∀ m, m ≤ n → ∀ Z, IHA { E with Z := Z } m one f #[.pointer (some ⟨E.M, 0, none⟩)]) (EG : ∀ args w, (callFunc f args).run Tryz.prog w = .ok (.enter f args) w) : IHL E (n + 1) (.several one) 155 #[.pointer (some ⟨E.M, 0, none⟩), .func (.func f) #[.pointer (some ⟨E.M, 0, none⟩)] #[]] := by
 intro nv s W h hne;obtain ⟨R, hR⟩ : ∃ R, parP E.c (n + 1) (.several one) s = R := ⟨_, rfl⟩;rw [hR] at hne ⊢;simp only [parP, bodyP] at hR;obtain ⟨j0, hj, hy0, hy1, hy2⟩ := info_parts infoInt;have HJ := Hi (And.intro hj (And.intro hy0 (And.intro hy1 hy2)));have H00 := Hi h;have HE := Hi hE;have HIO := Hi IOb;have HEG := Hi EG;have HNE := Hi hne;have hp1 := bd_ne (p := parP E.c n one) hR hne;have HC1 := Hi (IOb n NL E.Z nv s W h hp1);have eg1 := EG #[.pointer (some ⟨E.M, 0, none⟩)] W;clear hE IOb EG h hj hy0 hy1 hy2 hne;go_enter Tryz.func155, Tryz.ntmps155;cases hq1 : parP E.c n one s with
 | out => exact absurd hq1 hp1
 | no s1 =>
   have hR1 := (bd_no hq1).symm.trans hR;subst hR1;replace HC1 := rn HC1 hq1;clear hq1 hp1 hR;go_wp2_with (refine (U HC1).mono ?_)
   rintro e w1 ⟨rfl, nv1, h1⟩
   have H1 := Hi h1;clear h1;go_wp2;exact ⟨rfl, rfl, nv1, U H1⟩
 | ok a1 s1 =>
   have HR1 := Hi ((bd_ok hq1).symm.trans hR);replace HC1 := ro HC1 hq1;clear hq1 hp1 hR;go_wp2_with (refine (U HC1).mono ?_)
   rintro e w1 ⟨rfl, nv1, h1⟩
   have H1 := Hi (show Lf E nv s W nv1 s1 w1 from h1);clear h1;go_wp2;go_loopw [5] (fun t wr => Hid (∃ m, SevI E nv s W n R (.sevLoop one) m t wr)) (fun t wr => leastN fun m => SevI E nv s W n R (.sevLoop one) m t wr)
   case atStart => exact ⟨n, NL, [hd0 a1], _, _, nv1, s1, rfl, Fil.first (U H1), U HR1⟩
   case round =>
    obtain ⟨m, hm⟩ := U hrel;obtain ⟨hmn, ks, g, cap, nv2, s2, rfl, h2, hR2⟩ := leastN_spec (P := fun m => SevI E nv s W n R (.sevLoop one) m _ wr) hm;obtain ⟨m0, hm0⟩ : ∃ m0, (leastN fun m => SevI E nv s W n R (.sevLoop one) m (.slice (some ⟨g, 0, none⟩) ks.length cap) wr) = m0 := ⟨_, rfl⟩;rw [hm0] at hmn hR2;have HM0 := Hi hm0;clear hm hrel hm0 HR1 H1 HC1 eg1;cases m0 with
    | zero => exact absurd hR2.symm (U HNE)
    | succ m1 =>
      simp only [parP, bodyP] at hR2;obtain ⟨hlen, hR2⟩ := cap_ok hR2 (U HNE);have hp3 := bd_ne hR2 (U HNE);have HC3 := Hi (take_rq (E := E.off g) ((U HE).off g) h2.at' (x := ⟨#[44]⟩) ⟨rfl, by intro z hz; simp at hz; omega⟩ hp3);obtain ⟨b3, s3, hq3⟩ := take_ok hp3;replace HC3 := ro HC3 hq3;have HR3 := Hi ((bd_ok hq3).symm.trans hR2);have H2 := Hi h2;clear h2 hp3 hq3 hR2;obtain ⟨len, hln⟩ : ∃ len, ks.length = len := ⟨_, rfl⟩;have HLN := Hi hln;rw [hln] at hlen ⊢;clear hln;go_wp2_with (go_at_call 42; refine (U HC3).mono ?_)
      rintro e w3 ⟨rfl, nv3, h3⟩
      have H3 := Hi ((U H2).read h3);clear h3;cases b3 with
      | false =>
        have hR3 : (.ok ks s3 : Res (List Nat)) = R := U HR3;subst hR3;go_wp2;go_ret;have e := U HLN;subst e;exact ⟨_, _, nv3, rfl, (U H3).kids (U H00), (U H3).lf⟩
      | true =>
        have hp4 := bd_ne (p := parP E.c m1 one) (U HR3) (U HNE);have HC4 := Hi (U HIO m1 (by omega) (E.off g).Z nv3 s3 w3 (U H3).at' hp4);have eg4 := U HEG #[.pointer (some ⟨E.M, 0, none⟩)] w3;cases hq4 : parP E.c m1 one s3 with
        | out => exact absurd hq4 hp4
        | no s4 =>
          have hR4 := (bd_no hq4).symm.trans (U HR3);subst hR4;replace HC4 := rn HC4 hq4;clear hq4 hp4;go_wp2_with (refine (U HC4).mono ?_)
          rintro e w4 ⟨rfl, nv4, h4⟩
          have H4 := Hi ((U H3).read h4);clear h4;go_wp2;exact ⟨rfl, rfl, nv4, (U H4).lf⟩
        | ok a4 s4 =>
          have HR4 := br hq4 HR3;replace HC4 := ro HC4 hq4;clear hq4 hp4;go_wp2_with (refine (U HC4).mono ?_)
          rintro e w4 ⟨rfl, nv4, h4⟩
          have H4 := Hi ((U H3).read h4);clear h4 eg4;have hO4 := (U H4).own;rw [U HLN] at hO4;have hsz4 := (U H4).fz.size;have HO4 := Hi hO4;obtain ⟨hj, hy0, hy1, hy2⟩ := U HJ;clear hO4;go_wp2_with (at_builtin; refine wpList_append_lies _ rfl _ _ 32 rfl W.heap.size 3 j0 _ 1 8 Tryz.underlying32 hj hy0 hy1 hy2 rfl (by decide) _ len (ks.map fun k : Nat => .int .i64 (k : Int)) rfl ((U HO4).alloc _) ⟨w4.heap.size, 0, none⟩ 1 1 [.int .i64 (hd0 a4 : Int)] rfl rfl ?c1 ?c2 (by decide) ?c3 ?c4 ?c5 _ rfl ?_)
          case c1 => exact World.news_of_block (cs := #[.int .i64 (hd0 a4 : Int)]) (t := 3) (fr := (0, 0)) (World.alloc_heap_new _ _)
          case c2 => intro u hu; simp at hu; subst hu; rfl
          case c3 => unfold maxLen; omega
          case c4 => omega
          case c5 => simp; omega
          intro g5 cap5 w5 hown5 hgrow5 hat5 hlt5;have h5 : Fil E nv s W (ks ++ [hd0 a4]) g5 cap5 nv4 s4 w5 := (U H4).more (U H00) ((Below.refl _ w4).alloc NL _) (by rw [U HLN]; exact hown5) hgrow5 (by rcases hat5 with e | e; (· exact .inl (by simpa [Value.ownBlock] using e)); (· exact .inr (by rw [e]; simp))) hlt5;have H5 := Hi h5;clear h5 hown5 hgrow5 hat5;go_wp2;have hI : SevI E nv s W n R (.sevLoop one) m1 (.slice (some ⟨g5, 0, none⟩) (len + 1) cap5) w5 := ⟨by omega, ks ++ [hd0 a4], g5, cap5, nv4, s4, by rw [← U HLN]; simp, U H5, U HR4⟩;exact ⟨⟨_, hI⟩, by rw [← U HLN, U HM0, U HLN]; exact Nat.lt_succ_of_le (leastN_le hI)⟩
theorem rql_ok {E : En} {nv : Value} {s : PS} {W : World} {r : Res (List Nat)} {f : Nat} {args : Array Value} (h : Calls Tryz.prog f args W (RQL E nv s W r)) {a : List Nat} {s' : PS} (hr : r = .ok a s') : Calls Tryz.prog f args W fun e A => ∃ ka kc nv', e = .returned (.slice ka a.length kc) ∧ KidR E.Z A (.slice ka a.length kc) a ∧ Lf E nv s W nv' s' A := by
 subst hr;exact h
theorem rql_no {E : En} {nv : Value} {s : PS} {W : World} {r : Res (List Nat)} {f : Nat} {args : Array Value} (h : Calls Tryz.prog f args W (RQL E nv s W r)) {s' : PS} (hr : r = .no s') : Calls Tryz.prog f args W fun e A => e = .panicked refC ∧ ∃ nv', Lf E nv s W nv' s' A := by
 subst hr;exact h
theorem KidR.fz {E : En} {Z : Nat → Prop} {nv nv' : Value} {s s' : PS} {W A : World} {kv : Value} {ks : List Nat} (hk : KidR Z W kv ks) (h : RAt E nv s W) (hl : Lf E nv s W nv' s' A) : KidR Z A kv ks :=
 hk.keep fun k e => hl.2.1.block k (ty_lt e (by omega)) (fun e' => by have := h.mty; subst e'; omega) (by omega) (by omega)
theorem enclosed_step {E : En} (hE : E.Ok) {n : Nat} {one : Cmd} {g : Nat} {x y : ByteArray} {xs ys : List Int} (IS : IHL E n (.several one) 155 #[.pointer (some ⟨E.M, 0, none⟩), .func (.func g) #[.pointer (some ⟨E.M, 0, none⟩)] #[]]) (HX : Str x xs) (HY : Str y ys) : IHL E (n + 1) (.enclosed xs ys one) 158 #[.pointer (some ⟨E.M, 0, none⟩), .string x, .string y, .func (.func g) #[.pointer (some ⟨E.M, 0, none⟩)] #[]] := by
 intro nv s W h hne;obtain ⟨R, hR⟩ : ∃ R, parP E.c (n + 1) (.enclosed xs ys one) s = R := ⟨_, rfl⟩;rw [hR] at hne ⊢;simp only [parP, bodyP] at hR;have HR0 := Hi hR;have H0 := Hi (Lf.refl h);have HE := Hi hE;have HNE := Hi hne;have HIS := Hi IS;have HHX := Hi HX;have HHY := Hi HY;clear hR hne h hE IS HX HY;go_enter Tryz.func158, Tryz.ntmps158;have hp1 := bd_ne (p := wantP E.c xs) (U HR0) (U HNE);have HC1 := Hi (want_rq (U HE) (U H0).1 (x := x) (U HHX) hp1);cases hq1 : wantP E.c xs s with
 | out => exact absurd hq1 hp1
 | no s1 =>
   have hR1 := (bd_no hq1).symm.trans (U HR0);subst hR1;replace HC1 := rn HC1 hq1;clear hq1 hp1;go_wp2_with (go_at_call 94; refine (U HC1).mono ?_)
   rintro e w1 ⟨rfl, nv1, h1⟩
   have H1 := Hi ((U H0).trans h1);clear h1;go_wp2;exact ⟨rfl, rfl, nv1, U H1⟩
 | ok a1 s1 =>
   have HR1 := br hq1 HR0;replace HC1 := ro HC1 hq1;clear hq1 hp1;go_wp2_with (go_at_call 94; refine (U HC1).mono ?_)
   rintro e w1 ⟨rfl, nv1, h1⟩
   have H1 := Hi ((U H0).trans h1);clear h1;have hp2 := bd_ne (p := takeP E.c ys) (U HR1) (U HNE);obtain ⟨b2, s2, hq2⟩ := take_ok hp2;have HC2 := Hi (rq_ok (take_rq (U HE) (U H1).1 (x := y) (U HHY) hp2) hq2);have HR2 := br hq2 HR1;clear hq2 hp2;go_wp2_with (go_at_call 42; refine (U HC2).mono ?_)
   rintro e w2 ⟨rfl, nv2, h2⟩
   have H2 := Hi ((U H1).trans h2);clear h2;cases b2 with
   | false =>
     have hp3 := bd_ne (p := parP E.c n (.several one)) (U HR2) (U HNE);have HC3 := Hi (U HIS _ _ _ (U H2).1 hp3);cases hq3 : parP E.c n (.several one) s2 with
     | out => exact absurd hq3 hp3
     | no s3 =>
       have hR3 := (bd_no hq3).symm.trans (U HR2);subst hR3;replace HC3 := Hi (rql_no (U HC3) hq3);clear hq3 hp3;go_wp2_with (go_at_call 155; refine (U HC3).mono ?_)
       rintro e w3 ⟨rfl, nv3, h3⟩
       have H3 := Hi ((U H2).trans h3);clear h3;go_wp2;exact ⟨rfl, rfl, nv3, U H3⟩
     | ok a3 s3 =>
       have HR3 := br hq3 HR2;replace HC3 := Hi (rql_ok (U HC3) hq3);clear hq3 hp3;go_wp2_with (go_at_call 155; refine (U HC3).mono ?_)
       rintro e w3 ⟨ka3, kc3, nv3, rfl, hk3, h3⟩
       have H3 := Hi ((U H2).trans h3);have HK3 := Hi hk3;clear h3 hk3;have hp4 := bd_ne (p := wantP E.c ys) (U HR3) (U HNE);have HC4 := Hi (want_rq (U HE) (U H3).1 (x := y) (U HHY) hp4);cases hq4 : wantP E.c ys s3 with
       | out => exact absurd hq4 hp4
       | no s4 =>
         have hR4 := (bd_no hq4).symm.trans (U HR3);subst hR4;replace HC4 := rn HC4 hq4;clear hq4 hp4;go_wp2_with (go_at_call 94; refine (U HC4).mono ?_)
         rintro e w4 ⟨rfl, nv4, h4⟩
         have H4 := Hi ((U H3).trans h4);replace HK3 := Hi ((U HK3).fz (U H3).1 h4);clear h4;go_wp2;exact ⟨rfl, rfl, nv4, U H4⟩
       | ok a4 s4 =>
         have HR4 := br hq4 HR3;replace HC4 := ro HC4 hq4;clear hq4 hp4;go_wp2_with (go_at_call 94; refine (U HC4).mono ?_)
         rintro e w4 ⟨rfl, nv4, h4⟩
         have H4 := Hi ((U H3).trans h4);replace HK3 := Hi ((U HK3).fz (U H3).1 h4);clear h4;have hR4 : (.ok a3 s4 : Res (List Nat)) = R := U HR4;subst hR4;go_wp2;go_ret;exact ⟨ka3, kc3, nv4, rfl, U HK3, U H4⟩
   | true =>
     have hR2 : (.ok [] s2 : Res (List Nat)) = R := U HR2;subst hR2;go_wp2;go_ret;exact ⟨none, 0, nv2, rfl, ⟨none, 0, rfl, NL, Nat.zero_le _, .inl rfl⟩, U H2⟩
theorem args_step {E : En} (hE : E.Ok) {n : Nat}  (IC : IHL E n (.enclosed [40] [41] .expr) 158 #[.pointer (some ⟨E.M, 0, none⟩), .string ⟨#[40]⟩, .string ⟨#[41]⟩, .func (.func 24) #[.pointer (some ⟨E.M, 0, none⟩)] #[]]) : IHA E (n + 1) .args 228 #[.pointer (some ⟨E.M, 0, none⟩)] := by
 intro nv s W h hne;obtain ⟨R, hR⟩ : ∃ R, parP E.c (n + 1) .args s = R := ⟨_, rfl⟩;rw [hR] at hne ⊢;simp only [parP, bodyP] at hR;have HR0 := Hi hR;have H0 := Hi (Lf.refl h);have HE := Hi hE;have HNE := Hi hne;have HIC := Hi IC;clear hR hne h hE IC;go_enter Tryz.func228, Tryz.ntmps228;have hp1 := bd_ne (p := parP E.c n (.enclosed [40] [41] .expr)) (U HR0) (U HNE);have HC1 := Hi (U HIC _ _ _ (U H0).1 hp1);cases hq1 : parP E.c n (.enclosed [40] [41] .expr) s with
 | out => exact absurd hq1 hp1
 | no s1 =>
   have hR1 := (bd_no hq1).symm.trans (U HR0);subst hR1;replace HC1 := Hi (rql_no (U HC1) hq1);clear hq1 hp1;go_wp2_with (go_at_call 158; refine (U HC1).mono ?_)
   rintro e w1 ⟨rfl, nv1, h1⟩
   have H1 := Hi ((U H0).trans h1);clear h1;go_wp2;exact ⟨rfl, rfl, nv1, U H1⟩
 | ok a1 s1 =>
   have HR1 := br hq1 HR0;replace HC1 := Hi (rql_ok (U HC1) hq1);clear hq1 hp1;go_wp2_with (go_at_call 158; refine (U HC1).mono ?_)
   rintro e w1 ⟨ka1, kc1, nv1, rfl, hk1, h1⟩
   have H1 := Hi ((U H0).trans h1);have HK1 := Hi hk1;clear h1 hk1;have hp2 := bd_ne (p := listP a1) (U HR1) (U HNE);obtain ⟨a2, s2, hq2⟩ : ∃ a s', listP a1 s1 = .ok a s' := put_ex hp2;have HC2 := Hi (rq_ok (list_rq (U H1).1 a1 ka1 kc1 (U HK1) hp2) hq2);have HR2 := br hq2 HR1;clear hq2 hp2;go_wp2_with (go_at_call 96; refine (U HC2).mono ?_)
   rintro e w2 ⟨rfl, nv2, h2⟩
   have H2 := Hi ((U H1).trans h2);replace HK1 := Hi ((U HK1).fz (U H1).1 h2);clear h2;have hR2 : (.ok [a2] s2 : Res (List Nat)) = R := U HR2;subst hR2;go_wp2;go_ret;exact ⟨rfl, nv2, U H2⟩
end
end Go.Proofs.YtofgphapjjofnaaGreatDoor
