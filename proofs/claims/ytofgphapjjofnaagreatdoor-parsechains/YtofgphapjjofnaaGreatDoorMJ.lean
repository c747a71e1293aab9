/- Towards the law: PS. -/
import Derived.Test.YtofgphapjjofnaaGreatDoorMI
set_option linter.unusedSimpArgs false
set_option linter.unusedVariables false
set_option maxRecDepth 100000
set_option maxHeartbeats 8000000
namespace Go.Proofs.YtofgphapjjofnaaGreatDoor
section
open Go.RowKit Go.Shelf
theorem kid4 {Z : Nat → Prop} (W : World) (a b c d : Nat) (hz : ∀ k, Z k → k < W.heap.size) : KidR Z (W.alloc (.cells #[.int .i64 (a : Int), .int .i64 (b : Int), .int .i64 (c : Int), .int .i64 (d : Int)] 3)) (.slice (some ⟨W.heap.size, 0, none⟩) [a, b, c, d].length 4) [a, b, c, d] := by
 refine ⟨_, _, rfl, NL, by simp [maxLen], .inr ⟨_, _, _, _, rfl, fun h => Nat.lt_irrefl _ (hz _ h), World.alloc_heap_new W _, fun j k hj => ?_⟩⟩;match j, hj with
 | 0, hj => cases hj; rfl
 | 1, hj => cases hj; rfl
 | 2, hj => cases hj; rfl
 | 3, hj => cases hj; rfl
 | j + 4, hj => cases hj
theorem variable_step {E : En} (hE : E.Ok) {n : Nat} (num : Int) (IX : IHA E n .expr 24 #[.pointer (some ⟨E.M, 0, none⟩)]) (IM : IHA E n (.maybe [58] .anyType) 104 #[.pointer (some ⟨E.M, 0, none⟩), .string ⟨#[58]⟩, .func (.func 22) #[.pointer (some ⟨E.M, 0, none⟩)] #[]]) : IHA E (n + 1) (.variable num) 61 #[.pointer (some ⟨E.M, 0, none⟩), .int .i64 num] := by
 intro nv s W h hne;obtain ⟨R, hR⟩ : ∃ R, parP E.c (n + 1) (.variable num) s = R := ⟨_, rfl⟩;rw [hR] at hne ⊢;simp only [parP, bodyP] at hR;have HR0 := Hi hR;have H0 := Hi (Lf.refl h);have HE := Hi hE;have HNE := Hi hne;have HIX := Hi IX;have HIM := Hi IM;clear hR hne h hE IX IM;go_enter Tryz.func61, Tryz.ntmps61;have hp1 := bd_ne (p := nextP E.c) (U HR0) (U HNE);obtain ⟨a1, s1, hq1⟩ : ∃ a s', nextP E.c s = .ok a s' := next_ok hp1;have HC1 := Hi (rq_ok (next_rq (U HE) (U H0).1 hp1) hq1);have HR1 := br hq1 HR0;clear hq1 hp1;unfold tkV at HC1;go_wp2_with (go_at_call 53; refine (U HC1).mono ?_)
 rintro e w1 ⟨rfl, nv1, h1⟩
 have H1 := Hi ((U H0).trans h1);clear h1;have q21 := tf2 a1.1 (strOfNums a1.2.1) (a1.2.2.1 : Int) (a1.2.2.2 : Int) w1;have hp2 := bd_ne (p := nameP E.c) (U HR1) (U HNE);have HC2 := Hi (name_rq (U HE) (U H1).1 hp2);cases hq2 : nameP E.c s1 with
 | out => exact absurd hq2 hp2
 | no s2 =>
   have hR2 := (bd_no hq2).symm.trans (U HR1);subst hR2;replace HC2 := rn HC2 hq2;clear hq2 hp2;go_wp2_with (go_at_call 103; refine (U HC2).mono ?_)
   rintro e w2 ⟨rfl, nv2, h2⟩
   have H2 := Hi ((U H1).trans h2);clear h2;go_wp2;exact ⟨rfl, rfl, nv2, U H2⟩
 | ok a2 s2 =>
   have HR2 := br hq2 HR1;replace HC2 := ro HC2 hq2;clear hq2 hp2;go_wp2_with (go_at_call 103; refine (U HC2).mono ?_)
   rintro e w2 ⟨rfl, nv2, h2⟩
   have H2 := Hi ((U H1).trans h2);clear h2;have hp3 := bd_ne (p := parP E.c n (.maybe [58] .anyType)) (U HR2) (U HNE);have HC3 := Hi (U HIM _ _ _ (U H2).1 hp3);cases hq3 : parP E.c n (.maybe [58] .anyType) s2 with
   | out => exact absurd hq3 hp3
   | no s3 =>
     have hR3 := (bd_no hq3).symm.trans (U HR2);subst hR3;replace HC3 := rn HC3 hq3;clear hq3 hp3;go_wp2_with (go_at_call 104; refine (U HC3).mono ?_)
     rintro e w3 ⟨rfl, nv3, h3⟩
     have H3 := Hi ((U H2).trans h3);clear h3;go_wp2;exact ⟨rfl, rfl, nv3, U H3⟩
   | ok a3 s3 =>
     have HR3 := br hq3 HR2;replace HC3 := ro HC3 hq3;clear hq3 hp3;go_wp2_with (go_at_call 104; refine (U HC3).mono ?_)
     rintro e w3 ⟨rfl, nv3, h3⟩
     have H3 := Hi ((U H2).trans h3);clear h3;have hp4 := bd_ne (p := wantP E.c [61]) (U HR3) (U HNE);have HC4 := Hi (want_rq (U HE) (U H3).1 (x := ⟨#[61]⟩) ⟨rfl, by intro z hz; simp at hz; omega⟩ hp4);cases hq4 : wantP E.c [61] s3 with
     | out => exact absurd hq4 hp4
     | no s4 =>
       have hR4 := (bd_no hq4).symm.trans (U HR3);subst hR4;replace HC4 := rn HC4 hq4;clear hq4 hp4;go_wp2_with (go_at_call 94; refine (U HC4).mono ?_)
       rintro e w4 ⟨rfl, nv4, h4⟩
       have H4 := Hi ((U H3).trans h4);clear h4;go_wp2;exact ⟨rfl, rfl, nv4, U H4⟩
     | ok a4 s4 =>
       have HR4 := br hq4 HR3;replace HC4 := ro HC4 hq4;clear hq4 hp4;go_wp2_with (go_at_call 94; refine (U HC4).mono ?_)
       rintro e w4 ⟨rfl, nv4, h4⟩
       have H4 := Hi ((U H3).trans h4);clear h4;have hp5 := bd_ne (p := parP E.c n .expr) (U HR4) (U HNE);have HC5 := Hi (U HIX _ _ _ (U H4).1 hp5);cases hq5 : parP E.c n .expr s4 with
       | out => exact absurd hq5 hp5
       | no s5 =>
         have hR5 := (bd_no hq5).symm.trans (U HR4);subst hR5;replace HC5 := rn HC5 hq5;clear hq5 hp5;go_wp2_with (go_at_call 24; refine (U HC5).mono ?_)
         rintro e w5 ⟨rfl, nv5, h5⟩
         have H5 := Hi ((U H4).trans h5);clear h5;go_wp2;exact ⟨rfl, rfl, nv5, U H5⟩
       | ok a5 s5 =>
         have HR5 := br hq5 HR4;replace HC5 := ro HC5 hq5;clear hq5 hp5;go_wp2_with (go_at_call 24; refine (U HC5).mono ?_)
         rintro e w5 ⟨rfl, nv5, h5⟩
         have H5 := Hi ((U H4).trans h5);clear h5;have hp6 := bd_ne (p := wantP E.c [59]) (U HR5) (U HNE);have HC6 := Hi (want_rq (U HE) (U H5).1 (x := ⟨#[59]⟩) ⟨rfl, by intro z hz; simp at hz; omega⟩ hp6);cases hq6 : wantP E.c [59] s5 with
         | out => exact absurd hq6 hp6
         | no s6 =>
           have hR6 := (bd_no hq6).symm.trans (U HR5);subst hR6;replace HC6 := rn HC6 hq6;clear hq6 hp6;go_wp2_with (go_at_call 94; refine (U HC6).mono ?_)
           rintro e w6 ⟨rfl, nv6, h6⟩
           have H6 := Hi ((U H5).trans h6);clear h6;go_wp2;exact ⟨rfl, rfl, nv6, U H6⟩
         | ok a6 s6 =>
           have HR6 := br hq6 HR5;replace HC6 := ro HC6 hq6;clear hq6 hp6;go_wp2_with (go_at_call 94; refine (U HC6).mono ?_)
           rintro e w6 ⟨rfl, nv6, h6⟩
           have H6 := Hi ((U H5).trans h6);clear h6;have hp7 := bd_ne (p := putP ⟨40, a2, num, [hd0 a3, hd0 a5], a1.2.2.1⟩) (U HR6) (U HNE);obtain ⟨a7, s7, hq7⟩ : ∃ a s', putP ⟨40, a2, num, [hd0 a3, hd0 a5], a1.2.2.1⟩ s6 = .ok a s' := put_ex hp7;have H7p := Hi ((U H6).below ((Below.refl _ w6).alloc NL (.cells #[.int .i64 ((hd0 a3 : Nat) : Int), .int .i64 ((hd0 a5 : Nat) : Int)] 3)));have HC7 := Hi (rq_ok (put_rq (U H7p).1 _ _ _ (kid2 w6 (hd0 a3) (hd0 a5) (U H6).1.zl) hp7) hq7);simp only [e0', List.length_cons, List.length_nil] at HC7;have HR7 := br hq7 HR6;clear hq7 hp7;go_wp2_with (go_at_call 32; refine (U HC7).mono ?_)
           rintro e w7 ⟨rfl, nv7, h7⟩
           have H7 := Hi ((U H7p).trans h7);clear h7;have hR7 : (.ok [a7] s7 : Res (List Nat)) = R := U HR7;subst hR7;go_wp2;go_ret;exact ⟨rfl, nv7, U H7⟩
theorem choice_step {E : En} (hE : E.Ok) {n : Nat}  (IP : IHA E n .inParens 107 #[.pointer (some ⟨E.M, 0, none⟩)]) (IB : IHA E n .block 60 #[.pointer (some ⟨E.M, 0, none⟩)]) (IM : IHA E n (.maybe [101, 108, 115, 101] .otherwise) 104 #[.pointer (some ⟨E.M, 0, none⟩), .string ⟨#[101, 108, 115, 101]⟩, .func (.func 108) #[.pointer (some ⟨E.M, 0, none⟩)] #[]]) : IHA E (n + 1) .choice 65 #[.pointer (some ⟨E.M, 0, none⟩)] := by
 intro nv s W h hne;obtain ⟨R, hR⟩ : ∃ R, parP E.c (n + 1) .choice s = R := ⟨_, rfl⟩;rw [hR] at hne ⊢;simp only [parP, bodyP] at hR;have HR0 := Hi hR;have H0 := Hi (Lf.refl h);have HE := Hi hE;have HNE := Hi hne;have HIP := Hi IP;have HIB := Hi IB;have HIM := Hi IM;clear hR hne h hE IP IB IM;go_enter Tryz.func65, Tryz.ntmps65;have d1 := (U H0).1.rd.tok.2.2.1;have hl1 := (U H0).1.rd.lt;have hR1 := U HR0;rw [bd_ok (p := atP) rfl] at hR1;replace HR0 := Hi hR1;clear hR1;have hp2 := bd_ne (p := wantP E.c [105, 102]) (U HR0) (U HNE);have HC2 := Hi (want_rq (U HE) (U H0).1 (x := ⟨#[105, 102]⟩) ⟨rfl, by intro z hz; simp at hz; omega⟩ hp2);cases hq2 : wantP E.c [105, 102] s with
 | out => exact absurd hq2 hp2
 | no s2 =>
   have hR2 := (bd_no hq2).symm.trans (U HR0);subst hR2;replace HC2 := rn HC2 hq2;clear hq2 hp2;go_wp2_with (go_at_call 94; refine (U HC2).mono ?_)
   rintro e w2 ⟨rfl, nv2, h2⟩
   have H2 := Hi ((U H0).trans h2);clear h2;go_wp2;exact ⟨rfl, rfl, nv2, U H2⟩
 | ok a2 s2 =>
   have HR2 := br hq2 HR0;replace HC2 := ro HC2 hq2;clear hq2 hp2;go_wp2_with (go_at_call 94; refine (U HC2).mono ?_)
   rintro e w2 ⟨rfl, nv2, h2⟩
   have H2 := Hi ((U H0).trans h2);clear h2;have hp3 := bd_ne (p := parP E.c n .inParens) (U HR2) (U HNE);have HC3 := Hi (U HIP _ _ _ (U H2).1 hp3);cases hq3 : parP E.c n .inParens s2 with
   | out => exact absurd hq3 hp3
   | no s3 =>
     have hR3 := (bd_no hq3).symm.trans (U HR2);subst hR3;replace HC3 := rn HC3 hq3;clear hq3 hp3;go_wp2_with (go_at_call 107; refine (U HC3).mono ?_)
     rintro e w3 ⟨rfl, nv3, h3⟩
     have H3 := Hi ((U H2).trans h3);clear h3;go_wp2;exact ⟨rfl, rfl, nv3, U H3⟩
   | ok a3 s3 =>
     have HR3 := br hq3 HR2;replace HC3 := ro HC3 hq3;clear hq3 hp3;go_wp2_with (go_at_call 107; refine (U HC3).mono ?_)
     rintro e w3 ⟨rfl, nv3, h3⟩
     have H3 := Hi ((U H2).trans h3);clear h3;have hp4 := bd_ne (p := parP E.c n .block) (U HR3) (U HNE);have HC4 := Hi (U HIB _ _ _ (U H3).1 hp4);cases hq4 : parP E.c n .block s3 with
     | out => exact absurd hq4 hp4
     | no s4 =>
       have hR4 := (bd_no hq4).symm.trans (U HR3);subst hR4;replace HC4 := rn HC4 hq4;clear hq4 hp4;go_wp2_with (go_at_call 60; refine (U HC4).mono ?_)
       rintro e w4 ⟨rfl, nv4, h4⟩
       have H4 := Hi ((U H3).trans h4);clear h4;go_wp2;exact ⟨rfl, rfl, nv4, U H4⟩
     | ok a4 s4 =>
       have HR4 := br hq4 HR3;replace HC4 := ro HC4 hq4;clear hq4 hp4;go_wp2_with (go_at_call 60; refine (U HC4).mono ?_)
       rintro e w4 ⟨rfl, nv4, h4⟩
       have H4 := Hi ((U H3).trans h4);clear h4;have hp5 := bd_ne (p := parP E.c n (.maybe [101, 108, 115, 101] .otherwise)) (U HR4) (U HNE);have HC5 := Hi (U HIM _ _ _ (U H4).1 hp5);cases hq5 : parP E.c n (.maybe [101, 108, 115, 101] .otherwise) s4 with
       | out => exact absurd hq5 hp5
       | no s5 =>
         have hR5 := (bd_no hq5).symm.trans (U HR4);subst hR5;replace HC5 := rn HC5 hq5;clear hq5 hp5;go_wp2_with (go_at_call 104; refine (U HC5).mono ?_)
         rintro e w5 ⟨rfl, nv5, h5⟩
         have H5 := Hi ((U H4).trans h5);clear h5;go_wp2;exact ⟨rfl, rfl, nv5, U H5⟩
       | ok a5 s5 =>
         have HR5 := br hq5 HR4;replace HC5 := ro HC5 hq5;clear hq5 hp5;go_wp2_with (go_at_call 104; refine (U HC5).mono ?_)
         rintro e w5 ⟨rfl, nv5, h5⟩
         have H5 := Hi ((U H4).trans h5);clear h5;have hp6 := bd_ne (p := putP ⟨53, [], 0, [hd0 a3, hd0 a4, hd0 a5], s.tk.2.2.1⟩) (U HR5) (U HNE);obtain ⟨a6, s6, hq6⟩ : ∃ a s', putP ⟨53, [], 0, [hd0 a3, hd0 a4, hd0 a5], s.tk.2.2.1⟩ s5 = .ok a s' := put_ex hp6;have H6p := Hi ((U H5).below ((Below.refl _ w5).alloc NL (.cells #[.int .i64 ((hd0 a3 : Nat) : Int), .int .i64 ((hd0 a4 : Nat) : Int), .int .i64 ((hd0 a5 : Nat) : Int)] 3)));have HC6 := Hi (rq_ok (put_rq (U H6p).1 _ _ _ (kid3 w5 (hd0 a3) (hd0 a4) (hd0 a5) (U H5).1.zl) hp6) hq6);simp only [e0', List.length_cons, List.length_nil] at HC6;have HR6 := br hq6 HR5;clear hq6 hp6;go_wp2_with (go_at_call 32; refine (U HC6).mono ?_)
         rintro e w6 ⟨rfl, nv6, h6⟩
         have H6 := Hi ((U H6p).trans h6);clear h6;have hR6 : (.ok [a6] s6 : Res (List Nat)) = R := U HR6;subst hR6;go_wp2;go_ret;exact ⟨rfl, nv6, U H6⟩
theorem callable_step {E : En} (hE : E.Ok) {n : Nat} (k : Int) (at' : Nat) (IT : IHA E n .typeParams 98 #[.pointer (some ⟨E.M, 0, none⟩)]) (IQ : IHA E n (.params .param) 99 #[.pointer (some ⟨E.M, 0, none⟩), .func (.func 97) #[.pointer (some ⟨E.M, 0, none⟩)] #[]]) (IB : IHA E n .block 60 #[.pointer (some ⟨E.M, 0, none⟩)]) (IM : IHA E n (.maybe [58] .anyType) 104 #[.pointer (some ⟨E.M, 0, none⟩), .string ⟨#[58]⟩, .func (.func 22) #[.pointer (some ⟨E.M, 0, none⟩)] #[]]) : IHA E (n + 1) (.callable k at') 113 #[.pointer (some ⟨E.M, 0, none⟩), .int .i64 k, .int .i64 (at' : Int)] := by
 intro nv s W h hne;obtain ⟨R, hR⟩ : ∃ R, parP E.c (n + 1) (.callable k at') s = R := ⟨_, rfl⟩;rw [hR] at hne ⊢;simp only [parP, bodyP] at hR;have HR0 := Hi hR;have H0 := Hi (Lf.refl h);have HE := Hi hE;have HNE := Hi hne;have HIT := Hi IT;have HIQ := Hi IQ;have HIB := Hi IB;have HIM := Hi IM;clear hR hne h hE IT IQ IB IM;go_enter Tryz.func113, Tryz.ntmps113;have hp1 := bd_ne (p := nameP E.c) (U HR0) (U HNE);have HC1 := Hi (name_rq (U HE) (U H0).1 hp1);cases hq1 : nameP E.c s with
 | out => exact absurd hq1 hp1
 | no s1 =>
   have hR1 := (bd_no hq1).symm.trans (U HR0);subst hR1;replace HC1 := rn HC1 hq1;clear hq1 hp1;go_wp2_with (go_at_call 103; refine (U HC1).mono ?_)
   rintro e w1 ⟨rfl, nv1, h1⟩
   have H1 := Hi ((U H0).trans h1);clear h1;go_wp2;exact ⟨rfl, rfl, nv1, U H1⟩
 | ok a1 s1 =>
   have HR1 := br hq1 HR0;replace HC1 := ro HC1 hq1;clear hq1 hp1;go_wp2_with (go_at_call 103; refine (U HC1).mono ?_)
   rintro e w1 ⟨rfl, nv1, h1⟩
   have H1 := Hi ((U H0).trans h1);clear h1;have hp2 := bd_ne (p := parP E.c n .typeParams) (U HR1) (U HNE);have HC2 := Hi (U HIT _ _ _ (U H1).1 hp2);cases hq2 : parP E.c n .typeParams s1 with
   | out => exact absurd hq2 hp2
   | no s2 =>
     have hR2 := (bd_no hq2).symm.trans (U HR1);subst hR2;replace HC2 := rn HC2 hq2;clear hq2 hp2;go_wp2_with (go_at_call 98; refine (U HC2).mono ?_)
     rintro e w2 ⟨rfl, nv2, h2⟩
     have H2 := Hi ((U H1).trans h2);clear h2;go_wp2;exact ⟨rfl, rfl, nv2, U H2⟩
   | ok a2 s2 =>
     have HR2 := br hq2 HR1;replace HC2 := ro HC2 hq2;clear hq2 hp2;go_wp2_with (go_at_call 98; refine (U HC2).mono ?_)
     rintro e w2 ⟨rfl, nv2, h2⟩
     have H2 := Hi ((U H1).trans h2);clear h2;have hp3 := bd_ne (p := parP E.c n (.params .param)) (U HR2) (U HNE);have HC3 := Hi (U HIQ _ _ _ (U H2).1 hp3);cases hq3 : parP E.c n (.params .param) s2 with
     | out => exact absurd hq3 hp3
     | no s3 =>
       have hR3 := (bd_no hq3).symm.trans (U HR2);subst hR3;replace HC3 := rn HC3 hq3;clear hq3 hp3;go_wp2_with (go_at_call 99; refine (U HC3).mono ?_)
       rintro e w3 ⟨rfl, nv3, h3⟩
       have H3 := Hi ((U H2).trans h3);clear h3;go_wp2;exact ⟨rfl, rfl, nv3, U H3⟩
     | ok a3 s3 =>
       have HR3 := br hq3 HR2;replace HC3 := ro HC3 hq3;clear hq3 hp3;go_wp2_with (go_at_call 99; refine (U HC3).mono ?_)
       rintro e w3 ⟨rfl, nv3, h3⟩
       have H3 := Hi ((U H2).trans h3);clear h3;have hp4 := bd_ne (p := parP E.c n (.maybe [58] .anyType)) (U HR3) (U HNE);have HC4 := Hi (U HIM _ _ _ (U H3).1 hp4);cases hq4 : parP E.c n (.maybe [58] .anyType) s3 with
       | out => exact absurd hq4 hp4
       | no s4 =>
         have hR4 := (bd_no hq4).symm.trans (U HR3);subst hR4;replace HC4 := rn HC4 hq4;clear hq4 hp4;go_wp2_with (go_at_call 104; refine (U HC4).mono ?_)
         rintro e w4 ⟨rfl, nv4, h4⟩
         have H4 := Hi ((U H3).trans h4);clear h4;go_wp2;exact ⟨rfl, rfl, nv4, U H4⟩
       | ok a4 s4 =>
         have HR4 := br hq4 HR3;replace HC4 := ro HC4 hq4;clear hq4 hp4;go_wp2_with (go_at_call 104; refine (U HC4).mono ?_)
         rintro e w4 ⟨rfl, nv4, h4⟩
         have H4 := Hi ((U H3).trans h4);clear h4;have hp5 := bd_ne (p := parP E.c n .block) (U HR4) (U HNE);have HC5 := Hi (U HIB _ _ _ (U H4).1 hp5);cases hq5 : parP E.c n .block s4 with
         | out => exact absurd hq5 hp5
         | no s5 =>
           have hR5 := (bd_no hq5).symm.trans (U HR4);subst hR5;replace HC5 := rn HC5 hq5;clear hq5 hp5;go_wp2_with (go_at_call 60; refine (U HC5).mono ?_)
           rintro e w5 ⟨rfl, nv5, h5⟩
           have H5 := Hi ((U H4).trans h5);clear h5;go_wp2;exact ⟨rfl, rfl, nv5, U H5⟩
         | ok a5 s5 =>
           have HR5 := br hq5 HR4;replace HC5 := ro HC5 hq5;clear hq5 hp5;go_wp2_with (go_at_call 60; refine (U HC5).mono ?_)
           rintro e w5 ⟨rfl, nv5, h5⟩
           have H5 := Hi ((U H4).trans h5);clear h5;have hp6 := bd_ne (p := putP ⟨k, a1, 0, [hd0 a2, hd0 a3, hd0 a4, hd0 a5], at'⟩) (U HR5) (U HNE);obtain ⟨a6, s6, hq6⟩ : ∃ a s', putP ⟨k, a1, 0, [hd0 a2, hd0 a3, hd0 a4, hd0 a5], at'⟩ s5 = .ok a s' := put_ex hp6;have H6p := Hi ((U H5).below ((Below.refl _ w5).alloc NL (.cells #[.int .i64 ((hd0 a2 : Nat) : Int), .int .i64 ((hd0 a3 : Nat) : Int), .int .i64 ((hd0 a4 : Nat) : Int), .int .i64 ((hd0 a5 : Nat) : Int)] 3)));have HC6 := Hi (rq_ok (put_rq (U H6p).1 _ _ _ (kid4 w5 (hd0 a2) (hd0 a3) (hd0 a4) (hd0 a5) (U H5).1.zl) hp6) hq6);simp only [e0', List.length_cons, List.length_nil] at HC6;have HR6 := br hq6 HR5;clear hq6 hp6;go_wp2_with (go_at_call 32; refine (U HC6).mono ?_)
           rintro e w6 ⟨rfl, nv6, h6⟩
           have H6 := Hi ((U H6p).trans h6);clear h6;have hR6 : (.ok [a6] s6 : Res (List Nat)) = R := U HR6;subst hR6;go_wp2;go_ret;exact ⟨rfl, nv6, U H6⟩
theorem funcType_step {E : En} (hE : E.Ok) {n : Nat} {x : ByteArray} {xs : List Int} (IQ : IHA E n (.params .param) 99 #[.pointer (some ⟨E.M, 0, none⟩), .func (.func 97) #[.pointer (some ⟨E.M, 0, none⟩)] #[]]) (IA : IHA E n .anyType 22 #[.pointer (some ⟨E.M, 0, none⟩)]) (HX : Str x xs) : IHA E (n + 1) (.funcType xs) 150 #[.pointer (some ⟨E.M, 0, none⟩), .string x] := by
 intro nv s W h hne;obtain ⟨R, hR⟩ : ∃ R, parP E.c (n + 1) (.funcType xs) s = R := ⟨_, rfl⟩;rw [hR] at hne ⊢;simp only [parP, bodyP] at hR;have HR0 := Hi hR;have H0 := Hi (Lf.refl h);have HE := Hi hE;have HNE := Hi hne;have HIQ := Hi IQ;have HIA := Hi IA;have HHX := Hi HX;clear hR hne h hE IQ IA HX;go_enter Tryz.func150, Tryz.ntmps150;have d1 := (U H0).1.rd.tok.2.2.1;have hl1 := (U H0).1.rd.lt;have hR1 := U HR0;rw [bd_ok (p := atP) rfl] at hR1;replace HR0 := Hi hR1;clear hR1;have hp2 := bd_ne (p := parP E.c n (.params .param)) (U HR0) (U HNE);have HC2 := Hi (U HIQ _ _ _ (U H0).1 hp2);cases hq2 : parP E.c n (.params .param) s with
 | out => exact absurd hq2 hp2
 | no s2 =>
   have hR2 := (bd_no hq2).symm.trans (U HR0);subst hR2;replace HC2 := rn HC2 hq2;clear hq2 hp2;go_wp2_with (go_at_call 99; refine (U HC2).mono ?_)
   rintro e w2 ⟨rfl, nv2, h2⟩
   have H2 := Hi ((U H0).trans h2);clear h2;go_wp2;exact ⟨rfl, rfl, nv2, U H2⟩
 | ok a2 s2 =>
   have HR2 := br hq2 HR0;replace HC2 := ro HC2 hq2;clear hq2 hp2;go_wp2_with (go_at_call 99; refine (U HC2).mono ?_)
   rintro e w2 ⟨rfl, nv2, h2⟩
   have H2 := Hi ((U H0).trans h2);clear h2;have hp3 := bd_ne (p := wantP E.c xs) (U HR2) (U HNE);have HC3 := Hi (want_rq (U HE) (U H2).1 (x := x) (U HHX) hp3);cases hq3 : wantP E.c xs s2 with
   | out => exact absurd hq3 hp3
   | no s3 =>
     have hR3 := (bd_no hq3).symm.trans (U HR2);subst hR3;replace HC3 := rn HC3 hq3;clear hq3 hp3;go_wp2_with (go_at_call 94; refine (U HC3).mono ?_)
     rintro e w3 ⟨rfl, nv3, h3⟩
     have H3 := Hi ((U H2).trans h3);clear h3;go_wp2;exact ⟨rfl, rfl, nv3, U H3⟩
   | ok a3 s3 =>
     have HR3 := br hq3 HR2;replace HC3 := ro HC3 hq3;clear hq3 hp3;go_wp2_with (go_at_call 94; refine (U HC3).mono ?_)
     rintro e w3 ⟨rfl, nv3, h3⟩
     have H3 := Hi ((U H2).trans h3);clear h3;have hp4 := bd_ne (p := parP E.c n .anyType) (U HR3) (U HNE);have HC4 := Hi (U HIA _ _ _ (U H3).1 hp4);cases hq4 : parP E.c n .anyType s3 with
     | out => exact absurd hq4 hp4
     | no s4 =>
       have hR4 := (bd_no hq4).symm.trans (U HR3);subst hR4;replace HC4 := rn HC4 hq4;clear hq4 hp4;go_wp2_with (go_at_call 22; refine (U HC4).mono ?_)
       rintro e w4 ⟨rfl, nv4, h4⟩
       have H4 := Hi ((U H3).trans h4);clear h4;go_wp2;exact ⟨rfl, rfl, nv4, U H4⟩
     | ok a4 s4 =>
       have HR4 := br hq4 HR3;replace HC4 := ro HC4 hq4;clear hq4 hp4;go_wp2_with (go_at_call 22; refine (U HC4).mono ?_)
       rintro e w4 ⟨rfl, nv4, h4⟩
       have H4 := Hi ((U H3).trans h4);clear h4;have hp5 := bd_ne (p := putP ⟨86, [], 0, [hd0 a2, hd0 a4], s.tk.2.2.1⟩) (U HR4) (U HNE);obtain ⟨a5, s5, hq5⟩ : ∃ a s', putP ⟨86, [], 0, [hd0 a2, hd0 a4], s.tk.2.2.1⟩ s4 = .ok a s' := put_ex hp5;have H5p := Hi ((U H4).below ((Below.refl _ w4).alloc NL (.cells #[.int .i64 ((hd0 a2 : Nat) : Int), .int .i64 ((hd0 a4 : Nat) : Int)] 3)));have HC5 := Hi (rq_ok (put_rq (U H5p).1 _ _ _ (kid2 w4 (hd0 a2) (hd0 a4) (U H4).1.zl) hp5) hq5);simp only [e0', List.length_cons, List.length_nil] at HC5;have HR5 := br hq5 HR4;clear hq5 hp5;go_wp2_with (go_at_call 32; refine (U HC5).mono ?_)
       rintro e w5 ⟨rfl, nv5, h5⟩
       have H5 := Hi ((U H5p).trans h5);clear h5;have hR5 : (.ok [a5] s5 : Res (List Nat)) = R := U HR5;subst hR5;go_wp2;go_ret;exact ⟨rfl, nv5, U H5⟩
theorem field_step {E : En} (hE : E.Ok) {n : Nat}  (IM : IHA E n (.maybe [58] .anyType) 104 #[.pointer (some ⟨E.M, 0, none⟩), .string ⟨#[58]⟩, .func (.func 22) #[.pointer (some ⟨E.M, 0, none⟩)] #[]]) (IN : IHA E n (.maybe [61] .expr) 104 #[.pointer (some ⟨E.M, 0, none⟩), .string ⟨#[61]⟩, .func (.func 24) #[.pointer (some ⟨E.M, 0, none⟩)] #[]]) : IHA E (n + 1) .field 208 #[.pointer (some ⟨E.M, 0, none⟩)] := by
 intro nv s W h hne;obtain ⟨R, hR⟩ : ∃ R, parP E.c (n + 1) .field s = R := ⟨_, rfl⟩;rw [hR] at hne ⊢;simp only [parP, bodyP] at hR;have HR0 := Hi hR;have H0 := Hi (Lf.refl h);have HE := Hi hE;have HNE := Hi hne;have HIM := Hi IM;have HIN := Hi IN;clear hR hne h hE IM IN;go_enter Tryz.func208, Tryz.ntmps208;have d1 := (U H0).1.rd.tok.2.2.1;have hl1 := (U H0).1.rd.lt;have hR1 := U HR0;rw [bd_ok (p := atP) rfl] at hR1;replace HR0 := Hi hR1;clear hR1;have hp2 := bd_ne (p := takeP E.c [114, 101, 97, 100, 111, 110, 108, 121]) (U HR0) (U HNE);obtain ⟨b2, s2, hq2⟩ := take_ok hp2;have HC2 := Hi (rq_ok (take_rq (U HE) (U H0).1 (x := ⟨#[114, 101, 97, 100, 111, 110, 108, 121]⟩) ⟨rfl, by intro z hz; simp at hz; omega⟩ hp2) hq2);have HR2 := br hq2 HR0;clear hq2 hp2;go_wp2_with (go_at_call 42; refine (U HC2).mono ?_)
 rintro e w2 ⟨rfl, nv2, h2⟩
 have H2 := Hi ((U H0).trans h2);clear h2;cases b2 with
 | false =>
   have hp3 := bd_ne (p := nameP E.c) (U HR2) (U HNE);have HC3 := Hi (name_rq (U HE) (U H2).1 hp3);cases hq3 : nameP E.c s2 with
   | out => exact absurd hq3 hp3
   | no s3 =>
     have hR3 := (bd_no hq3).symm.trans (U HR2);subst hR3;replace HC3 := rn HC3 hq3;clear hq3 hp3;go_wp2_with (go_at_call 103; refine (U HC3).mono ?_)
     rintro e w3 ⟨rfl, nv3, h3⟩
     have H3 := Hi ((U H2).trans h3);clear h3;go_wp2;exact ⟨rfl, rfl, nv3, U H3⟩
   | ok a3 s3 =>
     have HR3 := br hq3 HR2;replace HC3 := ro HC3 hq3;clear hq3 hp3;go_wp2_with (go_at_call 103; refine (U HC3).mono ?_)
     rintro e w3 ⟨rfl, nv3, h3⟩
     have H3 := Hi ((U H2).trans h3);clear h3;have hp4 := bd_ne (p := parP E.c n (.maybe [58] .anyType)) (U HR3) (U HNE);have HC4 := Hi (U HIM _ _ _ (U H3).1 hp4);cases hq4 : parP E.c n (.maybe [58] .anyType) s3 with
     | out => exact absurd hq4 hp4
     | no s4 =>
       have hR4 := (bd_no hq4).symm.trans (U HR3);subst hR4;replace HC4 := rn HC4 hq4;clear hq4 hp4;go_wp2_with (go_at_call 104; refine (U HC4).mono ?_)
       rintro e w4 ⟨rfl, nv4, h4⟩
       have H4 := Hi ((U H3).trans h4);clear h4;go_wp2;exact ⟨rfl, rfl, nv4, U H4⟩
     | ok a4 s4 =>
       have HR4 := br hq4 HR3;replace HC4 := ro HC4 hq4;clear hq4 hp4;go_wp2_with (go_at_call 104; refine (U HC4).mono ?_)
       rintro e w4 ⟨rfl, nv4, h4⟩
       have H4 := Hi ((U H3).trans h4);clear h4;have hp5 := bd_ne (p := parP E.c n (.maybe [61] .expr)) (U HR4) (U HNE);have HC5 := Hi (U HIN _ _ _ (U H4).1 hp5);cases hq5 : parP E.c n (.maybe [61] .expr) s4 with
       | out => exact absurd hq5 hp5
       | no s5 =>
         have hR5 := (bd_no hq5).symm.trans (U HR4);subst hR5;replace HC5 := rn HC5 hq5;clear hq5 hp5;go_wp2_with (go_at_call 104; refine (U HC5).mono ?_)
         rintro e w5 ⟨rfl, nv5, h5⟩
         have H5 := Hi ((U H4).trans h5);clear h5;go_wp2;exact ⟨rfl, rfl, nv5, U H5⟩
       | ok a5 s5 =>
         have HR5 := br hq5 HR4;replace HC5 := ro HC5 hq5;clear hq5 hp5;go_wp2_with (go_at_call 104; refine (U HC5).mono ?_)
         rintro e w5 ⟨rfl, nv5, h5⟩
         have H5 := Hi ((U H4).trans h5);clear h5;have hp6 := bd_ne (p := wantP E.c [59]) (U HR5) (U HNE);have HC6 := Hi (want_rq (U HE) (U H5).1 (x := ⟨#[59]⟩) ⟨rfl, by intro z hz; simp at hz; omega⟩ hp6);cases hq6 : wantP E.c [59] s5 with
         | out => exact absurd hq6 hp6
         | no s6 =>
           have hR6 := (bd_no hq6).symm.trans (U HR5);subst hR6;replace HC6 := rn HC6 hq6;clear hq6 hp6;go_wp2_with (go_at_call 94; refine (U HC6).mono ?_)
           rintro e w6 ⟨rfl, nv6, h6⟩
           have H6 := Hi ((U H5).trans h6);clear h6;go_wp2;exact ⟨rfl, rfl, nv6, U H6⟩
         | ok a6 s6 =>
           have HR6 := br hq6 HR5;replace HC6 := ro HC6 hq6;clear hq6 hp6;go_wp2_with (go_at_call 94; refine (U HC6).mono ?_)
           rintro e w6 ⟨rfl, nv6, h6⟩
           have H6 := Hi ((U H5).trans h6);clear h6;have hp7 := bd_ne (p := putP ⟨44, a3, 0, [hd0 a4, hd0 a5], s.tk.2.2.1⟩) (U HR6) (U HNE);obtain ⟨a7, s7, hq7⟩ : ∃ a s', putP ⟨44, a3, 0, [hd0 a4, hd0 a5], s.tk.2.2.1⟩ s6 = .ok a s' := put_ex hp7;have H7p := Hi ((U H6).below ((Below.refl _ w6).alloc NL (.cells #[.int .i64 ((hd0 a4 : Nat) : Int), .int .i64 ((hd0 a5 : Nat) : Int)] 3)));have HC7 := Hi (rq_ok (put_rq (U H7p).1 _ _ _ (kid2 w6 (hd0 a4) (hd0 a5) (U H6).1.zl) hp7) hq7);simp only [e0', List.length_cons, List.length_nil] at HC7;have HR7 := br hq7 HR6;clear hq7 hp7;go_wp2_with (go_at_call 32; refine (U HC7).mono ?_)
           rintro e w7 ⟨rfl, nv7, h7⟩
           have H7 := Hi ((U H7p).trans h7);clear h7;have hR7 : (.ok [a7] s7 : Res (List Nat)) = R := U HR7;subst hR7;go_wp2;go_ret;exact ⟨rfl, nv7, U H7⟩
 | true =>
   have hp8 := bd_ne (p := nameP E.c) (U HR2) (U HNE);have HC8 := Hi (name_rq (U HE) (U H2).1 hp8);cases hq8 : nameP E.c s2 with
   | out => exact absurd hq8 hp8
   | no s8 =>
     have hR8 := (bd_no hq8).symm.trans (U HR2);subst hR8;replace HC8 := rn HC8 hq8;clear hq8 hp8;go_wp2_with (go_at_call 103; refine (U HC8).mono ?_)
     rintro e w8 ⟨rfl, nv8, h8⟩
     have H8 := Hi ((U H2).trans h8);clear h8;go_wp2;exact ⟨rfl, rfl, nv8, U H8⟩
   | ok a8 s8 =>
     have HR8 := br hq8 HR2;replace HC8 := ro HC8 hq8;clear hq8 hp8;go_wp2_with (go_at_call 103; refine (U HC8).mono ?_)
     rintro e w8 ⟨rfl, nv8, h8⟩
     have H8 := Hi ((U H2).trans h8);clear h8;have hp9 := bd_ne (p := parP E.c n (.maybe [58] .anyType)) (U HR8) (U HNE);have HC9 := Hi (U HIM _ _ _ (U H8).1 hp9);cases hq9 : parP E.c n (.maybe [58] .anyType) s8 with
     | out => exact absurd hq9 hp9
     | no s9 =>
       have hR9 := (bd_no hq9).symm.trans (U HR8);subst hR9;replace HC9 := rn HC9 hq9;clear hq9 hp9;go_wp2_with (go_at_call 104; refine (U HC9).mono ?_)
       rintro e w9 ⟨rfl, nv9, h9⟩
       have H9 := Hi ((U H8).trans h9);clear h9;go_wp2;exact ⟨rfl, rfl, nv9, U H9⟩
     | ok a9 s9 =>
       have HR9 := br hq9 HR8;replace HC9 := ro HC9 hq9;clear hq9 hp9;go_wp2_with (go_at_call 104; refine (U HC9).mono ?_)
       rintro e w9 ⟨rfl, nv9, h9⟩
       have H9 := Hi ((U H8).trans h9);clear h9;have hp10 := bd_ne (p := parP E.c n (.maybe [61] .expr)) (U HR9) (U HNE);have HC10 := Hi (U HIN _ _ _ (U H9).1 hp10);cases hq10 : parP E.c n (.maybe [61] .expr) s9 with
       | out => exact absurd hq10 hp10
       | no s10 =>
         have hR10 := (bd_no hq10).symm.trans (U HR9);subst hR10;replace HC10 := rn HC10 hq10;clear hq10 hp10;go_wp2_with (go_at_call 104; refine (U HC10).mono ?_)
         rintro e w10 ⟨rfl, nv10, h10⟩
         have H10 := Hi ((U H9).trans h10);clear h10;go_wp2;exact ⟨rfl, rfl, nv10, U H10⟩
       | ok a10 s10 =>
         have HR10 := br hq10 HR9;replace HC10 := ro HC10 hq10;clear hq10 hp10;go_wp2_with (go_at_call 104; refine (U HC10).mono ?_)
         rintro e w10 ⟨rfl, nv10, h10⟩
         have H10 := Hi ((U H9).trans h10);clear h10;have hp11 := bd_ne (p := wantP E.c [59]) (U HR10) (U HNE);have HC11 := Hi (want_rq (U HE) (U H10).1 (x := ⟨#[59]⟩) ⟨rfl, by intro z hz; simp at hz; omega⟩ hp11);cases hq11 : wantP E.c [59] s10 with
         | out => exact absurd hq11 hp11
         | no s11 =>
           have hR11 := (bd_no hq11).symm.trans (U HR10);subst hR11;replace HC11 := rn HC11 hq11;clear hq11 hp11;go_wp2_with (go_at_call 94; refine (U HC11).mono ?_)
           rintro e w11 ⟨rfl, nv11, h11⟩
           have H11 := Hi ((U H10).trans h11);clear h11;go_wp2;exact ⟨rfl, rfl, nv11, U H11⟩
         | ok a11 s11 =>
           have HR11 := br hq11 HR10;replace HC11 := ro HC11 hq11;clear hq11 hp11;go_wp2_with (go_at_call 94; refine (U HC11).mono ?_)
           rintro e w11 ⟨rfl, nv11, h11⟩
           have H11 := Hi ((U H10).trans h11);clear h11;have hp12 := bd_ne (p := putP ⟨44, a8, 4, [hd0 a9, hd0 a10], s.tk.2.2.1⟩) (U HR11) (U HNE);obtain ⟨a12, s12, hq12⟩ : ∃ a s', putP ⟨44, a8, 4, [hd0 a9, hd0 a10], s.tk.2.2.1⟩ s11 = .ok a s' := put_ex hp12;have H12p := Hi ((U H11).below ((Below.refl _ w11).alloc NL (.cells #[.int .i64 ((hd0 a9 : Nat) : Int), .int .i64 ((hd0 a10 : Nat) : Int)] 3)));have HC12 := Hi (rq_ok (put_rq (U H12p).1 _ _ _ (kid2 w11 (hd0 a9) (hd0 a10) (U H11).1.zl) hp12) hq12);simp only [e0', List.length_cons, List.length_nil] at HC12;have HR12 := br hq12 HR11;clear hq12 hp12;go_wp2_with (go_at_call 32; refine (U HC12).mono ?_)
           rintro e w12 ⟨rfl, nv12, h12⟩
           have H12 := Hi ((U H12p).trans h12);clear h12;have hR12 : (.ok [a12] s12 : Res (List Nat)) = R := U HR12;subst hR12;go_wp2;go_ret;exact ⟨rfl, nv12, U H12⟩
theorem alias_step {E : En} (hE : E.Ok) {n : Nat}  (IT : IHA E n .typeParams 98 #[.pointer (some ⟨E.M, 0, none⟩)]) (IA : IHA E n .anyType 22 #[.pointer (some ⟨E.M, 0, none⟩)]) : IHA E (n + 1) .alias 117 #[.pointer (some ⟨E.M, 0, none⟩)] := by
 intro nv s W h hne;obtain ⟨R, hR⟩ : ∃ R, parP E.c (n + 1) .alias s = R := ⟨_, rfl⟩;rw [hR] at hne ⊢;simp only [parP, bodyP] at hR;have HR0 := Hi hR;have H0 := Hi (Lf.refl h);have HE := Hi hE;have HNE := Hi hne;have HIT := Hi IT;have HIA := Hi IA;clear hR hne h hE IT IA;go_enter Tryz.func117, Tryz.ntmps117;have hp1 := bd_ne (p := nextP E.c) (U HR0) (U HNE);obtain ⟨a1, s1, hq1⟩ : ∃ a s', nextP E.c s = .ok a s' := next_ok hp1;have HC1 := Hi (rq_ok (next_rq (U HE) (U H0).1 hp1) hq1);have HR1 := br hq1 HR0;clear hq1 hp1;unfold tkV at HC1;go_wp2_with (go_at_call 53; refine (U HC1).mono ?_)
 rintro e w1 ⟨rfl, nv1, h1⟩
 have H1 := Hi ((U H0).trans h1);clear h1;have q21 := tf2 a1.1 (strOfNums a1.2.1) (a1.2.2.1 : Int) (a1.2.2.2 : Int) w1;have hp2 := bd_ne (p := nameP E.c) (U HR1) (U HNE);have HC2 := Hi (name_rq (U HE) (U H1).1 hp2);cases hq2 : nameP E.c s1 with
 | out => exact absurd hq2 hp2
 | no s2 =>
   have hR2 := (bd_no hq2).symm.trans (U HR1);subst hR2;replace HC2 := rn HC2 hq2;clear hq2 hp2;go_wp2_with (go_at_call 103; refine (U HC2).mono ?_)
   rintro e w2 ⟨rfl, nv2, h2⟩
   have H2 := Hi ((U H1).trans h2);clear h2;go_wp2;exact ⟨rfl, rfl, nv2, U H2⟩
 | ok a2 s2 =>
   have HR2 := br hq2 HR1;replace HC2 := ro HC2 hq2;clear hq2 hp2;go_wp2_with (go_at_call 103; refine (U HC2).mono ?_)
   rintro e w2 ⟨rfl, nv2, h2⟩
   have H2 := Hi ((U H1).trans h2);clear h2;have hp3 := bd_ne (p := parP E.c n .typeParams) (U HR2) (U HNE);have HC3 := Hi (U HIT _ _ _ (U H2).1 hp3);cases hq3 : parP E.c n .typeParams s2 with
   | out => exact absurd hq3 hp3
   | no s3 =>
     have hR3 := (bd_no hq3).symm.trans (U HR2);subst hR3;replace HC3 := rn HC3 hq3;clear hq3 hp3;go_wp2_with (go_at_call 98; refine (U HC3).mono ?_)
     rintro e w3 ⟨rfl, nv3, h3⟩
     have H3 := Hi ((U H2).trans h3);clear h3;go_wp2;exact ⟨rfl, rfl, nv3, U H3⟩
   | ok a3 s3 =>
     have HR3 := br hq3 HR2;replace HC3 := ro HC3 hq3;clear hq3 hp3;go_wp2_with (go_at_call 98; refine (U HC3).mono ?_)
     rintro e w3 ⟨rfl, nv3, h3⟩
     have H3 := Hi ((U H2).trans h3);clear h3;have hp4 := bd_ne (p := wantP E.c [61]) (U HR3) (U HNE);have HC4 := Hi (want_rq (U HE) (U H3).1 (x := ⟨#[61]⟩) ⟨rfl, by intro z hz; simp at hz; omega⟩ hp4);cases hq4 : wantP E.c [61] s3 with
     | out => exact absurd hq4 hp4
     | no s4 =>
       have hR4 := (bd_no hq4).symm.trans (U HR3);subst hR4;replace HC4 := rn HC4 hq4;clear hq4 hp4;go_wp2_with (go_at_call 94; refine (U HC4).mono ?_)
       rintro e w4 ⟨rfl, nv4, h4⟩
       have H4 := Hi ((U H3).trans h4);clear h4;go_wp2;exact ⟨rfl, rfl, nv4, U H4⟩
     | ok a4 s4 =>
       have HR4 := br hq4 HR3;replace HC4 := ro HC4 hq4;clear hq4 hp4;go_wp2_with (go_at_call 94; refine (U HC4).mono ?_)
       rintro e w4 ⟨rfl, nv4, h4⟩
       have H4 := Hi ((U H3).trans h4);clear h4;have hp5 := bd_ne (p := parP E.c n .anyType) (U HR4) (U HNE);have HC5 := Hi (U HIA _ _ _ (U H4).1 hp5);cases hq5 : parP E.c n .anyType s4 with
       | out => exact absurd hq5 hp5
       | no s5 =>
         have hR5 := (bd_no hq5).symm.trans (U HR4);subst hR5;replace HC5 := rn HC5 hq5;clear hq5 hp5;go_wp2_with (go_at_call 22; refine (U HC5).mono ?_)
         rintro e w5 ⟨rfl, nv5, h5⟩
         have H5 := Hi ((U H4).trans h5);clear h5;go_wp2;exact ⟨rfl, rfl, nv5, U H5⟩
       | ok a5 s5 =>
         have HR5 := br hq5 HR4;replace HC5 := ro HC5 hq5;clear hq5 hp5;go_wp2_with (go_at_call 22; refine (U HC5).mono ?_)
         rintro e w5 ⟨rfl, nv5, h5⟩
         have H5 := Hi ((U H4).trans h5);clear h5;have hp6 := bd_ne (p := wantP E.c [59]) (U HR5) (U HNE);have HC6 := Hi (want_rq (U HE) (U H5).1 (x := ⟨#[59]⟩) ⟨rfl, by intro z hz; simp at hz; omega⟩ hp6);cases hq6 : wantP E.c [59] s5 with
         | out => exact absurd hq6 hp6
         | no s6 =>
           have hR6 := (bd_no hq6).symm.trans (U HR5);subst hR6;replace HC6 := rn HC6 hq6;clear hq6 hp6;go_wp2_with (go_at_call 94; refine (U HC6).mono ?_)
           rintro e w6 ⟨rfl, nv6, h6⟩
           have H6 := Hi ((U H5).trans h6);clear h6;go_wp2;exact ⟨rfl, rfl, nv6, U H6⟩
         | ok a6 s6 =>
           have HR6 := br hq6 HR5;replace HC6 := ro HC6 hq6;clear hq6 hp6;go_wp2_with (go_at_call 94; refine (U HC6).mono ?_)
           rintro e w6 ⟨rfl, nv6, h6⟩
           have H6 := Hi ((U H5).trans h6);clear h6;have hp7 := bd_ne (p := putP ⟨52, a2, 0, [hd0 a3, hd0 a5], a1.2.2.1⟩) (U HR6) (U HNE);obtain ⟨a7, s7, hq7⟩ : ∃ a s', putP ⟨52, a2, 0, [hd0 a3, hd0 a5], a1.2.2.1⟩ s6 = .ok a s' := put_ex hp7;have H7p := Hi ((U H6).below ((Below.refl _ w6).alloc NL (.cells #[.int .i64 ((hd0 a3 : Nat) : Int), .int .i64 ((hd0 a5 : Nat) : Int)] 3)));have HC7 := Hi (rq_ok (put_rq (U H7p).1 _ _ _ (kid2 w6 (hd0 a3) (hd0 a5) (U H6).1.zl) hp7) hq7);simp only [e0', List.length_cons, List.length_nil] at HC7;have HR7 := br hq7 HR6;clear hq7 hp7;go_wp2_with (go_at_call 32; refine (U HC7).mono ?_)
           rintro e w7 ⟨rfl, nv7, h7⟩
           have H7 := Hi ((U H7p).trans h7);clear h7;have hR7 : (.ok [a7] s7 : Res (List Nat)) = R := U HR7;subst hR7;go_wp2;go_ret;exact ⟨rfl, nv7, U H7⟩
theorem enumMember_step {E : En} (hE : E.Ok) {n : Nat}  (IN : IHA E n (.maybe [61] .expr) 104 #[.pointer (some ⟨E.M, 0, none⟩), .string ⟨#[61]⟩, .func (.func 24) #[.pointer (some ⟨E.M, 0, none⟩)] #[]]) : IHA E (n + 1) .enumMember 106 #[.pointer (some ⟨E.M, 0, none⟩)] := by
 intro nv s W h hne;obtain ⟨R, hR⟩ : ∃ R, parP E.c (n + 1) .enumMember s = R := ⟨_, rfl⟩;rw [hR] at hne ⊢;simp only [parP, bodyP] at hR;have HR0 := Hi hR;have H0 := Hi (Lf.refl h);have HE := Hi hE;have HNE := Hi hne;have HIN := Hi IN;clear hR hne h hE IN;go_enter Tryz.func106, Tryz.ntmps106;have d1 := (U H0).1.rd.tok.2.2.1;have hl1 := (U H0).1.rd.lt;have hR1 := U HR0;rw [bd_ok (p := atP) rfl] at hR1;replace HR0 := Hi hR1;clear hR1;have hp2 := bd_ne (p := nameP E.c) (U HR0) (U HNE);have HC2 := Hi (name_rq (U HE) (U H0).1 hp2);cases hq2 : nameP E.c s with
 | out => exact absurd hq2 hp2
 | no s2 =>
   have hR2 := (bd_no hq2).symm.trans (U HR0);subst hR2;replace HC2 := rn HC2 hq2;clear hq2 hp2;go_wp2_with (go_at_call 103; refine (U HC2).mono ?_)
   rintro e w2 ⟨rfl, nv2, h2⟩
   have H2 := Hi ((U H0).trans h2);clear h2;go_wp2;exact ⟨rfl, rfl, nv2, U H2⟩
 | ok a2 s2 =>
   have HR2 := br hq2 HR0;replace HC2 := ro HC2 hq2;clear hq2 hp2;go_wp2_with (go_at_call 103; refine (U HC2).mono ?_)
   rintro e w2 ⟨rfl, nv2, h2⟩
   have H2 := Hi ((U H0).trans h2);clear h2;have hp3 := bd_ne (p := parP E.c n (.maybe [61] .expr)) (U HR2) (U HNE);have HC3 := Hi (U HIN _ _ _ (U H2).1 hp3);cases hq3 : parP E.c n (.maybe [61] .expr) s2 with
   | out => exact absurd hq3 hp3
   | no s3 =>
     have hR3 := (bd_no hq3).symm.trans (U HR2);subst hR3;replace HC3 := rn HC3 hq3;clear hq3 hp3;go_wp2_with (go_at_call 104; refine (U HC3).mono ?_)
     rintro e w3 ⟨rfl, nv3, h3⟩
     have H3 := Hi ((U H2).trans h3);clear h3;go_wp2;exact ⟨rfl, rfl, nv3, U H3⟩
   | ok a3 s3 =>
     have HR3 := br hq3 HR2;replace HC3 := ro HC3 hq3;clear hq3 hp3;go_wp2_with (go_at_call 104; refine (U HC3).mono ?_)
     rintro e w3 ⟨rfl, nv3, h3⟩
     have H3 := Hi ((U H2).trans h3);clear h3;have hp4 := bd_ne (p := putP ⟨48, a2, 0, [hd0 a3], s.tk.2.2.1⟩) (U HR3) (U HNE);obtain ⟨a4, s4, hq4⟩ : ∃ a s', putP ⟨48, a2, 0, [hd0 a3], s.tk.2.2.1⟩ s3 = .ok a s' := put_ex hp4;have H4p := Hi ((U H3).below ((Below.refl _ w3).alloc NL (.cells #[.int .i64 ((hd0 a3 : Nat) : Int)] 3)));have HC4 := Hi (rq_ok (put_rq (U H4p).1 _ _ _ (kid1 w3 (hd0 a3) (U H3).1.zl) hp4) hq4);simp only [e0', List.length_cons, List.length_nil] at HC4;have HR4 := br hq4 HR3;clear hq4 hp4;go_wp2_with (go_at_call 32; refine (U HC4).mono ?_)
     rintro e w4 ⟨rfl, nv4, h4⟩
     have H4 := Hi ((U H4p).trans h4);clear h4;have hR4 : (.ok [a4] s4 : Res (List Nat)) = R := U HR4;subst hR4;go_wp2;go_ret;exact ⟨rfl, nv4, U H4⟩
theorem base_step {E : En} (hE : E.Ok) {n : Nat}  (IG : IHA E n .typeArgs 202 #[.pointer (some ⟨E.M, 0, none⟩)]) : IHA E (n + 1) .base 162 #[.pointer (some ⟨E.M, 0, none⟩)] := by
 intro nv s W h hne;obtain ⟨R, hR⟩ : ∃ R, parP E.c (n + 1) .base s = R := ⟨_, rfl⟩;rw [hR] at hne ⊢;simp only [parP, bodyP] at hR;have HR0 := Hi hR;have H0 := Hi (Lf.refl h);have HE := Hi hE;have HNE := Hi hne;have HIG := Hi IG;clear hR hne h hE IG;go_enter Tryz.func162, Tryz.ntmps162;have d1 := (U H0).1.rd.tok.2.2.1;have hl1 := (U H0).1.rd.lt;have hR1 := U HR0;rw [bd_ok (p := atP) rfl] at hR1;replace HR0 := Hi hR1;clear hR1;have hp2 := bd_ne (p := takeP E.c [101, 120, 116, 101, 110, 100, 115]) (U HR0) (U HNE);obtain ⟨b2, s2, hq2⟩ := take_ok hp2;have HC2 := Hi (rq_ok (take_rq (U HE) (U H0).1 (x := ⟨#[101, 120, 116, 101, 110, 100, 115]⟩) ⟨rfl, by intro z hz; simp at hz; omega⟩ hp2) hq2);have HR2 := br hq2 HR0;clear hq2 hp2;go_wp2_with (go_at_call 42; refine (U HC2).mono ?_)
 rintro e w2 ⟨rfl, nv2, h2⟩
 have H2 := Hi ((U H0).trans h2);clear h2;cases b2 with
 | false =>
   have hp3 := bd_ne (p := noneP) (U HR2) (U HNE);obtain ⟨a3, s3, hq3⟩ : ∃ a s', noneP s2 = .ok a s' := put_ex hp3;have HC3 := Hi (rq_ok (none_rq (U H2).1 hp3) hq3);have HR3 := br hq3 HR2;clear hq3 hp3;go_wp2_with (go_at_call 111; refine (U HC3).mono ?_)
   rintro e w3 ⟨rfl, nv3, h3⟩
   have H3 := Hi ((U H2).trans h3);clear h3;have hR3 : (.ok [a3] s3 : Res (List Nat)) = R := U HR3;subst hR3;go_wp2;go_ret;exact ⟨rfl, nv3, U H3⟩
 | true =>
   have hp4 := bd_ne (p := nameP E.c) (U HR2) (U HNE);have HC4 := Hi (name_rq (U HE) (U H2).1 hp4);cases hq4 : nameP E.c s2 with
   | out => exact absurd hq4 hp4
   | no s4 =>
     have hR4 := (bd_no hq4).symm.trans (U HR2);subst hR4;replace HC4 := rn HC4 hq4;clear hq4 hp4;go_wp2_with (go_at_call 103; refine (U HC4).mono ?_)
     rintro e w4 ⟨rfl, nv4, h4⟩
     have H4 := Hi ((U H2).trans h4);clear h4;go_wp2;exact ⟨rfl, rfl, nv4, U H4⟩
   | ok a4 s4 =>
     have HR4 := br hq4 HR2;replace HC4 := ro HC4 hq4;clear hq4 hp4;go_wp2_with (go_at_call 103; refine (U HC4).mono ?_)
     rintro e w4 ⟨rfl, nv4, h4⟩
     have H4 := Hi ((U H2).trans h4);clear h4;have hp5 := bd_ne (p := parP E.c n .typeArgs) (U HR4) (U HNE);have HC5 := Hi (U HIG _ _ _ (U H4).1 hp5);cases hq5 : parP E.c n .typeArgs s4 with
     | out => exact absurd hq5 hp5
     | no s5 =>
       have hR5 := (bd_no hq5).symm.trans (U HR4);subst hR5;replace HC5 := rn HC5 hq5;clear hq5 hp5;go_wp2_with (go_at_call 202; refine (U HC5).mono ?_)
       rintro e w5 ⟨rfl, nv5, h5⟩
       have H5 := Hi ((U H4).trans h5);clear h5;go_wp2;exact ⟨rfl, rfl, nv5, U H5⟩
     | ok a5 s5 =>
       have HR5 := br hq5 HR4;replace HC5 := ro HC5 hq5;clear hq5 hp5;go_wp2_with (go_at_call 202; refine (U HC5).mono ?_)
       rintro e w5 ⟨rfl, nv5, h5⟩
       have H5 := Hi ((U H4).trans h5);clear h5;have hp6 := bd_ne (p := putP ⟨43, a4, 0, [hd0 a5], s.tk.2.2.1⟩) (U HR5) (U HNE);obtain ⟨a6, s6, hq6⟩ : ∃ a s', putP ⟨43, a4, 0, [hd0 a5], s.tk.2.2.1⟩ s5 = .ok a s' := put_ex hp6;have H6p := Hi ((U H5).below ((Below.refl _ w5).alloc NL (.cells #[.int .i64 ((hd0 a5 : Nat) : Int)] 3)));have HC6 := Hi (rq_ok (put_rq (U H6p).1 _ _ _ (kid1 w5 (hd0 a5) (U H5).1.zl) hp6) hq6);simp only [e0', List.length_cons, List.length_nil] at HC6;have HR6 := br hq6 HR5;clear hq6 hp6;go_wp2_with (go_at_call 32; refine (U HC6).mono ?_)
       rintro e w6 ⟨rfl, nv6, h6⟩
       have H6 := Hi ((U H6p).trans h6);clear h6;have hR6 : (.ok [a6] s6 : Res (List Nat)) = R := U HR6;subst hR6;go_wp2;go_ret;exact ⟨rfl, nv6, U H6⟩
theorem super_step {E : En} (hE : E.Ok) {n : Nat}  (IR : IHA E n .args 228 #[.pointer (some ⟨E.M, 0, none⟩)]) : IHA E (n + 1) .super 250 #[.pointer (some ⟨E.M, 0, none⟩)] := by
 intro nv s W h hne;obtain ⟨R, hR⟩ : ∃ R, parP E.c (n + 1) .super s = R := ⟨_, rfl⟩;rw [hR] at hne ⊢;simp only [parP, bodyP] at hR;have HR0 := Hi hR;have H0 := Hi (Lf.refl h);have HE := Hi hE;have HNE := Hi hne;have HIR := Hi IR;clear hR hne h hE IR;go_enter Tryz.func250, Tryz.ntmps250;have hp1 := bd_ne (p := nextP E.c) (U HR0) (U HNE);obtain ⟨a1, s1, hq1⟩ : ∃ a s', nextP E.c s = .ok a s' := next_ok hp1;have HC1 := Hi (rq_ok (next_rq (U HE) (U H0).1 hp1) hq1);have HR1 := br hq1 HR0;clear hq1 hp1;unfold tkV at HC1;go_wp2_with (go_at_call 53; refine (U HC1).mono ?_)
 rintro e w1 ⟨rfl, nv1, h1⟩
 have H1 := Hi ((U H0).trans h1);clear h1;have q21 := tf2 a1.1 (strOfNums a1.2.1) (a1.2.2.1 : Int) (a1.2.2.2 : Int) w1;have hp2 := bd_ne (p := takeP E.c [46]) (U HR1) (U HNE);obtain ⟨b2, s2, hq2⟩ := take_ok hp2;have HC2 := Hi (rq_ok (take_rq (U HE) (U H1).1 (x := ⟨#[46]⟩) ⟨rfl, by intro z hz; simp at hz; omega⟩ hp2) hq2);have HR2 := br hq2 HR1;clear hq2 hp2;go_wp2_with (go_at_call 42; refine (U HC2).mono ?_)
 rintro e w2 ⟨rfl, nv2, h2⟩
 have H2 := Hi ((U H1).trans h2);clear h2;cases b2 with
 | false =>
   have hp3 := bd_ne (p := parP E.c n .args) (U HR2) (U HNE);have HC3 := Hi (U HIR _ _ _ (U H2).1 hp3);cases hq3 : parP E.c n .args s2 with
   | out => exact absurd hq3 hp3
   | no s3 =>
     have hR3 := (bd_no hq3).symm.trans (U HR2);subst hR3;replace HC3 := rn HC3 hq3;clear hq3 hp3;go_wp2_with (go_at_call 228; refine (U HC3).mono ?_)
     rintro e w3 ⟨rfl, nv3, h3⟩
     have H3 := Hi ((U H2).trans h3);clear h3;go_wp2;exact ⟨rfl, rfl, nv3, U H3⟩
   | ok a3 s3 =>
     have HR3 := br hq3 HR2;replace HC3 := ro HC3 hq3;clear hq3 hp3;go_wp2_with (go_at_call 228; refine (U HC3).mono ?_)
     rintro e w3 ⟨rfl, nv3, h3⟩
     have H3 := Hi ((U H2).trans h3);clear h3;have hp4 := bd_ne (p := putP ⟨31, [], 0, [hd0 a3], a1.2.2.1⟩) (U HR3) (U HNE);obtain ⟨a4, s4, hq4⟩ : ∃ a s', putP ⟨31, [], 0, [hd0 a3], a1.2.2.1⟩ s3 = .ok a s' := put_ex hp4;have H4p := Hi ((U H3).below ((Below.refl _ w3).alloc NL (.cells #[.int .i64 ((hd0 a3 : Nat) : Int)] 3)));have HC4 := Hi (rq_ok (put_rq (U H4p).1 _ _ _ (kid1 w3 (hd0 a3) (U H3).1.zl) hp4) hq4);simp only [e0', List.length_cons, List.length_nil] at HC4;have HR4 := br hq4 HR3;clear hq4 hp4;go_wp2_with (go_at_call 32; refine (U HC4).mono ?_)
     rintro e w4 ⟨rfl, nv4, h4⟩
     have H4 := Hi ((U H4p).trans h4);clear h4;have hR4 : (.ok [a4] s4 : Res (List Nat)) = R := U HR4;subst hR4;go_wp2;go_ret;exact ⟨rfl, nv4, U H4⟩
 | true =>
   have hp5 := bd_ne (p := nameP E.c) (U HR2) (U HNE);have HC5 := Hi (name_rq (U HE) (U H2).1 hp5);cases hq5 : nameP E.c s2 with
   | out => exact absurd hq5 hp5
   | no s5 =>
     have hR5 := (bd_no hq5).symm.trans (U HR2);subst hR5;replace HC5 := rn HC5 hq5;clear hq5 hp5;go_wp2_with (go_at_call 103; refine (U HC5).mono ?_)
     rintro e w5 ⟨rfl, nv5, h5⟩
     have H5 := Hi ((U H2).trans h5);clear h5;go_wp2;exact ⟨rfl, rfl, nv5, U H5⟩
   | ok a5 s5 =>
     have HR5 := br hq5 HR2;replace HC5 := ro HC5 hq5;clear hq5 hp5;go_wp2_with (go_at_call 103; refine (U HC5).mono ?_)
     rintro e w5 ⟨rfl, nv5, h5⟩
     have H5 := Hi ((U H2).trans h5);clear h5;have hp6 := bd_ne (p := putP ⟨32, a5, 0, [], a1.2.2.1⟩) (U HR5) (U HNE);obtain ⟨a6, s6, hq6⟩ : ∃ a s', putP ⟨32, a5, 0, [], a1.2.2.1⟩ s5 = .ok a s' := put_ex hp6;have HC6 := Hi (rq_ok (put_rq (U H5).1 ⟨32, a5, 0, [], a1.2.2.1⟩ none 0 ⟨none, 0, rfl, NL, Nat.zero_le _, .inl rfl⟩ hp6) hq6);simp only [e0', List.length_cons, List.length_nil] at HC6;have HR6 := br hq6 HR5;clear hq6 hp6;go_wp2_with (go_at_call 32; refine (U HC6).mono ?_)
     rintro e w6 ⟨rfl, nv6, h6⟩
     have H6 := Hi ((U H5).trans h6);clear h6;have hR6 : (.ok [a6] s6 : Res (List Nat)) = R := U HR6;subst hR6;go_wp2;go_ret;exact ⟨rfl, nv6, U H6⟩
theorem spacePart_step {E : En} (hE : E.Ok) {n : Nat}  (IS : IHA E n .stmt 31 #[.pointer (some ⟨E.M, 0, none⟩)]) (IE : IHA E n .exported 209 #[.pointer (some ⟨E.M, 0, none⟩)]) : IHA E (n + 1) .spacePart 166 #[.pointer (some ⟨E.M, 0, none⟩)] := by
 intro nv s W h hne;obtain ⟨R, hR⟩ : ∃ R, parP E.c (n + 1) .spacePart s = R := ⟨_, rfl⟩;rw [hR] at hne ⊢;simp only [parP, bodyP] at hR;have HR0 := Hi hR;have H0 := Hi (Lf.refl h);have HE := Hi hE;have HNE := Hi hne;have HIS := Hi IS;have HIE := Hi IE;clear hR hne h hE IS IE;go_enter Tryz.func166, Tryz.ntmps166;have d1 := (U H0).1.rd.tok.2.2.1;have hl1 := (U H0).1.rd.lt;have hR1 := U HR0;rw [bd_ok (p := atP) rfl] at hR1;replace HR0 := Hi hR1;clear hR1;have hp2 := bd_ne (p := takeP E.c [101, 120, 112, 111, 114, 116]) (U HR0) (U HNE);obtain ⟨b2, s2, hq2⟩ := take_ok hp2;have HC2 := Hi (rq_ok (take_rq (U HE) (U H0).1 (x := ⟨#[101, 120, 112, 111, 114, 116]⟩) ⟨rfl, by intro z hz; simp at hz; omega⟩ hp2) hq2);have HR2 := br hq2 HR0;clear hq2 hp2;go_wp2_with (go_at_call 42; refine (U HC2).mono ?_)
 rintro e w2 ⟨rfl, nv2, h2⟩
 have H2 := Hi ((U H0).trans h2);clear h2;cases b2 with
 | false =>
   have hp3 : parP E.c n .stmt s2 ≠ .out := fun e => U HNE ((U HR2).symm.trans e)
   have HC3 := Hi (U HIS _ _ _ (U H2).1 hp3);cases hq3 : parP E.c n .stmt s2 with
   | out => exact absurd hq3 hp3
   | no s3 =>
     have hR3 := hq3.symm.trans (U HR2);subst hR3;replace HC3 := rn HC3 hq3;clear hq3 hp3;go_wp2_with (go_at_call 31; refine (U HC3).mono ?_)
     rintro e w3 ⟨rfl, nv3, h3⟩
     have H3 := Hi ((U H2).trans h3);clear h3;go_wp2;exact ⟨rfl, rfl, nv3, U H3⟩
   | ok a3 s3 =>
     have HR3 := Hi (hq3.symm.trans (U HR2));replace HC3 := ro HC3 hq3;clear hq3 hp3;go_wp2_with (go_at_call 31; refine (U HC3).mono ?_)
     rintro e w3 ⟨rfl, nv3, h3⟩
     have H3 := Hi ((U H2).trans h3);clear h3;have hR3 := U HR3;subst hR3;go_wp2;go_ret;exact ⟨rfl, nv3, U H3⟩
 | true =>
   have hp4 := bd_ne (p := parP E.c n .exported) (U HR2) (U HNE);have HC4 := Hi (U HIE _ _ _ (U H2).1 hp4);cases hq4 : parP E.c n .exported s2 with
   | out => exact absurd hq4 hp4
   | no s4 =>
     have hR4 := (bd_no hq4).symm.trans (U HR2);subst hR4;replace HC4 := rn HC4 hq4;clear hq4 hp4;go_wp2_with (go_at_call 209; refine (U HC4).mono ?_)
     rintro e w4 ⟨rfl, nv4, h4⟩
     have H4 := Hi ((U H2).trans h4);clear h4;go_wp2;exact ⟨rfl, rfl, nv4, U H4⟩
   | ok a4 s4 =>
     have HR4 := br hq4 HR2;replace HC4 := ro HC4 hq4;clear hq4 hp4;go_wp2_with (go_at_call 209; refine (U HC4).mono ?_)
     rintro e w4 ⟨rfl, nv4, h4⟩
     have H4 := Hi ((U H2).trans h4);clear h4;have hp5 := bd_ne (p := putP ⟨50, [], 0, [hd0 a4], s.tk.2.2.1⟩) (U HR4) (U HNE);obtain ⟨a5, s5, hq5⟩ : ∃ a s', putP ⟨50, [], 0, [hd0 a4], s.tk.2.2.1⟩ s4 = .ok a s' := put_ex hp5;have H5p := Hi ((U H4).below ((Below.refl _ w4).alloc NL (.cells #[.int .i64 ((hd0 a4 : Nat) : Int)] 3)));have HC5 := Hi (rq_ok (put_rq (U H5p).1 _ _ _ (kid1 w4 (hd0 a4) (U H4).1.zl) hp5) hq5);simp only [e0', List.length_cons, List.length_nil] at HC5;have HR5 := br hq5 HR4;clear hq5 hp5;go_wp2_with (go_at_call 32; refine (U HC5).mono ?_)
     rintro e w5 ⟨rfl, nv5, h5⟩
     have H5 := Hi ((U H5p).trans h5);clear h5;have hR5 : (.ok [a5] s5 : Res (List Nat)) = R := U HR5;subst hR5;go_wp2;go_ret;exact ⟨rfl, nv5, U H5⟩
theorem namespace_step {E : En} (hE : E.Ok) {n : Nat}  (IC : IHL E n (.filled .spacePart) 102 #[.pointer (some ⟨E.M, 0, none⟩), .func (.func 166) #[.pointer (some ⟨E.M, 0, none⟩)] #[]]) : IHA E (n + 1) .namespace' 115 #[.pointer (some ⟨E.M, 0, none⟩)] := by
 intro nv s W h hne;obtain ⟨R, hR⟩ : ∃ R, parP E.c (n + 1) .namespace' s = R := ⟨_, rfl⟩;rw [hR] at hne ⊢;simp only [parP, bodyP] at hR;have HR0 := Hi hR;have H0 := Hi (Lf.refl h);have HE := Hi hE;have HNE := Hi hne;have HIC := Hi IC;clear hR hne h hE IC;go_enter Tryz.func115, Tryz.ntmps115;have hp1 := bd_ne (p := nextP E.c) (U HR0) (U HNE);obtain ⟨a1, s1, hq1⟩ : ∃ a s', nextP E.c s = .ok a s' := next_ok hp1;have HC1 := Hi (rq_ok (next_rq (U HE) (U H0).1 hp1) hq1);have HR1 := br hq1 HR0;clear hq1 hp1;unfold tkV at HC1;go_wp2_with (go_at_call 53; refine (U HC1).mono ?_)
 rintro e w1 ⟨rfl, nv1, h1⟩
 have H1 := Hi ((U H0).trans h1);clear h1;have q21 := tf2 a1.1 (strOfNums a1.2.1) (a1.2.2.1 : Int) (a1.2.2.2 : Int) w1;have hp2 := bd_ne (p := nameP E.c) (U HR1) (U HNE);have HC2 := Hi (name_rq (U HE) (U H1).1 hp2);cases hq2 : nameP E.c s1 with
 | out => exact absurd hq2 hp2
 | no s2 =>
   have hR2 := (bd_no hq2).symm.trans (U HR1);subst hR2;replace HC2 := rn HC2 hq2;clear hq2 hp2;go_wp2_with (go_at_call 103; refine (U HC2).mono ?_)
   rintro e w2 ⟨rfl, nv2, h2⟩
   have H2 := Hi ((U H1).trans h2);clear h2;go_wp2;exact ⟨rfl, rfl, nv2, U H2⟩
 | ok a2 s2 =>
   have HR2 := br hq2 HR1;replace HC2 := ro HC2 hq2;clear hq2 hp2;go_wp2_with (go_at_call 103; refine (U HC2).mono ?_)
   rintro e w2 ⟨rfl, nv2, h2⟩
   have H2 := Hi ((U H1).trans h2);clear h2;have hp3 := bd_ne (p := parP E.c n (.filled .spacePart)) (U HR2) (U HNE);have HC3 := Hi (U HIC _ _ _ (U H2).1 hp3);cases hq3 : parP E.c n (.filled .spacePart) s2 with
   | out => exact absurd hq3 hp3
   | no s3 =>
     have hR3 := (bd_no hq3).symm.trans (U HR2);subst hR3;replace HC3 := Hi (rql_no (U HC3) hq3);clear hq3 hp3;go_wp2_with (go_at_call 102; refine (U HC3).mono ?_)
     rintro e w3 ⟨rfl, nv3, h3⟩
     have H3 := Hi ((U H2).trans h3);clear h3;go_wp2;exact ⟨rfl, rfl, nv3, U H3⟩
   | ok a3 s3 =>
     have HR3 := br hq3 HR2;replace HC3 := Hi (rql_ok (U HC3) hq3);clear hq3 hp3;go_wp2_with (go_at_call 102; refine (U HC3).mono ?_)
     rintro e w3 ⟨ka3, kc3, nv3, rfl, hk3, h3⟩
     have H3 := Hi ((U H2).trans h3);have HK3 := Hi hk3;clear h3 hk3;have hp4 := bd_ne (p := putP ⟨49, a2, 0, a3, a1.2.2.1⟩) (U HR3) (U HNE);obtain ⟨a4, s4, hq4⟩ : ∃ a s', putP ⟨49, a2, 0, a3, a1.2.2.1⟩ s3 = .ok a s' := put_ex hp4;have HC4 := Hi (rq_ok (put_rq (U H3).1 ⟨49, a2, 0, a3, a1.2.2.1⟩ ka3 kc3 (U HK3) hp4) hq4);have HR4 := br hq4 HR3;clear hq4 hp4;simp only [e0'] at HC4;go_wp2_with (go_at_call 32; refine (U HC4).mono ?_)
     rintro e w4 ⟨rfl, nv4, h4⟩
     have H4 := Hi ((U H3).trans h4);replace HK3 := Hi ((U HK3).fz (U H3).1 h4);clear h4;have hR4 : (.ok [a4] s4 : Res (List Nat)) = R := U HR4;subst hR4;go_wp2;go_ret;exact ⟨rfl, nv4, U H4⟩
theorem forOf_step {E : En} (hE : E.Ok) {n : Nat} (at' : Nat) (IX : IHA E n .expr 24 #[.pointer (some ⟨E.M, 0, none⟩)]) (IB : IHA E n .block 60 #[.pointer (some ⟨E.M, 0, none⟩)]) : IHA E (n + 1) (.forOf at') 110 #[.pointer (some ⟨E.M, 0, none⟩), .int .i64 (at' : Int)] := by
 intro nv s W h hne;obtain ⟨R, hR⟩ : ∃ R, parP E.c (n + 1) (.forOf at') s = R := ⟨_, rfl⟩;rw [hR] at hne ⊢;simp only [parP, bodyP] at hR;have HR0 := Hi hR;have H0 := Hi (Lf.refl h);have HE := Hi hE;have HNE := Hi hne;have HIX := Hi IX;have HIB := Hi IB;clear hR hne h hE IX IB;go_enter Tryz.func110, Tryz.ntmps110;have HC1 := Hi (ris_any E.M E.tv s.n s.tk nv E.lv E.cv E.bv W (U H0).1.rd (U H0).1.by' ⟨#[99, 111, 110, 115, 116]⟩ [99, 111, 110, 115, 116] ⟨rfl, by intro z hz; simp at hz; omega⟩);have hR1 := U HR0;rw [bd_ok (p := testP (isP [99, 111, 110, 115, 116])) rfl] at hR1;have HR1 := Hi hR1;clear hR1;obtain ⟨b1, hb1⟩ : ∃ b, isP [99, 111, 110, 115, 116] s = b := ⟨_, rfl⟩;rw [show isT s.tk [99, 111, 110, 115, 116] = b1 from hb1] at HC1;simp only [hb1] at HR1;clear hb1;go_wp2_with (go_at_call 92; refine (U HC1).mono ?_)
 rintro e w1 ⟨rfl, h1⟩
 have H1 := Hi ((U H0).below h1);clear h1;cases b1 with
 | false =>
   simp only [Bool.false_eq_true, if_false] at HR1;have hp2 := bd_ne (p := nextP E.c) (U HR1) (U HNE);obtain ⟨a2, s2, hq2⟩ : ∃ a s', nextP E.c s = .ok a s' := next_ok hp2;have HC2 := Hi (rq_ok (next_rq (U HE) (U H1).1 hp2) hq2);have HR2 := br hq2 HR1;clear hq2 hp2;unfold tkV at HC2;go_wp2_with (go_at_call 53; refine (U HC2).mono ?_)
   rintro e w2 ⟨rfl, nv2, h2⟩
   have H2 := Hi ((U H1).trans h2);clear h2;have hp3 := bd_ne (p := nameP E.c) (U HR2) (U HNE);have HC3 := Hi (name_rq (U HE) (U H2).1 hp3);cases hq3 : nameP E.c s2 with
   | out => exact absurd hq3 hp3
   | no s3 =>
     have hR3 := (bd_no hq3).symm.trans (U HR2);subst hR3;replace HC3 := rn HC3 hq3;clear hq3 hp3;go_wp2_with (go_at_call 103; refine (U HC3).mono ?_)
     rintro e w3 ⟨rfl, nv3, h3⟩
     have H3 := Hi ((U H2).trans h3);clear h3;go_wp2;exact ⟨rfl, rfl, nv3, U H3⟩
   | ok a3 s3 =>
     have HR3 := br hq3 HR2;replace HC3 := ro HC3 hq3;clear hq3 hp3;go_wp2_with (go_at_call 103; refine (U HC3).mono ?_)
     rintro e w3 ⟨rfl, nv3, h3⟩
     have H3 := Hi ((U H2).trans h3);clear h3;have hp4 := bd_ne (p := wantP E.c [111, 102]) (U HR3) (U HNE);have HC4 := Hi (want_rq (U HE) (U H3).1 (x := ⟨#[111, 102]⟩) ⟨rfl, by intro z hz; simp at hz; omega⟩ hp4);cases hq4 : wantP E.c [111, 102] s3 with
     | out => exact absurd hq4 hp4
     | no s4 =>
       have hR4 := (bd_no hq4).symm.trans (U HR3);subst hR4;replace HC4 := rn HC4 hq4;clear hq4 hp4;go_wp2_with (go_at_call 94; refine (U HC4).mono ?_)
       rintro e w4 ⟨rfl, nv4, h4⟩
       have H4 := Hi ((U H3).trans h4);clear h4;go_wp2;exact ⟨rfl, rfl, nv4, U H4⟩
     | ok a4 s4 =>
       have HR4 := br hq4 HR3;replace HC4 := ro HC4 hq4;clear hq4 hp4;go_wp2_with (go_at_call 94; refine (U HC4).mono ?_)
       rintro e w4 ⟨rfl, nv4, h4⟩
       have H4 := Hi ((U H3).trans h4);clear h4;have hp5 := bd_ne (p := parP E.c n .expr) (U HR4) (U HNE);have HC5 := Hi (U HIX _ _ _ (U H4).1 hp5);cases hq5 : parP E.c n .expr s4 with
       | out => exact absurd hq5 hp5
       | no s5 =>
         have hR5 := (bd_no hq5).symm.trans (U HR4);subst hR5;replace HC5 := rn HC5 hq5;clear hq5 hp5;go_wp2_with (go_at_call 24; refine (U HC5).mono ?_)
         rintro e w5 ⟨rfl, nv5, h5⟩
         have H5 := Hi ((U H4).trans h5);clear h5;go_wp2;exact ⟨rfl, rfl, nv5, U H5⟩
       | ok a5 s5 =>
         have HR5 := br hq5 HR4;replace HC5 := ro HC5 hq5;clear hq5 hp5;go_wp2_with (go_at_call 24; refine (U HC5).mono ?_)
         rintro e w5 ⟨rfl, nv5, h5⟩
         have H5 := Hi ((U H4).trans h5);clear h5;have hp6 := bd_ne (p := wantP E.c [41]) (U HR5) (U HNE);have HC6 := Hi (want_rq (U HE) (U H5).1 (x := ⟨#[41]⟩) ⟨rfl, by intro z hz; simp at hz; omega⟩ hp6);cases hq6 : wantP E.c [41] s5 with
         | out => exact absurd hq6 hp6
         | no s6 =>
           have hR6 := (bd_no hq6).symm.trans (U HR5);subst hR6;replace HC6 := rn HC6 hq6;clear hq6 hp6;go_wp2_with (go_at_call 94; refine (U HC6).mono ?_)
           rintro e w6 ⟨rfl, nv6, h6⟩
           have H6 := Hi ((U H5).trans h6);clear h6;go_wp2;exact ⟨rfl, rfl, nv6, U H6⟩
         | ok a6 s6 =>
           have HR6 := br hq6 HR5;replace HC6 := ro HC6 hq6;clear hq6 hp6;go_wp2_with (go_at_call 94; refine (U HC6).mono ?_)
           rintro e w6 ⟨rfl, nv6, h6⟩
           have H6 := Hi ((U H5).trans h6);clear h6;have hp7 := bd_ne (p := parP E.c n .block) (U HR6) (U HNE);have HC7 := Hi (U HIB _ _ _ (U H6).1 hp7);cases hq7 : parP E.c n .block s6 with
           | out => exact absurd hq7 hp7
           | no s7 =>
             have hR7 := (bd_no hq7).symm.trans (U HR6);subst hR7;replace HC7 := rn HC7 hq7;clear hq7 hp7;go_wp2_with (go_at_call 60; refine (U HC7).mono ?_)
             rintro e w7 ⟨rfl, nv7, h7⟩
             have H7 := Hi ((U H6).trans h7);clear h7;go_wp2;exact ⟨rfl, rfl, nv7, U H7⟩
           | ok a7 s7 =>
             have HR7 := br hq7 HR6;replace HC7 := ro HC7 hq7;clear hq7 hp7;go_wp2_with (go_at_call 60; refine (U HC7).mono ?_)
             rintro e w7 ⟨rfl, nv7, h7⟩
             have H7 := Hi ((U H6).trans h7);clear h7;have hp8 := bd_ne (p := putP ⟨56, a3, 0, [hd0 a5, hd0 a7], at'⟩) (U HR7) (U HNE);obtain ⟨a8, s8, hq8⟩ : ∃ a s', putP ⟨56, a3, 0, [hd0 a5, hd0 a7], at'⟩ s7 = .ok a s' := put_ex hp8;have H8p := Hi ((U H7).below ((Below.refl _ w7).alloc NL (.cells #[.int .i64 ((hd0 a5 : Nat) : Int), .int .i64 ((hd0 a7 : Nat) : Int)] 3)));have HC8 := Hi (rq_ok (put_rq (U H8p).1 _ _ _ (kid2 w7 (hd0 a5) (hd0 a7) (U H7).1.zl) hp8) hq8);simp only [e0', List.length_cons, List.length_nil] at HC8;have HR8 := br hq8 HR7;clear hq8 hp8;go_wp2_with (go_at_call 32; refine (U HC8).mono ?_)
             rintro e w8 ⟨rfl, nv8, h8⟩
             have H8 := Hi ((U H8p).trans h8);clear h8;have hR8 : (.ok [a8] s8 : Res (List Nat)) = R := U HR8;subst hR8;go_wp2;go_ret;exact ⟨rfl, nv8, U H8⟩
 | true =>
   simp only [if_true] at HR1;have hp9 := bd_ne (p := nextP E.c) (U HR1) (U HNE);obtain ⟨a9, s9, hq9⟩ : ∃ a s', nextP E.c s = .ok a s' := next_ok hp9;have HC9 := Hi (rq_ok (next_rq (U HE) (U H1).1 hp9) hq9);have HR9 := br hq9 HR1;clear hq9 hp9;unfold tkV at HC9;go_wp2_with (go_at_call 53; refine (U HC9).mono ?_)
   rintro e w9 ⟨rfl, nv9, h9⟩
   have H9 := Hi ((U H1).trans h9);clear h9;have hp10 := bd_ne (p := nameP E.c) (U HR9) (U HNE);have HC10 := Hi (name_rq (U HE) (U H9).1 hp10);cases hq10 : nameP E.c s9 with
   | out => exact absurd hq10 hp10
   | no s10 =>
     have hR10 := (bd_no hq10).symm.trans (U HR9);subst hR10;replace HC10 := rn HC10 hq10;clear hq10 hp10;go_wp2_with (go_at_call 103; refine (U HC10).mono ?_)
     rintro e w10 ⟨rfl, nv10, h10⟩
     have H10 := Hi ((U H9).trans h10);clear h10;go_wp2;exact ⟨rfl, rfl, nv10, U H10⟩
   | ok a10 s10 =>
     have HR10 := br hq10 HR9;replace HC10 := ro HC10 hq10;clear hq10 hp10;go_wp2_with (go_at_call 103; refine (U HC10).mono ?_)
     rintro e w10 ⟨rfl, nv10, h10⟩
     have H10 := Hi ((U H9).trans h10);clear h10;have hp11 := bd_ne (p := wantP E.c [111, 102]) (U HR10) (U HNE);have HC11 := Hi (want_rq (U HE) (U H10).1 (x := ⟨#[111, 102]⟩) ⟨rfl, by intro z hz; simp at hz; omega⟩ hp11);cases hq11 : wantP E.c [111, 102] s10 with
     | out => exact absurd hq11 hp11
     | no s11 =>
       have hR11 := (bd_no hq11).symm.trans (U HR10);subst hR11;replace HC11 := rn HC11 hq11;clear hq11 hp11;go_wp2_with (go_at_call 94; refine (U HC11).mono ?_)
       rintro e w11 ⟨rfl, nv11, h11⟩
       have H11 := Hi ((U H10).trans h11);clear h11;go_wp2;exact ⟨rfl, rfl, nv11, U H11⟩
     | ok a11 s11 =>
       have HR11 := br hq11 HR10;replace HC11 := ro HC11 hq11;clear hq11 hp11;go_wp2_with (go_at_call 94; refine (U HC11).mono ?_)
       rintro e w11 ⟨rfl, nv11, h11⟩
       have H11 := Hi ((U H10).trans h11);clear h11;have hp12 := bd_ne (p := parP E.c n .expr) (U HR11) (U HNE);have HC12 := Hi (U HIX _ _ _ (U H11).1 hp12);cases hq12 : parP E.c n .expr s11 with
       | out => exact absurd hq12 hp12
       | no s12 =>
         have hR12 := (bd_no hq12).symm.trans (U HR11);subst hR12;replace HC12 := rn HC12 hq12;clear hq12 hp12;go_wp2_with (go_at_call 24; refine (U HC12).mono ?_)
         rintro e w12 ⟨rfl, nv12, h12⟩
         have H12 := Hi ((U H11).trans h12);clear h12;go_wp2;exact ⟨rfl, rfl, nv12, U H12⟩
       | ok a12 s12 =>
         have HR12 := br hq12 HR11;replace HC12 := ro HC12 hq12;clear hq12 hp12;go_wp2_with (go_at_call 24; refine (U HC12).mono ?_)
         rintro e w12 ⟨rfl, nv12, h12⟩
         have H12 := Hi ((U H11).trans h12);clear h12;have hp13 := bd_ne (p := wantP E.c [41]) (U HR12) (U HNE);have HC13 := Hi (want_rq (U HE) (U H12).1 (x := ⟨#[41]⟩) ⟨rfl, by intro z hz; simp at hz; omega⟩ hp13);cases hq13 : wantP E.c [41] s12 with
         | out => exact absurd hq13 hp13
         | no s13 =>
           have hR13 := (bd_no hq13).symm.trans (U HR12);subst hR13;replace HC13 := rn HC13 hq13;clear hq13 hp13;go_wp2_with (go_at_call 94; refine (U HC13).mono ?_)
           rintro e w13 ⟨rfl, nv13, h13⟩
           have H13 := Hi ((U H12).trans h13);clear h13;go_wp2;exact ⟨rfl, rfl, nv13, U H13⟩
         | ok a13 s13 =>
           have HR13 := br hq13 HR12;replace HC13 := ro HC13 hq13;clear hq13 hp13;go_wp2_with (go_at_call 94; refine (U HC13).mono ?_)
           rintro e w13 ⟨rfl, nv13, h13⟩
           have H13 := Hi ((U H12).trans h13);clear h13;have hp14 := bd_ne (p := parP E.c n .block) (U HR13) (U HNE);have HC14 := Hi (U HIB _ _ _ (U H13).1 hp14);cases hq14 : parP E.c n .block s13 with
           | out => exact absurd hq14 hp14
           | no s14 =>
             have hR14 := (bd_no hq14).symm.trans (U HR13);subst hR14;replace HC14 := rn HC14 hq14;clear hq14 hp14;go_wp2_with (go_at_call 60; refine (U HC14).mono ?_)
             rintro e w14 ⟨rfl, nv14, h14⟩
             have H14 := Hi ((U H13).trans h14);clear h14;go_wp2;exact ⟨rfl, rfl, nv14, U H14⟩
           | ok a14 s14 =>
             have HR14 := br hq14 HR13;replace HC14 := ro HC14 hq14;clear hq14 hp14;go_wp2_with (go_at_call 60; refine (U HC14).mono ?_)
             rintro e w14 ⟨rfl, nv14, h14⟩
             have H14 := Hi ((U H13).trans h14);clear h14;have hp15 := bd_ne (p := putP ⟨56, a10, 1, [hd0 a12, hd0 a14], at'⟩) (U HR14) (U HNE);obtain ⟨a15, s15, hq15⟩ : ∃ a s', putP ⟨56, a10, 1, [hd0 a12, hd0 a14], at'⟩ s14 = .ok a s' := put_ex hp15;have H15p := Hi ((U H14).below ((Below.refl _ w14).alloc NL (.cells #[.int .i64 ((hd0 a12 : Nat) : Int), .int .i64 ((hd0 a14 : Nat) : Int)] 3)));have HC15 := Hi (rq_ok (put_rq (U H15p).1 _ _ _ (kid2 w14 (hd0 a12) (hd0 a14) (U H14).1.zl) hp15) hq15);simp only [e0', List.length_cons, List.length_nil] at HC15;have HR15 := br hq15 HR14;clear hq15 hp15;go_wp2_with (go_at_call 32; refine (U HC15).mono ?_)
             rintro e w15 ⟨rfl, nv15, h15⟩
             have H15 := Hi ((U H15p).trans h15);clear h15;have hR15 : (.ok [a15] s15 : Res (List Nat)) = R := U HR15;subst hR15;go_wp2;go_ret;exact ⟨rfl, nv15, U H15⟩
end
end Go.Proofs.YtofgphapjjofnaaGreatDoor
