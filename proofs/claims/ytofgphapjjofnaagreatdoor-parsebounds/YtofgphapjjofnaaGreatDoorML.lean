/- Towards the law: QA QG. -/
import Derived.Test.YtofgphapjjofnaaGreatDoorMK
set_option linter.unusedSimpArgs false
set_option linter.unusedVariables false
set_option maxRecDepth 100000
set_option maxHeartbeats 8000000
namespace Go.Proofs.YtofgphapjjofnaaGreatDoor
section
open Go.RowKit Go.Shelf
def IHB (E : En) (n : Nat) (one : Cmd) (g : Nat) (bt : List (List Int)) (cells : Array Value) : Prop := ∀ nv s W b, RAt E nv s W → W.heap[b]? = some (.cells cells 9) → parP E.c n (.braced one bt) s ≠ .out → Calls Tryz.prog 105 #[.pointer (some ⟨E.M, 0, none⟩), .func (.func g) #[.pointer (some ⟨E.M, 0, none⟩)] #[], .slice (some ⟨b, 0, none⟩) bt.length bt.length] W (RQL E nv s W (parP E.c n (.braced one bt) s))
theorem marked0_step {E : En} (hE : E.Ok) {n : Nat} (at' : Nat) (IM : IHA E n (.maybe [58] .anyType) 104 #[.pointer (some ⟨E.M, 0, none⟩), .string ⟨#[58]⟩, .func (.func 22) #[.pointer (some ⟨E.M, 0, none⟩)] #[]]) : IHA E (n + 1) (.marked at' 0) 154 #[.pointer (some ⟨E.M, 0, none⟩), .int .i64 (at' : Int), .int .i64 0] := by
 intro nv s W h hne;obtain ⟨R, hR⟩ : ∃ R, parP E.c (n + 1) (.marked at' 0) s = R := ⟨_, rfl⟩;rw [hR] at hne ⊢;simp only [parP, bodyP] at hR;have HR0 := Hi hR;have H0 := Hi (Lf.refl h);have HE := Hi hE;have HNE := Hi hne;have HIM := Hi IM;clear hR hne h hE IM;go_enter Tryz.func154, Tryz.ntmps154;have hp1 := bd_ne (p := nameP E.c) (U HR0) (U HNE);have HC1 := Hi (name_rq (U HE) (U H0).1 hp1);cases hq1 : nameP E.c s with
 | out => exact absurd hq1 hp1
 | no s1 =>
   have hR1 := (bd_no hq1).symm.trans (U HR0);subst hR1;replace HC1 := rn HC1 hq1;clear hq1 hp1;go_wp2_with (go_at_call 103; refine (U HC1).mono ?_)
   rintro e w1 ⟨rfl, nv1, h1⟩
   have H1 := Hi ((U H0).trans h1);clear h1;go_wp2;exact ⟨rfl, rfl, nv1, U H1⟩
 | ok a1 s1 =>
   have HR1 := br hq1 HR0;replace HC1 := ro HC1 hq1;clear hq1 hp1;go_wp2_with (go_at_call 103; refine (U HC1).mono ?_)
   rintro e w1 ⟨rfl, nv1, h1⟩
   have H1 := Hi ((U H0).trans h1);clear h1;have hp2 := bd_ne (p := takeP E.c [63]) (U HR1) (U HNE);obtain ⟨b2, s2, hq2⟩ := take_ok hp2;have HC2 := Hi (rq_ok (take_rq (U HE) (U H1).1 (x := ⟨#[63]⟩) ⟨rfl, by intro z hz; simp at hz; omega⟩ hp2) hq2);have HR2 := br hq2 HR1;clear hq2 hp2;go_wp2_with (go_at_call 42; refine (U HC2).mono ?_)
   rintro e w2 ⟨rfl, nv2, h2⟩
   have H2 := Hi ((U H1).trans h2);clear h2;cases b2 with
   | false =>
     have hp3 := bd_ne (p := parP E.c n (.maybe [58] .anyType)) (U HR2) (U HNE);have HC3 := Hi (U HIM _ _ _ (U H2).1 hp3);cases hq3 : parP E.c n (.maybe [58] .anyType) s2 with
     | out => exact absurd hq3 hp3
     | no s3 =>
       have hR3 := (bd_no hq3).symm.trans (U HR2);subst hR3;replace HC3 := rn HC3 hq3;clear hq3 hp3;go_wp2_with (go_at_call 104; refine (U HC3).mono ?_)
       rintro e w3 ⟨rfl, nv3, h3⟩
       have H3 := Hi ((U H2).trans h3);clear h3;go_wp2;exact ⟨rfl, rfl, nv3, U H3⟩
     | ok a3 s3 =>
       have HR3 := br hq3 HR2;replace HC3 := ro HC3 hq3;clear hq3 hp3;go_wp2_with (go_at_call 104; refine (U HC3).mono ?_)
       rintro e w3 ⟨rfl, nv3, h3⟩
       have H3 := Hi ((U H2).trans h3);clear h3;have hp4 := bd_ne (p := putP ⟨66, a1, 0, [hd0 a3], at'⟩) (U HR3) (U HNE);obtain ⟨a4, s4, hq4⟩ : ∃ a s', putP ⟨66, a1, 0, [hd0 a3], at'⟩ s3 = .ok a s' := put_ex hp4;have H4p := Hi ((U H3).below ((Below.refl _ w3).alloc NL (.cells #[.int .i64 ((hd0 a3 : Nat) : Int)] 3)));have HC4 := Hi (rq_ok (put_rq (U H4p).1 _ _ _ (kid1 w3 (hd0 a3) (U H3).1.zl) hp4) hq4);simp only [e0', List.length_cons, List.length_nil] at HC4;have HR4 := br hq4 HR3;clear hq4 hp4;go_wp2_with (go_at_call 32; refine (U HC4).mono ?_)
       rintro e w4 ⟨rfl, nv4, h4⟩
       have H4 := Hi ((U H4p).trans h4);clear h4;have hR4 : (.ok [a4] s4 : Res (List Nat)) = R := U HR4;subst hR4;go_wp2;go_ret;exact ⟨rfl, nv4, U H4⟩
   | true =>
     have hp5 := bd_ne (p := parP E.c n (.maybe [58] .anyType)) (U HR2) (U HNE);have HC5 := Hi (U HIM _ _ _ (U H2).1 hp5);cases hq5 : parP E.c n (.maybe [58] .anyType) s2 with
     | out => exact absurd hq5 hp5
     | no s5 =>
       have hR5 := (bd_no hq5).symm.trans (U HR2);subst hR5;replace HC5 := rn HC5 hq5;clear hq5 hp5;go_wp2_with (go_at_call 104; refine (U HC5).mono ?_)
       rintro e w5 ⟨rfl, nv5, h5⟩
       have H5 := Hi ((U H2).trans h5);clear h5;go_wp2;exact ⟨rfl, rfl, nv5, U H5⟩
     | ok a5 s5 =>
       have HR5 := br hq5 HR2;replace HC5 := ro HC5 hq5;clear hq5 hp5;go_wp2_with (go_at_call 104; refine (U HC5).mono ?_)
       rintro e w5 ⟨rfl, nv5, h5⟩
       have H5 := Hi ((U H2).trans h5);clear h5;have hp6 := bd_ne (p := putP ⟨66, a1, 1, [hd0 a5], at'⟩) (U HR5) (U HNE);obtain ⟨a6, s6, hq6⟩ : ∃ a s', putP ⟨66, a1, 1, [hd0 a5], at'⟩ s5 = .ok a s' := put_ex hp6;have H6p := Hi ((U H5).below ((Below.refl _ w5).alloc NL (.cells #[.int .i64 ((hd0 a5 : Nat) : Int)] 3)));have HC6 := Hi (rq_ok (put_rq (U H6p).1 _ _ _ (kid1 w5 (hd0 a5) (U H5).1.zl) hp6) hq6);simp only [e0', List.length_cons, List.length_nil] at HC6;have HR6 := br hq6 HR5;clear hq6 hp6;go_wp2_with (go_at_call 32; refine (U HC6).mono ?_)
       rintro e w6 ⟨rfl, nv6, h6⟩
       have H6 := Hi ((U H6p).trans h6);clear h6;have hR6 : (.ok [a6] s6 : Res (List Nat)) = R := U HR6;subst hR6;go_wp2;go_ret;exact ⟨rfl, nv6, U H6⟩
theorem marked2_step {E : En} (hE : E.Ok) {n : Nat} (at' : Nat) (IM : IHA E n (.maybe [58] .anyType) 104 #[.pointer (some ⟨E.M, 0, none⟩), .string ⟨#[58]⟩, .func (.func 22) #[.pointer (some ⟨E.M, 0, none⟩)] #[]]) : IHA E (n + 1) (.marked at' 2) 154 #[.pointer (some ⟨E.M, 0, none⟩), .int .i64 (at' : Int), .int .i64 2] := by
 intro nv s W h hne;obtain ⟨R, hR⟩ : ∃ R, parP E.c (n + 1) (.marked at' 2) s = R := ⟨_, rfl⟩;rw [hR] at hne ⊢;simp only [parP, bodyP] at hR;have HR0 := Hi hR;have H0 := Hi (Lf.refl h);have HE := Hi hE;have HNE := Hi hne;have HIM := Hi IM;clear hR hne h hE IM;go_enter Tryz.func154, Tryz.ntmps154;have hp1 := bd_ne (p := nameP E.c) (U HR0) (U HNE);have HC1 := Hi (name_rq (U HE) (U H0).1 hp1);cases hq1 : nameP E.c s with
 | out => exact absurd hq1 hp1
 | no s1 =>
   have hR1 := (bd_no hq1).symm.trans (U HR0);subst hR1;replace HC1 := rn HC1 hq1;clear hq1 hp1;go_wp2_with (go_at_call 103; refine (U HC1).mono ?_)
   rintro e w1 ⟨rfl, nv1, h1⟩
   have H1 := Hi ((U H0).trans h1);clear h1;go_wp2;exact ⟨rfl, rfl, nv1, U H1⟩
 | ok a1 s1 =>
   have HR1 := br hq1 HR0;replace HC1 := ro HC1 hq1;clear hq1 hp1;go_wp2_with (go_at_call 103; refine (U HC1).mono ?_)
   rintro e w1 ⟨rfl, nv1, h1⟩
   have H1 := Hi ((U H0).trans h1);clear h1;have hp2 := bd_ne (p := takeP E.c [63]) (U HR1) (U HNE);obtain ⟨b2, s2, hq2⟩ := take_ok hp2;have HC2 := Hi (rq_ok (take_rq (U HE) (U H1).1 (x := ⟨#[63]⟩) ⟨rfl, by intro z hz; simp at hz; omega⟩ hp2) hq2);have HR2 := br hq2 HR1;clear hq2 hp2;go_wp2_with (go_at_call 42; refine (U HC2).mono ?_)
   rintro e w2 ⟨rfl, nv2, h2⟩
   have H2 := Hi ((U H1).trans h2);clear h2;cases b2 with
   | false =>
     have hp3 := bd_ne (p := parP E.c n (.maybe [58] .anyType)) (U HR2) (U HNE);have HC3 := Hi (U HIM _ _ _ (U H2).1 hp3);cases hq3 : parP E.c n (.maybe [58] .anyType) s2 with
     | out => exact absurd hq3 hp3
     | no s3 =>
       have hR3 := (bd_no hq3).symm.trans (U HR2);subst hR3;replace HC3 := rn HC3 hq3;clear hq3 hp3;go_wp2_with (go_at_call 104; refine (U HC3).mono ?_)
       rintro e w3 ⟨rfl, nv3, h3⟩
       have H3 := Hi ((U H2).trans h3);clear h3;go_wp2;exact ⟨rfl, rfl, nv3, U H3⟩
     | ok a3 s3 =>
       have HR3 := br hq3 HR2;replace HC3 := ro HC3 hq3;clear hq3 hp3;go_wp2_with (go_at_call 104; refine (U HC3).mono ?_)
       rintro e w3 ⟨rfl, nv3, h3⟩
       have H3 := Hi ((U H2).trans h3);clear h3;have hp4 := bd_ne (p := putP ⟨66, a1, 2, [hd0 a3], at'⟩) (U HR3) (U HNE);obtain ⟨a4, s4, hq4⟩ : ∃ a s', putP ⟨66, a1, 2, [hd0 a3], at'⟩ s3 = .ok a s' := put_ex hp4;have H4p := Hi ((U H3).below ((Below.refl _ w3).alloc NL (.cells #[.int .i64 ((hd0 a3 : Nat) : Int)] 3)));have HC4 := Hi (rq_ok (put_rq (U H4p).1 _ _ _ (kid1 w3 (hd0 a3) (U H3).1.zl) hp4) hq4);simp only [e0', List.length_cons, List.length_nil] at HC4;have HR4 := br hq4 HR3;clear hq4 hp4;go_wp2_with (go_at_call 32; refine (U HC4).mono ?_)
       rintro e w4 ⟨rfl, nv4, h4⟩
       have H4 := Hi ((U H4p).trans h4);clear h4;have hR4 : (.ok [a4] s4 : Res (List Nat)) = R := U HR4;subst hR4;go_wp2;go_ret;exact ⟨rfl, nv4, U H4⟩
   | true =>
     have hp5 := bd_ne (p := parP E.c n (.maybe [58] .anyType)) (U HR2) (U HNE);have HC5 := Hi (U HIM _ _ _ (U H2).1 hp5);cases hq5 : parP E.c n (.maybe [58] .anyType) s2 with
     | out => exact absurd hq5 hp5
     | no s5 =>
       have hR5 := (bd_no hq5).symm.trans (U HR2);subst hR5;replace HC5 := rn HC5 hq5;clear hq5 hp5;go_wp2_with (go_at_call 104; refine (U HC5).mono ?_)
       rintro e w5 ⟨rfl, nv5, h5⟩
       have H5 := Hi ((U H2).trans h5);clear h5;go_wp2;exact ⟨rfl, rfl, nv5, U H5⟩
     | ok a5 s5 =>
       have HR5 := br hq5 HR2;replace HC5 := ro HC5 hq5;clear hq5 hp5;go_wp2_with (go_at_call 104; refine (U HC5).mono ?_)
       rintro e w5 ⟨rfl, nv5, h5⟩
       have H5 := Hi ((U H2).trans h5);clear h5;have hp6 := bd_ne (p := putP ⟨66, a1, 3, [hd0 a5], at'⟩) (U HR5) (U HNE);obtain ⟨a6, s6, hq6⟩ : ∃ a s', putP ⟨66, a1, 3, [hd0 a5], at'⟩ s5 = .ok a s' := put_ex hp6;have H6p := Hi ((U H5).below ((Below.refl _ w5).alloc NL (.cells #[.int .i64 ((hd0 a5 : Nat) : Int)] 3)));have HC6 := Hi (rq_ok (put_rq (U H6p).1 _ _ _ (kid1 w5 (hd0 a5) (U H5).1.zl) hp6) hq6);simp only [e0', List.length_cons, List.length_nil] at HC6;have HR6 := br hq6 HR5;clear hq6 hp6;go_wp2_with (go_at_call 32; refine (U HC6).mono ?_)
       rintro e w6 ⟨rfl, nv6, h6⟩
       have H6 := Hi ((U H6p).trans h6);clear h6;have hR6 : (.ok [a6] s6 : Res (List Nat)) = R := U HR6;subst hR6;go_wp2;go_ret;exact ⟨rfl, nv6, U H6⟩
theorem marked4_step {E : En} (hE : E.Ok) {n : Nat} (at' : Nat) (IM : IHA E n (.maybe [58] .anyType) 104 #[.pointer (some ⟨E.M, 0, none⟩), .string ⟨#[58]⟩, .func (.func 22) #[.pointer (some ⟨E.M, 0, none⟩)] #[]]) : IHA E (n + 1) (.marked at' 4) 154 #[.pointer (some ⟨E.M, 0, none⟩), .int .i64 (at' : Int), .int .i64 4] := by
 intro nv s W h hne;obtain ⟨R, hR⟩ : ∃ R, parP E.c (n + 1) (.marked at' 4) s = R := ⟨_, rfl⟩;rw [hR] at hne ⊢;simp only [parP, bodyP] at hR;have HR0 := Hi hR;have H0 := Hi (Lf.refl h);have HE := Hi hE;have HNE := Hi hne;have HIM := Hi IM;clear hR hne h hE IM;go_enter Tryz.func154, Tryz.ntmps154;have hp1 := bd_ne (p := nameP E.c) (U HR0) (U HNE);have HC1 := Hi (name_rq (U HE) (U H0).1 hp1);cases hq1 : nameP E.c s with
 | out => exact absurd hq1 hp1
 | no s1 =>
   have hR1 := (bd_no hq1).symm.trans (U HR0);subst hR1;replace HC1 := rn HC1 hq1;clear hq1 hp1;go_wp2_with (go_at_call 103; refine (U HC1).mono ?_)
   rintro e w1 ⟨rfl, nv1, h1⟩
   have H1 := Hi ((U H0).trans h1);clear h1;go_wp2;exact ⟨rfl, rfl, nv1, U H1⟩
 | ok a1 s1 =>
   have HR1 := br hq1 HR0;replace HC1 := ro HC1 hq1;clear hq1 hp1;go_wp2_with (go_at_call 103; refine (U HC1).mono ?_)
   rintro e w1 ⟨rfl, nv1, h1⟩
   have H1 := Hi ((U H0).trans h1);clear h1;have hp2 := bd_ne (p := takeP E.c [63]) (U HR1) (U HNE);obtain ⟨b2, s2, hq2⟩ := take_ok hp2;have HC2 := Hi (rq_ok (take_rq (U HE) (U H1).1 (x := ⟨#[63]⟩) ⟨rfl, by intro z hz; simp at hz; omega⟩ hp2) hq2);have HR2 := br hq2 HR1;clear hq2 hp2;go_wp2_with (go_at_call 42; refine (U HC2).mono ?_)
   rintro e w2 ⟨rfl, nv2, h2⟩
   have H2 := Hi ((U H1).trans h2);clear h2;cases b2 with
   | false =>
     have hp3 := bd_ne (p := parP E.c n (.maybe [58] .anyType)) (U HR2) (U HNE);have HC3 := Hi (U HIM _ _ _ (U H2).1 hp3);cases hq3 : parP E.c n (.maybe [58] .anyType) s2 with
     | out => exact absurd hq3 hp3
     | no s3 =>
       have hR3 := (bd_no hq3).symm.trans (U HR2);subst hR3;replace HC3 := rn HC3 hq3;clear hq3 hp3;go_wp2_with (go_at_call 104; refine (U HC3).mono ?_)
       rintro e w3 ⟨rfl, nv3, h3⟩
       have H3 := Hi ((U H2).trans h3);clear h3;go_wp2;exact ⟨rfl, rfl, nv3, U H3⟩
     | ok a3 s3 =>
       have HR3 := br hq3 HR2;replace HC3 := ro HC3 hq3;clear hq3 hp3;go_wp2_with (go_at_call 104; refine (U HC3).mono ?_)
       rintro e w3 ⟨rfl, nv3, h3⟩
       have H3 := Hi ((U H2).trans h3);clear h3;have hp4 := bd_ne (p := putP ⟨66, a1, 4, [hd0 a3], at'⟩) (U HR3) (U HNE);obtain ⟨a4, s4, hq4⟩ : ∃ a s', putP ⟨66, a1, 4, [hd0 a3], at'⟩ s3 = .ok a s' := put_ex hp4;have H4p := Hi ((U H3).below ((Below.refl _ w3).alloc NL (.cells #[.int .i64 ((hd0 a3 : Nat) : Int)] 3)));have HC4 := Hi (rq_ok (put_rq (U H4p).1 _ _ _ (kid1 w3 (hd0 a3) (U H3).1.zl) hp4) hq4);simp only [e0', List.length_cons, List.length_nil] at HC4;have HR4 := br hq4 HR3;clear hq4 hp4;go_wp2_with (go_at_call 32; refine (U HC4).mono ?_)
       rintro e w4 ⟨rfl, nv4, h4⟩
       have H4 := Hi ((U H4p).trans h4);clear h4;have hR4 : (.ok [a4] s4 : Res (List Nat)) = R := U HR4;subst hR4;go_wp2;go_ret;exact ⟨rfl, nv4, U H4⟩
   | true =>
     have hp5 := bd_ne (p := parP E.c n (.maybe [58] .anyType)) (U HR2) (U HNE);have HC5 := Hi (U HIM _ _ _ (U H2).1 hp5);cases hq5 : parP E.c n (.maybe [58] .anyType) s2 with
     | out => exact absurd hq5 hp5
     | no s5 =>
       have hR5 := (bd_no hq5).symm.trans (U HR2);subst hR5;replace HC5 := rn HC5 hq5;clear hq5 hp5;go_wp2_with (go_at_call 104; refine (U HC5).mono ?_)
       rintro e w5 ⟨rfl, nv5, h5⟩
       have H5 := Hi ((U H2).trans h5);clear h5;go_wp2;exact ⟨rfl, rfl, nv5, U H5⟩
     | ok a5 s5 =>
       have HR5 := br hq5 HR2;replace HC5 := ro HC5 hq5;clear hq5 hp5;go_wp2_with (go_at_call 104; refine (U HC5).mono ?_)
       rintro e w5 ⟨rfl, nv5, h5⟩
       have H5 := Hi ((U H2).trans h5);clear h5;have hp6 := bd_ne (p := putP ⟨66, a1, 5, [hd0 a5], at'⟩) (U HR5) (U HNE);obtain ⟨a6, s6, hq6⟩ : ∃ a s', putP ⟨66, a1, 5, [hd0 a5], at'⟩ s5 = .ok a s' := put_ex hp6;have H6p := Hi ((U H5).below ((Below.refl _ w5).alloc NL (.cells #[.int .i64 ((hd0 a5 : Nat) : Int)] 3)));have HC6 := Hi (rq_ok (put_rq (U H6p).1 _ _ _ (kid1 w5 (hd0 a5) (U H5).1.zl) hp6) hq6);simp only [e0', List.length_cons, List.length_nil] at HC6;have HR6 := br hq6 HR5;clear hq6 hp6;go_wp2_with (go_at_call 32; refine (U HC6).mono ?_)
       rintro e w6 ⟨rfl, nv6, h6⟩
       have H6 := Hi ((U H6p).trans h6);clear h6;have hR6 : (.ok [a6] s6 : Res (List Nat)) = R := U HR6;subst hR6;go_wp2;go_ret;exact ⟨rfl, nv6, U H6⟩
theorem marked6_step {E : En} (hE : E.Ok) {n : Nat} (at' : Nat) (IM : IHA E n (.maybe [58] .anyType) 104 #[.pointer (some ⟨E.M, 0, none⟩), .string ⟨#[58]⟩, .func (.func 22) #[.pointer (some ⟨E.M, 0, none⟩)] #[]]) : IHA E (n + 1) (.marked at' 6) 154 #[.pointer (some ⟨E.M, 0, none⟩), .int .i64 (at' : Int), .int .i64 6] := by
 intro nv s W h hne;obtain ⟨R, hR⟩ : ∃ R, parP E.c (n + 1) (.marked at' 6) s = R := ⟨_, rfl⟩;rw [hR] at hne ⊢;simp only [parP, bodyP] at hR;have HR0 := Hi hR;have H0 := Hi (Lf.refl h);have HE := Hi hE;have HNE := Hi hne;have HIM := Hi IM;clear hR hne h hE IM;go_enter Tryz.func154, Tryz.ntmps154;have hp1 := bd_ne (p := nameP E.c) (U HR0) (U HNE);have HC1 := Hi (name_rq (U HE) (U H0).1 hp1);cases hq1 : nameP E.c s with
 | out => exact absurd hq1 hp1
 | no s1 =>
   have hR1 := (bd_no hq1).symm.trans (U HR0);subst hR1;replace HC1 := rn HC1 hq1;clear hq1 hp1;go_wp2_with (go_at_call 103; refine (U HC1).mono ?_)
   rintro e w1 ⟨rfl, nv1, h1⟩
   have H1 := Hi ((U H0).trans h1);clear h1;go_wp2;exact ⟨rfl, rfl, nv1, U H1⟩
 | ok a1 s1 =>
   have HR1 := br hq1 HR0;replace HC1 := ro HC1 hq1;clear hq1 hp1;go_wp2_with (go_at_call 103; refine (U HC1).mono ?_)
   rintro e w1 ⟨rfl, nv1, h1⟩
   have H1 := Hi ((U H0).trans h1);clear h1;have hp2 := bd_ne (p := takeP E.c [63]) (U HR1) (U HNE);obtain ⟨b2, s2, hq2⟩ := take_ok hp2;have HC2 := Hi (rq_ok (take_rq (U HE) (U H1).1 (x := ⟨#[63]⟩) ⟨rfl, by intro z hz; simp at hz; omega⟩ hp2) hq2);have HR2 := br hq2 HR1;clear hq2 hp2;go_wp2_with (go_at_call 42; refine (U HC2).mono ?_)
   rintro e w2 ⟨rfl, nv2, h2⟩
   have H2 := Hi ((U H1).trans h2);clear h2;cases b2 with
   | false =>
     have hp3 := bd_ne (p := parP E.c n (.maybe [58] .anyType)) (U HR2) (U HNE);have HC3 := Hi (U HIM _ _ _ (U H2).1 hp3);cases hq3 : parP E.c n (.maybe [58] .anyType) s2 with
     | out => exact absurd hq3 hp3
     | no s3 =>
       have hR3 := (bd_no hq3).symm.trans (U HR2);subst hR3;replace HC3 := rn HC3 hq3;clear hq3 hp3;go_wp2_with (go_at_call 104; refine (U HC3).mono ?_)
       rintro e w3 ⟨rfl, nv3, h3⟩
       have H3 := Hi ((U H2).trans h3);clear h3;go_wp2;exact ⟨rfl, rfl, nv3, U H3⟩
     | ok a3 s3 =>
       have HR3 := br hq3 HR2;replace HC3 := ro HC3 hq3;clear hq3 hp3;go_wp2_with (go_at_call 104; refine (U HC3).mono ?_)
       rintro e w3 ⟨rfl, nv3, h3⟩
       have H3 := Hi ((U H2).trans h3);clear h3;have hp4 := bd_ne (p := putP ⟨66, a1, 6, [hd0 a3], at'⟩) (U HR3) (U HNE);obtain ⟨a4, s4, hq4⟩ : ∃ a s', putP ⟨66, a1, 6, [hd0 a3], at'⟩ s3 = .ok a s' := put_ex hp4;have H4p := Hi ((U H3).below ((Below.refl _ w3).alloc NL (.cells #[.int .i64 ((hd0 a3 : Nat) : Int)] 3)));have HC4 := Hi (rq_ok (put_rq (U H4p).1 _ _ _ (kid1 w3 (hd0 a3) (U H3).1.zl) hp4) hq4);simp only [e0', List.length_cons, List.length_nil] at HC4;have HR4 := br hq4 HR3;clear hq4 hp4;go_wp2_with (go_at_call 32; refine (U HC4).mono ?_)
       rintro e w4 ⟨rfl, nv4, h4⟩
       have H4 := Hi ((U H4p).trans h4);clear h4;have hR4 : (.ok [a4] s4 : Res (List Nat)) = R := U HR4;subst hR4;go_wp2;go_ret;exact ⟨rfl, nv4, U H4⟩
   | true =>
     have hp5 := bd_ne (p := parP E.c n (.maybe [58] .anyType)) (U HR2) (U HNE);have HC5 := Hi (U HIM _ _ _ (U H2).1 hp5);cases hq5 : parP E.c n (.maybe [58] .anyType) s2 with
     | out => exact absurd hq5 hp5
     | no s5 =>
       have hR5 := (bd_no hq5).symm.trans (U HR2);subst hR5;replace HC5 := rn HC5 hq5;clear hq5 hp5;go_wp2_with (go_at_call 104; refine (U HC5).mono ?_)
       rintro e w5 ⟨rfl, nv5, h5⟩
       have H5 := Hi ((U H2).trans h5);clear h5;go_wp2;exact ⟨rfl, rfl, nv5, U H5⟩
     | ok a5 s5 =>
       have HR5 := br hq5 HR2;replace HC5 := ro HC5 hq5;clear hq5 hp5;go_wp2_with (go_at_call 104; refine (U HC5).mono ?_)
       rintro e w5 ⟨rfl, nv5, h5⟩
       have H5 := Hi ((U H2).trans h5);clear h5;have hp6 := bd_ne (p := putP ⟨66, a1, 7, [hd0 a5], at'⟩) (U HR5) (U HNE);obtain ⟨a6, s6, hq6⟩ : ∃ a s', putP ⟨66, a1, 7, [hd0 a5], at'⟩ s5 = .ok a s' := put_ex hp6;have H6p := Hi ((U H5).below ((Below.refl _ w5).alloc NL (.cells #[.int .i64 ((hd0 a5 : Nat) : Int)] 3)));have HC6 := Hi (rq_ok (put_rq (U H6p).1 _ _ _ (kid1 w5 (hd0 a5) (U H5).1.zl) hp6) hq6);simp only [e0', List.length_cons, List.length_nil] at HC6;have HR6 := br hq6 HR5;clear hq6 hp6;go_wp2_with (go_at_call 32; refine (U HC6).mono ?_)
       rintro e w6 ⟨rfl, nv6, h6⟩
       have H6 := Hi ((U H6p).trans h6);clear h6;have hR6 : (.ok [a6] s6 : Res (List Nat)) = R := U HR6;subst hR6;go_wp2;go_ret;exact ⟨rfl, nv6, U H6⟩
theorem param_step {E : En} (hE : E.Ok) {n : Nat}  (IM0 : ∀ at' : Nat, IHA E n (.marked at' 0) 154 #[.pointer (some ⟨E.M, 0, none⟩), .int .i64 (at' : Int), .int .i64 0]) : IHA E (n + 1) .param 97 #[.pointer (some ⟨E.M, 0, none⟩)] := by
 intro nv s W h hne;obtain ⟨R, hR⟩ : ∃ R, parP E.c (n + 1) .param s = R := ⟨_, rfl⟩;rw [hR] at hne ⊢;simp only [parP, bodyP] at hR;have HR0 := Hi hR;have H0 := Hi (Lf.refl h);have HE := Hi hE;have HNE := Hi hne;have HIM0 := Hi IM0;clear hR hne h hE IM0;go_enter Tryz.func97, Tryz.ntmps97;have d1 := (U H0).1.rd.tok.2.2.1;have hl1 := (U H0).1.rd.lt;have hR1 := U HR0;rw [bd_ok (p := atP) rfl] at hR1;replace HR0 := Hi hR1;clear hR1;have hp2 : parP E.c n (.marked (s.tk.2.2.1) 0) s ≠ .out := fun e => U HNE ((U HR0).symm.trans e)
 have HC2 := Hi (U HIM0 (s.tk.2.2.1) _ _ _ (U H0).1 hp2);cases hq2 : parP E.c n (.marked (s.tk.2.2.1) 0) s with
 | out => exact absurd hq2 hp2
 | no s2 =>
   have hR2 := hq2.symm.trans (U HR0);subst hR2;replace HC2 := rn HC2 hq2;clear hq2 hp2;go_wp2_with (go_at_call 154; refine (U HC2).mono ?_)
   rintro e w2 ⟨rfl, nv2, h2⟩
   have H2 := Hi ((U H0).trans h2);clear h2;go_wp2;exact ⟨rfl, rfl, nv2, U H2⟩
 | ok a2 s2 =>
   have HR2 := Hi (hq2.symm.trans (U HR0));replace HC2 := ro HC2 hq2;clear hq2 hp2;go_wp2_with (go_at_call 154; refine (U HC2).mono ?_)
   rintro e w2 ⟨rfl, nv2, h2⟩
   have H2 := Hi ((U H0).trans h2);clear h2;have hR2 := U HR2;subst hR2;go_wp2;go_ret;exact ⟨rfl, nv2, U H2⟩
theorem memberParam_step {E : En} (hE : E.Ok) {n : Nat}  (IM0 : ∀ at' : Nat, IHA E n (.marked at' 0) 154 #[.pointer (some ⟨E.M, 0, none⟩), .int .i64 (at' : Int), .int .i64 0]) (IM2 : ∀ at' : Nat, IHA E n (.marked at' 2) 154 #[.pointer (some ⟨E.M, 0, none⟩), .int .i64 (at' : Int), .int .i64 2]) (IM4 : ∀ at' : Nat, IHA E n (.marked at' 4) 154 #[.pointer (some ⟨E.M, 0, none⟩), .int .i64 (at' : Int), .int .i64 4]) (IM6 : ∀ at' : Nat, IHA E n (.marked at' 6) 154 #[.pointer (some ⟨E.M, 0, none⟩), .int .i64 (at' : Int), .int .i64 6]) : IHA E (n + 1) .memberParam 207 #[.pointer (some ⟨E.M, 0, none⟩)] := by
 intro nv s W h hne;obtain ⟨R, hR⟩ : ∃ R, parP E.c (n + 1) .memberParam s = R := ⟨_, rfl⟩;rw [hR] at hne ⊢;simp only [parP, bodyP] at hR;have HR0 := Hi hR;have H0 := Hi (Lf.refl h);have HE := Hi hE;have HNE := Hi hne;have HIM0 := Hi IM0;have HIM2 := Hi IM2;have HIM4 := Hi IM4;have HIM6 := Hi IM6;clear hR hne h hE IM0 IM2 IM4 IM6;go_enter Tryz.func207, Tryz.ntmps207;have d1 := (U H0).1.rd.tok.2.2.1;have hl1 := (U H0).1.rd.lt;have hR1 := U HR0;rw [bd_ok (p := atP) rfl] at hR1;replace HR0 := Hi hR1;clear hR1;have hp2 := bd_ne (p := takeP E.c [112, 117, 98, 108, 105, 99]) (U HR0) (U HNE);obtain ⟨b2, s2, hq2⟩ := take_ok hp2;have HC2 := Hi (rq_ok (take_rq (U HE) (U H0).1 (x := ⟨#[112, 117, 98, 108, 105, 99]⟩) ⟨rfl, by intro z hz; simp at hz; omega⟩ hp2) hq2);have HR2 := br hq2 HR0;clear hq2 hp2;go_wp2_with (go_at_call 42; refine (U HC2).mono ?_)
 rintro e w2 ⟨rfl, nv2, h2⟩
 have H2 := Hi ((U H0).trans h2);clear h2;cases b2 with
 | false =>
   have hp3 := bd_ne (p := takeP E.c [114, 101, 97, 100, 111, 110, 108, 121]) (U HR2) (U HNE);obtain ⟨b3, s3, hq3⟩ := take_ok hp3;have HC3 := Hi (rq_ok (take_rq (U HE) (U H2).1 (x := ⟨#[114, 101, 97, 100, 111, 110, 108, 121]⟩) ⟨rfl, by intro z hz; simp at hz; omega⟩ hp3) hq3);have HR3 := br hq3 HR2;clear hq3 hp3;go_wp2_with (go_at_call 42; refine (U HC3).mono ?_)
   rintro e w3 ⟨rfl, nv3, h3⟩
   have H3 := Hi ((U H2).trans h3);clear h3;cases b3 with
   | false =>
     have hp4 : parP E.c n (.marked (s.tk.2.2.1) 0) s3 ≠ .out := fun e => U HNE ((U HR3).symm.trans e)
     have HC4 := Hi (U HIM0 (s.tk.2.2.1) _ _ _ (U H3).1 hp4);cases hq4 : parP E.c n (.marked (s.tk.2.2.1) 0) s3 with
     | out => exact absurd hq4 hp4
     | no s4 =>
       have hR4 := hq4.symm.trans (U HR3);subst hR4;replace HC4 := rn HC4 hq4;clear hq4 hp4;go_wp2_with (go_at_call 154; refine (U HC4).mono ?_)
       rintro e w4 ⟨rfl, nv4, h4⟩
       have H4 := Hi ((U H3).trans h4);clear h4;go_wp2;exact ⟨rfl, rfl, nv4, U H4⟩
     | ok a4 s4 =>
       have HR4 := Hi (hq4.symm.trans (U HR3));replace HC4 := ro HC4 hq4;clear hq4 hp4;go_wp2_with (go_at_call 154; refine (U HC4).mono ?_)
       rintro e w4 ⟨rfl, nv4, h4⟩
       have H4 := Hi ((U H3).trans h4);clear h4;have hR4 := U HR4;subst hR4;go_wp2;go_ret;exact ⟨rfl, nv4, U H4⟩
   | true =>
     have hp5 : parP E.c n (.marked (s.tk.2.2.1) 4) s3 ≠ .out := fun e => U HNE ((U HR3).symm.trans e)
     have HC5 := Hi (U HIM4 (s.tk.2.2.1) _ _ _ (U H3).1 hp5);cases hq5 : parP E.c n (.marked (s.tk.2.2.1) 4) s3 with
     | out => exact absurd hq5 hp5
     | no s5 =>
       have hR5 := hq5.symm.trans (U HR3);subst hR5;replace HC5 := rn HC5 hq5;clear hq5 hp5;go_wp2_with (go_at_call 154; refine (U HC5).mono ?_)
       rintro e w5 ⟨rfl, nv5, h5⟩
       have H5 := Hi ((U H3).trans h5);clear h5;go_wp2;exact ⟨rfl, rfl, nv5, U H5⟩
     | ok a5 s5 =>
       have HR5 := Hi (hq5.symm.trans (U HR3));replace HC5 := ro HC5 hq5;clear hq5 hp5;go_wp2_with (go_at_call 154; refine (U HC5).mono ?_)
       rintro e w5 ⟨rfl, nv5, h5⟩
       have H5 := Hi ((U H3).trans h5);clear h5;have hR5 := U HR5;subst hR5;go_wp2;go_ret;exact ⟨rfl, nv5, U H5⟩
 | true =>
   have hp6 := bd_ne (p := takeP E.c [114, 101, 97, 100, 111, 110, 108, 121]) (U HR2) (U HNE);obtain ⟨b6, s6, hq6⟩ := take_ok hp6;have HC6 := Hi (rq_ok (take_rq (U HE) (U H2).1 (x := ⟨#[114, 101, 97, 100, 111, 110, 108, 121]⟩) ⟨rfl, by intro z hz; simp at hz; omega⟩ hp6) hq6);have HR6 := br hq6 HR2;clear hq6 hp6;go_wp2_with (go_at_call 42; refine (U HC6).mono ?_)
   rintro e w6 ⟨rfl, nv6, h6⟩
   have H6 := Hi ((U H2).trans h6);clear h6;cases b6 with
   | false =>
     have hp7 : parP E.c n (.marked (s.tk.2.2.1) 2) s6 ≠ .out := fun e => U HNE ((U HR6).symm.trans e)
     have HC7 := Hi (U HIM2 (s.tk.2.2.1) _ _ _ (U H6).1 hp7);cases hq7 : parP E.c n (.marked (s.tk.2.2.1) 2) s6 with
     | out => exact absurd hq7 hp7
     | no s7 =>
       have hR7 := hq7.symm.trans (U HR6);subst hR7;replace HC7 := rn HC7 hq7;clear hq7 hp7;go_wp2_with (go_at_call 154; refine (U HC7).mono ?_)
       rintro e w7 ⟨rfl, nv7, h7⟩
       have H7 := Hi ((U H6).trans h7);clear h7;go_wp2;exact ⟨rfl, rfl, nv7, U H7⟩
     | ok a7 s7 =>
       have HR7 := Hi (hq7.symm.trans (U HR6));replace HC7 := ro HC7 hq7;clear hq7 hp7;go_wp2_with (go_at_call 154; refine (U HC7).mono ?_)
       rintro e w7 ⟨rfl, nv7, h7⟩
       have H7 := Hi ((U H6).trans h7);clear h7;have hR7 := U HR7;subst hR7;go_wp2;go_ret;exact ⟨rfl, nv7, U H7⟩
   | true =>
     have hp8 : parP E.c n (.marked (s.tk.2.2.1) 6) s6 ≠ .out := fun e => U HNE ((U HR6).symm.trans e)
     have HC8 := Hi (U HIM6 (s.tk.2.2.1) _ _ _ (U H6).1 hp8);cases hq8 : parP E.c n (.marked (s.tk.2.2.1) 6) s6 with
     | out => exact absurd hq8 hp8
     | no s8 =>
       have hR8 := hq8.symm.trans (U HR6);subst hR8;replace HC8 := rn HC8 hq8;clear hq8 hp8;go_wp2_with (go_at_call 154; refine (U HC8).mono ?_)
       rintro e w8 ⟨rfl, nv8, h8⟩
       have H8 := Hi ((U H6).trans h8);clear h8;go_wp2;exact ⟨rfl, rfl, nv8, U H8⟩
     | ok a8 s8 =>
       have HR8 := Hi (hq8.symm.trans (U HR6));replace HC8 := ro HC8 hq8;clear hq8 hp8;go_wp2_with (go_at_call 154; refine (U HC8).mono ?_)
       rintro e w8 ⟨rfl, nv8, h8⟩
       have H8 := Hi ((U H6).trans h8);clear h8;have hR8 := U HR8;subst hR8;go_wp2;go_ret;exact ⟨rfl, nv8, U H8⟩
theorem objectType_step {E : En} (hE : E.Ok) {n : Nat}  (IR : IHB E n .piece 200 [[59], [44]] #[.string ⟨#[59]⟩, .string ⟨#[44]⟩]) : IHA E (n + 1) .objectType 151 #[.pointer (some ⟨E.M, 0, none⟩)] := by
 intro nv s W h hne;obtain ⟨R, hR⟩ : ∃ R, parP E.c (n + 1) .objectType s = R := ⟨_, rfl⟩;rw [hR] at hne ⊢;simp only [parP, bodyP] at hR;have HR0 := Hi hR;have H0 := Hi (Lf.refl h);have HE := Hi hE;have HNE := Hi hne;have HIR := Hi IR;clear hR hne h hE IR;go_enter Tryz.func151, Tryz.ntmps151;have d1 := (U H0).1.rd.tok.2.2.1;have hl1 := (U H0).1.rd.lt;have hR1 := U HR0;rw [bd_ok (p := atP) rfl] at hR1;replace HR0 := Hi hR1;clear hR1;have hp2 := bd_ne (p := parP E.c n (.braced .piece [[59], [44]])) (U HR0) (U HNE);have H2p := Hi ((U H0).below ((Below.refl _ W).alloc NL (.cells #[.string ⟨#[59]⟩, .string ⟨#[44]⟩] 9)));have HC2 := Hi (U HIR _ _ _ _ (U H2p).1 (World.alloc_heap_new W _) hp2);simp only [List.length_cons, List.length_nil] at HC2;cases hq2 : parP E.c n (.braced .piece [[59], [44]]) s with
 | out => exact absurd hq2 hp2
 | no s2 =>
   have hR2 := (bd_no hq2).symm.trans (U HR0);subst hR2;replace HC2 := Hi (rql_no (U HC2) hq2);clear hq2 hp2;go_wp2_with (go_at_call 105; refine (U HC2).mono ?_)
   rintro e w2 ⟨rfl, nv2, h2⟩
   have H2 := Hi ((U H2p).trans h2);clear h2;go_wp2;exact ⟨rfl, rfl, nv2, U H2⟩
 | ok a2 s2 =>
   have HR2 := br hq2 HR0;replace HC2 := Hi (rql_ok (U HC2) hq2);clear hq2 hp2;go_wp2_with (go_at_call 105; refine (U HC2).mono ?_)
   rintro e w2 ⟨ka2, kc2, nv2, rfl, hk2, h2⟩
   have H2 := Hi ((U H2p).trans h2);have HK2 := Hi hk2;clear h2 hk2;have hp3 := bd_ne (p := putP ⟨84, [], 0, a2, s.tk.2.2.1⟩) (U HR2) (U HNE);obtain ⟨a3, s3, hq3⟩ : ∃ a s', putP ⟨84, [], 0, a2, s.tk.2.2.1⟩ s2 = .ok a s' := put_ex hp3;have HC3 := Hi (rq_ok (put_rq (U H2).1 ⟨84, [], 0, a2, s.tk.2.2.1⟩ ka2 kc2 (U HK2) hp3) hq3);have HR3 := br hq3 HR2;clear hq3 hp3;simp only [e0'] at HC3;go_wp2_with (go_at_call 32; refine (U HC3).mono ?_)
   rintro e w3 ⟨rfl, nv3, h3⟩
   have H3 := Hi ((U H2).trans h3);replace HK2 := Hi ((U HK2).fz (U H2).1 h3);clear h3;have hR3 : (.ok [a3] s3 : Res (List Nat)) = R := U HR3;subst hR3;go_wp2;go_ret;exact ⟨rfl, nv3, U H3⟩
theorem enum_step {E : En} (hE : E.Ok) {n : Nat}  (IR : IHB E n .enumMember 106 [[44]] #[.string ⟨#[44]⟩]) : IHA E (n + 1) .enum 64 #[.pointer (some ⟨E.M, 0, none⟩)] := by
 intro nv s W h hne;obtain ⟨R, hR⟩ : ∃ R, parP E.c (n + 1) .enum s = R := ⟨_, rfl⟩;rw [hR] at hne ⊢;simp only [parP, bodyP] at hR;have HR0 := Hi hR;have H0 := Hi (Lf.refl h);have HE := Hi hE;have HNE := Hi hne;have HIR := Hi IR;clear hR hne h hE IR;go_enter Tryz.func64, Tryz.ntmps64;have d1 := (U H0).1.rd.tok.2.2.1;have hl1 := (U H0).1.rd.lt;have hR1 := U HR0;rw [bd_ok (p := atP) rfl] at hR1;replace HR0 := Hi hR1;clear hR1;have hp2 := bd_ne (p := takeP E.c [99, 111, 110, 115, 116]) (U HR0) (U HNE);obtain ⟨b2, s2, hq2⟩ := take_ok hp2;have HC2 := Hi (rq_ok (take_rq (U HE) (U H0).1 (x := ⟨#[99, 111, 110, 115, 116]⟩) ⟨rfl, by intro z hz; simp at hz; omega⟩ hp2) hq2);have HR2 := br hq2 HR0;clear hq2 hp2;go_wp2_with (go_at_call 42; refine (U HC2).mono ?_)
 rintro e w2 ⟨rfl, nv2, h2⟩
 have H2 := Hi ((U H0).trans h2);clear h2;cases b2 with
 | false =>
   have hp3 := bd_ne (p := wantP E.c [101, 110, 117, 109]) (U HR2) (U HNE);have HC3 := Hi (want_rq (U HE) (U H2).1 (x := ⟨#[101, 110, 117, 109]⟩) ⟨rfl, by intro z hz; simp at hz; omega⟩ hp3);cases hq3 : wantP E.c [101, 110, 117, 109] s2 with
   | out => exact absurd hq3 hp3
   | no s3 =>
     have hR3 := (bd_no hq3).symm.trans (U HR2);subst hR3;replace HC3 := rn HC3 hq3;clear hq3 hp3;go_wp2_with (go_at_call 94; refine (U HC3).mono ?_)
     rintro e w3 ⟨rfl, nv3, h3⟩
     have H3 := Hi ((U H2).trans h3);clear h3;go_wp2;exact ⟨rfl, rfl, nv3, U H3⟩
   | ok a3 s3 =>
     have HR3 := br hq3 HR2;replace HC3 := ro HC3 hq3;clear hq3 hp3;go_wp2_with (go_at_call 94; refine (U HC3).mono ?_)
     rintro e w3 ⟨rfl, nv3, h3⟩
     have H3 := Hi ((U H2).trans h3);clear h3;have hp4 := bd_ne (p := nameP E.c) (U HR3) (U HNE);have HC4 := Hi (name_rq (U HE) (U H3).1 hp4);cases hq4 : nameP E.c s3 with
     | out => exact absurd hq4 hp4
     | no s4 =>
       have hR4 := (bd_no hq4).symm.trans (U HR3);subst hR4;replace HC4 := rn HC4 hq4;clear hq4 hp4;go_wp2_with (go_at_call 103; refine (U HC4).mono ?_)
       rintro e w4 ⟨rfl, nv4, h4⟩
       have H4 := Hi ((U H3).trans h4);clear h4;go_wp2;exact ⟨rfl, rfl, nv4, U H4⟩
     | ok a4 s4 =>
       have HR4 := br hq4 HR3;replace HC4 := ro HC4 hq4;clear hq4 hp4;go_wp2_with (go_at_call 103; refine (U HC4).mono ?_)
       rintro e w4 ⟨rfl, nv4, h4⟩
       have H4 := Hi ((U H3).trans h4);clear h4;have hp5 := bd_ne (p := parP E.c n (.braced .enumMember [[44]])) (U HR4) (U HNE);have H5p := Hi ((U H4).below ((Below.refl _ w4).alloc NL (.cells #[.string ⟨#[44]⟩] 9)));have HC5 := Hi (U HIR _ _ _ _ (U H5p).1 (World.alloc_heap_new w4 _) hp5);simp only [List.length_cons, List.length_nil] at HC5;cases hq5 : parP E.c n (.braced .enumMember [[44]]) s4 with
       | out => exact absurd hq5 hp5
       | no s5 =>
         have hR5 := (bd_no hq5).symm.trans (U HR4);subst hR5;replace HC5 := Hi (rql_no (U HC5) hq5);clear hq5 hp5;go_wp2_with (go_at_call 105; refine (U HC5).mono ?_)
         rintro e w5 ⟨rfl, nv5, h5⟩
         have H5 := Hi ((U H5p).trans h5);clear h5;go_wp2;exact ⟨rfl, rfl, nv5, U H5⟩
       | ok a5 s5 =>
         have HR5 := br hq5 HR4;replace HC5 := Hi (rql_ok (U HC5) hq5);clear hq5 hp5;go_wp2_with (go_at_call 105; refine (U HC5).mono ?_)
         rintro e w5 ⟨ka5, kc5, nv5, rfl, hk5, h5⟩
         have H5 := Hi ((U H5p).trans h5);have HK5 := Hi hk5;clear h5 hk5;have hp6 := bd_ne (p := putP ⟨47, a4, 0, a5, s.tk.2.2.1⟩) (U HR5) (U HNE);obtain ⟨a6, s6, hq6⟩ : ∃ a s', putP ⟨47, a4, 0, a5, s.tk.2.2.1⟩ s5 = .ok a s' := put_ex hp6;have HC6 := Hi (rq_ok (put_rq (U H5).1 ⟨47, a4, 0, a5, s.tk.2.2.1⟩ ka5 kc5 (U HK5) hp6) hq6);have HR6 := br hq6 HR5;clear hq6 hp6;simp only [e0'] at HC6;go_wp2_with (go_at_call 32; refine (U HC6).mono ?_)
         rintro e w6 ⟨rfl, nv6, h6⟩
         have H6 := Hi ((U H5).trans h6);replace HK5 := Hi ((U HK5).fz (U H5).1 h6);clear h6;have hR6 : (.ok [a6] s6 : Res (List Nat)) = R := U HR6;subst hR6;go_wp2;go_ret;exact ⟨rfl, nv6, U H6⟩
 | true =>
   have hp7 := bd_ne (p := wantP E.c [101, 110, 117, 109]) (U HR2) (U HNE);have HC7 := Hi (want_rq (U HE) (U H2).1 (x := ⟨#[101, 110, 117, 109]⟩) ⟨rfl, by intro z hz; simp at hz; omega⟩ hp7);cases hq7 : wantP E.c [101, 110, 117, 109] s2 with
   | out => exact absurd hq7 hp7
   | no s7 =>
     have hR7 := (bd_no hq7).symm.trans (U HR2);subst hR7;replace HC7 := rn HC7 hq7;clear hq7 hp7;go_wp2_with (go_at_call 94; refine (U HC7).mono ?_)
     rintro e w7 ⟨rfl, nv7, h7⟩
     have H7 := Hi ((U H2).trans h7);clear h7;go_wp2;exact ⟨rfl, rfl, nv7, U H7⟩
   | ok a7 s7 =>
     have HR7 := br hq7 HR2;replace HC7 := ro HC7 hq7;clear hq7 hp7;go_wp2_with (go_at_call 94; refine (U HC7).mono ?_)
     rintro e w7 ⟨rfl, nv7, h7⟩
     have H7 := Hi ((U H2).trans h7);clear h7;have hp8 := bd_ne (p := nameP E.c) (U HR7) (U HNE);have HC8 := Hi (name_rq (U HE) (U H7).1 hp8);cases hq8 : nameP E.c s7 with
     | out => exact absurd hq8 hp8
     | no s8 =>
       have hR8 := (bd_no hq8).symm.trans (U HR7);subst hR8;replace HC8 := rn HC8 hq8;clear hq8 hp8;go_wp2_with (go_at_call 103; refine (U HC8).mono ?_)
       rintro e w8 ⟨rfl, nv8, h8⟩
       have H8 := Hi ((U H7).trans h8);clear h8;go_wp2;exact ⟨rfl, rfl, nv8, U H8⟩
     | ok a8 s8 =>
       have HR8 := br hq8 HR7;replace HC8 := ro HC8 hq8;clear hq8 hp8;go_wp2_with (go_at_call 103; refine (U HC8).mono ?_)
       rintro e w8 ⟨rfl, nv8, h8⟩
       have H8 := Hi ((U H7).trans h8);clear h8;have hp9 := bd_ne (p := parP E.c n (.braced .enumMember [[44]])) (U HR8) (U HNE);have H9p := Hi ((U H8).below ((Below.refl _ w8).alloc NL (.cells #[.string ⟨#[44]⟩] 9)));have HC9 := Hi (U HIR _ _ _ _ (U H9p).1 (World.alloc_heap_new w8 _) hp9);simp only [List.length_cons, List.length_nil] at HC9;cases hq9 : parP E.c n (.braced .enumMember [[44]]) s8 with
       | out => exact absurd hq9 hp9
       | no s9 =>
         have hR9 := (bd_no hq9).symm.trans (U HR8);subst hR9;replace HC9 := Hi (rql_no (U HC9) hq9);clear hq9 hp9;go_wp2_with (go_at_call 105; refine (U HC9).mono ?_)
         rintro e w9 ⟨rfl, nv9, h9⟩
         have H9 := Hi ((U H9p).trans h9);clear h9;go_wp2;exact ⟨rfl, rfl, nv9, U H9⟩
       | ok a9 s9 =>
         have HR9 := br hq9 HR8;replace HC9 := Hi (rql_ok (U HC9) hq9);clear hq9 hp9;go_wp2_with (go_at_call 105; refine (U HC9).mono ?_)
         rintro e w9 ⟨ka9, kc9, nv9, rfl, hk9, h9⟩
         have H9 := Hi ((U H9p).trans h9);have HK9 := Hi hk9;clear h9 hk9;have hp10 := bd_ne (p := putP ⟨47, a8, 1, a9, s.tk.2.2.1⟩) (U HR9) (U HNE);obtain ⟨a10, s10, hq10⟩ : ∃ a s', putP ⟨47, a8, 1, a9, s.tk.2.2.1⟩ s9 = .ok a s' := put_ex hp10;have HC10 := Hi (rq_ok (put_rq (U H9).1 ⟨47, a8, 1, a9, s.tk.2.2.1⟩ ka9 kc9 (U HK9) hp10) hq10);have HR10 := br hq10 HR9;clear hq10 hp10;simp only [e0'] at HC10;go_wp2_with (go_at_call 32; refine (U HC10).mono ?_)
         rintro e w10 ⟨rfl, nv10, h10⟩
         have H10 := Hi ((U H9).trans h10);replace HK9 := Hi ((U HK9).fz (U H9).1 h10);clear h10;have hR10 : (.ok [a10] s10 : Res (List Nat)) = R := U HR10;subst hR10;go_wp2;go_ret;exact ⟨rfl, nv10, U H10⟩
theorem exported_step {E : En} (hE : E.Ok) {n : Nat}  (IV : IHA E n (.variable 1) 61 #[.pointer (some ⟨E.M, 0, none⟩), .int .i64 1]) (ID : IHA E n .declaration 73 #[.pointer (some ⟨E.M, 0, none⟩)]) : IHA E (n + 1) .exported 209 #[.pointer (some ⟨E.M, 0, none⟩)] := by
 intro nv s W h hne;obtain ⟨R, hR⟩ : ∃ R, parP E.c (n + 1) .exported s = R := ⟨_, rfl⟩;rw [hR] at hne ⊢;simp only [parP, bodyP] at hR;have HR0 := Hi hR;have H0 := Hi (Lf.refl h);have HE := Hi hE;have HNE := Hi hne;have HIV := Hi IV;have HID := Hi ID;clear hR hne h hE IV ID;go_enter Tryz.func209, Tryz.ntmps209;have HC1 := Hi (ris_any E.M E.tv s.n s.tk nv E.lv E.cv E.bv W (U H0).1.rd (U H0).1.by' ⟨#[99, 111, 110, 115, 116]⟩ [99, 111, 110, 115, 116] ⟨rfl, by intro z hz; simp at hz; omega⟩);have hR1 := U HR0;rw [bd_ok (p := testP (isP [99, 111, 110, 115, 116])) rfl] at hR1;have HR1 := Hi hR1;clear hR1;obtain ⟨b1, hb1⟩ : ∃ b, isP [99, 111, 110, 115, 116] s = b := ⟨_, rfl⟩;rw [show isT s.tk [99, 111, 110, 115, 116] = b1 from hb1] at HC1;simp only [hb1] at HR1;clear hb1;go_wp2_with (go_at_call 92; refine (U HC1).mono ?_)
 rintro e w1 ⟨rfl, h1⟩
 have H1 := Hi ((U H0).below h1);clear h1;cases b1 with
 | false =>
   simp only [Bool.false_eq_true, if_false] at HR1;have HC2 := Hi (declares_any E.M E.tv s.n s.tk nv E.lv E.cv E.bv w1 (U H1).1.rd (U H1).1.by');have hR2 := U HR1;rw [bd_ok (p := markP) rfl] at hR2;obtain ⟨b2, hb2⟩ : ∃ b, declL.contains (mark s.tk) = b := ⟨_, rfl⟩;rw [hb2] at HC2 hR2;have HR2 := Hi hR2;clear hb2 hR2;go_wp2_with (go_at_call 72; refine (U HC2).mono ?_)
   rintro e w2 ⟨rfl, h2⟩
   have H2 := Hi ((U H1).below h2);clear h2;cases b2 with
   | false =>
     have HC3 := Hi (refuse_any (.pointer (some ⟨E.M, 0, none⟩)) w2);have hR3 : (.no s : Res (List Nat)) = R := U HR2;subst hR3;go_wp2_with (go_at_call 52; refine (U HC3).mono ?_)
     rintro e w3 ⟨rfl, h3⟩
     have H3 := Hi ((U H2).below h3);clear h3;go_wp2;exact ⟨rfl, rfl, nv, U H3⟩
   | true =>
     have hp4 : parP E.c n .declaration s ≠ .out := fun e => U HNE ((U HR2).symm.trans e)
     have HC4 := Hi (U HID _ _ _ (U H2).1 hp4);cases hq4 : parP E.c n .declaration s with
     | out => exact absurd hq4 hp4
     | no s4 =>
       have hR4 := hq4.symm.trans (U HR2);subst hR4;replace HC4 := rn HC4 hq4;clear hq4 hp4;go_wp2_with (go_at_call 73; refine (U HC4).mono ?_)
       rintro e w4 ⟨rfl, nv4, h4⟩
       have H4 := Hi ((U H2).trans h4);clear h4;go_wp2;exact ⟨rfl, rfl, nv4, U H4⟩
     | ok a4 s4 =>
       have HR4 := Hi (hq4.symm.trans (U HR2));replace HC4 := ro HC4 hq4;clear hq4 hp4;go_wp2_with (go_at_call 73; refine (U HC4).mono ?_)
       rintro e w4 ⟨rfl, nv4, h4⟩
       have H4 := Hi ((U H2).trans h4);clear h4;have hR4 := U HR4;subst hR4;go_wp2;go_ret;exact ⟨rfl, nv4, U H4⟩
 | true =>
   simp only [if_true] at HR1;have hp5 : parP E.c n (.variable 1) s ≠ .out := fun e => U HNE ((U HR1).symm.trans e)
   have HC5 := Hi (U HIV _ _ _ (U H1).1 hp5);cases hq5 : parP E.c n (.variable 1) s with
   | out => exact absurd hq5 hp5
   | no s5 =>
     have hR5 := hq5.symm.trans (U HR1);subst hR5;replace HC5 := rn HC5 hq5;clear hq5 hp5;go_wp2_with (go_at_call 61; refine (U HC5).mono ?_)
     rintro e w5 ⟨rfl, nv5, h5⟩
     have H5 := Hi ((U H1).trans h5);clear h5;go_wp2;exact ⟨rfl, rfl, nv5, U H5⟩
   | ok a5 s5 =>
     have HR5 := Hi (hq5.symm.trans (U HR1));replace HC5 := ro HC5 hq5;clear hq5 hp5;go_wp2_with (go_at_call 61; refine (U HC5).mono ?_)
     rintro e w5 ⟨rfl, nv5, h5⟩
     have H5 := Hi ((U H1).trans h5);clear h5;have hR5 := U HR5;subst hR5;go_wp2;go_ret;exact ⟨rfl, nv5, U H5⟩
theorem try_step {E : En} (hE : E.Ok) {n : Nat}  (IB : IHA E n .block 60 #[.pointer (some ⟨E.M, 0, none⟩)]) (IC : IHA E n .caught 112 #[.pointer (some ⟨E.M, 0, none⟩)]) (IM : IHA E n (.maybe [102, 105, 110, 97, 108, 108, 121] .block) 104 #[.pointer (some ⟨E.M, 0, none⟩), .string ⟨#[102, 105, 110, 97, 108, 108, 121]⟩, .func (.func 60) #[.pointer (some ⟨E.M, 0, none⟩)] #[]]) : IHA E (n + 1) .try' 71 #[.pointer (some ⟨E.M, 0, none⟩)] := by
 intro nv s W h hne;obtain ⟨R, hR⟩ : ∃ R, parP E.c (n + 1) .try' s = R := ⟨_, rfl⟩;rw [hR] at hne ⊢;simp only [parP, bodyP] at hR;have HR0 := Hi hR;have H0 := Hi (Lf.refl h);have HE := Hi hE;have HNE := Hi hne;have HIB := Hi IB;have HIC := Hi IC;have HIM := Hi IM;clear hR hne h hE IB IC IM;go_enter Tryz.func71, Tryz.ntmps71;have hp1 := bd_ne (p := nextP E.c) (U HR0) (U HNE);obtain ⟨a1, s1, hq1⟩ : ∃ a s', nextP E.c s = .ok a s' := next_ok hp1;have HC1 := Hi (rq_ok (next_rq (U HE) (U H0).1 hp1) hq1);have HR1 := br hq1 HR0;clear hq1 hp1;unfold tkV at HC1;go_wp2_with (go_at_call 53; refine (U HC1).mono ?_)
 rintro e w1 ⟨rfl, nv1, h1⟩
 have H1 := Hi ((U H0).trans h1);clear h1;have q21 := tf2 a1.1 (strOfNums a1.2.1) (a1.2.2.1 : Int) (a1.2.2.2 : Int) w1;have hp2 := bd_ne (p := parP E.c n .block) (U HR1) (U HNE);have HC2 := Hi (U HIB _ _ _ (U H1).1 hp2);cases hq2 : parP E.c n .block s1 with
 | out => exact absurd hq2 hp2
 | no s2 =>
   have hR2 := (bd_no hq2).symm.trans (U HR1);subst hR2;replace HC2 := rn HC2 hq2;clear hq2 hp2;go_wp2_with (go_at_call 60; refine (U HC2).mono ?_)
   rintro e w2 ⟨rfl, nv2, h2⟩
   have H2 := Hi ((U H1).trans h2);clear h2;go_wp2;exact ⟨rfl, rfl, nv2, U H2⟩
 | ok a2 s2 =>
   have HR2 := br hq2 HR1;replace HC2 := ro HC2 hq2;clear hq2 hp2;go_wp2_with (go_at_call 60; refine (U HC2).mono ?_)
   rintro e w2 ⟨rfl, nv2, h2⟩
   have H2 := Hi ((U H1).trans h2);clear h2;have hR3 := U HR2;rw [bd_ok (p := testP (fun s => isP [99, 97, 116, 99, 104] s || isP [102, 105, 110, 97, 108, 108, 121] s)) rfl] at hR3;obtain ⟨b3_0, hb3_0⟩ : ∃ b, isP [99, 97, 116, 99, 104] s2 = b := ⟨_, rfl⟩;simp only [hb3_0] at hR3;have HB3_0 := Hi (show isT s2.tk [99, 97, 116, 99, 104] = b3_0 from hb3_0);clear hb3_0;obtain ⟨b3_1, hb3_1⟩ : ∃ b, isP [102, 105, 110, 97, 108, 108, 121] s2 = b := ⟨_, rfl⟩;simp only [hb3_1] at hR3;have HB3_1 := Hi (show isT s2.tk [102, 105, 110, 97, 108, 108, 121] = b3_1 from hb3_1);clear hb3_1;have HR3 := Hi hR3;clear hR3;have H3 := Hi (U H2);have HC4 := Hi (ris_any E.M E.tv s2.n s2.tk nv2 E.lv E.cv E.bv w2 (U H3).1.rd (U H3).1.by' ⟨#[99, 97, 116, 99, 104]⟩ [99, 97, 116, 99, 104] ⟨rfl, by intro z hz; simp at hz; omega⟩);rw [U HB3_0] at HC4;go_wp2_with (go_at_call 92; refine (U HC4).mono ?_)
   rintro e w4 ⟨rfl, h4⟩
   have H4 := Hi ((U H3).below h4);have HR4 := Hi (U HR3);clear h4;cases b3_0 with
   | false =>
     have HC5 := Hi (ris_any E.M E.tv s2.n s2.tk nv2 E.lv E.cv E.bv w4 (U H4).1.rd (U H4).1.by' ⟨#[102, 105, 110, 97, 108, 108, 121]⟩ [102, 105, 110, 97, 108, 108, 121] ⟨rfl, by intro z hz; simp at hz; omega⟩);rw [U HB3_1] at HC5;go_wp2_with (go_at_call 92; refine (U HC5).mono ?_)
     rintro e w5 ⟨rfl, h5⟩
     have H5 := Hi ((U H4).below h5);have HR5 := Hi (U HR4);clear h5;cases b3_1 with
     | false =>
       have HC6 := Hi (refuse_any (.pointer (some ⟨E.M, 0, none⟩)) w5);have hR6 : (.no s2 : Res (List Nat)) = R := U HR5;subst hR6;go_wp2_with (go_at_call 52; refine (U HC6).mono ?_)
       rintro e w6 ⟨rfl, h6⟩
       have H6 := Hi ((U H5).below h6);clear h6;go_wp2;exact ⟨rfl, rfl, nv2, U H6⟩
     | true =>
       have hp7 := bd_ne (p := parP E.c n .caught) (U HR5) (U HNE);have HC7 := Hi (U HIC _ _ _ (U H5).1 hp7);cases hq7 : parP E.c n .caught s2 with
       | out => exact absurd hq7 hp7
       | no s7 =>
         have hR7 := (bd_no hq7).symm.trans (U HR5);subst hR7;replace HC7 := rn HC7 hq7;clear hq7 hp7;go_wp2_with (go_at_call 112; refine (U HC7).mono ?_)
         rintro e w7 ⟨rfl, nv7, h7⟩
         have H7 := Hi ((U H5).trans h7);clear h7;go_wp2;exact ⟨rfl, rfl, nv7, U H7⟩
       | ok a7 s7 =>
         have HR7 := br hq7 HR5;replace HC7 := ro HC7 hq7;clear hq7 hp7;go_wp2_with (go_at_call 112; refine (U HC7).mono ?_)
         rintro e w7 ⟨rfl, nv7, h7⟩
         have H7 := Hi ((U H5).trans h7);clear h7;have hp8 := bd_ne (p := parP E.c n (.maybe [102, 105, 110, 97, 108, 108, 121] .block)) (U HR7) (U HNE);have HC8 := Hi (U HIM _ _ _ (U H7).1 hp8);cases hq8 : parP E.c n (.maybe [102, 105, 110, 97, 108, 108, 121] .block) s7 with
         | out => exact absurd hq8 hp8
         | no s8 =>
           have hR8 := (bd_no hq8).symm.trans (U HR7);subst hR8;replace HC8 := rn HC8 hq8;clear hq8 hp8;go_wp2_with (go_at_call 104; refine (U HC8).mono ?_)
           rintro e w8 ⟨rfl, nv8, h8⟩
           have H8 := Hi ((U H7).trans h8);clear h8;go_wp2;exact ⟨rfl, rfl, nv8, U H8⟩
         | ok a8 s8 =>
           have HR8 := br hq8 HR7;replace HC8 := ro HC8 hq8;clear hq8 hp8;go_wp2_with (go_at_call 104; refine (U HC8).mono ?_)
           rintro e w8 ⟨rfl, nv8, h8⟩
           have H8 := Hi ((U H7).trans h8);clear h8;have hp9 := bd_ne (p := putP ⟨61, [], 0, [hd0 a2, hd0 a7, hd0 a8], a1.2.2.1⟩) (U HR8) (U HNE);obtain ⟨a9, s9, hq9⟩ : ∃ a s', putP ⟨61, [], 0, [hd0 a2, hd0 a7, hd0 a8], a1.2.2.1⟩ s8 = .ok a s' := put_ex hp9;have H9p := Hi ((U H8).below ((Below.refl _ w8).alloc NL (.cells #[.int .i64 ((hd0 a2 : Nat) : Int), .int .i64 ((hd0 a7 : Nat) : Int), .int .i64 ((hd0 a8 : Nat) : Int)] 3)));have HC9 := Hi (rq_ok (put_rq (U H9p).1 _ _ _ (kid3 w8 (hd0 a2) (hd0 a7) (hd0 a8) (U H8).1.zl) hp9) hq9);simp only [e0', List.length_cons, List.length_nil] at HC9;have HR9 := br hq9 HR8;clear hq9 hp9;go_wp2_with (go_at_call 32; refine (U HC9).mono ?_)
           rintro e w9 ⟨rfl, nv9, h9⟩
           have H9 := Hi ((U H9p).trans h9);clear h9;have hR9 : (.ok [a9] s9 : Res (List Nat)) = R := U HR9;subst hR9;go_wp2;go_ret;exact ⟨rfl, nv9, U H9⟩
   | true =>
     have hp10 := bd_ne (p := parP E.c n .caught) (U HR4) (U HNE);have HC10 := Hi (U HIC _ _ _ (U H4).1 hp10);cases hq10 : parP E.c n .caught s2 with
     | out => exact absurd hq10 hp10
     | no s10 =>
       have hR10 := (bd_no hq10).symm.trans (U HR4);subst hR10;replace HC10 := rn HC10 hq10;clear hq10 hp10;go_wp2_with (go_at_call 112; refine (U HC10).mono ?_)
       rintro e w10 ⟨rfl, nv10, h10⟩
       have H10 := Hi ((U H4).trans h10);clear h10;go_wp2;exact ⟨rfl, rfl, nv10, U H10⟩
     | ok a10 s10 =>
       have HR10 := br hq10 HR4;replace HC10 := ro HC10 hq10;clear hq10 hp10;go_wp2_with (go_at_call 112; refine (U HC10).mono ?_)
       rintro e w10 ⟨rfl, nv10, h10⟩
       have H10 := Hi ((U H4).trans h10);clear h10;have hp11 := bd_ne (p := parP E.c n (.maybe [102, 105, 110, 97, 108, 108, 121] .block)) (U HR10) (U HNE);have HC11 := Hi (U HIM _ _ _ (U H10).1 hp11);cases hq11 : parP E.c n (.maybe [102, 105, 110, 97, 108, 108, 121] .block) s10 with
       | out => exact absurd hq11 hp11
       | no s11 =>
         have hR11 := (bd_no hq11).symm.trans (U HR10);subst hR11;replace HC11 := rn HC11 hq11;clear hq11 hp11;go_wp2_with (go_at_call 104; refine (U HC11).mono ?_)
         rintro e w11 ⟨rfl, nv11, h11⟩
         have H11 := Hi ((U H10).trans h11);clear h11;go_wp2;exact ⟨rfl, rfl, nv11, U H11⟩
       | ok a11 s11 =>
         have HR11 := br hq11 HR10;replace HC11 := ro HC11 hq11;clear hq11 hp11;go_wp2_with (go_at_call 104; refine (U HC11).mono ?_)
         rintro e w11 ⟨rfl, nv11, h11⟩
         have H11 := Hi ((U H10).trans h11);clear h11;have hp12 := bd_ne (p := putP ⟨61, [], 0, [hd0 a2, hd0 a10, hd0 a11], a1.2.2.1⟩) (U HR11) (U HNE);obtain ⟨a12, s12, hq12⟩ : ∃ a s', putP ⟨61, [], 0, [hd0 a2, hd0 a10, hd0 a11], a1.2.2.1⟩ s11 = .ok a s' := put_ex hp12;have H12p := Hi ((U H11).below ((Below.refl _ w11).alloc NL (.cells #[.int .i64 ((hd0 a2 : Nat) : Int), .int .i64 ((hd0 a10 : Nat) : Int), .int .i64 ((hd0 a11 : Nat) : Int)] 3)));have HC12 := Hi (rq_ok (put_rq (U H12p).1 _ _ _ (kid3 w11 (hd0 a2) (hd0 a10) (hd0 a11) (U H11).1.zl) hp12) hq12);simp only [e0', List.length_cons, List.length_nil] at HC12;have HR12 := br hq12 HR11;clear hq12 hp12;go_wp2_with (go_at_call 32; refine (U HC12).mono ?_)
         rintro e w12 ⟨rfl, nv12, h12⟩
         have H12 := Hi ((U H12p).trans h12);clear h12;have hR12 : (.ok [a12] s12 : Res (List Nat)) = R := U HR12;subst hR12;go_wp2;go_ret;exact ⟨rfl, nv12, U H12⟩
def ctV : List Nat → Value
 | [] => .tuple #[.int .i64 0, .bool false]
 | y :: _ => .tuple #[.int .i64 ((y : Nat) : Int), .bool true]
def IHC (E : En) (n : Nat) : Prop := ∀ nv s W, RAt E nv s W → parP E.c n .callTypes s ≠ .out → Calls Tryz.prog 227 #[.pointer (some ⟨E.M, 0, none⟩)] W (RQ E ctV nv s W (parP E.c n .callTypes s))
theorem call_ex {c : Cx} {n : Nat} {s : PS} (h : parP c n .callTypes s ≠ .out) : ∃ a s', parP c n .callTypes s = .ok a s' := by
 cases n with
 | zero => exact absurd rfl h
 | succ n =>
   simp only [parP, bodyP] at h ⊢;split
   · exact ⟨_, _, rfl⟩
   · rename_i h1
     rw [if_neg h1] at h;cases hq : parP c n .typeArgs s with
     | out => rw [hq] at h; exact absurd rfl h
     | no s' => exact ⟨_, _, rfl⟩
     | ok l s' =>
       simp only;split
       · exact ⟨_, _, rfl⟩
       · exact ⟨_, _, rfl⟩
def One (c : Cx) (n : Nat) (x : Cmd) : Prop := ∀ s l s', parP c n x s = .ok l s' → ∃ y, l = [y]
theorem one1_one {p : Pr Nat} {s s' : PS} {l : List Nat} (h : one1 p s = .ok l s') : ∃ y, l = [y] := by
 unfold one1 bd rt at h;split at h
 · cases h; exact ⟨_, rfl⟩
 · cases h
 · cases h
theorem bd_inv {α β : Type} {p : Pr α} {k : α → Pr β} {s s' : PS} {b : β} (h : bd p k s = .ok b s') : ∃ a s1, p s = .ok a s1 ∧ k a s1 = .ok b s' := by
 unfold bd at h;split at h
 · exact ⟨_, _, by assumption, h⟩
 · cases h
 · cases h
theorem typeArgs_one (c : Cx) (n : Nat) : One c n .typeArgs := by
 intro s l s' h;cases n with
 | zero => cases h
 | succ n =>
   simp only [parP, bodyP] at h;obtain ⟨b, s1, h1, h2⟩ := bd_inv h;cases b with
   | false => exact one1_one h2
   | true =>
     obtain ⟨_, s2, _, h3⟩ := bd_inv (p := nextP c) h2;obtain ⟨_, s3, _, h4⟩ := bd_inv h3;obtain ⟨_, s4, _, h5⟩ := bd_inv h4;exact one1_one h5
theorem call_len {c : Cx} {n : Nat} {s s' : PS} {l : List Nat} (h : parP c n .callTypes s = .ok l s') : l = [] ∨ ∃ y, l = [y] := by
 cases n with
 | zero => cases h
 | succ n =>
   simp only [parP, bodyP] at h;split at h
   · cases h; exact .inl rfl
   · split at h
     · rename_i hq
       split at h
       · cases h; exact .inr (typeArgs_one c n _ _ _ hq)
       · cases h; exact .inl rfl
     · cases h; exact .inl rfl
     · cases h
theorem rqc_ok {E : En} {nv : Value} {s : PS} {W : World} {r : Res (List Nat)} {f : Nat} {args : Array Value} (h : Calls Tryz.prog f args W (RQ E ctV nv s W r)) {a : List Nat} {s' : PS} (hr : r = .ok a s') : Calls Tryz.prog f args W fun e A => e = .returned (ctV a) ∧ ∃ nv', Lf E nv s W nv' s' A := by
 subst hr;exact h
theorem postfix_step {E : En} (hE : E.Ok) {n : Nat}  (IP : IHA E n .primary 226 #[.pointer (some ⟨E.M, 0, none⟩)]) (IX : ∀ m, m ≤ n → IHA E m .expr 24 #[.pointer (some ⟨E.M, 0, none⟩)]) (IA : ∀ m, m ≤ n → IHA E m .args 228 #[.pointer (some ⟨E.M, 0, none⟩)]) (IC : ∀ m, m ≤ n → IHC E m) : IHA E (n + 1) .postfix 205 #[.pointer (some ⟨E.M, 0, none⟩)] := by
 intro nv s W h hne;obtain ⟨R, hR⟩ : ∃ R, parP E.c (n + 1) .postfix s = R := ⟨_, rfl⟩;rw [hR] at hne ⊢;simp only [parP, bodyP] at hR;have HR0 := Hi hR;have H0 := Hi (Lf.refl h);have HE := Hi hE;have HNE := Hi hne;have HIP := Hi IP;have HIX := Hi IX;have HIA := Hi IA;have HIC := Hi IC;clear hR hne h hE IP IX IA IC;go_enter Tryz.func205, Tryz.ntmps205;go_wp2;go_step3
 have d1 := (U H0).1.rd.tok.2.2.1;have hl1 := (U H0).1.rd.lt;have hR1 := U HR0;rw [bd_ok (p := atP) rfl] at hR1;replace HR0 := Hi hR1;clear hR1;have hp2 := bd_ne (p := parP E.c n .primary) (U HR0) (U HNE);have HC2 := Hi (U HIP _ _ _ (U H0).1 hp2);cases hq2 : parP E.c n .primary s with
 | out => exact absurd hq2 hp2
 | no s2 =>
   have hR2 := (bd_no hq2).symm.trans (U HR0);subst hR2;replace HC2 := rn HC2 hq2;clear hq2 hp2;go_wp2_with (go_at_call 226; refine (U HC2).mono ?_)
   rintro e w2 ⟨rfl, nv2, h2⟩
   have H2 := Hi ((U H0).trans h2);clear h2;go_wp2;exact ⟨rfl, rfl, nv2, U H2⟩
 | ok a2 s2 =>
   have HR2 := br hq2 HR0;replace HC2 := ro HC2 hq2;clear hq2 hp2;go_wp2_with (go_at_call 226; refine (U HC2).mono ?_)
   rintro e w2 ⟨rfl, nv2, h2⟩
   have H2 := Hi ((U H0).trans h2);clear h2;go_wp2;go_step3
   go_wp2;go_loopw [4] (fun t wr => Hid (∃ m, LpI E nv s W n R (.postLoop (s.tk.2.2.1)) m t wr)) (fun t wr => leastN fun m => LpI E nv s W n R (.postLoop (s.tk.2.2.1)) m t wr)
   case atStart => exact ⟨n, NL, hd0 a2, nv2, s2, rfl, U H2, U HR2⟩
   case round =>
    obtain ⟨m, hm⟩ := U hrel;obtain ⟨hmn, k, nv3, s3, rfl, h3, hR3⟩ := leastN_spec (P := fun m => LpI E nv s W n R (.postLoop (s.tk.2.2.1)) m _ wr) hm;obtain ⟨m0, hm0⟩ : ∃ m0, (leastN fun m => LpI E nv s W n R (.postLoop (s.tk.2.2.1)) m (.int .i64 (k : Int)) wr) = m0 := ⟨_, rfl⟩;rw [hm0] at hmn hR3;have HM0 := Hi hm0;clear hm hrel hm0 HR2 H2;cases m0 with
    | zero => exact absurd hR3.symm (U HNE)
    | succ m1 =>
      simp only [parP, bodyP] at hR3;have HR3 := Hi hR3;have H3 := Hi h3;clear hR3 h3;have hp4 := bd_ne (p := takeP E.c [46]) (U HR3) (U HNE);obtain ⟨b4, s4, hq4⟩ := take_ok hp4;have HC4 := Hi (rq_ok (take_rq (U HE) (U H3).1 (x := ⟨#[46]⟩) ⟨rfl, by intro z hz; simp at hz; omega⟩ hp4) hq4);have HR4 := br hq4 HR3;clear hq4 hp4;go_wp2_with (go_at_call 42; refine (U HC4).mono ?_)
      rintro e w4 ⟨rfl, nv4, h4⟩
      have H4 := Hi ((U H3).trans h4);clear h4;cases b4 with
      | false =>
        have hp5 := bd_ne (p := takeP E.c [91]) (U HR4) (U HNE);obtain ⟨b5, s5, hq5⟩ := take_ok hp5;have HC5 := Hi (rq_ok (take_rq (U HE) (U H4).1 (x := ⟨#[91]⟩) ⟨rfl, by intro z hz; simp at hz; omega⟩ hp5) hq5);have HR5 := br hq5 HR4;clear hq5 hp5;go_wp2_with (go_at_call 42; refine (U HC5).mono ?_)
        rintro e w5 ⟨rfl, nv5, h5⟩
        have H5 := Hi ((U H4).trans h5);clear h5;cases b5 with
        | false =>
          have hp6 := bd_ne (p := takeP E.c [33]) (U HR5) (U HNE);obtain ⟨b6, s6, hq6⟩ := take_ok hp6;have HC6 := Hi (rq_ok (take_rq (U HE) (U H5).1 (x := ⟨#[33]⟩) ⟨rfl, by intro z hz; simp at hz; omega⟩ hp6) hq6);have HR6 := br hq6 HR5;clear hq6 hp6;go_wp2_with (go_at_call 42; refine (U HC6).mono ?_)
          rintro e w6 ⟨rfl, nv6, h6⟩
          have H6 := Hi ((U H5).trans h6);clear h6;cases b6 with
          | false =>
            have hp7 := bd_ne (p := parP E.c m1 .callTypes) (U HR6) (U HNE);have HC7 := Hi (U HIC m1 (by omega) _ _ _ (U H6).1 hp7);obtain ⟨a7, s7, hq7⟩ := call_ex hp7;have HR7 := br hq7 HR6;replace HC7 := Hi (rqc_ok (U HC7) hq7);have hl17 := call_len hq7;clear hq7 hp7;rcases hl17 with rfl | ⟨y7, rfl⟩
            · skip
              simp only [ctV] at HC7;go_wp2_with (go_at_call 227; refine (U HC7).mono ?_)
              rintro e w7 ⟨rfl, nv7, h7⟩
              have H7 := Hi ((U H6).trans h7);clear h7;have hR7 : (.ok [k] s7 : Res (List Nat)) = R := U HR7;subst hR7;go_wp2
              first | (rw [Exit.noGoto_ret]; go_ret) | go_ret
              exact ⟨rfl, nv7, U H7⟩
            · skip
              simp only [ctV] at HC7;go_wp2_with (go_at_call 227; refine (U HC7).mono ?_)
              rintro e w7 ⟨rfl, nv7, h7⟩
              have H7 := Hi ((U H6).trans h7);replace HR7 := Hi (show (bd (parP E.c m1 .args) fun a => bd (putP ⟨27, [], 0, [k, y7, hd0 a], s.tk.2.2.1⟩) fun y => parP E.c m1 (.postLoop (s.tk.2.2.1) y)) s7 = R from U HR7);clear h7;have hp8 := bd_ne (p := parP E.c m1 .args) (U HR7) (U HNE);have HC8 := Hi (U HIA m1 (by omega) _ _ _ (U H7).1 hp8);cases hq8 : parP E.c m1 .args s7 with
              | out => exact absurd hq8 hp8
              | no s8 =>
                have hR8 := (bd_no hq8).symm.trans (U HR7);subst hR8;replace HC8 := rn HC8 hq8;clear hq8 hp8;go_wp2_with (go_at_call 228; refine (U HC8).mono ?_)
                rintro e w8 ⟨rfl, nv8, h8⟩
                have H8 := Hi ((U H7).trans h8);clear h8;go_wp2;exact ⟨rfl, rfl, nv8, U H8⟩
              | ok a8 s8 =>
                have HR8 := br hq8 HR7;replace HC8 := ro HC8 hq8;clear hq8 hp8;go_wp2_with (go_at_call 228; refine (U HC8).mono ?_)
                rintro e w8 ⟨rfl, nv8, h8⟩
                have H8 := Hi ((U H7).trans h8);clear h8;have hp9 := bd_ne (p := putP ⟨27, [], 0, [k, y7, hd0 a8], s.tk.2.2.1⟩) (U HR8) (U HNE);obtain ⟨a9, s9, hq9⟩ : ∃ a s', putP ⟨27, [], 0, [k, y7, hd0 a8], s.tk.2.2.1⟩ s8 = .ok a s' := put_ex hp9;have H9p := Hi ((U H8).below ((Below.refl _ w8).alloc NL (.cells #[.int .i64 ((k : Nat) : Int), .int .i64 ((y7 : Nat) : Int), .int .i64 ((hd0 a8 : Nat) : Int)] 3)));have HC9 := Hi (rq_ok (put_rq (U H9p).1 _ _ _ (kid3 w8 (k) (y7) (hd0 a8) (U H8).1.zl) hp9) hq9);simp only [e0', List.length_cons, List.length_nil] at HC9;have HR9 := br hq9 HR8;clear hq9 hp9;go_wp2_with (go_at_call 32; refine (U HC9).mono ?_)
                rintro e w9 ⟨rfl, nv9, h9⟩
                have H9 := Hi ((U H9p).trans h9);clear h9;go_wp2;have hI : LpI E nv s W n R (.postLoop (s.tk.2.2.1)) m1 (.int .i64 ((a9 : Nat) : Int)) _ := ⟨by omega, _, nv9, s9, rfl, U H9, U HR9⟩;exact ⟨⟨_, hI⟩, by rw [U HM0]; exact Nat.lt_succ_of_le (leastN_le hI)⟩
          | true =>
            have hp10 := bd_ne (p := putP ⟨34, [], 0, [k], s.tk.2.2.1⟩) (U HR6) (U HNE);obtain ⟨a10, s10, hq10⟩ : ∃ a s', putP ⟨34, [], 0, [k], s.tk.2.2.1⟩ s6 = .ok a s' := put_ex hp10;have H10p := Hi ((U H6).below ((Below.refl _ w6).alloc NL (.cells #[.int .i64 ((k : Nat) : Int)] 3)));have HC10 := Hi (rq_ok (put_rq (U H10p).1 _ _ _ (kid1 w6 (k) (U H6).1.zl) hp10) hq10);simp only [e0', List.length_cons, List.length_nil] at HC10;have HR10 := br hq10 HR6;clear hq10 hp10;go_wp2_with (go_at_call 32; refine (U HC10).mono ?_)
            rintro e w10 ⟨rfl, nv10, h10⟩
            have H10 := Hi ((U H10p).trans h10);clear h10;go_wp2;have hI : LpI E nv s W n R (.postLoop (s.tk.2.2.1)) m1 (.int .i64 ((a10 : Nat) : Int)) _ := ⟨by omega, _, nv10, s10, rfl, U H10, U HR10⟩;exact ⟨⟨_, hI⟩, by rw [U HM0]; exact Nat.lt_succ_of_le (leastN_le hI)⟩
        | true =>
          have hp11 := bd_ne (p := parP E.c m1 .expr) (U HR5) (U HNE);have HC11 := Hi (U HIX m1 (by omega) _ _ _ (U H5).1 hp11);cases hq11 : parP E.c m1 .expr s5 with
          | out => exact absurd hq11 hp11
          | no s11 =>
            have hR11 := (bd_no hq11).symm.trans (U HR5);subst hR11;replace HC11 := rn HC11 hq11;clear hq11 hp11;go_wp2_with (go_at_call 24; refine (U HC11).mono ?_)
            rintro e w11 ⟨rfl, nv11, h11⟩
            have H11 := Hi ((U H5).trans h11);clear h11;go_wp2;exact ⟨rfl, rfl, nv11, U H11⟩
          | ok a11 s11 =>
            have HR11 := br hq11 HR5;replace HC11 := ro HC11 hq11;clear hq11 hp11;go_wp2_with (go_at_call 24; refine (U HC11).mono ?_)
            rintro e w11 ⟨rfl, nv11, h11⟩
            have H11 := Hi ((U H5).trans h11);clear h11;have hp12 := bd_ne (p := wantP E.c [93]) (U HR11) (U HNE);have HC12 := Hi (want_rq (U HE) (U H11).1 (x := ⟨#[93]⟩) ⟨rfl, by intro z hz; simp at hz; omega⟩ hp12);cases hq12 : wantP E.c [93] s11 with
            | out => exact absurd hq12 hp12
            | no s12 =>
              have hR12 := (bd_no hq12).symm.trans (U HR11);subst hR12;replace HC12 := rn HC12 hq12;clear hq12 hp12;go_wp2_with (go_at_call 94; refine (U HC12).mono ?_)
              rintro e w12 ⟨rfl, nv12, h12⟩
              have H12 := Hi ((U H11).trans h12);clear h12;go_wp2;exact ⟨rfl, rfl, nv12, U H12⟩
            | ok a12 s12 =>
              have HR12 := br hq12 HR11;replace HC12 := ro HC12 hq12;clear hq12 hp12;go_wp2_with (go_at_call 94; refine (U HC12).mono ?_)
              rintro e w12 ⟨rfl, nv12, h12⟩
              have H12 := Hi ((U H11).trans h12);clear h12;have hp13 := bd_ne (p := putP ⟨30, [], 0, [k, hd0 a11], s.tk.2.2.1⟩) (U HR12) (U HNE);obtain ⟨a13, s13, hq13⟩ : ∃ a s', putP ⟨30, [], 0, [k, hd0 a11], s.tk.2.2.1⟩ s12 = .ok a s' := put_ex hp13;have H13p := Hi ((U H12).below ((Below.refl _ w12).alloc NL (.cells #[.int .i64 ((k : Nat) : Int), .int .i64 ((hd0 a11 : Nat) : Int)] 3)));have HC13 := Hi (rq_ok (put_rq (U H13p).1 _ _ _ (kid2 w12 (k) (hd0 a11) (U H12).1.zl) hp13) hq13);simp only [e0', List.length_cons, List.length_nil] at HC13;have HR13 := br hq13 HR12;clear hq13 hp13;go_wp2_with (go_at_call 32; refine (U HC13).mono ?_)
              rintro e w13 ⟨rfl, nv13, h13⟩
              have H13 := Hi ((U H13p).trans h13);clear h13;go_wp2;have hI : LpI E nv s W n R (.postLoop (s.tk.2.2.1)) m1 (.int .i64 ((a13 : Nat) : Int)) _ := ⟨by omega, _, nv13, s13, rfl, U H13, U HR13⟩;exact ⟨⟨_, hI⟩, by rw [U HM0]; exact Nat.lt_succ_of_le (leastN_le hI)⟩
      | true =>
        have hp14 := bd_ne (p := nameP E.c) (U HR4) (U HNE);have HC14 := Hi (name_rq (U HE) (U H4).1 hp14);cases hq14 : nameP E.c s4 with
        | out => exact absurd hq14 hp14
        | no s14 =>
          have hR14 := (bd_no hq14).symm.trans (U HR4);subst hR14;replace HC14 := rn HC14 hq14;clear hq14 hp14;go_wp2_with (go_at_call 103; refine (U HC14).mono ?_)
          rintro e w14 ⟨rfl, nv14, h14⟩
          have H14 := Hi ((U H4).trans h14);clear h14;go_wp2;exact ⟨rfl, rfl, nv14, U H14⟩
        | ok a14 s14 =>
          have HR14 := br hq14 HR4;replace HC14 := ro HC14 hq14;clear hq14 hp14;go_wp2_with (go_at_call 103; refine (U HC14).mono ?_)
          rintro e w14 ⟨rfl, nv14, h14⟩
          have H14 := Hi ((U H4).trans h14);clear h14;have hp15 := bd_ne (p := putP ⟨29, a14, 0, [k], s.tk.2.2.1⟩) (U HR14) (U HNE);obtain ⟨a15, s15, hq15⟩ : ∃ a s', putP ⟨29, a14, 0, [k], s.tk.2.2.1⟩ s14 = .ok a s' := put_ex hp15;have H15p := Hi ((U H14).below ((Below.refl _ w14).alloc NL (.cells #[.int .i64 ((k : Nat) : Int)] 3)));have HC15 := Hi (rq_ok (put_rq (U H15p).1 _ _ _ (kid1 w14 (k) (U H14).1.zl) hp15) hq15);simp only [e0', List.length_cons, List.length_nil] at HC15;have HR15 := br hq15 HR14;clear hq15 hp15;go_wp2_with (go_at_call 32; refine (U HC15).mono ?_)
          rintro e w15 ⟨rfl, nv15, h15⟩
          have H15 := Hi ((U H15p).trans h15);clear h15;go_wp2;have hI : LpI E nv s W n R (.postLoop (s.tk.2.2.1)) m1 (.int .i64 ((a15 : Nat) : Int)) _ := ⟨by omega, _, nv15, s15, rfl, U H15, U HR15⟩;exact ⟨⟨_, hI⟩, by rw [U HM0]; exact Nat.lt_succ_of_le (leastN_le hI)⟩
theorem newThing_step {E : En} (hE : E.Ok) {n : Nat}  (IG : ∀ m, m ≤ n → IHA E m .typeArgs 202 #[.pointer (some ⟨E.M, 0, none⟩)]) (IA : ∀ m, m ≤ n → IHA E m .args 228 #[.pointer (some ⟨E.M, 0, none⟩)]) : IHA E (n + 1) .newThing 249 #[.pointer (some ⟨E.M, 0, none⟩)] := by
 intro nv s W h hne;obtain ⟨R, hR⟩ : ∃ R, parP E.c (n + 1) .newThing s = R := ⟨_, rfl⟩;rw [hR] at hne ⊢;simp only [parP, bodyP] at hR;have HR0 := Hi hR;have H0 := Hi (Lf.refl h);have HE := Hi hE;have HNE := Hi hne;have HIG := Hi IG;have HIA := Hi IA;clear hR hne h hE IG IA;go_enter Tryz.func249, Tryz.ntmps249;have hp1 := bd_ne (p := nextP E.c) (U HR0) (U HNE);obtain ⟨a1, s1, hq1⟩ : ∃ a s', nextP E.c s = .ok a s' := next_ok hp1;have HC1 := Hi (rq_ok (next_rq (U HE) (U H0).1 hp1) hq1);have HR1 := br hq1 HR0;clear hq1 hp1;unfold tkV at HC1;go_wp2_with (go_at_call 53; refine (U HC1).mono ?_)
 rintro e w1 ⟨rfl, nv1, h1⟩
 have H1 := Hi ((U H0).trans h1);clear h1;have q21 := tf2 a1.1 (strOfNums a1.2.1) (a1.2.2.1 : Int) (a1.2.2.2 : Int) w1;have d2 := (U H1).1.rd.tok.2.2.1;have hl2 := (U H1).1.rd.lt;have hR2 := U HR1;rw [bd_ok (p := atP) rfl] at hR2;replace HR1 := Hi hR2;clear hR2;have hp3 := bd_ne (p := nameP E.c) (U HR1) (U HNE);have HC3 := Hi (name_rq (U HE) (U H1).1 hp3);cases hq3 : nameP E.c s1 with
 | out => exact absurd hq3 hp3
 | no s3 =>
   have hR3 := (bd_no hq3).symm.trans (U HR1);subst hR3;replace HC3 := rn HC3 hq3;clear hq3 hp3;go_wp2_with (go_at_call 103; refine (U HC3).mono ?_)
   rintro e w3 ⟨rfl, nv3, h3⟩
   have H3 := Hi ((U H1).trans h3);clear h3;go_wp2;exact ⟨rfl, rfl, nv3, U H3⟩
 | ok a3 s3 =>
   have HR3 := br hq3 HR1;replace HC3 := ro HC3 hq3;clear hq3 hp3;go_wp2_with (go_at_call 103; refine (U HC3).mono ?_)
   rintro e w3 ⟨rfl, nv3, h3⟩
   have H3 := Hi ((U H1).trans h3);clear h3;have hp4 := bd_ne (p := putP ⟨17, a3, 0, [], s1.tk.2.2.1⟩) (U HR3) (U HNE);obtain ⟨a4, s4, hq4⟩ : ∃ a s', putP ⟨17, a3, 0, [], s1.tk.2.2.1⟩ s3 = .ok a s' := put_ex hp4;have HC4 := Hi (rq_ok (put_rq (U H3).1 ⟨17, a3, 0, [], s1.tk.2.2.1⟩ none 0 ⟨none, 0, rfl, NL, Nat.zero_le _, .inl rfl⟩ hp4) hq4);simp only [e0', List.length_cons, List.length_nil] at HC4;have HR4 := br hq4 HR3;clear hq4 hp4;go_wp2_with (go_at_call 32; refine (U HC4).mono ?_)
   rintro e w4 ⟨rfl, nv4, h4⟩
   have H4 := Hi ((U H3).trans h4);clear h4;go_wp2;go_loopw [5] (fun t wr => Hid (∃ m, LpI E nv s W n R (.newLoop a1.2.2.1 (s1.tk.2.2.1)) m t wr)) (fun t wr => leastN fun m => LpI E nv s W n R (.newLoop a1.2.2.1 (s1.tk.2.2.1)) m t wr)
   case atStart => exact ⟨n, NL, a4, nv4, s4, rfl, U H4, U HR4⟩
   case round =>
    obtain ⟨m, hm⟩ := U hrel;obtain ⟨hmn, k, nv5, s5, rfl, h5, hR5⟩ := leastN_spec (P := fun m => LpI E nv s W n R (.newLoop a1.2.2.1 (s1.tk.2.2.1)) m _ wr) hm;obtain ⟨m0, hm0⟩ : ∃ m0, (leastN fun m => LpI E nv s W n R (.newLoop a1.2.2.1 (s1.tk.2.2.1)) m (.int .i64 (k : Int)) wr) = m0 := ⟨_, rfl⟩;rw [hm0] at hmn hR5;have HM0 := Hi hm0;clear hm hrel hm0 HR4 H4;cases m0 with
    | zero => exact absurd hR5.symm (U HNE)
    | succ m1 =>
      simp only [parP, bodyP] at hR5;have HR5 := Hi hR5;have H5 := Hi h5;clear hR5 h5;have hp6 := bd_ne (p := takeP E.c [46]) (U HR5) (U HNE);obtain ⟨b6, s6, hq6⟩ := take_ok hp6;have HC6 := Hi (rq_ok (take_rq (U HE) (U H5).1 (x := ⟨#[46]⟩) ⟨rfl, by intro z hz; simp at hz; omega⟩ hp6) hq6);have HR6 := br hq6 HR5;clear hq6 hp6;go_wp2_with (go_at_call 42; refine (U HC6).mono ?_)
      rintro e w6 ⟨rfl, nv6, h6⟩
      have H6 := Hi ((U H5).trans h6);clear h6;cases b6 with
      | false =>
        have hp7 := bd_ne (p := parP E.c m1 .typeArgs) (U HR6) (U HNE);have HC7 := Hi (U HIG m1 (by omega) _ _ _ (U H6).1 hp7);cases hq7 : parP E.c m1 .typeArgs s6 with
        | out => exact absurd hq7 hp7
        | no s7 =>
          have hR7 := (bd_no hq7).symm.trans (U HR6);subst hR7;replace HC7 := rn HC7 hq7;clear hq7 hp7;go_wp2_with (go_at_call 202; refine (U HC7).mono ?_)
          rintro e w7 ⟨rfl, nv7, h7⟩
          have H7 := Hi ((U H6).trans h7);clear h7;go_wp2;exact ⟨rfl, rfl, nv7, U H7⟩
        | ok a7 s7 =>
          have HR7 := br hq7 HR6;replace HC7 := ro HC7 hq7;clear hq7 hp7;go_wp2_with (go_at_call 202; refine (U HC7).mono ?_)
          rintro e w7 ⟨rfl, nv7, h7⟩
          have H7 := Hi ((U H6).trans h7);clear h7;have hp8 := bd_ne (p := parP E.c m1 .args) (U HR7) (U HNE);have HC8 := Hi (U HIA m1 (by omega) _ _ _ (U H7).1 hp8);cases hq8 : parP E.c m1 .args s7 with
          | out => exact absurd hq8 hp8
          | no s8 =>
            have hR8 := (bd_no hq8).symm.trans (U HR7);subst hR8;replace HC8 := rn HC8 hq8;clear hq8 hp8;go_wp2_with (go_at_call 228; refine (U HC8).mono ?_)
            rintro e w8 ⟨rfl, nv8, h8⟩
            have H8 := Hi ((U H7).trans h8);clear h8;go_wp2;exact ⟨rfl, rfl, nv8, U H8⟩
          | ok a8 s8 =>
            have HR8 := br hq8 HR7;replace HC8 := ro HC8 hq8;clear hq8 hp8;go_wp2_with (go_at_call 228; refine (U HC8).mono ?_)
            rintro e w8 ⟨rfl, nv8, h8⟩
            have H8 := Hi ((U H7).trans h8);clear h8;have hp9 := bd_ne (p := putP ⟨28, [], 0, [k, hd0 a7, hd0 a8], a1.2.2.1⟩) (U HR8) (U HNE);obtain ⟨a9, s9, hq9⟩ : ∃ a s', putP ⟨28, [], 0, [k, hd0 a7, hd0 a8], a1.2.2.1⟩ s8 = .ok a s' := put_ex hp9;have H9p := Hi ((U H8).below ((Below.refl _ w8).alloc NL (.cells #[.int .i64 ((k : Nat) : Int), .int .i64 ((hd0 a7 : Nat) : Int), .int .i64 ((hd0 a8 : Nat) : Int)] 3)));have HC9 := Hi (rq_ok (put_rq (U H9p).1 _ _ _ (kid3 w8 (k) (hd0 a7) (hd0 a8) (U H8).1.zl) hp9) hq9);simp only [e0', List.length_cons, List.length_nil] at HC9;have HR9 := br hq9 HR8;clear hq9 hp9;go_wp2_with (go_at_call 32; refine (U HC9).mono ?_)
            rintro e w9 ⟨rfl, nv9, h9⟩
            have H9 := Hi ((U H9p).trans h9);clear h9;have hR9 : (.ok [a9] s9 : Res (List Nat)) = R := U HR9;subst hR9;go_wp2;go_ret;exact ⟨rfl, nv9, U H9⟩
      | true =>
        have hp10 := bd_ne (p := nameP E.c) (U HR6) (U HNE);have HC10 := Hi (name_rq (U HE) (U H6).1 hp10);cases hq10 : nameP E.c s6 with
        | out => exact absurd hq10 hp10
        | no s10 =>
          have hR10 := (bd_no hq10).symm.trans (U HR6);subst hR10;replace HC10 := rn HC10 hq10;clear hq10 hp10;go_wp2_with (go_at_call 103; refine (U HC10).mono ?_)
          rintro e w10 ⟨rfl, nv10, h10⟩
          have H10 := Hi ((U H6).trans h10);clear h10;go_wp2;exact ⟨rfl, rfl, nv10, U H10⟩
        | ok a10 s10 =>
          have HR10 := br hq10 HR6;replace HC10 := ro HC10 hq10;clear hq10 hp10;go_wp2_with (go_at_call 103; refine (U HC10).mono ?_)
          rintro e w10 ⟨rfl, nv10, h10⟩
          have H10 := Hi ((U H6).trans h10);clear h10;have hp11 := bd_ne (p := putP ⟨29, a10, 0, [k], s1.tk.2.2.1⟩) (U HR10) (U HNE);obtain ⟨a11, s11, hq11⟩ : ∃ a s', putP ⟨29, a10, 0, [k], s1.tk.2.2.1⟩ s10 = .ok a s' := put_ex hp11;have H11p := Hi ((U H10).below ((Below.refl _ w10).alloc NL (.cells #[.int .i64 ((k : Nat) : Int)] 3)));have HC11 := Hi (rq_ok (put_rq (U H11p).1 _ _ _ (kid1 w10 (k) (U H10).1.zl) hp11) hq11);simp only [e0', List.length_cons, List.length_nil] at HC11;have HR11 := br hq11 HR10;clear hq11 hp11;go_wp2_with (go_at_call 32; refine (U HC11).mono ?_)
          rintro e w11 ⟨rfl, nv11, h11⟩
          have H11 := Hi ((U H11p).trans h11);clear h11;go_wp2;have hI : LpI E nv s W n R (.newLoop a1.2.2.1 (s1.tk.2.2.1)) m1 (.int .i64 ((a11 : Nat) : Int)) _ := ⟨by omega, _, nv11, s11, rfl, U H11, U HR11⟩;exact ⟨⟨_, hI⟩, by rw [U HM0]; exact Nat.lt_succ_of_le (leastN_le hI)⟩
end
end Go.Proofs.YtofgphapjjofnaaGreatDoor
