/- Towards the law: QO QP. -/
import Derived.Lib.Agree
import Derived.Test.YtofgphapjjofnaaGreatDoorM3
import Derived.Test.YtofgphapjjofnaaGreatDoorMK
import Derived.Test.YtofgphapjjofnaaGreatDoorMM
import Derived.Test.YtofgphapjjofnaaGreatDoorMN
import Derived.Test.YtofgphapjjofnaaGreatDoorMP
set_option linter.unusedSimpArgs false
set_option linter.unusedVariables false
set_option maxRecDepth 100000
set_option maxHeartbeats 8000000
namespace Go.Proofs.YtofgphapjjofnaaGreatDoor
section
open Go.RowKit Go.Shelf
theorem classPart_step {E : En} (hE : E.Ok) {n : Nat}  (IM : IHA E n (.params .memberParam) 99 #[.pointer (some ⟨E.M, 0, none⟩), .func (.func 207) #[.pointer (some ⟨E.M, 0, none⟩)] #[]]) (IB : IHA E n .block 60 #[.pointer (some ⟨E.M, 0, none⟩)]) (IC : ∀ at' : Nat, IHA E n (.callable 45 at') 113 #[.pointer (some ⟨E.M, 0, none⟩), .int .i64 45, .int .i64 (at' : Int)]) (IF : IHA E n .field 208 #[.pointer (some ⟨E.M, 0, none⟩)]) : IHA E (n + 1) .classPart 164 #[.pointer (some ⟨E.M, 0, none⟩)] := by
 intro nv s W h hne;obtain ⟨R, hR⟩ : ∃ R, parP E.c (n + 1) .classPart s = R := ⟨_, rfl⟩;rw [hR] at hne ⊢;simp only [parP, bodyP] at hR;have HR0 := Hi hR;have H0 := Hi (Lf.refl h);have HE := Hi hE;have HNE := Hi hne;have HIM := Hi IM;have HIB := Hi IB;have HIC := Hi IC;have HIF := Hi IF;clear hR hne h hE IM IB IC IF;go_enter Tryz.func164, Tryz.ntmps164;have d1 := (U H0).1.rd.tok.2.2.1;have hl1 := (U H0).1.rd.lt;have hR1 := U HR0;rw [bd_ok (p := atP) rfl] at hR1;replace HR0 := Hi hR1;clear hR1;have hp2 := bd_ne (p := takeP E.c [99, 111, 110, 115, 116, 114, 117, 99, 116, 111, 114]) (U HR0) (U HNE);obtain ⟨b2, s2, hq2⟩ := take_ok hp2;have HC2 := Hi (rq_ok (take_rq (U HE) (U H0).1 (x := ⟨#[99, 111, 110, 115, 116, 114, 117, 99, 116, 111, 114]⟩) ⟨rfl, by intro z hz; simp at hz; omega⟩ hp2) hq2);have HR2 := br hq2 HR0;clear hq2 hp2;go_wp2_with (go_at_call 42; refine (U HC2).mono ?_)
 rintro e w2 ⟨rfl, nv2, h2⟩
 have H2 := Hi ((U H0).trans h2);clear h2;cases b2 with
 | false =>
   try simp only [Bool.false_eq_true, if_false] at HR2
   obtain ⟨t', ht'⟩ : ∃ t, behindP E.c 1 s2 = t := ⟨_, rfl⟩;have hbt : Bys t'.2.1 := by rw [← ht']; exact behind_ok (U HE).toks
   have HBH := Hi (behind_any E.M E.tv s2.n s2.tk nv2 E.lv E.cv E.bv w2 E.c.toks (U H2).1.rd (U H2).1.tk (U H2).1.le' 1 (by omega));rw [show E.c.toks.getD (min (s2.n + 1) (E.c.toks.length - 1)) tok0 = t' from ht'] at HBH;obtain ⟨b1, hb1⟩ : ∃ b, isT t' [60] = b := ⟨_, rfl⟩;obtain ⟨b2, hb2⟩ : ∃ b, isT t' [40] = b := ⟨_, rfl⟩
   have HI1 : Hid (∀ w', Calls Tryz.prog 62 #[.agg #[.int .i64 t'.1, .string (strOfNums t'.2.1), .int .i64 (t'.2.2.1 : Int), .int .i64 (t'.2.2.2 : Int)], .string ⟨#[60]⟩] w' fun e w'' => e = .returned (.bool b1) ∧ Below w'.heap.size w' w'') := fun w' => by
    have := is_any t' hbt ⟨#[60]⟩ [60] ⟨rfl, by intro z hz; simp at hz; omega⟩ w';rw [hb1] at this;exact this
   have HI2 : Hid (∀ w', Calls Tryz.prog 62 #[.agg #[.int .i64 t'.1, .string (strOfNums t'.2.1), .int .i64 (t'.2.2.1 : Int), .int .i64 (t'.2.2.2 : Int)], .string ⟨#[40]⟩] w' fun e w'' => e = .returned (.bool b2) ∧ Below w'.heap.size w' w'') := fun w' => by
    have := is_any t' hbt ⟨#[40]⟩ [40] ⟨rfl, by intro z hz; simp at hz; omega⟩ w';rw [hb2] at this;exact this
   obtain ⟨bF, hbF⟩ : ∃ b, (fun s => (s.tk.1 == 1) && (isT (behindP E.c 1 s) [60] || isT (behindP E.c 1 s) [40])) s2 = b := ⟨_, rfl⟩;have hT3 : testP (fun s => (s.tk.1 == 1) && (isT (behindP E.c 1 s) [60] || isT (behindP E.c 1 s) [40])) s2 = .ok bF s2 := by show Res.ok ((fun s => (s.tk.1 == 1) && (isT (behindP E.c 1 s) [60] || isT (behindP E.c 1 s) [40])) s2) s2 = _; rw [hbF]
   have hR3 := (bd_ok hT3).symm.trans (U HR2);have hbv : ((s2.tk.1 == 1) && (b1 || b2)) = bF := by rw [← hb1, ← hb2, ← ht']; exact hbF
   unfold tkV at HBH;clear hT3 hbF;clear ht' hbt hb1 hb2;go_wp2_with (go_at_call 63; refine (U HBH).mono ?_)
   rintro e w3 ⟨rfl, h3⟩
   have hb3 := (Below.refl _ w3).alloc NL (.cells #[.int .i64 t'.1, .string (strOfNums t'.2.1), .int .i64 (t'.2.2.1 : Int), .int .i64 (t'.2.2.2 : Int)] 40);have H3 := Hi (((U H2).below h3).below hb3);obtain ⟨y3, hy3⟩ : ∃ x, w3.alloc (.cells #[.int .i64 t'.1, .string (strOfNums t'.2.1), .int .i64 (t'.2.2.1 : Int), .int .i64 (t'.2.2.2 : Int)] 40) = x := ⟨_, rfl⟩;have hn3 : y3.heap[w3.heap.size]? = some (.cells #[.int .i64 t'.1, .string (strOfNums t'.2.1), .int .i64 (t'.2.2.1 : Int), .int .i64 (t'.2.2.2 : Int)] 40) := by rw [← hy3]; exact World.alloc_heap_new w3 _
   rw [hy3] at H3;obtain ⟨n0, n1, n2, n3⟩ := cells4 hn3;have hnl3 := World.block_lt_of_cell? _ _ n0;have HN3 := Hi hn3;have c2 := (U H3).1.rd.tok.1;have hl3 := (U H3).1.rd.lt;have HY3 := Hi hy3;clear h3 hb3 hn3;by_cases hk1 : s2.tk.1 = 1
   · rw [hk1] at c2 hbv
     cases b1 with
     | true =>
       have hbF : bF = true := by rw [← hbv]; rfl
       subst hbF;have HR3 := Hi hR3;clear hR3 hbv;have HX := Hi (U HI1 y3);go_wp2_with (go_at_call 62; refine (U HX).mono ?_)
       rintro e wx ⟨rfl, hx⟩
       have H3a := Hi ((U H3).below hx);have HR3a := Hi (show parP E.c n (.callable 45 (s.tk.2.2.1)) s2 = R from U HR3);clear hx;have hp4 : parP E.c n (.callable 45 (s.tk.2.2.1)) s2 ≠ .out := fun e => U HNE ((U HR3a).symm.trans e)
       have HC4 := Hi (U HIC (s.tk.2.2.1) _ _ _ (U H3a).1 hp4);cases hq4 : parP E.c n (.callable 45 (s.tk.2.2.1)) s2 with
       | out => exact absurd hq4 hp4
       | no s4 =>
         have hR4 := hq4.symm.trans (U HR3a);subst hR4;replace HC4 := rn HC4 hq4;clear hq4 hp4;go_wp2_with (go_at_call 113; refine (U HC4).mono ?_)
         rintro e w4 ⟨rfl, nv4, h4⟩
         have H4 := Hi ((U H3a).trans h4);clear h4;go_wp2;exact ⟨rfl, rfl, nv4, U H4⟩
       | ok a4 s4 =>
         have HR4 := Hi (hq4.symm.trans (U HR3a));replace HC4 := ro HC4 hq4;clear hq4 hp4;go_wp2_with (go_at_call 113; refine (U HC4).mono ?_)
         rintro e w4 ⟨rfl, nv4, h4⟩
         have H4 := Hi ((U H3a).trans h4);clear h4;have hR4 := U HR4;subst hR4;go_wp2;go_ret;exact ⟨rfl, nv4, U H4⟩
     | false =>
       have HX := Hi (U HI1 y3);go_wp2_with (go_at_call 62; refine (U HX).mono ?_)
       rintro e wx ⟨rfl, hx⟩
       have H3b := Hi ((U H3).below hx);obtain ⟨m0, m1, m2, m3⟩ := cells4 ((hx.block _ hnl3).trans (U HN3));have hnx := World.block_lt_of_cell? _ _ m0;have HX2 := Hi (U HI2 wx);clear hx;go_wp2_with (go_at_call 62; refine (U HX2).mono ?_)
       rintro e wy ⟨rfl, hy⟩
       have H3c := Hi ((U H3b).below hy);clear hy;cases b2 with
       | true =>
         have hbF : bF = true := by rw [← hbv]; rfl
         subst hbF;have HR3c := Hi (show parP E.c n (.callable 45 (s.tk.2.2.1)) s2 = R from hR3);have hp5 : parP E.c n (.callable 45 (s.tk.2.2.1)) s2 ≠ .out := fun e => U HNE ((U HR3c).symm.trans e)
         have HC5 := Hi (U HIC (s.tk.2.2.1) _ _ _ (U H3c).1 hp5);cases hq5 : parP E.c n (.callable 45 (s.tk.2.2.1)) s2 with
         | out => exact absurd hq5 hp5
         | no s5 =>
           have hR5 := hq5.symm.trans (U HR3c);subst hR5;replace HC5 := rn HC5 hq5;clear hq5 hp5;go_wp2_with (go_at_call 113; refine (U HC5).mono ?_)
           rintro e w5 ⟨rfl, nv5, h5⟩
           have H5 := Hi ((U H3c).trans h5);clear h5;go_wp2;exact ⟨rfl, rfl, nv5, U H5⟩
         | ok a5 s5 =>
           have HR5 := Hi (hq5.symm.trans (U HR3c));replace HC5 := ro HC5 hq5;clear hq5 hp5;go_wp2_with (go_at_call 113; refine (U HC5).mono ?_)
           rintro e w5 ⟨rfl, nv5, h5⟩
           have H5 := Hi ((U H3c).trans h5);clear h5;have hR5 := U HR5;subst hR5;go_wp2;go_ret;exact ⟨rfl, nv5, U H5⟩
       | false =>
         have hbF : bF = false := by rw [← hbv]; rfl
         subst hbF;have HR3c := Hi (show parP E.c n .field s2 = R from hR3);have hp6 : parP E.c n .field s2 ≠ .out := fun e => U HNE ((U HR3c).symm.trans e)
         have HC6 := Hi (U HIF _ _ _ (U H3c).1 hp6);cases hq6 : parP E.c n .field s2 with
         | out => exact absurd hq6 hp6
         | no s6 =>
           have hR6 := hq6.symm.trans (U HR3c);subst hR6;replace HC6 := rn HC6 hq6;clear hq6 hp6;go_wp2_with (go_at_call 208; refine (U HC6).mono ?_)
           rintro e w6 ⟨rfl, nv6, h6⟩
           have H6 := Hi ((U H3c).trans h6);clear h6;go_wp2;exact ⟨rfl, rfl, nv6, U H6⟩
         | ok a6 s6 =>
           have HR6 := Hi (hq6.symm.trans (U HR3c));replace HC6 := ro HC6 hq6;clear hq6 hp6;go_wp2_with (go_at_call 208; refine (U HC6).mono ?_)
           rintro e w6 ⟨rfl, nv6, h6⟩
           have H6 := Hi ((U H3c).trans h6);clear h6;have hR6 := U HR6;subst hR6;go_wp2;go_ret;exact ⟨rfl, nv6, U H6⟩
   · have hkb : (s2.tk.1 == 1) = false := beq_eq_false_iff_ne.2 hk1
     have hbF : bF = false := by rw [← hbv, hkb]; rfl
     subst hbF;have HR3 := Hi (show parP E.c n .field s2 = R from hR3);clear hR3;have hp7 : parP E.c n .field s2 ≠ .out := fun e => U HNE ((U HR3).symm.trans e)
     have HC7 := Hi (U HIF _ _ _ (U H3).1 hp7);cases hq7 : parP E.c n .field s2 with
     | out => exact absurd hq7 hp7
     | no s7 =>
       have hR7 := hq7.symm.trans (U HR3);subst hR7;replace HC7 := rn HC7 hq7;clear hq7 hp7;go_wp2_with (go_at_call 208; refine (U HC7).mono ?_)
       rintro e w7 ⟨rfl, nv7, h7⟩
       have H7 := Hi ((U H3).trans h7);clear h7;go_wp2;exact ⟨rfl, rfl, nv7, U H7⟩
     | ok a7 s7 =>
       have HR7 := Hi (hq7.symm.trans (U HR3));replace HC7 := ro HC7 hq7;clear hq7 hp7;go_wp2_with (go_at_call 208; refine (U HC7).mono ?_)
       rintro e w7 ⟨rfl, nv7, h7⟩
       have H7 := Hi ((U H3).trans h7);clear h7;have hR7 := U HR7;subst hR7;go_wp2;go_ret;exact ⟨rfl, nv7, U H7⟩
 | true =>
   try simp only [if_true] at HR2
   have hp8 := bd_ne (p := parP E.c n (.params .memberParam)) (U HR2) (U HNE);have HC8 := Hi (U HIM _ _ _ (U H2).1 hp8);cases hq8 : parP E.c n (.params .memberParam) s2 with
   | out => exact absurd hq8 hp8
   | no s8 =>
     have hR8 := (bd_no hq8).symm.trans (U HR2);subst hR8;replace HC8 := rn HC8 hq8;clear hq8 hp8;go_wp2_with (go_at_call 99; refine (U HC8).mono ?_)
     rintro e w8 ⟨rfl, nv8, h8⟩
     have H8 := Hi ((U H2).trans h8);clear h8;go_wp2;exact ⟨rfl, rfl, nv8, U H8⟩
   | ok a8 s8 =>
     have HR8 := br hq8 HR2;replace HC8 := ro HC8 hq8;clear hq8 hp8;go_wp2_with (go_at_call 99; refine (U HC8).mono ?_)
     rintro e w8 ⟨rfl, nv8, h8⟩
     have H8 := Hi ((U H2).trans h8);clear h8;have hp9 := bd_ne (p := parP E.c n .block) (U HR8) (U HNE);have HC9 := Hi (U HIB _ _ _ (U H8).1 hp9);cases hq9 : parP E.c n .block s8 with
     | out => exact absurd hq9 hp9
     | no s9 =>
       have hR9 := (bd_no hq9).symm.trans (U HR8);subst hR9;replace HC9 := rn HC9 hq9;clear hq9 hp9;go_wp2_with (go_at_call 60; refine (U HC9).mono ?_)
       rintro e w9 ⟨rfl, nv9, h9⟩
       have H9 := Hi ((U H8).trans h9);clear h9;go_wp2;exact ⟨rfl, rfl, nv9, U H9⟩
     | ok a9 s9 =>
       have HR9 := br hq9 HR8;replace HC9 := ro HC9 hq9;clear hq9 hp9;go_wp2_with (go_at_call 60; refine (U HC9).mono ?_)
       rintro e w9 ⟨rfl, nv9, h9⟩
       have H9 := Hi ((U H8).trans h9);clear h9;have hp10 := bd_ne (p := putP ⟨46, [], 0, [hd0 a8, hd0 a9], s.tk.2.2.1⟩) (U HR9) (U HNE);obtain ⟨a10, s10, hq10⟩ : ∃ a s', putP ⟨46, [], 0, [hd0 a8, hd0 a9], s.tk.2.2.1⟩ s9 = .ok a s' := put_ex hp10;have H10p := Hi ((U H9).below ((Below.refl _ w9).alloc NL (.cells #[.int .i64 ((hd0 a8 : Nat) : Int), .int .i64 ((hd0 a9 : Nat) : Int)] 3)));have HC10 := Hi (rq_ok (put_rq (U H10p).1 _ _ _ (kid2 w9 (hd0 a8) (hd0 a9) (U H9).1.zl) hp10) hq10);simp only [e0', List.length_cons, List.length_nil] at HC10;have HR10 := br hq10 HR9;clear hq10 hp10;go_wp2_with (go_at_call 32; refine (U HC10).mono ?_)
       rintro e w10 ⟨rfl, nv10, h10⟩
       have H10 := Hi ((U H10p).trans h10);clear h10;have hR10 : (.ok [a10] s10 : Res (List Nat)) = R := U HR10;subst hR10;go_wp2;go_ret;exact ⟨rfl, nv10, U H10⟩
theorem ndsC_get3 : ∀ (l : List PN) (kvs : List Value) (i : Nat) (x : PN) (kv : Value), kvs.length = l.length → l[i]? = some x → kvs[i]? = some kv → (ndsC l kvs)[i * 5 + 3]? = some kv
 | [], _, i, x, kv, _, h, _ => by simp at h
 | y :: l, [], i, x, kv, hl, h, _ => by simp at hl
 | y :: l, k :: kvs, 0, x, kv, hl, h, hk => by simp at hk; subst hk; rfl
 | y :: l, k :: kvs, i + 1, x, kv, hl, h, hk => by
   have := ndsC_get3 l kvs i x kv (by simpa using hl) (by simpa using h) (by simpa using hk);rw [show (i + 1) * 5 + 3 = (i * 5 + 3) + 5 by omega];show (ndC y k ++ ndsC l kvs)[(i * 5 + 3) + 5]? = _
   rw [List.getElem?_append_right (by simp [ndC])];simpa [ndC] using this
def ctors (nodes : List PN) (l : List Nat) : Nat := (l.filter fun i => (nodes.getD i nd0).kind == 46).length
theorem ctors_step (nodes : List PN) (l : List Nat) (i x : Nat) (h : l[i]? = some x) : ctors nodes (l.take (i + 1)) = if (nodes.getD x nd0).kind = 46 then ctors nodes (l.take i) + 1 else ctors nodes (l.take i) := by
 unfold ctors;rw [List.take_add_one, h];simp only [Option.toList_some, List.filter_append, List.length_append];cases hb : ((nodes.getD x nd0).kind == 46) with
 | true =>
   rw [if_pos (beq_iff_eq.1 hb)];simp only [List.filter_cons, hb, if_true, List.filter_nil, List.length_cons, List.length_nil]
 | false =>
   rw [if_neg (beq_eq_false_iff_ne.1 hb)];simp only [List.filter_cons, hb, Bool.false_eq_true, if_false, List.filter_nil, List.length_nil];rfl
theorem nd_kids {Z : Nat → Prop} {W : World} {nv : Value} {l : List PN} (h : NdRow Z W nv l) {i : Nat} {x : PN} (hi : l[i]? = some x) : ∃ g cap kv, nv = .slice (some ⟨g, 0, none⟩) l.length cap ∧ l.length ≤ cap ∧ cap ≤ 9223372036854775807 ∧ W.cell? ⟨g, i * 5 + 3, none⟩ = some kv ∧ KidR Z W kv x.kids := by
 obtain ⟨kvs, h1, h2, h3⟩ := h;have hil : i < kvs.length := by rw [h1]; exact (List.getElem?_eq_some_iff.1 hi).1
 have hkv : kvs[i]? = some (kvs[i]'hil) := List.getElem?_eq_getElem hil;have hc := ndsC_get3 l kvs i x _ h1 hi hkv;rcases h2.2 with ⟨e, e2⟩ | ⟨g, cap, cur, e, _, hh, q1, q2, _⟩
 · omega
 · have := h2.cells (g := g) (by rw [e]; rfl) _ _ hc
   refine ⟨g, cap, _, e, q1, by unfold maxLen at q2; omega, ?_, h3 i x _ hi hkv⟩;rw [show (⟨g, i * 5 + 3, none⟩ : Addr) = (⟨g, 0, none⟩ : Addr).add (i * 5 + 3) by unfold Addr.add; split <;> simp_all];exact this
theorem oneCtor_any {E : En} {nv : Value} {s : PS} {W : World} (h : RAt E nv s W) (p : Nat) (x : PN) (hp : s.nodes[p]? = some x) (hin : ∀ i ∈ x.kids, i < s.nodes.length) (hl : x.kids.length < 1000000) : Calls Tryz.prog 165 #[.pointer (some ⟨E.M, 0, none⟩), .int .i64 (p : Int)] W fun e w' => (if 1 < ctors s.nodes x.kids then e = .panicked refC else e = .returned (.tuple #[])) ∧ Below W.heap.size W w' := by
 obtain ⟨g, cap, kv, env, q1, q2, hkv, hkr⟩ := nd_kids h.nd hp;have c6 := h.rd.nodes;rw [env] at c6;have hml := h.rd.lt;have hgl := World.block_lt_of_cell? W _ hkv;have hpl : p < s.nodes.length := (List.getElem?_eq_some_iff.1 hp).1
 have HKD : Hid (∀ i, i < s.nodes.length → W.cell? ⟨g, i * 5, none⟩ = some (.int .i64 (s.nodes.getD i nd0).kind)) := fun i hi => by
  obtain ⟨g', cap', env', _, _, hc'⟩ := nd_kind h.nd hi;rw [env] at env';cases env';exact hc' W (Below.refl _ _)
 obtain ⟨ka, kc, rfl, r1, r2, r3⟩ := hkr;unfold maxLen at r2
 have HKC : Hid (∀ (i y : Nat), x.kids[i]? = some y → ∃ b o, ka = some ⟨b, o, none⟩ ∧ b < W.heap.size ∧ W.cell? ⟨b, o + i, none⟩ = some (.int .i64 (y : Int))) := fun i y hy => by
  rcases r3 with r3 | ⟨b, o, cur, fr, e, _, hh, hc⟩
  · rw [r3] at hy; simp at hy
  · refine ⟨b, o, e, (Array.getElem?_eq_some_iff.1 hh).1, ?_⟩
    have := hc i y hy;simp [World.cell?, hh, this]
 obtain ⟨N, hN⟩ : ∃ N, s.nodes.length = N := ⟨_, rfl⟩;obtain ⟨L, hL⟩ : ∃ N, x.kids.length = N := ⟨_, rfl⟩;have HL := Hi hL;have HIN := Hi hin;have HNN := Hi hN;have HREF := Hi (refuse_any (.pointer (some ⟨E.M, 0, none⟩)) W);rw [hN] at c6 q1 hpl;rw [hL] at hkv r1 hl;clear hN hL hin h hp env r3;by_cases h1 : 1 < ctors s.nodes x.kids
 · simp only [h1, if_true]
   have H1 := Hi h1;clear h1;go_enter Tryz.func165, Tryz.ntmps165;go_wp2;go_loopw [4, 16] (fun c i wr => Hid (wr = W ∧ ∃ k : Nat, k ≤ L ∧ i = .int .i64 (k : Int) ∧ c = .int .i64 (ctors s.nodes (x.kids.take k) : Int))) (fun c i wr => L - (Lib.intOf i).toNat)
   case atStart => exact ⟨rfl, 0, Nat.zero_le _, rfl, rfl⟩
   case round =>
    obtain ⟨rfl, k, hk, rfl, rfl⟩ := U hrel;clear hrel;have hcl : ctors s.nodes (x.kids.take k) ≤ k := by unfold ctors; exact Nat.le_trans (List.length_filter_le _ _) (by simp; omega)
    obtain ⟨c, hc⟩ : ∃ c, ctors s.nodes (x.kids.take k) = c := ⟨_, rfl⟩;rw [hc] at hcl ⊢;by_cases hkL : k < L
    · obtain ⟨y, hy⟩ : ∃ y, x.kids[k]? = some y := ⟨_, List.getElem?_eq_getElem (by rw [U HL]; exact hkL)⟩
      obtain ⟨b, o, rfl, hbl, hcy⟩ := U HKC k y hy;have hyl : y < N := by rw [← U HNN]; exact U HIN y (List.mem_of_getElem? hy)
      have hky := U HKD y (by rw [U HNN]; exact hyl);have hst := ctors_step s.nodes x.kids k y hy;rw [hc] at hst;have HST := Hi hst;have hkI : (k : Int) < (L : Int) := by omega
      have hyI : (y : Int) < (N : Int) := by omega
      have hw1 : IntKind.i64.wrap ((k : Int) + 1) = ((k + 1 : Nat) : Int) := by rw [IntKind.wrap_i64]; omega
      have hw2 : IntKind.i64.wrap ((c : Int) + 1) = ((c + 1 : Nat) : Int) := by rw [IntKind.wrap_i64]; omega
      clear hst hc hy;by_cases hkk : (s.nodes.getD y nd0).kind = 46
      · rw [hkk] at hky
        rw [if_pos hkk] at HST;clear hkk;go_wp2;exact ⟨⟨by first | rfl | trivial, k + 1, by omega, by simp, by rw [U HST]; simp⟩, by simp [Lib.intOf]; omega⟩
      · rw [if_neg hkk] at HST
        have hkb : ((s.nodes.getD y nd0).kind == 46) = false := beq_eq_false_iff_ne.2 hkk;obtain ⟨kd, hkd⟩ : ∃ z, (s.nodes.getD y nd0).kind = z := ⟨_, rfl⟩;rw [hkd] at hky hkb;clear hkk hkd;go_wp2;exact ⟨⟨by first | rfl | trivial, k + 1, by omega, by simp, by rw [U HST]⟩, by simp [Lib.intOf]; omega⟩
    · have hkL2 : k = L := by omega
      subst hkL2;have hall : x.kids.take k = x.kids := List.take_of_length_le (by rw [U HL]; exact NL);rw [hall] at hc;clear hall;have h1I : (1 : Int) < (c : Int) := by have := U H1; omega
      go_wp2_with (go_at_call 52; refine (U HREF).mono ?_)
      rintro e w2 ⟨rfl, h2⟩
      have H2 := Hi h2;clear h2;go_wp2;exact ⟨rfl, rfl, U H2⟩
 · simp only [h1, if_false]
   have H1 := Hi h1;clear h1;go_enter Tryz.func165, Tryz.ntmps165;go_wp2;go_loopw [4, 16] (fun c i wr => Hid (wr = W ∧ ∃ k : Nat, k ≤ L ∧ i = .int .i64 (k : Int) ∧ c = .int .i64 (ctors s.nodes (x.kids.take k) : Int))) (fun c i wr => L - (Lib.intOf i).toNat)
   case atStart => exact ⟨rfl, 0, Nat.zero_le _, rfl, rfl⟩
   case round =>
    obtain ⟨rfl, k, hk, rfl, rfl⟩ := U hrel;clear hrel;have hcl : ctors s.nodes (x.kids.take k) ≤ k := by unfold ctors; exact Nat.le_trans (List.length_filter_le _ _) (by simp; omega)
    obtain ⟨c, hc⟩ : ∃ c, ctors s.nodes (x.kids.take k) = c := ⟨_, rfl⟩;rw [hc] at hcl ⊢;by_cases hkL : k < L
    · obtain ⟨y, hy⟩ : ∃ y, x.kids[k]? = some y := ⟨_, List.getElem?_eq_getElem (by rw [U HL]; exact hkL)⟩
      obtain ⟨b, o, rfl, hbl, hcy⟩ := U HKC k y hy;have hyl : y < N := by rw [← U HNN]; exact U HIN y (List.mem_of_getElem? hy)
      have hky := U HKD y (by rw [U HNN]; exact hyl);have hst := ctors_step s.nodes x.kids k y hy;rw [hc] at hst;have HST := Hi hst;have hkI : (k : Int) < (L : Int) := by omega
      have hyI : (y : Int) < (N : Int) := by omega
      have hw1 : IntKind.i64.wrap ((k : Int) + 1) = ((k + 1 : Nat) : Int) := by rw [IntKind.wrap_i64]; omega
      have hw2 : IntKind.i64.wrap ((c : Int) + 1) = ((c + 1 : Nat) : Int) := by rw [IntKind.wrap_i64]; omega
      clear hst hc hy;by_cases hkk : (s.nodes.getD y nd0).kind = 46
      · rw [hkk] at hky
        rw [if_pos hkk] at HST;clear hkk;go_wp2;exact ⟨⟨by first | rfl | trivial, k + 1, by omega, by simp, by rw [U HST]; simp⟩, by simp [Lib.intOf]; omega⟩
      · rw [if_neg hkk] at HST
        have hkb : ((s.nodes.getD y nd0).kind == 46) = false := beq_eq_false_iff_ne.2 hkk;obtain ⟨kd, hkd⟩ : ∃ z, (s.nodes.getD y nd0).kind = z := ⟨_, rfl⟩;rw [hkd] at hky hkb;clear hkk hkd;go_wp2;exact ⟨⟨by first | rfl | trivial, k + 1, by omega, by simp, by rw [U HST]⟩, by simp [Lib.intOf]; omega⟩
    · have hkL2 : k = L := by omega
      subst hkL2;have hall : x.kids.take k = x.kids := List.take_of_length_le (by rw [U HL]; exact NL);rw [hall] at hc;clear hall;have h1I : (c : Int) ≤ (1 : Int) := by have := U H1; omega
      go_wp2;exact bodyPost_end (results_none rfl _ _ _) rfl ⟨rfl, Below.refl _ _⟩
theorem class_step {E : En} (hE : E.Ok) {n : Nat}  (IT : IHA E n .typeParams 98 #[.pointer (some ⟨E.M, 0, none⟩)]) (IA : IHA E n .base 162 #[.pointer (some ⟨E.M, 0, none⟩)]) (IR : IHA E n (.refs [105, 109, 112, 108, 101, 109, 101, 110, 116, 115]) 163 #[.pointer (some ⟨E.M, 0, none⟩), .string ⟨#[105, 109, 112, 108, 101, 109, 101, 110, 116, 115]⟩]) (IP : IHL E n (.filled .classPart) 102 #[.pointer (some ⟨E.M, 0, none⟩), .func (.func 164) #[.pointer (some ⟨E.M, 0, none⟩)] #[]]) (CL : ∀ s l s', parP E.c n (.filled .classPart) s = .ok l s' → l.length < 1000000) : IHA E (n + 1) .cls 114 #[.pointer (some ⟨E.M, 0, none⟩)] := by
 intro nv s W h hne;obtain ⟨R, hR⟩ : ∃ R, parP E.c (n + 1) .cls s = R := ⟨_, rfl⟩;rw [hR] at hne ⊢;simp only [parP, bodyP] at hR;have HR0 := Hi hR;have H0 := Hi (Lf.refl h);have HE := Hi hE;have HNE := Hi hne;have HIT := Hi IT;have HIA := Hi IA;have HIR := Hi IR;have HIP := Hi IP;have HCL := Hi CL;clear hR hne h hE IT IA IR IP CL;go_enter Tryz.func114, Tryz.ntmps114;have hp1 := bd_ne (p := nextP E.c) (U HR0) (U HNE);obtain ⟨a1, s1, hq1⟩ : ∃ a s', nextP E.c s = .ok a s' := next_ok hp1;have HC1 := Hi (rq_ok (next_rq (U HE) (U H0).1 hp1) hq1);have HR1 := br hq1 HR0;clear hq1 hp1;unfold tkV at HC1;go_wp2_with (go_at_call 53; refine (U HC1).mono ?_)
 rintro e w1 ⟨rfl, nv1, h1⟩
 have H1 := Hi ((U H0).trans h1);clear h1;have q21 := tf2 a1.1 (strOfNums a1.2.1) (a1.2.2.1 : Int) (a1.2.2.2 : Int) w1;have hp2 := bd_ne (p := nameP E.c) (U HR1) (U HNE);have HC2 := Hi (name_rq (U HE) (U H1).1 hp2);cases hq2 : nameP E.c s1 with
 | out => exact absurd hq2 hp2
 | no s2 =>
   have hR2 := (bd_no hq2).symm.trans (U HR1);subst hR2;replace HC2 := rn HC2 hq2;clear hq2 hp2;go_wp2_with (go_at_call 103; refine (U HC2).mono ?_)
   rintro e w2 ⟨rfl, nv2, h2⟩
   have H2 := Hi ((U H1).trans h2);clear h2;go_wp2;exact ⟨rfl, rfl, nv2, U H2⟩
 | ok a2 s2 =>
   have HR2 := br hq2 HR1;replace HC2 := ro HC2 hq2;clear hq2 hp2;go_wp2_with (go_at_call 103; refine (U HC2).mono ?_)
   rintro e w2 ⟨rfl, nv2, h2⟩
   have H2 := Hi ((U H1).trans h2);clear h2;have hp3 := bd_ne (p := parP E.c n .typeParams) (U HR2) (U HNE);have HC3 := Hi (U HIT _ _ _ (U H2).1 hp3);cases hq3 : parP E.c n .typeParams s2 with
   | out => exact absurd hq3 hp3
   | no s3 =>
     have hR3 := (bd_no hq3).symm.trans (U HR2);subst hR3;replace HC3 := rn HC3 hq3;clear hq3 hp3;go_wp2_with (go_at_call 98; refine (U HC3).mono ?_)
     rintro e w3 ⟨rfl, nv3, h3⟩
     have H3 := Hi ((U H2).trans h3);clear h3;go_wp2;exact ⟨rfl, rfl, nv3, U H3⟩
   | ok a3 s3 =>
     have HR3 := br hq3 HR2;replace HC3 := ro HC3 hq3;clear hq3 hp3;go_wp2_with (go_at_call 98; refine (U HC3).mono ?_)
     rintro e w3 ⟨rfl, nv3, h3⟩
     have H3 := Hi ((U H2).trans h3);clear h3;have hp4 := bd_ne (p := parP E.c n .base) (U HR3) (U HNE);have HC4 := Hi (U HIA _ _ _ (U H3).1 hp4);cases hq4 : parP E.c n .base s3 with
     | out => exact absurd hq4 hp4
     | no s4 =>
       have hR4 := (bd_no hq4).symm.trans (U HR3);subst hR4;replace HC4 := rn HC4 hq4;clear hq4 hp4;go_wp2_with (go_at_call 162; refine (U HC4).mono ?_)
       rintro e w4 ⟨rfl, nv4, h4⟩
       have H4 := Hi ((U H3).trans h4);clear h4;go_wp2;exact ⟨rfl, rfl, nv4, U H4⟩
     | ok a4 s4 =>
       have HR4 := br hq4 HR3;replace HC4 := ro HC4 hq4;clear hq4 hp4;go_wp2_with (go_at_call 162; refine (U HC4).mono ?_)
       rintro e w4 ⟨rfl, nv4, h4⟩
       have H4 := Hi ((U H3).trans h4);clear h4;have hp5 := bd_ne (p := parP E.c n (.refs [105, 109, 112, 108, 101, 109, 101, 110, 116, 115])) (U HR4) (U HNE);have HC5 := Hi (U HIR _ _ _ (U H4).1 hp5);cases hq5 : parP E.c n (.refs [105, 109, 112, 108, 101, 109, 101, 110, 116, 115]) s4 with
       | out => exact absurd hq5 hp5
       | no s5 =>
         have hR5 := (bd_no hq5).symm.trans (U HR4);subst hR5;replace HC5 := rn HC5 hq5;clear hq5 hp5;go_wp2_with (go_at_call 163; refine (U HC5).mono ?_)
         rintro e w5 ⟨rfl, nv5, h5⟩
         have H5 := Hi ((U H4).trans h5);clear h5;go_wp2;exact ⟨rfl, rfl, nv5, U H5⟩
       | ok a5 s5 =>
         have HR5 := br hq5 HR4;replace HC5 := ro HC5 hq5;clear hq5 hp5;go_wp2_with (go_at_call 163; refine (U HC5).mono ?_)
         rintro e w5 ⟨rfl, nv5, h5⟩
         have H5 := Hi ((U H4).trans h5);clear h5;have hp6 := bd_ne (p := parP E.c n (.filled .classPart)) (U HR5) (U HNE);have HC6 := Hi (U HIP _ _ _ (U H5).1 hp6);cases hq6 : parP E.c n (.filled .classPart) s5 with
         | out => exact absurd hq6 hp6
         | no s6 =>
           have hR6 := (bd_no hq6).symm.trans (U HR5);subst hR6;replace HC6 := Hi (rql_no (U HC6) hq6);clear hq6 hp6;go_wp2_with (go_at_call 102; refine (U HC6).mono ?_)
           rintro e w6 ⟨rfl, nv6, h6⟩
           have H6 := Hi ((U H5).trans h6);clear h6;go_wp2;exact ⟨rfl, rfl, nv6, U H6⟩
         | ok a6 s6 =>
           have HR6 := br hq6 HR5;have HCL := Hi (U HCL _ _ _ hq6);replace HC6 := Hi (rql_ok (U HC6) hq6);clear hq6 hp6;go_wp2_with (go_at_call 102; refine (U HC6).mono ?_)
           rintro e w6 ⟨ka6, kc6, nv6, rfl, hk6, h6⟩
           have H6 := Hi ((U H5).trans h6);have HK6 := Hi hk6;clear h6 hk6;have hp7 := bd_ne (p := listP a6) (U HR6) (U HNE);have hq7 := put_ok hp7;have HC7 := Hi (rq_ok (list_rq (U H6).1 a6 ka6 kc6 (U HK6) hp7) hq7);obtain ⟨s7, hs7⟩ : ∃ x, ({ s6 with nodes := s6.nodes ++ [⟨2, [], 0, a6, 0⟩] } : PS) = x := ⟨_, rfl⟩;have hR7 := (bd_ok hq7).symm.trans (U HR6);obtain ⟨ps7, hps7⟩ : ∃ x, s6.nodes.length = x := ⟨_, rfl⟩;have hnode : s7.nodes[ps7]? = some ⟨2, [], 0, a6, 0⟩ := by rw [← hs7, ← hps7]; simp
           rw [hs7] at hR7 HC7;rw [hps7] at hR7 HC7;have hkl : a6.length ≤ maxLen := by obtain ⟨_, _, e, h2, h3, _⟩ := U HK6; omega
           clear hq7 hp7 hs7 hps7;try dsimp only at hR7
           have hall : (a6.all fun i => decide (i < s7.nodes.length)) = true := by
            cases hb : (a6.all fun i => decide (i < s7.nodes.length)) with
            | true => rfl
            | false => rw [if_pos hb] at hR7; exact absurd hR7.symm (U HNE)
           rw [if_neg (by rw [hall]; decide)] at hR7;have hin : ∀ i ∈ a6, i < s7.nodes.length := fun i hi => of_decide_eq_true (List.all_eq_true.1 hall i hi)
           go_wp2_with (go_at_call 96; refine (U HC7).mono ?_)
           rintro e w7 ⟨rfl, nv7, h7⟩
           have H7 := Hi ((U H6).trans h7);have HO7 := Hi (oneCtor_any (U H7).1 ps7 ⟨2, [], 0, a6, 0⟩ hnode hin (U HCL));clear h7 hin hall hnode hkl;by_cases hct : 1 < ctors s7.nodes a6
           · rw [if_pos (show 1 < (List.filter (fun i => (s7.nodes.getD i ⟨0, [], 0, [], 0⟩).kind == 46) a6).length from hct)] at hR7
             simp only [hct, if_true] at HO7;subst hR7;go_wp2_with (go_at_call 165; refine (U HO7).mono ?_)
             rintro e wz ⟨rfl, hz⟩
             have HZ := Hi ((U H7).below hz);clear hz;go_wp2;exact ⟨rfl, rfl, nv7, U HZ⟩
           · rw [if_neg (show ¬ 1 < (List.filter (fun i => (s7.nodes.getD i ⟨0, [], 0, [], 0⟩).kind == 46) a6).length from hct)] at hR7
             simp only [hct, if_false] at HO7;have HR7 := Hi hR7;clear hR7;go_wp2_with (go_at_call 165; refine (U HO7).mono ?_)
             rintro e wz ⟨rfl, hz⟩
             have H7z := Hi ((U H7).below hz);have HR7z := Hi (U HR7);clear hz;have hp8 := bd_ne (p := putP ⟨42, a2, 0, [hd0 a3, hd0 a4, hd0 a5, ps7], a1.2.2.1⟩) (U HR7z) (U HNE);obtain ⟨a8, s8, hq8⟩ : ∃ a s', putP ⟨42, a2, 0, [hd0 a3, hd0 a4, hd0 a5, ps7], a1.2.2.1⟩ s7 = .ok a s' := put_ex hp8;have H8p := Hi ((U H7z).below ((Below.refl _ wz).alloc NL (.cells #[.int .i64 ((hd0 a3 : Nat) : Int), .int .i64 ((hd0 a4 : Nat) : Int), .int .i64 ((hd0 a5 : Nat) : Int), .int .i64 ((ps7 : Nat) : Int)] 3)));have HC8 := Hi (rq_ok (put_rq (U H8p).1 _ _ _ (kid4 wz (hd0 a3) (hd0 a4) (hd0 a5) (ps7) (U H7z).1.zl) hp8) hq8);simp only [e0', List.length_cons, List.length_nil] at HC8;have HR8 := br hq8 HR7z;clear hq8 hp8;go_wp2_with (go_at_call 32; refine (U HC8).mono ?_)
             rintro e w8 ⟨rfl, nv8, h8⟩
             have H8 := Hi ((U H8p).trans h8);clear h8;have hR8 : (.ok [a8] s8 : Res (List Nat)) = R := U HR8;subst hR8;go_wp2;go_ret;exact ⟨rfl, nv8, U H8⟩
theorem filLoop_len {c : Cx} {one : Cmd} : ∀ (n : Nat) (ks : List Nat) (s s' : PS) (l : List Nat), parP c n (.filLoop one ks) s = .ok l s' → l.length < 1000000
 | 0, _, _, _, _, h => by cases h
 | n + 1, ks, s, s', l, h => by
   simp only [parP, bodyP] at h;obtain ⟨u, s1, h1, h2⟩ := bd_inv h;obtain ⟨b, s2, h3, h4⟩ := bd_inv h2;cases b with
   | true =>
     cases h4;unfold capP at h1;split at h1
     · assumption
     · cases h1
   | false =>
     obtain ⟨x, s3, h5, h6⟩ := bd_inv (show bd (parP c n one) (fun x => parP c n (.filLoop one (ks ++ [hd0 x]))) s2 = .ok l s' from h4);exact filLoop_len n _ _ _ _ h6
theorem filled_len {c : Cx} {n : Nat} {one : Cmd} {s s' : PS} {l : List Nat} (h : parP c n (.filled one) s = .ok l s') : l.length < 1000000 := by
 cases n with
 | zero => cases h
 | succ n =>
   simp only [parP, bodyP] at h;obtain ⟨u, s1, h1, h2⟩ := bd_inv h;exact filLoop_len n _ _ _ _ h2
theorem comma_cells : #[Value.string ⟨#[44]⟩] = (([[44]] : List (List Int)).map fun x => Value.string (strOfNums x)).toArray := rfl
theorem semi_cells : #[Value.string ⟨#[59]⟩, Value.string ⟨#[44]⟩] = (([[59], [44]] : List (List Int)).map fun x => Value.string (strOfNums x)).toArray := rfl
structure AllI (E : En) (n : Nat) : Prop where
 cond : IHA E n .cond 48 #[.pointer (some ⟨E.M, 0, none⟩)]
 arrayType : IHA E n .arrayType 43 #[.pointer (some ⟨E.M, 0, none⟩)]
 evaluated : ∀ (k : Int) (at' : Nat), IHA E n (.evaluated k at') 70 #[.pointer (some ⟨E.M, 0, none⟩), .int .i64 k, .int .i64 (at' : Int)]
 inParens : IHA E n .inParens 107 #[.pointer (some ⟨E.M, 0, none⟩)]
 while_ : IHA E n .while' 66 #[.pointer (some ⟨E.M, 0, none⟩)]
 typeParam : IHA E n .typeParam 156 #[.pointer (some ⟨E.M, 0, none⟩)]
 caught : IHA E n .caught 112 #[.pointer (some ⟨E.M, 0, none⟩)]
 pair : IHA E n .pair 248 #[.pointer (some ⟨E.M, 0, none⟩)]
 otherwise : IHA E n .otherwise 108 #[.pointer (some ⟨E.M, 0, none⟩)]
 body : IHA E n .body 100 #[.pointer (some ⟨E.M, 0, none⟩)]
 unary : IHA E n .unary 159 #[.pointer (some ⟨E.M, 0, none⟩)]
 maybeType : IHA E n (.maybe [58] .anyType) 104 #[.pointer (some ⟨E.M, 0, none⟩), .string ⟨#[58]⟩, .func (.func 22) #[.pointer (some ⟨E.M, 0, none⟩)] #[]]
 maybeExpr : IHA E n (.maybe [61] .expr) 104 #[.pointer (some ⟨E.M, 0, none⟩), .string ⟨#[61]⟩, .func (.func 24) #[.pointer (some ⟨E.M, 0, none⟩)] #[]]
 maybeElse : IHA E n (.maybe [101, 108, 115, 101] .otherwise) 104 #[.pointer (some ⟨E.M, 0, none⟩), .string ⟨#[101, 108, 115, 101]⟩, .func (.func 108) #[.pointer (some ⟨E.M, 0, none⟩)] #[]]
 maybeLast : IHA E n (.maybe [102, 105, 110, 97, 108, 108, 121] .block) 104 #[.pointer (some ⟨E.M, 0, none⟩), .string ⟨#[102, 105, 110, 97, 108, 108, 121]⟩, .func (.func 60) #[.pointer (some ⟨E.M, 0, none⟩)] #[]]
 until1 : IHA E n (.until [59] .expr) 68 #[.pointer (some ⟨E.M, 0, none⟩), .string ⟨#[59]⟩, .func (.func 24) #[.pointer (some ⟨E.M, 0, none⟩)] #[]]
 until2 : IHA E n (.until [41] .expr) 68 #[.pointer (some ⟨E.M, 0, none⟩), .string ⟨#[41]⟩, .func (.func 24) #[.pointer (some ⟨E.M, 0, none⟩)] #[]]
 sevTypeParam : IHL E n (.several .typeParam) 155 #[.pointer (some ⟨E.M, 0, none⟩), .func (.func 156) #[.pointer (some ⟨E.M, 0, none⟩)] #[]]
 sevType : IHL E n (.several .anyType) 155 #[.pointer (some ⟨E.M, 0, none⟩), .func (.func 22) #[.pointer (some ⟨E.M, 0, none⟩)] #[]]
 sevRef : IHL E n (.several .typeRef) 155 #[.pointer (some ⟨E.M, 0, none⟩), .func (.func 153) #[.pointer (some ⟨E.M, 0, none⟩)] #[]]
 sevExpr : IHL E n (.several .expr) 155 #[.pointer (some ⟨E.M, 0, none⟩), .func (.func 24) #[.pointer (some ⟨E.M, 0, none⟩)] #[]]
 sevParam : IHL E n (.several .param) 155 #[.pointer (some ⟨E.M, 0, none⟩), .func (.func 97) #[.pointer (some ⟨E.M, 0, none⟩)] #[]]
 sevMember : IHL E n (.several .memberParam) 155 #[.pointer (some ⟨E.M, 0, none⟩), .func (.func 207) #[.pointer (some ⟨E.M, 0, none⟩)] #[]]
 encArgs : IHL E n (.enclosed [40] [41] .expr) 158 #[.pointer (some ⟨E.M, 0, none⟩), .string ⟨#[40]⟩, .string ⟨#[41]⟩, .func (.func 24) #[.pointer (some ⟨E.M, 0, none⟩)] #[]]
 encArray : IHL E n (.enclosed [91] [93] .expr) 158 #[.pointer (some ⟨E.M, 0, none⟩), .string ⟨#[91]⟩, .string ⟨#[93]⟩, .func (.func 24) #[.pointer (some ⟨E.M, 0, none⟩)] #[]]
 encParam : IHL E n (.enclosed [40] [41] .param) 158 #[.pointer (some ⟨E.M, 0, none⟩), .string ⟨#[40]⟩, .string ⟨#[41]⟩, .func (.func 97) #[.pointer (some ⟨E.M, 0, none⟩)] #[]]
 encMember : IHL E n (.enclosed [40] [41] .memberParam) 158 #[.pointer (some ⟨E.M, 0, none⟩), .string ⟨#[40]⟩, .string ⟨#[41]⟩, .func (.func 207) #[.pointer (some ⟨E.M, 0, none⟩)] #[]]
 args : IHA E n .args 228 #[.pointer (some ⟨E.M, 0, none⟩)]
 params : IHA E n (.params .param) 99 #[.pointer (some ⟨E.M, 0, none⟩), .func (.func 97) #[.pointer (some ⟨E.M, 0, none⟩)] #[]]
 members : IHA E n (.params .memberParam) 99 #[.pointer (some ⟨E.M, 0, none⟩), .func (.func 207) #[.pointer (some ⟨E.M, 0, none⟩)] #[]]
 block : IHA E n .block 60 #[.pointer (some ⟨E.M, 0, none⟩)]
 variable_ : ∀ num : Int, IHA E n (.variable num) 61 #[.pointer (some ⟨E.M, 0, none⟩), .int .i64 num]
 choice : IHA E n .choice 65 #[.pointer (some ⟨E.M, 0, none⟩)]
 callable : ∀ (k : Int) (at' : Nat), IHA E n (.callable k at') 113 #[.pointer (some ⟨E.M, 0, none⟩), .int .i64 k, .int .i64 (at' : Int)]
 func1 : IHA E n (.funcType [61, 62]) 150 #[.pointer (some ⟨E.M, 0, none⟩), .string ⟨#[61, 62]⟩]
 func2 : IHA E n (.funcType [58]) 150 #[.pointer (some ⟨E.M, 0, none⟩), .string ⟨#[58]⟩]
 field : IHA E n .field 208 #[.pointer (some ⟨E.M, 0, none⟩)]
 alias_ : IHA E n .alias 117 #[.pointer (some ⟨E.M, 0, none⟩)]
 enumMember : IHA E n .enumMember 106 #[.pointer (some ⟨E.M, 0, none⟩)]
 base : IHA E n .base 162 #[.pointer (some ⟨E.M, 0, none⟩)]
 super : IHA E n .super 250 #[.pointer (some ⟨E.M, 0, none⟩)]
 spacePart : IHA E n .spacePart 166 #[.pointer (some ⟨E.M, 0, none⟩)]
 namespace_ : IHA E n .namespace' 115 #[.pointer (some ⟨E.M, 0, none⟩)]
 forOf : ∀ at' : Nat, IHA E n (.forOf at') 110 #[.pointer (some ⟨E.M, 0, none⟩), .int .i64 (at' : Int)]
 filStmt : IHL E n (.filled .stmt) 102 #[.pointer (some ⟨E.M, 0, none⟩), .func (.func 31) #[.pointer (some ⟨E.M, 0, none⟩)] #[]]
 filClass : IHL E n (.filled .classPart) 102 #[.pointer (some ⟨E.M, 0, none⟩), .func (.func 164) #[.pointer (some ⟨E.M, 0, none⟩)] #[]]
 filSpace : IHL E n (.filled .spacePart) 102 #[.pointer (some ⟨E.M, 0, none⟩), .func (.func 166) #[.pointer (some ⟨E.M, 0, none⟩)] #[]]
 bare : ∀ k : Int, IHA E n (.bare k) 69 #[.pointer (some ⟨E.M, 0, none⟩), .int .i64 k]
 program : IHA E n .program 17 #[.pointer (some ⟨E.M, 0, none⟩)]
 declaration : IHA E n .declaration 73 #[.pointer (some ⟨E.M, 0, none⟩)]
 stmt : IHA E n .stmt 31 #[.pointer (some ⟨E.M, 0, none⟩)]
 piece : IHA E n .piece 200 #[.pointer (some ⟨E.M, 0, none⟩)]
 refs1 : IHA E n (.refs [101, 120, 116, 101, 110, 100, 115]) 163 #[.pointer (some ⟨E.M, 0, none⟩), .string ⟨#[101, 120, 116, 101, 110, 100, 115]⟩]
 refs2 : IHA E n (.refs [105, 109, 112, 108, 101, 109, 101, 110, 116, 115]) 163 #[.pointer (some ⟨E.M, 0, none⟩), .string ⟨#[105, 109, 112, 108, 101, 109, 101, 110, 116, 115]⟩]
 face : IHA E n .face 116 #[.pointer (some ⟨E.M, 0, none⟩)]
 marked0 : ∀ at' : Nat, IHA E n (.marked at' 0) 154 #[.pointer (some ⟨E.M, 0, none⟩), .int .i64 (at' : Int), .int .i64 0]
 marked2 : ∀ at' : Nat, IHA E n (.marked at' 2) 154 #[.pointer (some ⟨E.M, 0, none⟩), .int .i64 (at' : Int), .int .i64 2]
 marked4 : ∀ at' : Nat, IHA E n (.marked at' 4) 154 #[.pointer (some ⟨E.M, 0, none⟩), .int .i64 (at' : Int), .int .i64 4]
 marked6 : ∀ at' : Nat, IHA E n (.marked at' 6) 154 #[.pointer (some ⟨E.M, 0, none⟩), .int .i64 (at' : Int), .int .i64 6]
 param : IHA E n .param 97 #[.pointer (some ⟨E.M, 0, none⟩)]
 memberParam : IHA E n .memberParam 207 #[.pointer (some ⟨E.M, 0, none⟩)]
 objectType : IHA E n .objectType 151 #[.pointer (some ⟨E.M, 0, none⟩)]
 enum : IHA E n .enum 64 #[.pointer (some ⟨E.M, 0, none⟩)]
 exported : IHA E n .exported 209 #[.pointer (some ⟨E.M, 0, none⟩)]
 try_ : IHA E n .try' 71 #[.pointer (some ⟨E.M, 0, none⟩)]
 loop : IHA E n .loop 67 #[.pointer (some ⟨E.M, 0, none⟩)]
 arrow : IHA E n .arrow 47 #[.pointer (some ⟨E.M, 0, none⟩)]
 typeParams : IHA E n .typeParams 98 #[.pointer (some ⟨E.M, 0, none⟩)]
 typeArgs : IHA E n .typeArgs 202 #[.pointer (some ⟨E.M, 0, none⟩)]
 postfix_ : IHA E n .postfix 205 #[.pointer (some ⟨E.M, 0, none⟩)]
 newThing : IHA E n .newThing 249 #[.pointer (some ⟨E.M, 0, none⟩)]
 expr : IHA E n .expr 24 #[.pointer (some ⟨E.M, 0, none⟩)]
 primary : IHA E n .primary 226 #[.pointer (some ⟨E.M, 0, none⟩)]
 plainType : IHA E n .plainType 93 #[.pointer (some ⟨E.M, 0, none⟩)]
 anyType : IHA E n .anyType 22 #[.pointer (some ⟨E.M, 0, none⟩)]
 template : IHA E n .template 247 #[.pointer (some ⟨E.M, 0, none⟩)]
 typeRef : IHA E n .typeRef 153 #[.pointer (some ⟨E.M, 0, none⟩)]
 classPart : IHA E n .classPart 164 #[.pointer (some ⟨E.M, 0, none⟩)]
 cls : IHA E n .cls 114 #[.pointer (some ⟨E.M, 0, none⟩)]
 binary : ∀ l : Nat, l ≤ 10 → IHA E n (.binary l) 101 #[.pointer (some ⟨E.M, 0, none⟩), .int .i64 (l : Int)]
 callTypes : IHC E n
 braPiece : IHB E n .piece 200 [[59], [44]] #[.string ⟨#[59]⟩, .string ⟨#[44]⟩]
 braEnum : IHB E n .enumMember 106 [[44]] #[.string ⟨#[44]⟩]
 braPair : IHB E n .pair 248 [[44]] #[.string ⟨#[44]⟩]
theorem all_zero (E : En) : AllI E 0 where
 cond := fun nv s W h hne => absurd rfl hne
 arrayType := fun nv s W h hne => absurd rfl hne
 evaluated := fun _ _ nv s W h hne => absurd rfl hne
 inParens := fun nv s W h hne => absurd rfl hne
 while_ := fun nv s W h hne => absurd rfl hne
 typeParam := fun nv s W h hne => absurd rfl hne
 caught := fun nv s W h hne => absurd rfl hne
 pair := fun nv s W h hne => absurd rfl hne
 otherwise := fun nv s W h hne => absurd rfl hne
 body := fun nv s W h hne => absurd rfl hne
 unary := fun nv s W h hne => absurd rfl hne
 maybeType := fun nv s W h hne => absurd rfl hne
 maybeExpr := fun nv s W h hne => absurd rfl hne
 maybeElse := fun nv s W h hne => absurd rfl hne
 maybeLast := fun nv s W h hne => absurd rfl hne
 until1 := fun nv s W h hne => absurd rfl hne
 until2 := fun nv s W h hne => absurd rfl hne
 sevTypeParam := fun nv s W h hne => absurd rfl hne
 sevType := fun nv s W h hne => absurd rfl hne
 sevRef := fun nv s W h hne => absurd rfl hne
 sevExpr := fun nv s W h hne => absurd rfl hne
 sevParam := fun nv s W h hne => absurd rfl hne
 sevMember := fun nv s W h hne => absurd rfl hne
 encArgs := fun nv s W h hne => absurd rfl hne
 encArray := fun nv s W h hne => absurd rfl hne
 encParam := fun nv s W h hne => absurd rfl hne
 encMember := fun nv s W h hne => absurd rfl hne
 args := fun nv s W h hne => absurd rfl hne
 params := fun nv s W h hne => absurd rfl hne
 members := fun nv s W h hne => absurd rfl hne
 block := fun nv s W h hne => absurd rfl hne
 variable_ := fun _ nv s W h hne => absurd rfl hne
 choice := fun nv s W h hne => absurd rfl hne
 callable := fun _ _ nv s W h hne => absurd rfl hne
 func1 := fun nv s W h hne => absurd rfl hne
 func2 := fun nv s W h hne => absurd rfl hne
 field := fun nv s W h hne => absurd rfl hne
 alias_ := fun nv s W h hne => absurd rfl hne
 enumMember := fun nv s W h hne => absurd rfl hne
 base := fun nv s W h hne => absurd rfl hne
 super := fun nv s W h hne => absurd rfl hne
 spacePart := fun nv s W h hne => absurd rfl hne
 namespace_ := fun nv s W h hne => absurd rfl hne
 forOf := fun _ nv s W h hne => absurd rfl hne
 filStmt := fun nv s W h hne => absurd rfl hne
 filClass := fun nv s W h hne => absurd rfl hne
 filSpace := fun nv s W h hne => absurd rfl hne
 bare := fun _ nv s W h hne => absurd rfl hne
 program := fun nv s W h hne => absurd rfl hne
 declaration := fun nv s W h hne => absurd rfl hne
 stmt := fun nv s W h hne => absurd rfl hne
 piece := fun nv s W h hne => absurd rfl hne
 refs1 := fun nv s W h hne => absurd rfl hne
 refs2 := fun nv s W h hne => absurd rfl hne
 face := fun nv s W h hne => absurd rfl hne
 marked0 := fun _ nv s W h hne => absurd rfl hne
 marked2 := fun _ nv s W h hne => absurd rfl hne
 marked4 := fun _ nv s W h hne => absurd rfl hne
 marked6 := fun _ nv s W h hne => absurd rfl hne
 param := fun nv s W h hne => absurd rfl hne
 memberParam := fun nv s W h hne => absurd rfl hne
 objectType := fun nv s W h hne => absurd rfl hne
 enum := fun nv s W h hne => absurd rfl hne
 exported := fun nv s W h hne => absurd rfl hne
 try_ := fun nv s W h hne => absurd rfl hne
 loop := fun nv s W h hne => absurd rfl hne
 arrow := fun nv s W h hne => absurd rfl hne
 typeParams := fun nv s W h hne => absurd rfl hne
 typeArgs := fun nv s W h hne => absurd rfl hne
 postfix_ := fun nv s W h hne => absurd rfl hne
 newThing := fun nv s W h hne => absurd rfl hne
 expr := fun nv s W h hne => absurd rfl hne
 primary := fun nv s W h hne => absurd rfl hne
 plainType := fun nv s W h hne => absurd rfl hne
 anyType := fun nv s W h hne => absurd rfl hne
 template := fun nv s W h hne => absurd rfl hne
 typeRef := fun nv s W h hne => absurd rfl hne
 classPart := fun nv s W h hne => absurd rfl hne
 cls := fun nv s W h hne => absurd rfl hne
 binary := fun _ _ nv s W h hne => absurd rfl hne
 callTypes := fun nv s W h hne => absurd rfl hne
 braPiece := fun nv s W b h hb hne => absurd rfl hne
 braEnum := fun nv s W b h hb hne => absurd rfl hne
 braPair := fun nv s W b h hb hne => absurd rfl hne
theorem al_cond {E : En} (hE : E.Ok) {n : Nat} (H : ∀ m, m ≤ n → ∀ Z, AllI { E with Z := Z } m) (Z : Nat → Prop) : IHA { E with Z := Z } (n + 1) .cond 48 #[.pointer (some ⟨E.M, 0, none⟩)] :=
 have OK := hE.z Z;have N := H n NL Z;fun nv s W h hne => cond_step OK (N.binary 0 (by omega)) N.expr nv s W h hne
theorem al_arrayType {E : En} (hE : E.Ok) {n : Nat} (H : ∀ m, m ≤ n → ∀ Z, AllI { E with Z := Z } m) (Z : Nat → Prop) : IHA { E with Z := Z } (n + 1) .arrayType 43 #[.pointer (some ⟨E.M, 0, none⟩)] :=
 have OK := hE.z Z;have N := H n NL Z;fun nv s W h hne => arrayType_step OK N.plainType nv s W h hne
theorem al_evaluated {E : En} (hE : E.Ok) {n : Nat} (H : ∀ m, m ≤ n → ∀ Z, AllI { E with Z := Z } m) (Z : Nat → Prop) : ∀ (k : Int) (at' : Nat), IHA { E with Z := Z } (n + 1) (.evaluated k at') 70 #[.pointer (some ⟨E.M, 0, none⟩), .int .i64 k, .int .i64 (at' : Int)] :=
 have OK := hE.z Z;have N := H n NL Z;fun k at' => evaluated_step OK k at' N.expr
theorem al_inParens {E : En} (hE : E.Ok) {n : Nat} (H : ∀ m, m ≤ n → ∀ Z, AllI { E with Z := Z } m) (Z : Nat → Prop) : IHA { E with Z := Z } (n + 1) .inParens 107 #[.pointer (some ⟨E.M, 0, none⟩)] :=
 have OK := hE.z Z;have N := H n NL Z;inParens_step OK N.expr
theorem al_while_ {E : En} (hE : E.Ok) {n : Nat} (H : ∀ m, m ≤ n → ∀ Z, AllI { E with Z := Z } m) (Z : Nat → Prop) : IHA { E with Z := Z } (n + 1) .while' 66 #[.pointer (some ⟨E.M, 0, none⟩)] :=
 have OK := hE.z Z;have N := H n NL Z;while_step OK N.inParens N.block
theorem al_typeParam {E : En} (hE : E.Ok) {n : Nat} (H : ∀ m, m ≤ n → ∀ Z, AllI { E with Z := Z } m) (Z : Nat → Prop) : IHA { E with Z := Z } (n + 1) .typeParam 156 #[.pointer (some ⟨E.M, 0, none⟩)] :=
 have OK := hE.z Z;have N := H n NL Z;typeParam_step OK
theorem al_caught {E : En} (hE : E.Ok) {n : Nat} (H : ∀ m, m ≤ n → ∀ Z, AllI { E with Z := Z } m) (Z : Nat → Prop) : IHA { E with Z := Z } (n + 1) .caught 112 #[.pointer (some ⟨E.M, 0, none⟩)] :=
 have OK := hE.z Z;have N := H n NL Z;caught_step OK N.block
theorem al_pair {E : En} (hE : E.Ok) {n : Nat} (H : ∀ m, m ≤ n → ∀ Z, AllI { E with Z := Z } m) (Z : Nat → Prop) : IHA { E with Z := Z } (n + 1) .pair 248 #[.pointer (some ⟨E.M, 0, none⟩)] :=
 have OK := hE.z Z;have N := H n NL Z;pair_step OK N.expr
theorem al_otherwise {E : En} (hE : E.Ok) {n : Nat} (H : ∀ m, m ≤ n → ∀ Z, AllI { E with Z := Z } m) (Z : Nat → Prop) : IHA { E with Z := Z } (n + 1) .otherwise 108 #[.pointer (some ⟨E.M, 0, none⟩)] :=
 have OK := hE.z Z;have N := H n NL Z;otherwise_step OK N.choice N.block
theorem al_body {E : En} (hE : E.Ok) {n : Nat} (H : ∀ m, m ≤ n → ∀ Z, AllI { E with Z := Z } m) (Z : Nat → Prop) : IHA { E with Z := Z } (n + 1) .body 100 #[.pointer (some ⟨E.M, 0, none⟩)] :=
 have OK := hE.z Z;have N := H n NL Z;body_step OK N.expr N.block
theorem al_unary {E : En} (hE : E.Ok) {n : Nat} (H : ∀ m, m ≤ n → ∀ Z, AllI { E with Z := Z } m) (Z : Nat → Prop) : IHA { E with Z := Z } (n + 1) .unary 159 #[.pointer (some ⟨E.M, 0, none⟩)] :=
 have OK := hE.z Z;have N := H n NL Z;unary_step OK N.unary N.postfix_
theorem al_maybeType {E : En} (hE : E.Ok) {n : Nat} (H : ∀ m, m ≤ n → ∀ Z, AllI { E with Z := Z } m) (Z : Nat → Prop) : IHA { E with Z := Z } (n + 1) (.maybe [58] .anyType) 104 #[.pointer (some ⟨E.M, 0, none⟩), .string ⟨#[58]⟩, .func (.func 22) #[.pointer (some ⟨E.M, 0, none⟩)] #[]] :=
 have OK := hE.z Z;have N := H n NL Z;maybe_step OK N.anyType ⟨rfl, by intro z hz; simp at hz; omega⟩ (fun args w => by kernel_rfl)
theorem al_maybeExpr {E : En} (hE : E.Ok) {n : Nat} (H : ∀ m, m ≤ n → ∀ Z, AllI { E with Z := Z } m) (Z : Nat → Prop) : IHA { E with Z := Z } (n + 1) (.maybe [61] .expr) 104 #[.pointer (some ⟨E.M, 0, none⟩), .string ⟨#[61]⟩, .func (.func 24) #[.pointer (some ⟨E.M, 0, none⟩)] #[]] :=
 have OK := hE.z Z;have N := H n NL Z;maybe_step OK N.expr ⟨rfl, by intro z hz; simp at hz; omega⟩ (fun args w => by kernel_rfl)
theorem al_maybeElse {E : En} (hE : E.Ok) {n : Nat} (H : ∀ m, m ≤ n → ∀ Z, AllI { E with Z := Z } m) (Z : Nat → Prop) : IHA { E with Z := Z } (n + 1) (.maybe [101, 108, 115, 101] .otherwise) 104 #[.pointer (some ⟨E.M, 0, none⟩), .string ⟨#[101, 108, 115, 101]⟩, .func (.func 108) #[.pointer (some ⟨E.M, 0, none⟩)] #[]] :=
 have OK := hE.z Z;have N := H n NL Z;maybe_step OK N.otherwise ⟨rfl, by intro z hz; simp at hz; omega⟩ (fun args w => by kernel_rfl)
theorem al_maybeLast {E : En} (hE : E.Ok) {n : Nat} (H : ∀ m, m ≤ n → ∀ Z, AllI { E with Z := Z } m) (Z : Nat → Prop) : IHA { E with Z := Z } (n + 1) (.maybe [102, 105, 110, 97, 108, 108, 121] .block) 104 #[.pointer (some ⟨E.M, 0, none⟩), .string ⟨#[102, 105, 110, 97, 108, 108, 121]⟩, .func (.func 60) #[.pointer (some ⟨E.M, 0, none⟩)] #[]] :=
 have OK := hE.z Z;have N := H n NL Z;maybe_step OK N.block ⟨rfl, by intro z hz; simp at hz; omega⟩ (fun args w => by kernel_rfl)
theorem al_until1 {E : En} (hE : E.Ok) {n : Nat} (H : ∀ m, m ≤ n → ∀ Z, AllI { E with Z := Z } m) (Z : Nat → Prop) : IHA { E with Z := Z } (n + 1) (.until [59] .expr) 68 #[.pointer (some ⟨E.M, 0, none⟩), .string ⟨#[59]⟩, .func (.func 24) #[.pointer (some ⟨E.M, 0, none⟩)] #[]] :=
 have OK := hE.z Z;have N := H n NL Z;until_step OK N.expr ⟨rfl, by intro z hz; simp at hz; omega⟩ (fun args w => by kernel_rfl)
theorem al_until2 {E : En} (hE : E.Ok) {n : Nat} (H : ∀ m, m ≤ n → ∀ Z, AllI { E with Z := Z } m) (Z : Nat → Prop) : IHA { E with Z := Z } (n + 1) (.until [41] .expr) 68 #[.pointer (some ⟨E.M, 0, none⟩), .string ⟨#[41]⟩, .func (.func 24) #[.pointer (some ⟨E.M, 0, none⟩)] #[]] :=
 have OK := hE.z Z;have N := H n NL Z;until_step OK N.expr ⟨rfl, by intro z hz; simp at hz; omega⟩ (fun args w => by kernel_rfl)
theorem al_sevTypeParam {E : En} (hE : E.Ok) {n : Nat} (H : ∀ m, m ≤ n → ∀ Z, AllI { E with Z := Z } m) (Z : Nat → Prop) : IHL { E with Z := Z } (n + 1) (.several .typeParam) 155 #[.pointer (some ⟨E.M, 0, none⟩), .func (.func 156) #[.pointer (some ⟨E.M, 0, none⟩)] #[]] :=
 have OK := hE.z Z;have N := H n NL Z;several_step OK (fun m hm Z' => (H m hm Z').typeParam) (fun args w => by kernel_rfl)
theorem al_sevType {E : En} (hE : E.Ok) {n : Nat} (H : ∀ m, m ≤ n → ∀ Z, AllI { E with Z := Z } m) (Z : Nat → Prop) : IHL { E with Z := Z } (n + 1) (.several .anyType) 155 #[.pointer (some ⟨E.M, 0, none⟩), .func (.func 22) #[.pointer (some ⟨E.M, 0, none⟩)] #[]] :=
 have OK := hE.z Z;have N := H n NL Z;several_step OK (fun m hm Z' => (H m hm Z').anyType) (fun args w => by kernel_rfl)
theorem al_sevRef {E : En} (hE : E.Ok) {n : Nat} (H : ∀ m, m ≤ n → ∀ Z, AllI { E with Z := Z } m) (Z : Nat → Prop) : IHL { E with Z := Z } (n + 1) (.several .typeRef) 155 #[.pointer (some ⟨E.M, 0, none⟩), .func (.func 153) #[.pointer (some ⟨E.M, 0, none⟩)] #[]] :=
 have OK := hE.z Z;have N := H n NL Z;several_step OK (fun m hm Z' => (H m hm Z').typeRef) (fun args w => by kernel_rfl)
theorem al_sevExpr {E : En} (hE : E.Ok) {n : Nat} (H : ∀ m, m ≤ n → ∀ Z, AllI { E with Z := Z } m) (Z : Nat → Prop) : IHL { E with Z := Z } (n + 1) (.several .expr) 155 #[.pointer (some ⟨E.M, 0, none⟩), .func (.func 24) #[.pointer (some ⟨E.M, 0, none⟩)] #[]] :=
 have OK := hE.z Z;have N := H n NL Z;several_step OK (fun m hm Z' => (H m hm Z').expr) (fun args w => by kernel_rfl)
theorem al_sevParam {E : En} (hE : E.Ok) {n : Nat} (H : ∀ m, m ≤ n → ∀ Z, AllI { E with Z := Z } m) (Z : Nat → Prop) : IHL { E with Z := Z } (n + 1) (.several .param) 155 #[.pointer (some ⟨E.M, 0, none⟩), .func (.func 97) #[.pointer (some ⟨E.M, 0, none⟩)] #[]] :=
 have OK := hE.z Z;have N := H n NL Z;several_step OK (fun m hm Z' => (H m hm Z').param) (fun args w => by kernel_rfl)
theorem al_sevMember {E : En} (hE : E.Ok) {n : Nat} (H : ∀ m, m ≤ n → ∀ Z, AllI { E with Z := Z } m) (Z : Nat → Prop) : IHL { E with Z := Z } (n + 1) (.several .memberParam) 155 #[.pointer (some ⟨E.M, 0, none⟩), .func (.func 207) #[.pointer (some ⟨E.M, 0, none⟩)] #[]] :=
 have OK := hE.z Z;have N := H n NL Z;several_step OK (fun m hm Z' => (H m hm Z').memberParam) (fun args w => by kernel_rfl)
theorem al_encArgs {E : En} (hE : E.Ok) {n : Nat} (H : ∀ m, m ≤ n → ∀ Z, AllI { E with Z := Z } m) (Z : Nat → Prop) : IHL { E with Z := Z } (n + 1) (.enclosed [40] [41] .expr) 158 #[.pointer (some ⟨E.M, 0, none⟩), .string ⟨#[40]⟩, .string ⟨#[41]⟩, .func (.func 24) #[.pointer (some ⟨E.M, 0, none⟩)] #[]] :=
 have OK := hE.z Z;have N := H n NL Z;enclosed_step OK N.sevExpr ⟨rfl, by intro z hz; simp at hz; omega⟩ ⟨rfl, by intro z hz; simp at hz; omega⟩
theorem al_encArray {E : En} (hE : E.Ok) {n : Nat} (H : ∀ m, m ≤ n → ∀ Z, AllI { E with Z := Z } m) (Z : Nat → Prop) : IHL { E with Z := Z } (n + 1) (.enclosed [91] [93] .expr) 158 #[.pointer (some ⟨E.M, 0, none⟩), .string ⟨#[91]⟩, .string ⟨#[93]⟩, .func (.func 24) #[.pointer (some ⟨E.M, 0, none⟩)] #[]] :=
 have OK := hE.z Z;have N := H n NL Z;enclosed_step OK N.sevExpr ⟨rfl, by intro z hz; simp at hz; omega⟩ ⟨rfl, by intro z hz; simp at hz; omega⟩
theorem al_encParam {E : En} (hE : E.Ok) {n : Nat} (H : ∀ m, m ≤ n → ∀ Z, AllI { E with Z := Z } m) (Z : Nat → Prop) : IHL { E with Z := Z } (n + 1) (.enclosed [40] [41] .param) 158 #[.pointer (some ⟨E.M, 0, none⟩), .string ⟨#[40]⟩, .string ⟨#[41]⟩, .func (.func 97) #[.pointer (some ⟨E.M, 0, none⟩)] #[]] :=
 have OK := hE.z Z;have N := H n NL Z;enclosed_step OK N.sevParam ⟨rfl, by intro z hz; simp at hz; omega⟩ ⟨rfl, by intro z hz; simp at hz; omega⟩
theorem al_encMember {E : En} (hE : E.Ok) {n : Nat} (H : ∀ m, m ≤ n → ∀ Z, AllI { E with Z := Z } m) (Z : Nat → Prop) : IHL { E with Z := Z } (n + 1) (.enclosed [40] [41] .memberParam) 158 #[.pointer (some ⟨E.M, 0, none⟩), .string ⟨#[40]⟩, .string ⟨#[41]⟩, .func (.func 207) #[.pointer (some ⟨E.M, 0, none⟩)] #[]] :=
 have OK := hE.z Z;have N := H n NL Z;enclosed_step OK N.sevMember ⟨rfl, by intro z hz; simp at hz; omega⟩ ⟨rfl, by intro z hz; simp at hz; omega⟩
theorem al_args {E : En} (hE : E.Ok) {n : Nat} (H : ∀ m, m ≤ n → ∀ Z, AllI { E with Z := Z } m) (Z : Nat → Prop) : IHA { E with Z := Z } (n + 1) .args 228 #[.pointer (some ⟨E.M, 0, none⟩)] :=
 have OK := hE.z Z;have N := H n NL Z;args_step OK N.encArgs
theorem al_params {E : En} (hE : E.Ok) {n : Nat} (H : ∀ m, m ≤ n → ∀ Z, AllI { E with Z := Z } m) (Z : Nat → Prop) : IHA { E with Z := Z } (n + 1) (.params .param) 99 #[.pointer (some ⟨E.M, 0, none⟩), .func (.func 97) #[.pointer (some ⟨E.M, 0, none⟩)] #[]] :=
 have OK := hE.z Z;have N := H n NL Z;params_step OK N.encParam
theorem al_members {E : En} (hE : E.Ok) {n : Nat} (H : ∀ m, m ≤ n → ∀ Z, AllI { E with Z := Z } m) (Z : Nat → Prop) : IHA { E with Z := Z } (n + 1) (.params .memberParam) 99 #[.pointer (some ⟨E.M, 0, none⟩), .func (.func 207) #[.pointer (some ⟨E.M, 0, none⟩)] #[]] :=
 have OK := hE.z Z;have N := H n NL Z;params_step OK N.encMember
theorem al_block {E : En} (hE : E.Ok) {n : Nat} (H : ∀ m, m ≤ n → ∀ Z, AllI { E with Z := Z } m) (Z : Nat → Prop) : IHA { E with Z := Z } (n + 1) .block 60 #[.pointer (some ⟨E.M, 0, none⟩)] :=
 have OK := hE.z Z;have N := H n NL Z;block_step OK N.filStmt
theorem al_variable_ {E : En} (hE : E.Ok) {n : Nat} (H : ∀ m, m ≤ n → ∀ Z, AllI { E with Z := Z } m) (Z : Nat → Prop) : ∀ num : Int, IHA { E with Z := Z } (n + 1) (.variable num) 61 #[.pointer (some ⟨E.M, 0, none⟩), .int .i64 num] :=
 have OK := hE.z Z;have N := H n NL Z;fun num => variable_step OK num N.expr N.maybeType
theorem al_choice {E : En} (hE : E.Ok) {n : Nat} (H : ∀ m, m ≤ n → ∀ Z, AllI { E with Z := Z } m) (Z : Nat → Prop) : IHA { E with Z := Z } (n + 1) .choice 65 #[.pointer (some ⟨E.M, 0, none⟩)] :=
 have OK := hE.z Z;have N := H n NL Z;choice_step OK N.inParens N.block N.maybeElse
theorem al_callable {E : En} (hE : E.Ok) {n : Nat} (H : ∀ m, m ≤ n → ∀ Z, AllI { E with Z := Z } m) (Z : Nat → Prop) : ∀ (k : Int) (at' : Nat), IHA { E with Z := Z } (n + 1) (.callable k at') 113 #[.pointer (some ⟨E.M, 0, none⟩), .int .i64 k, .int .i64 (at' : Int)] :=
 have OK := hE.z Z;have N := H n NL Z;fun k at' => callable_step OK k at' N.typeParams N.params N.block N.maybeType
theorem al_func1 {E : En} (hE : E.Ok) {n : Nat} (H : ∀ m, m ≤ n → ∀ Z, AllI { E with Z := Z } m) (Z : Nat → Prop) : IHA { E with Z := Z } (n + 1) (.funcType [61, 62]) 150 #[.pointer (some ⟨E.M, 0, none⟩), .string ⟨#[61, 62]⟩] :=
 have OK := hE.z Z;have N := H n NL Z;funcType_step OK N.params N.anyType ⟨rfl, by intro z hz; simp at hz; omega⟩
theorem al_func2 {E : En} (hE : E.Ok) {n : Nat} (H : ∀ m, m ≤ n → ∀ Z, AllI { E with Z := Z } m) (Z : Nat → Prop) : IHA { E with Z := Z } (n + 1) (.funcType [58]) 150 #[.pointer (some ⟨E.M, 0, none⟩), .string ⟨#[58]⟩] :=
 have OK := hE.z Z;have N := H n NL Z;funcType_step OK N.params N.anyType ⟨rfl, by intro z hz; simp at hz; omega⟩
theorem al_field {E : En} (hE : E.Ok) {n : Nat} (H : ∀ m, m ≤ n → ∀ Z, AllI { E with Z := Z } m) (Z : Nat → Prop) : IHA { E with Z := Z } (n + 1) .field 208 #[.pointer (some ⟨E.M, 0, none⟩)] :=
 have OK := hE.z Z;have N := H n NL Z;field_step OK N.maybeType N.maybeExpr
theorem al_alias_ {E : En} (hE : E.Ok) {n : Nat} (H : ∀ m, m ≤ n → ∀ Z, AllI { E with Z := Z } m) (Z : Nat → Prop) : IHA { E with Z := Z } (n + 1) .alias 117 #[.pointer (some ⟨E.M, 0, none⟩)] :=
 have OK := hE.z Z;have N := H n NL Z;alias_step OK N.typeParams N.anyType
theorem al_enumMember {E : En} (hE : E.Ok) {n : Nat} (H : ∀ m, m ≤ n → ∀ Z, AllI { E with Z := Z } m) (Z : Nat → Prop) : IHA { E with Z := Z } (n + 1) .enumMember 106 #[.pointer (some ⟨E.M, 0, none⟩)] :=
 have OK := hE.z Z;have N := H n NL Z;enumMember_step OK N.maybeExpr
theorem al_base {E : En} (hE : E.Ok) {n : Nat} (H : ∀ m, m ≤ n → ∀ Z, AllI { E with Z := Z } m) (Z : Nat → Prop) : IHA { E with Z := Z } (n + 1) .base 162 #[.pointer (some ⟨E.M, 0, none⟩)] :=
 have OK := hE.z Z;have N := H n NL Z;base_step OK N.typeArgs
theorem al_super {E : En} (hE : E.Ok) {n : Nat} (H : ∀ m, m ≤ n → ∀ Z, AllI { E with Z := Z } m) (Z : Nat → Prop) : IHA { E with Z := Z } (n + 1) .super 250 #[.pointer (some ⟨E.M, 0, none⟩)] :=
 have OK := hE.z Z;have N := H n NL Z;super_step OK N.args
theorem al_spacePart {E : En} (hE : E.Ok) {n : Nat} (H : ∀ m, m ≤ n → ∀ Z, AllI { E with Z := Z } m) (Z : Nat → Prop) : IHA { E with Z := Z } (n + 1) .spacePart 166 #[.pointer (some ⟨E.M, 0, none⟩)] :=
 have OK := hE.z Z;have N := H n NL Z;spacePart_step OK N.stmt N.exported
theorem al_namespace_ {E : En} (hE : E.Ok) {n : Nat} (H : ∀ m, m ≤ n → ∀ Z, AllI { E with Z := Z } m) (Z : Nat → Prop) : IHA { E with Z := Z } (n + 1) .namespace' 115 #[.pointer (some ⟨E.M, 0, none⟩)] :=
 have OK := hE.z Z;have N := H n NL Z;namespace_step OK N.filSpace
theorem al_forOf {E : En} (hE : E.Ok) {n : Nat} (H : ∀ m, m ≤ n → ∀ Z, AllI { E with Z := Z } m) (Z : Nat → Prop) : ∀ at' : Nat, IHA { E with Z := Z } (n + 1) (.forOf at') 110 #[.pointer (some ⟨E.M, 0, none⟩), .int .i64 (at' : Int)] :=
 have OK := hE.z Z;have N := H n NL Z;fun at' => forOf_step OK at' N.expr N.block
theorem al_filStmt {E : En} (hE : E.Ok) {n : Nat} (H : ∀ m, m ≤ n → ∀ Z, AllI { E with Z := Z } m) (Z : Nat → Prop) : IHL { E with Z := Z } (n + 1) (.filled .stmt) 102 #[.pointer (some ⟨E.M, 0, none⟩), .func (.func 31) #[.pointer (some ⟨E.M, 0, none⟩)] #[]] :=
 have OK := hE.z Z;have N := H n NL Z;filled_step OK (fun m hm Z' => (H m hm Z').stmt) (fun args w => by kernel_rfl)
theorem al_filClass {E : En} (hE : E.Ok) {n : Nat} (H : ∀ m, m ≤ n → ∀ Z, AllI { E with Z := Z } m) (Z : Nat → Prop) : IHL { E with Z := Z } (n + 1) (.filled .classPart) 102 #[.pointer (some ⟨E.M, 0, none⟩), .func (.func 164) #[.pointer (some ⟨E.M, 0, none⟩)] #[]] :=
 have OK := hE.z Z;have N := H n NL Z;filled_step OK (fun m hm Z' => (H m hm Z').classPart) (fun args w => by kernel_rfl)
theorem al_filSpace {E : En} (hE : E.Ok) {n : Nat} (H : ∀ m, m ≤ n → ∀ Z, AllI { E with Z := Z } m) (Z : Nat → Prop) : IHL { E with Z := Z } (n + 1) (.filled .spacePart) 102 #[.pointer (some ⟨E.M, 0, none⟩), .func (.func 166) #[.pointer (some ⟨E.M, 0, none⟩)] #[]] :=
 have OK := hE.z Z;have N := H n NL Z;filled_step OK (fun m hm Z' => (H m hm Z').spacePart) (fun args w => by kernel_rfl)
theorem al_bare {E : En} (hE : E.Ok) {n : Nat} (H : ∀ m, m ≤ n → ∀ Z, AllI { E with Z := Z } m) (Z : Nat → Prop) : ∀ k : Int, IHA { E with Z := Z } (n + 1) (.bare k) 69 #[.pointer (some ⟨E.M, 0, none⟩), .int .i64 k] :=
 have OK := hE.z Z;have N := H n NL Z;fun k => bare_step OK k
theorem al_program {E : En} (hE : E.Ok) {n : Nat} (H : ∀ m, m ≤ n → ∀ Z, AllI { E with Z := Z } m) (Z : Nat → Prop) : IHA { E with Z := Z } (n + 1) .program 17 #[.pointer (some ⟨E.M, 0, none⟩)] :=
 have OK := hE.z Z;have N := H n NL Z;program_step OK (fun m hm Z' => (H m hm Z').stmt)
theorem al_declaration {E : En} (hE : E.Ok) {n : Nat} (H : ∀ m, m ≤ n → ∀ Z, AllI { E with Z := Z } m) (Z : Nat → Prop) : IHA { E with Z := Z } (n + 1) .declaration 73 #[.pointer (some ⟨E.M, 0, none⟩)] :=
 have OK := hE.z Z;have N := H n NL Z;declaration_step OK (fun at' => N.callable 41 at') N.cls N.enum N.namespace_ N.face N.alias_
theorem al_stmt {E : En} (hE : E.Ok) {n : Nat} (H : ∀ m, m ≤ n → ∀ Z, AllI { E with Z := Z } m) (Z : Nat → Prop) : IHA { E with Z := Z } (n + 1) .stmt 31 #[.pointer (some ⟨E.M, 0, none⟩)] :=
 have OK := hE.z Z;have N := H n NL Z;stmt_step OK N.block N.variable_ N.enum N.choice N.while_ N.loop N.until1 N.bare N.evaluated N.try_ N.declaration
theorem al_piece {E : En} (hE : E.Ok) {n : Nat} (H : ∀ m, m ≤ n → ∀ Z, AllI { E with Z := Z } m) (Z : Nat → Prop) : IHA { E with Z := Z } (n + 1) .piece 200 #[.pointer (some ⟨E.M, 0, none⟩)] :=
 have OK := hE.z Z;have N := H n NL Z;piece_step OK N.anyType N.func2
theorem al_refs1 {E : En} (hE : E.Ok) {n : Nat} (H : ∀ m, m ≤ n → ∀ Z, AllI { E with Z := Z } m) (Z : Nat → Prop) : IHA { E with Z := Z } (n + 1) (.refs [101, 120, 116, 101, 110, 100, 115]) 163 #[.pointer (some ⟨E.M, 0, none⟩), .string ⟨#[101, 120, 116, 101, 110, 100, 115]⟩] :=
 have OK := hE.z Z;have N := H n NL Z;refs_step OK N.sevRef ⟨rfl, by intro z hz; simp at hz; omega⟩
theorem al_refs2 {E : En} (hE : E.Ok) {n : Nat} (H : ∀ m, m ≤ n → ∀ Z, AllI { E with Z := Z } m) (Z : Nat → Prop) : IHA { E with Z := Z } (n + 1) (.refs [105, 109, 112, 108, 101, 109, 101, 110, 116, 115]) 163 #[.pointer (some ⟨E.M, 0, none⟩), .string ⟨#[105, 109, 112, 108, 101, 109, 101, 110, 116, 115]⟩] :=
 have OK := hE.z Z;have N := H n NL Z;refs_step OK N.sevRef ⟨rfl, by intro z hz; simp at hz; omega⟩
theorem al_face {E : En} (hE : E.Ok) {n : Nat} (H : ∀ m, m ≤ n → ∀ Z, AllI { E with Z := Z } m) (Z : Nat → Prop) : IHA { E with Z := Z } (n + 1) .face 116 #[.pointer (some ⟨E.M, 0, none⟩)] :=
 have OK := hE.z Z;have N := H n NL Z;face_step OK N.typeParams N.refs1 N.objectType
theorem al_marked0 {E : En} (hE : E.Ok) {n : Nat} (H : ∀ m, m ≤ n → ∀ Z, AllI { E with Z := Z } m) (Z : Nat → Prop) : ∀ at' : Nat, IHA { E with Z := Z } (n + 1) (.marked at' 0) 154 #[.pointer (some ⟨E.M, 0, none⟩), .int .i64 (at' : Int), .int .i64 0] :=
 have OK := hE.z Z;have N := H n NL Z;fun at' => marked0_step OK at' N.maybeType
theorem al_marked2 {E : En} (hE : E.Ok) {n : Nat} (H : ∀ m, m ≤ n → ∀ Z, AllI { E with Z := Z } m) (Z : Nat → Prop) : ∀ at' : Nat, IHA { E with Z := Z } (n + 1) (.marked at' 2) 154 #[.pointer (some ⟨E.M, 0, none⟩), .int .i64 (at' : Int), .int .i64 2] :=
 have OK := hE.z Z;have N := H n NL Z;fun at' => marked2_step OK at' N.maybeType
theorem al_marked4 {E : En} (hE : E.Ok) {n : Nat} (H : ∀ m, m ≤ n → ∀ Z, AllI { E with Z := Z } m) (Z : Nat → Prop) : ∀ at' : Nat, IHA { E with Z := Z } (n + 1) (.marked at' 4) 154 #[.pointer (some ⟨E.M, 0, none⟩), .int .i64 (at' : Int), .int .i64 4] :=
 have OK := hE.z Z;have N := H n NL Z;fun at' => marked4_step OK at' N.maybeType
theorem al_marked6 {E : En} (hE : E.Ok) {n : Nat} (H : ∀ m, m ≤ n → ∀ Z, AllI { E with Z := Z } m) (Z : Nat → Prop) : ∀ at' : Nat, IHA { E with Z := Z } (n + 1) (.marked at' 6) 154 #[.pointer (some ⟨E.M, 0, none⟩), .int .i64 (at' : Int), .int .i64 6] :=
 have OK := hE.z Z;have N := H n NL Z;fun at' => marked6_step OK at' N.maybeType
theorem al_param {E : En} (hE : E.Ok) {n : Nat} (H : ∀ m, m ≤ n → ∀ Z, AllI { E with Z := Z } m) (Z : Nat → Prop) : IHA { E with Z := Z } (n + 1) .param 97 #[.pointer (some ⟨E.M, 0, none⟩)] :=
 have OK := hE.z Z;have N := H n NL Z;param_step OK N.marked0
theorem al_memberParam {E : En} (hE : E.Ok) {n : Nat} (H : ∀ m, m ≤ n → ∀ Z, AllI { E with Z := Z } m) (Z : Nat → Prop) : IHA { E with Z := Z } (n + 1) .memberParam 207 #[.pointer (some ⟨E.M, 0, none⟩)] :=
 have OK := hE.z Z;have N := H n NL Z;memberParam_step OK N.marked0 N.marked2 N.marked4 N.marked6
theorem al_objectType {E : En} (hE : E.Ok) {n : Nat} (H : ∀ m, m ≤ n → ∀ Z, AllI { E with Z := Z } m) (Z : Nat → Prop) : IHA { E with Z := Z } (n + 1) .objectType 151 #[.pointer (some ⟨E.M, 0, none⟩)] :=
 have OK := hE.z Z;have N := H n NL Z;objectType_step OK N.braPiece
theorem al_enum {E : En} (hE : E.Ok) {n : Nat} (H : ∀ m, m ≤ n → ∀ Z, AllI { E with Z := Z } m) (Z : Nat → Prop) : IHA { E with Z := Z } (n + 1) .enum 64 #[.pointer (some ⟨E.M, 0, none⟩)] :=
 have OK := hE.z Z;have N := H n NL Z;enum_step OK N.braEnum
theorem al_exported {E : En} (hE : E.Ok) {n : Nat} (H : ∀ m, m ≤ n → ∀ Z, AllI { E with Z := Z } m) (Z : Nat → Prop) : IHA { E with Z := Z } (n + 1) .exported 209 #[.pointer (some ⟨E.M, 0, none⟩)] :=
 have OK := hE.z Z;have N := H n NL Z;exported_step OK (N.variable_ 1) N.declaration
theorem al_try_ {E : En} (hE : E.Ok) {n : Nat} (H : ∀ m, m ≤ n → ∀ Z, AllI { E with Z := Z } m) (Z : Nat → Prop) : IHA { E with Z := Z } (n + 1) .try' 71 #[.pointer (some ⟨E.M, 0, none⟩)] :=
 have OK := hE.z Z;have N := H n NL Z;try_step OK N.block N.caught N.maybeLast
theorem al_loop {E : En} (hE : E.Ok) {n : Nat} (H : ∀ m, m ≤ n → ∀ Z, AllI { E with Z := Z } m) (Z : Nat → Prop) : IHA { E with Z := Z } (n + 1) .loop 67 #[.pointer (some ⟨E.M, 0, none⟩)] :=
 have OK := hE.z Z;have N := H n NL Z;loop_step OK N.block N.forOf (N.variable_ 0) N.until1 N.until2
theorem al_arrow {E : En} (hE : E.Ok) {n : Nat} (H : ∀ m, m ≤ n → ∀ Z, AllI { E with Z := Z } m) (Z : Nat → Prop) : IHA { E with Z := Z } (n + 1) .arrow 47 #[.pointer (some ⟨E.M, 0, none⟩)] :=
 have OK := hE.z Z;have N := H n NL Z;arrow_step OK N.param N.typeParams N.params N.body
theorem al_typeParams {E : En} (hE : E.Ok) {n : Nat} (H : ∀ m, m ≤ n → ∀ Z, AllI { E with Z := Z } m) (Z : Nat → Prop) : IHA { E with Z := Z } (n + 1) .typeParams 98 #[.pointer (some ⟨E.M, 0, none⟩)] :=
 have OK := hE.z Z;have N := H n NL Z;typeParams_step OK N.sevTypeParam
theorem al_typeArgs {E : En} (hE : E.Ok) {n : Nat} (H : ∀ m, m ≤ n → ∀ Z, AllI { E with Z := Z } m) (Z : Nat → Prop) : IHA { E with Z := Z } (n + 1) .typeArgs 202 #[.pointer (some ⟨E.M, 0, none⟩)] :=
 have OK := hE.z Z;have N := H n NL Z;typeArgs_step OK N.sevType
theorem al_postfix_ {E : En} (hE : E.Ok) {n : Nat} (H : ∀ m, m ≤ n → ∀ Z, AllI { E with Z := Z } m) (Z : Nat → Prop) : IHA { E with Z := Z } (n + 1) .postfix 205 #[.pointer (some ⟨E.M, 0, none⟩)] :=
 have OK := hE.z Z;have N := H n NL Z;postfix_step OK N.primary (fun m hm => (H m hm Z).expr) (fun m hm => (H m hm Z).args) (fun m hm => (H m hm Z).callTypes)
theorem al_newThing {E : En} (hE : E.Ok) {n : Nat} (H : ∀ m, m ≤ n → ∀ Z, AllI { E with Z := Z } m) (Z : Nat → Prop) : IHA { E with Z := Z } (n + 1) .newThing 249 #[.pointer (some ⟨E.M, 0, none⟩)] :=
 have OK := hE.z Z;have N := H n NL Z;newThing_step OK (fun m hm => (H m hm Z).typeArgs) (fun m hm => (H m hm Z).args)
theorem al_expr {E : En} (hE : E.Ok) {n : Nat} (H : ∀ m, m ≤ n → ∀ Z, AllI { E with Z := Z } m) (Z : Nat → Prop) : IHA { E with Z := Z } (n + 1) .expr 24 #[.pointer (some ⟨E.M, 0, none⟩)] :=
 have OK := hE.z Z;have N := H n NL Z;expr_step OK N.arrow N.cond N.expr
theorem al_primary {E : En} (hE : E.Ok) {n : Nat} (H : ∀ m, m ≤ n → ∀ Z, AllI { E with Z := Z } m) (Z : Nat → Prop) : IHA { E with Z := Z } (n + 1) .primary 226 #[.pointer (some ⟨E.M, 0, none⟩)] :=
 have OK := hE.z Z;have N := H n NL Z;primary_step OK N.template N.encArray N.braPair N.newThing N.super N.expr
theorem al_plainType {E : En} (hE : E.Ok) {n : Nat} (H : ∀ m, m ≤ n → ∀ Z, AllI { E with Z := Z } m) (Z : Nat → Prop) : IHA { E with Z := Z } (n + 1) .plainType 93 #[.pointer (some ⟨E.M, 0, none⟩)] :=
 have OK := hE.z Z;have N := H n NL Z;plainType_step OK N.func1 N.anyType N.objectType N.typeRef
theorem al_anyType {E : En} (hE : E.Ok) {n : Nat} (H : ∀ m, m ≤ n → ∀ Z, AllI { E with Z := Z } m) (Z : Nat → Prop) : IHA { E with Z := Z } (n + 1) .anyType 22 #[.pointer (some ⟨E.M, 0, none⟩)] :=
 have OK := hE.z Z;have N := H n NL Z;anyType_step OK (fun m hm Z' => (H m hm Z').arrayType)
theorem al_template {E : En} (hE : E.Ok) {n : Nat} (H : ∀ m, m ≤ n → ∀ Z, AllI { E with Z := Z } m) (Z : Nat → Prop) : IHA { E with Z := Z } (n + 1) .template 247 #[.pointer (some ⟨E.M, 0, none⟩)] :=
 have OK := hE.z Z;have N := H n NL Z;template_step OK (fun m hm Z' => (H m hm Z').expr)
theorem al_typeRef {E : En} (hE : E.Ok) {n : Nat} (H : ∀ m, m ≤ n → ∀ Z, AllI { E with Z := Z } m) (Z : Nat → Prop) : IHA { E with Z := Z } (n + 1) .typeRef 153 #[.pointer (some ⟨E.M, 0, none⟩)] :=
 have OK := hE.z Z;have N := H n NL Z;typeRef_step OK (fun m hm => (H m hm Z).typeArgs)
theorem al_classPart {E : En} (hE : E.Ok) {n : Nat} (H : ∀ m, m ≤ n → ∀ Z, AllI { E with Z := Z } m) (Z : Nat → Prop) : IHA { E with Z := Z } (n + 1) .classPart 164 #[.pointer (some ⟨E.M, 0, none⟩)] :=
 have OK := hE.z Z;have N := H n NL Z;classPart_step OK N.members N.block (fun at' => N.callable 45 at') N.field
theorem al_cls {E : En} (hE : E.Ok) {n : Nat} (H : ∀ m, m ≤ n → ∀ Z, AllI { E with Z := Z } m) (Z : Nat → Prop) : IHA { E with Z := Z } (n + 1) .cls 114 #[.pointer (some ⟨E.M, 0, none⟩)] :=
 have OK := hE.z Z;have N := H n NL Z;class_step OK N.typeParams N.base N.refs2 N.filClass (fun s l s' h => filled_len h)
theorem al_binary {E : En} (hE : E.Ok) {n : Nat} (H : ∀ m, m ≤ n → ∀ Z, AllI { E with Z := Z } m) (Z : Nat → Prop) : ∀ l : Nat, l ≤ 10 → IHA { E with Z := Z } (n + 1) (.binary l) 101 #[.pointer (some ⟨E.M, 0, none⟩), .int .i64 (l : Int)] := fun l hl => by
 have OK := hE.z Z;have N := H n NL Z;rcases Nat.lt_or_ge l 10 with h | h
 · exact binary_step OK l (l + 1) h rfl (fun m hm => (H m hm Z).binary (l + 1) (by omega)) (fun m hm => (H m hm Z).anyType)
 · have e : l = 10 := by omega
   subst e;exact binary_top OK N.unary
theorem all_any {E : En} (hE : E.Ok) : ∀ n, ∀ m, m ≤ n → ∀ Z, AllI { E with Z := Z } m
 | 0, m, hm, Z => by
   have e : m = 0 := by omega
   subst e;exact all_zero _
 | n + 1, m, hm, Z => by
   have H := all_any hE n;rcases Nat.lt_or_ge m (n + 1) with h | h
   · exact H m (by omega) Z
   · have e : m = n + 1 := by omega
     subst e;have OK := hE.z Z
     exact {
      cond := al_cond hE H Z
      arrayType := al_arrayType hE H Z
      evaluated := al_evaluated hE H Z
      inParens := al_inParens hE H Z
      while_ := al_while_ hE H Z
      typeParam := al_typeParam hE H Z
      caught := al_caught hE H Z
      pair := al_pair hE H Z
      otherwise := al_otherwise hE H Z
      body := al_body hE H Z
      unary := al_unary hE H Z
      maybeType := al_maybeType hE H Z
      maybeExpr := al_maybeExpr hE H Z
      maybeElse := al_maybeElse hE H Z
      maybeLast := al_maybeLast hE H Z
      until1 := al_until1 hE H Z
      until2 := al_until2 hE H Z
      sevTypeParam := al_sevTypeParam hE H Z
      sevType := al_sevType hE H Z
      sevRef := al_sevRef hE H Z
      sevExpr := al_sevExpr hE H Z
      sevParam := al_sevParam hE H Z
      sevMember := al_sevMember hE H Z
      encArgs := al_encArgs hE H Z
      encArray := al_encArray hE H Z
      encParam := al_encParam hE H Z
      encMember := al_encMember hE H Z
      args := al_args hE H Z
      params := al_params hE H Z
      members := al_members hE H Z
      block := al_block hE H Z
      variable_ := al_variable_ hE H Z
      choice := al_choice hE H Z
      callable := al_callable hE H Z
      func1 := al_func1 hE H Z
      func2 := al_func2 hE H Z
      field := al_field hE H Z
      alias_ := al_alias_ hE H Z
      enumMember := al_enumMember hE H Z
      base := al_base hE H Z
      super := al_super hE H Z
      spacePart := al_spacePart hE H Z
      namespace_ := al_namespace_ hE H Z
      forOf := al_forOf hE H Z
      filStmt := al_filStmt hE H Z
      filClass := al_filClass hE H Z
      filSpace := al_filSpace hE H Z
      bare := al_bare hE H Z
      program := al_program hE H Z
      declaration := al_declaration hE H Z
      stmt := al_stmt hE H Z
      piece := al_piece hE H Z
      refs1 := al_refs1 hE H Z
      refs2 := al_refs2 hE H Z
      face := al_face hE H Z
      marked0 := al_marked0 hE H Z
      marked2 := al_marked2 hE H Z
      marked4 := al_marked4 hE H Z
      marked6 := al_marked6 hE H Z
      param := al_param hE H Z
      memberParam := al_memberParam hE H Z
      objectType := al_objectType hE H Z
      enum := al_enum hE H Z
      exported := al_exported hE H Z
      try_ := al_try_ hE H Z
      loop := al_loop hE H Z
      arrow := al_arrow hE H Z
      typeParams := al_typeParams hE H Z
      typeArgs := al_typeArgs hE H Z
      postfix_ := al_postfix_ hE H Z
      newThing := al_newThing hE H Z
      expr := al_expr hE H Z
      primary := al_primary hE H Z
      plainType := al_plainType hE H Z
      anyType := al_anyType hE H Z
      template := al_template hE H Z
      typeRef := al_typeRef hE H Z
      classPart := al_classPart hE H Z
      cls := al_cls hE H Z
      binary := al_binary hE H Z
      callTypes := callTypes_step OK fun Z' => (H n NL Z').typeArgs
      braPiece := braced_step OK (fun m hm Z' => (H m hm Z').piece) (fun args w => by kernel_rfl) (by intro x hx z hz; simp at hx; rcases hx with rfl | rfl <;> (simp at hz; omega)) semi_cells (by decide)
      braEnum := braced_step OK (fun m hm Z' => (H m hm Z').enumMember) (fun args w => by kernel_rfl) (by intro x hx z hz; simp at hx; subst hx; simp at hz; omega) comma_cells (by decide)
      braPair := braced_step OK (fun m hm Z' => (H m hm Z').pair) (fun args w => by kernel_rfl) (by intro x hx z hz; simp at hx; subst hx; simp at hz; omega) comma_cells (by decide) }
end
end Go.Proofs.YtofgphapjjofnaaGreatDoor
