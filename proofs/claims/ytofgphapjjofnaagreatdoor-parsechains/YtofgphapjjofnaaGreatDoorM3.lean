/- Towards the law: QF. -/
import Derived.Test.YtofgphapjjofnaaGreatDoorMB
import Derived.Test.YtofgphapjjofnaaGreatDoorML
set_option linter.unusedSimpArgs false
set_option linter.unusedVariables false
set_option maxRecDepth 100000
set_option maxHeartbeats 8000000
namespace Go.Proofs.YtofgphapjjofnaaGreatDoor
section
open Go.RowKit Go.Shelf
theorem has_contains {l : List (List Int)} {m : List Int} (hl : ∀ x ∈ l, Bys x) (hm : Bys m) : hasT (l.map strOfNums) (strOfNums m) = l.contains m := by
 induction l with
 | nil => rfl
 | cons x l ih =>
   have h1 := str_eq hm (hl x (List.mem_cons_self ..));have h2 := ih fun y hy => hl y (List.mem_cons_of_mem _ hy)
   unfold hasT at h2 ⊢;rw [List.map_cons, List.any_cons, h1, h2, List.contains_cons]
theorem bt_contains {bt : List (List Int)} {cells : Array Value} {m : List Int} {W : World} {b : Nat} (hl : ∀ x ∈ bt, Bys x) (hc : cells = (bt.map fun x => .string (strOfNums x)).toArray) (hb : bt.length ≤ 1048576) (hm : Bys m) (hh : W.heap[b]? = some (.cells cells 9)) :
 Calls Tryz.prog 160 #[.slice (some ⟨b, 0, none⟩) bt.length bt.length, .string (strOfNums m)] W fun e W' => e = .returned (.bool (bt.contains m)) ∧ W' = W := by
 rw [← has_contains hl hm];refine contains_any b 0 bt.length bt.length (bt.map strOfNums) (strOfNums m) W (fun j s hj => ?_) (by simp) (by simp) hb;rw [List.getElem?_map] at hj;subst hc;cases hx : bt[j]? with
 | none => rw [hx] at hj; cases hj
 | some x =>
   rw [hx] at hj;cases hj;simp [World.cell?, hh, hx]
theorem braced_step {E : En} (hE : E.Ok) {n : Nat} {one : Cmd} {f : Nat} {bt : List (List Int)} {cells : Array Value} (IOb : ∀ m, m ≤ n → ∀ Z, IHA { E with Z := Z } m one f #[.pointer (some ⟨E.M, 0, none⟩)]) (EG : ∀ args w, (callFunc f args).run Tryz.prog w = .ok (.enter f args) w) (hbl : ∀ x ∈ bt, Bys x) (hbc : cells = (bt.map fun x => .string (strOfNums x)).toArray) (hbn : bt.length ≤ 1048576) : IHB E (n + 1) one f bt cells := by
 intro nv s W b h hbk hne;obtain ⟨R, hR⟩ : ∃ R, parP E.c (n + 1) (.braced one bt) s = R := ⟨_, rfl⟩;rw [hR] at hne ⊢;simp only [parP, bodyP] at hR;obtain ⟨j0, hj, hy0, hy1, hy2⟩ := info_parts infoInt;have HJ := Hi (And.intro hj (And.intro hy0 (And.intro hy1 hy2)));have H00 := Hi h;have HE := Hi hE;have HIO := Hi IOb;have HEG := Hi EG;have HNE := Hi hne;have hty : tyOf W b = 9 := by simp [tyOf, hbk]
 have hbM : b ≠ E.M := fun e => by have := h.mty; rw [← e] at this; omega
 have HBT := Hi (And.intro hbl (And.intro hbc (And.intro hbn (And.intro (ty_lt hty (by omega)) (And.intro hbM (And.intro hty hbk))))));have hp1 := bd_ne (p := wantP E.c [123]) hR hne;have HC1 := Hi (want_rq hE h (x := ⟨#[123]⟩) ⟨rfl, by intro z hz; simp at hz; omega⟩ hp1);clear hE IOb EG h hj hy0 hy1 hy2 hne hbl hbc hbn hty hbM hbk;go_enter Tryz.func105, Tryz.ntmps105;cases hq1 : wantP E.c [123] s with
 | out => exact absurd hq1 hp1
 | no s1 =>
   have hR1 := (bd_no hq1).symm.trans hR;subst hR1;replace HC1 := rn HC1 hq1;clear hq1 hp1 hR;go_wp2_with (go_at_call 94; refine (U HC1).mono ?_)
   rintro e w1 ⟨rfl, nv1, h1⟩
   have H1 := Hi h1;clear h1;go_wp2;exact ⟨rfl, rfl, nv1, U H1⟩
 | ok a1 s1 =>
   have HR1 := Hi ((bd_ok hq1).symm.trans hR);replace HC1 := ro HC1 hq1;clear hq1 hp1 hR;go_wp2_with (go_at_call 94; refine (U HC1).mono ?_)
   rintro e w1 ⟨rfl, nv1, h1⟩
   have H1 := Hi h1;clear h1;go_wp2;go_loopw [7] (fun t wr => Hid (∃ m, FilI E nv s W n R (.braLoop one bt) m t wr)) (fun t wr => leastN fun m => FilI E nv s W n R (.braLoop one bt) m t wr)
   case atStart => exact ⟨n, NL, [], nv1, s1, U HR1, .inl ⟨rfl, rfl, U H1⟩⟩
   case round =>
    obtain ⟨m, hm⟩ := U hrel;obtain ⟨hmn, ks, nv2, s2, hR2, hdis⟩ := leastN_spec (P := fun m => FilI E nv s W n R (.braLoop one bt) m _ wr) hm;rcases hdis with ⟨rfl, rfl, h2⟩ | ⟨g, cap, rfl, h2⟩
    · obtain ⟨m0, hm0⟩ : ∃ m0, (leastN fun m => FilI E nv s W n R (.braLoop one bt) m (.slice none 0 0) wr) = m0 := ⟨_, rfl⟩
      rw [hm0] at hmn hR2;have HM0 := Hi hm0;clear hm hrel hm0 HR1 H1 HC1;cases m0 with
      | zero => exact absurd hR2.symm (U HNE)
      | succ m1 =>
        simp only [parP, bodyP] at hR2;obtain ⟨hlen, hR2⟩ := cap_ok hR2 (U HNE);have hp3 := bd_ne (p := takeP E.c [125]) hR2 (U HNE);have HC3 := Hi (take_rq (E := E) (U HE) h2.1 (x := ⟨#[125]⟩) ⟨rfl, by intro z hz; simp at hz; omega⟩ hp3);obtain ⟨b3, s3, hq3⟩ := take_ok hp3;replace HC3 := ro HC3 hq3;have HR3 := Hi ((bd_ok hq3).symm.trans hR2);have H2 := Hi h2;clear h2 hp3 hq3 hR2;go_wp2_with (go_at_call 42; refine (U HC3).mono ?_)
        rintro e w3 ⟨rfl, nv3, h3⟩
        have H3 := Hi ((U H2).trans h3);clear h3;cases b3 with
        | true =>
          have hR3 : (.ok [] s3 : Res (List Nat)) = R := U HR3;subst hR3;go_wp2;go_ret;exact ⟨none, 0, nv3, rfl, ⟨none, 0, rfl, NL, Nat.zero_le _, .inl rfl⟩, U H3⟩
        | false =>
          have hp4 := bd_ne (p := parP E.c m1 one) (U HR3) (U HNE);have HC4 := Hi (U HIO m1 (by omega) E.Z nv3 s3 w3 (U H3).1 hp4);have eg4 := U HEG #[.pointer (some ⟨E.M, 0, none⟩)] w3;cases hq4 : parP E.c m1 one s3 with
          | out => exact absurd hq4 hp4
          | no s4 =>
            have hR4 := (bd_no hq4).symm.trans (U HR3);subst hR4;replace HC4 := rn HC4 hq4;clear hq4 hp4;go_wp2_with (refine (U HC4).mono ?_)
            rintro e w4 ⟨rfl, nv4, h4⟩
            have H4 := Hi ((U H3).trans h4);clear h4;go_wp2;exact ⟨rfl, rfl, nv4, U H4⟩
          | ok a4 s4 =>
            have HR4 := br hq4 HR3;replace HC4 := ro HC4 hq4;clear hq4 hp4;go_wp2_with (refine (U HC4).mono ?_)
            rintro e w4 ⟨rfl, nv4, h4⟩
            have H4 := Hi ((U H3).trans h4);clear h4 eg4;have HO4 : Hid (w4.ownsRow W.heap.size 3 1 (.slice none 0 0) 0 []) := ⟨rfl, .inl ⟨rfl, rfl⟩⟩;have hsz4 := (U H4).2.1.size;obtain ⟨hj, hy0, hy1, hy2⟩ := U HJ;go_wp2_with (at_builtin; refine wpList_append_lies _ rfl _ _ 32 rfl W.heap.size 3 j0 _ 1 8 Tryz.underlying32 hj hy0 hy1 hy2 rfl (by decide) _ 0 [] rfl ((U HO4).alloc _) ⟨w4.heap.size, 0, none⟩ 1 1 [.int .i64 (hd0 a4 : Int)] rfl rfl ?c1 ?c2 (by decide) ?c3 ?c4 ?c5 _ rfl ?_)
            case c1 => exact World.news_of_block (cs := #[.int .i64 (hd0 a4 : Int)]) (t := 3) (fr := (0, 0)) (World.alloc_heap_new _ _)
            case c2 => intro u hu; simp at hu; subst hu; rfl
            case c3 => unfold maxLen; omega
            case c4 => omega
            case c5 => simp; omega
            intro g5 cap5 w5 hown5 hgrow5 hat5 hlt5;have h5 : Fil E nv s W [hd0 a4] g5 cap5 nv4 s4 w5 := Fil.one (U H4) ((Below.refl _ w4).alloc NL _) hown5 hgrow5 (by rcases hat5 with e | e; (· cases e); (· rw [e]; simp)) hlt5;have H5 := Hi h5;obtain ⟨t2, t3, t4, t5⟩ := h5.lf.1.rd.tok;have hl5 : E.M < w5.heap.size := h5.at'.rd.lt;have hbm : Bys (mark s4.tk) := mark_bys h5.at'.by'
            have HCM := Hi (mark_any s4.tk w5);unfold tkV at HCM;clear h5 hown5 hgrow5 hat5;go_wp2_with (go_at_call 50; refine (U HCM).mono ?_)
            rintro e w6 ⟨rfl, h6⟩
            have H6 := Hi ((U H5).read ((Lf.refl (U H5).at').below h6));clear h6;have HCC := Hi (bt_contains (U HBT).1 (U HBT).2.1 (U HBT).2.2.1 hbm ((U H6).fz.block b (U HBT).2.2.2.1 (U HBT).2.2.2.2.1 (by rw [(U HBT).2.2.2.2.2.1]; decide) (by rw [(U HBT).2.2.2.2.2.1]; decide) |>.trans (U HBT).2.2.2.2.2.2));have hR6 := U HR4;rw [bd_ok (p := markP) rfl] at hR6;obtain ⟨bm, hbm6⟩ : ∃ x, bt.contains (mark s4.tk) = x := ⟨_, rfl⟩;rw [hbm6] at HCC hR6;have HR6 := Hi hR6;obtain ⟨S6, hS6⟩ : ∃ S, strOfNums (mark s4.tk) = S := ⟨_, rfl⟩;rw [hS6] at HCC ⊢;clear hR6 hbm hbm6 hS6;go_wp2_with (go_at_call 160; refine (U HCC).mono ?_)
            first | rintro e w' rfl hw | rintro e w' ⟨rfl, hw⟩
            subst hw;cases bm with
            | true =>
              have hp7 := bd_ne (p := nextP E.c) (U HR6) (U HNE);obtain ⟨a7, s7, hq7⟩ := next_ok hp7;have HC7 := Hi (rq_ok (next_rq (E := E.off g5) ((U HE).off g5) (U H6).at' hp7) hq7);have HR7 := br hq7 HR6;unfold tkV at HC7;clear hq7 hp7;go_wp2_with (go_at_call 53; refine (U HC7).mono ?_)
              rintro e w7 ⟨rfl, nv7, h7⟩
              have H7 := Hi ((U H6).read h7);clear h7;go_wp2;have hI : FilI E nv s W n R (.braLoop one bt) m1 (.slice (some ⟨g5, 0, none⟩) 1 cap5) w7 := ⟨by omega, [hd0 a4], nv7, s7, U HR7, .inr ⟨g5, cap5, rfl, U H7⟩⟩;exact ⟨⟨_, hI⟩, by rw [U HM0]; exact Nat.lt_succ_of_le (leastN_le hI)⟩
            | false =>
              have hp7 := bd_ne (p := wantP E.c [125]) (U HR6) (U HNE);have HC7 := Hi (want_rq (E := E.off g5) ((U HE).off g5) (U H6).at' (x := ⟨#[125]⟩) ⟨rfl, by intro z hz; simp at hz; omega⟩ hp7);cases hq7 : wantP E.c [125] s4 with
              | out => exact absurd hq7 hp7
              | no s7 =>
                have hR7 := (bd_no hq7).symm.trans (U HR6);subst hR7;replace HC7 := rn HC7 hq7;clear hq7 hp7;go_wp2_with (go_at_call 94; refine (U HC7).mono ?_)
                rintro e w7 ⟨rfl, nv7, h7⟩
                have H7 := Hi ((U H6).read h7);clear h7;go_wp2;exact ⟨rfl, rfl, nv7, (U H7).lf⟩
              | ok a7 s7 =>
                have hR7 : (.ok [hd0 a4] s7 : Res (List Nat)) = R := (bd_ok hq7).symm.trans (U HR6);subst hR7;replace HC7 := ro HC7 hq7;clear hq7 hp7;go_wp2_with (go_at_call 94; refine (U HC7).mono ?_)
                rintro e w7 ⟨rfl, nv7, h7⟩
                have H7 := Hi ((U H6).read h7);clear h7;go_wp2;go_ret;exact ⟨_, _, nv7, rfl, (U H7).kids (U H00), (U H7).lf⟩
    · obtain ⟨m0, hm0⟩ : ∃ m0, (leastN fun m => FilI E nv s W n R (.braLoop one bt) m (.slice (some ⟨g, 0, none⟩) ks.length cap) wr) = m0 := ⟨_, rfl⟩
      rw [hm0] at hmn hR2;have HM0 := Hi hm0;clear hm hrel hm0 HR1 H1 HC1;cases m0 with
      | zero => exact absurd hR2.symm (U HNE)
      | succ m1 =>
        simp only [parP, bodyP] at hR2;obtain ⟨hlen, hR2⟩ := cap_ok hR2 (U HNE);have hp3 := bd_ne (p := takeP E.c [125]) hR2 (U HNE);have HC3 := Hi (take_rq (E := E.off g) ((U HE).off g) h2.at' (x := ⟨#[125]⟩) ⟨rfl, by intro z hz; simp at hz; omega⟩ hp3);obtain ⟨b3, s3, hq3⟩ := take_ok hp3;replace HC3 := ro HC3 hq3;have HR3 := Hi ((bd_ok hq3).symm.trans hR2);have H2 := Hi h2;clear h2 hp3 hq3 hR2;obtain ⟨len, hln⟩ : ∃ len, ks.length = len := ⟨_, rfl⟩;have HLN := Hi hln;rw [hln] at hlen ⊢;clear hln;go_wp2_with (go_at_call 42; refine (U HC3).mono ?_)
        rintro e w3 ⟨rfl, nv3, h3⟩
        have H3 := Hi ((U H2).read h3);clear h3;cases b3 with
        | true =>
          have hR3 : (.ok ks s3 : Res (List Nat)) = R := U HR3;subst hR3;go_wp2;go_ret;have e := U HLN;subst e;exact ⟨_, _, nv3, rfl, (U H3).kids (U H00), (U H3).lf⟩
        | false =>
          have hp4 := bd_ne (p := parP E.c m1 one) (U HR3) (U HNE);have HC4 := Hi (U HIO m1 (by omega) (E.off g).Z nv3 s3 w3 (U H3).at' hp4);have eg4 := U HEG #[.pointer (some ⟨E.M, 0, none⟩)] w3;cases hq4 : parP E.c m1 one s3 with
          | out => exact absurd hq4 hp4
          | no s4 =>
            have hR4 := (bd_no hq4).symm.trans (U HR3);subst hR4;replace HC4 := rn HC4 hq4;clear hq4 hp4;go_wp2_with (refine (U HC4).mono ?_)
            rintro e w4 ⟨rfl, nv4, h4⟩
            have H4 := Hi ((U H3).read h4);clear h4;go_wp2;exact ⟨rfl, rfl, nv4, (U H4).lf⟩
          | ok a4 s4 =>
            have HR4 := br hq4 HR3;replace HC4 := ro HC4 hq4;clear hq4 hp4;go_wp2_with (refine (U HC4).mono ?_)
            rintro e w4 ⟨rfl, nv4, h4⟩
            have H4 := Hi ((U H3).read h4);clear h4 eg4;have hO4 := (U H4).own;rw [U HLN] at hO4;have hsz4 := (U H4).fz.size;have HO4 := Hi hO4;clear hO4;obtain ⟨hj, hy0, hy1, hy2⟩ := U HJ;go_wp2_with (at_builtin; refine wpList_append_lies _ rfl _ _ 32 rfl W.heap.size 3 j0 _ 1 8 Tryz.underlying32 hj hy0 hy1 hy2 rfl (by decide) _ len (ks.map fun k : Nat => .int .i64 (k : Int)) rfl ((U HO4).alloc _) ⟨w4.heap.size, 0, none⟩ 1 1 [.int .i64 (hd0 a4 : Int)] rfl rfl ?c1 ?c2 (by decide) ?c3 ?c4 ?c5 _ rfl ?_)
            case c1 => exact World.news_of_block (cs := #[.int .i64 (hd0 a4 : Int)]) (t := 3) (fr := (0, 0)) (World.alloc_heap_new _ _)
            case c2 => intro u hu; simp at hu; subst hu; rfl
            case c3 => unfold maxLen; omega
            case c4 => omega
            case c5 => simp; omega
            intro g5 cap5 w5 hown5 hgrow5 hat5 hlt5;have h5 : Fil E nv s W (ks ++ [hd0 a4]) g5 cap5 nv4 s4 w5 := (U H4).more (U H00) ((Below.refl _ w4).alloc NL _) (by rw [U HLN]; exact hown5) hgrow5 (by rcases hat5 with e | e; (· exact .inl (by simpa [Value.ownBlock] using e)); (· exact .inr (by rw [e]; simp))) hlt5;have H5 := Hi h5;obtain ⟨t2, t3, t4, t5⟩ := h5.lf.1.rd.tok;have hl5 : E.M < w5.heap.size := h5.at'.rd.lt;have hbm : Bys (mark s4.tk) := mark_bys h5.at'.by'
            have HCM := Hi (mark_any s4.tk w5);unfold tkV at HCM;clear h5 hown5 hgrow5 hat5;go_wp2_with (go_at_call 50; refine (U HCM).mono ?_)
            rintro e w6 ⟨rfl, h6⟩
            have H6 := Hi ((U H5).read ((Lf.refl (U H5).at').below h6));clear h6;have HCC := Hi (bt_contains (U HBT).1 (U HBT).2.1 (U HBT).2.2.1 hbm ((U H6).fz.block b (U HBT).2.2.2.1 (U HBT).2.2.2.2.1 (by rw [(U HBT).2.2.2.2.2.1]; decide) (by rw [(U HBT).2.2.2.2.2.1]; decide) |>.trans (U HBT).2.2.2.2.2.2));have hR6 := U HR4;rw [bd_ok (p := markP) rfl] at hR6;obtain ⟨bm, hbm6⟩ : ∃ x, bt.contains (mark s4.tk) = x := ⟨_, rfl⟩;rw [hbm6] at HCC hR6;have HR6 := Hi hR6;obtain ⟨S6, hS6⟩ : ∃ S, strOfNums (mark s4.tk) = S := ⟨_, rfl⟩;rw [hS6] at HCC ⊢;clear hR6 hbm hbm6 hS6;go_wp2_with (go_at_call 160; refine (U HCC).mono ?_)
            first | rintro e w' rfl hw | rintro e w' ⟨rfl, hw⟩
            subst hw;cases bm with
            | true =>
              have hp7 := bd_ne (p := nextP E.c) (U HR6) (U HNE);obtain ⟨a7, s7, hq7⟩ := next_ok hp7;have HC7 := Hi (rq_ok (next_rq (E := E.off g5) ((U HE).off g5) (U H6).at' hp7) hq7);have HR7 := br hq7 HR6;unfold tkV at HC7;clear hq7 hp7;go_wp2_with (go_at_call 53; refine (U HC7).mono ?_)
              rintro e w7 ⟨rfl, nv7, h7⟩
              have H7 := Hi ((U H6).read h7);clear h7;go_wp2;have hI : FilI E nv s W n R (.braLoop one bt) m1 (.slice (some ⟨g5, 0, none⟩) (len + 1) cap5) w7 := ⟨by omega, (ks ++ [hd0 a4]), nv7, s7, U HR7, .inr ⟨g5, cap5, by rw [← U HLN]; simp, U H7⟩⟩;exact ⟨⟨_, hI⟩, by rw [← U HLN]; rw [U HM0]; rw [U HLN]; exact Nat.lt_succ_of_le (leastN_le hI)⟩
            | false =>
              have hp7 := bd_ne (p := wantP E.c [125]) (U HR6) (U HNE);have HC7 := Hi (want_rq (E := E.off g5) ((U HE).off g5) (U H6).at' (x := ⟨#[125]⟩) ⟨rfl, by intro z hz; simp at hz; omega⟩ hp7);cases hq7 : wantP E.c [125] s4 with
              | out => exact absurd hq7 hp7
              | no s7 =>
                have hR7 := (bd_no hq7).symm.trans (U HR6);subst hR7;replace HC7 := rn HC7 hq7;clear hq7 hp7;go_wp2_with (go_at_call 94; refine (U HC7).mono ?_)
                rintro e w7 ⟨rfl, nv7, h7⟩
                have H7 := Hi ((U H6).read h7);clear h7;go_wp2;exact ⟨rfl, rfl, nv7, (U H7).lf⟩
              | ok a7 s7 =>
                have hR7 : (.ok (ks ++ [hd0 a4]) s7 : Res (List Nat)) = R := (bd_ok hq7).symm.trans (U HR6);subst hR7;replace HC7 := ro HC7 hq7;clear hq7 hp7;go_wp2_with (go_at_call 94; refine (U HC7).mono ?_)
                rintro e w7 ⟨rfl, nv7, h7⟩
                have H7 := Hi ((U H6).read h7);clear h7;go_wp2;go_ret;exact ⟨_, _, nv7, by rw [← U HLN]; simp, (U H7).kids (U H00), (U H7).lf⟩
end
end Go.Proofs.YtofgphapjjofnaaGreatDoor
