/- Towards the law: PS PT PU PV PW PX PY QL. -/
import Derived.Test.YtofgphapjjofnaaGreatDoorVI
set_option linter.unusedSimpArgs false
set_option linter.unusedVariables false
set_option maxRecDepth 100000
set_option maxHeartbeats 8000000
namespace Go.Proofs.YtofgphapjjofnaaGreatDoor
section
open Go.RowKit Go.Shelf
theorem Fil.one {E : En} {nv0 : Value} {s0 : PS} {W0 : World} {g' cap' x : Nat} {nv : Value} {s : PS} {W B A : World} (h : Lf E nv0 s0 W0 nv s W) (hb : Below W.heap.size W B)
 (ho : A.ownsRow W0.heap.size 3 1 (.slice (some ⟨g', 0, none⟩) 1 cap') 1 [.int .i64 (x : Int)]) (hgr : B.grownBy A none) (hat : g' = B.heap.size) (hlt : g' < A.heap.size) : Fil E nv0 s0 W0 [x] g' cap' nv s A := by
 have hBA : Below W.heap.size W A := hb.trans (⟨hgr.os, hgr.tape, hgr.output, hgr.size, fun k hk => hgr.block k (Nat.lt_of_lt_of_le hk hb.size) (by simp)⟩);have hs := hb.size;have hz := h.2.1.size;refine ⟨ho, by omega, h.1.off hBA (by omega) hlt, h.2.1.trans (below_fz hBA), fun u l' o => ?_⟩;have o1 : OldOf (E.off g').Z W nv s.nodes u l' := (h.2.2 u l' o).lt fun k hk hn hz => hz.elim hn fun e => by omega
 exact o1.below hBA
def FilI (E : En) (nv : Value) (s : PS) (W : World) (n : Nat) (R : Res (List Nat)) (x : List Nat → Cmd) (m : Nat) (t : Value) (wr : World) : Prop := m ≤ n ∧ ∃ (ks : List Nat) (nv' : Value) (s' : PS), parP E.c m (x ks) s' = R ∧ ((ks = [] ∧ t = .slice none 0 0 ∧ Lf E nv s W nv' s' wr) ∨ ∃ g cap, t = .slice (some ⟨g, 0, none⟩) ks.length cap ∧ Fil E nv s W ks g cap nv' s' wr)
theorem alone_rq {E : En} (hE : E.Ok) {nv : Value} {s : PS} {W : World} (h : RAt E nv s W) (k : Int) (hne : aloneP E.c k s ≠ .out) : Calls Tryz.prog 59 #[.pointer (some ⟨E.M, 0, none⟩), .int .i64 k] W (RQ E (fun n : Nat => .int .i64 (n : Int)) nv s W (aloneP E.c k s)) := by
 obtain ⟨R, hR⟩ : ∃ R, aloneP E.c k s = R := ⟨_, rfl⟩;rw [hR] at hne ⊢;simp only [aloneP, strP] at hR;have HNE := Hi hne;have hp1 := bd_ne (p := nextP E.c) hR hne;obtain ⟨a1, s1, hq1⟩ := next_ok hp1;have HC1 := Hi (rq_ok (next_rq hE h hp1) hq1);have HR1 := Hi ((bd_ok hq1).symm.trans hR);unfold tkV at HC1;clear hE h hR hne hp1 hq1;go_enter Tryz.func59, Tryz.ntmps59;go_wp2_with (go_at_call 53; refine (U HC1).mono ?_)
 rintro e w1 ⟨rfl, nv1, h1⟩
 have H1 := Hi h1;clear h1;have q1 := tf1 a1.1 (strOfNums a1.2.1) (a1.2.2.1 : Int) (a1.2.2.2 : Int) w1;have q2 := tf2 a1.1 (strOfNums a1.2.1) (a1.2.2.1 : Int) (a1.2.2.2 : Int) w1;have hp2 : putP ⟨k, [], 0, [], a1.2.2.1⟩ s1 ≠ .out := fun e => U HNE ((U HR1).symm.trans e)
 have hq2 := put_ok hp2;have hR2 := hq2.symm.trans (U HR1);subst hR2;have HC2 := Hi (rq_ok (put_rq (U H1).1 ⟨k, [], 0, [], a1.2.2.1⟩ none 0 ⟨none, 0, rfl, NL, Nat.zero_le _, .inl rfl⟩ hp2) hq2);simp only [e0', List.length_nil] at HC2;clear hp2 hq2;go_wp2_with (go_at_call 32; refine (U HC2).mono ?_)
 rintro e w2 ⟨rfl, nv2, h2⟩
 have H2 := Hi ((U H1).trans h2);clear h2;go_wp2;go_ret;exact ⟨rfl, nv2, U H2⟩
theorem program_step {E : En} (hE : E.Ok) {n : Nat} (IOb : ∀ m, m ≤ n → ∀ Z, IHA { E with Z := Z } m .stmt 31 #[.pointer (some ⟨E.M, 0, none⟩)]) : IHA E (n + 1) .program 17 #[.pointer (some ⟨E.M, 0, none⟩)] := by
 intro nv s W h hne;obtain ⟨R, hR⟩ : ∃ R, parP E.c (n + 1) .program s = R := ⟨_, rfl⟩;rw [hR] at hne ⊢;simp only [parP, bodyP] at hR;obtain ⟨j0, hj, hy0, hy1, hy2⟩ := info_parts infoInt;have HJ := Hi (And.intro hj (And.intro hy0 (And.intro hy1 hy2)));have H00 := Hi h;have HE := Hi hE;have HIO := Hi IOb;have HNE := Hi hne;have HR1 := Hi hR;clear hE IOb h hj hy0 hy1 hy2 hne hR;go_enter Tryz.func17, Tryz.ntmps17;go_wp2;go_loopw [3] (fun t wr => Hid (∃ m, FilI E nv s W n R .progLoop m t wr)) (fun t wr => leastN fun m => FilI E nv s W n R .progLoop m t wr)
 case atStart => exact ⟨n, NL, [], nv, s, U HR1, .inl ⟨rfl, rfl, Lf.refl (U H00)⟩⟩
 case round =>
  obtain ⟨m, hm⟩ := U hrel;obtain ⟨hmn, ks, nv2, s2, hR2, hdis⟩ := leastN_spec (P := fun m => FilI E nv s W n R .progLoop m _ wr) hm;rcases hdis with ⟨rfl, rfl, h2⟩ | ⟨g, cap, rfl, h2⟩
  · obtain ⟨m0, hm0⟩ : ∃ m0, (leastN fun m => FilI E nv s W n R .progLoop m (.slice none 0 0) wr) = m0 := ⟨_, rfl⟩
    rw [hm0] at hmn hR2;have HM0 := Hi hm0;clear hm hrel hm0 HR1;cases m0 with
    | zero => exact absurd hR2.symm (U HNE)
    | succ m1 =>
      simp only [parP, bodyP] at hR2;obtain ⟨hlen, hR2⟩ := cap_ok hR2 (U HNE);rw [bd_ok (p := kindP) rfl] at hR2;have c2 := h2.1.rd.tok.1;have hl2 := h2.1.rd.lt;have H2 := Hi h2;clear h2;by_cases hk : s2.tk.1 = 10
      · rw [if_pos hk] at hR2
        rw [hk] at c2;have hp3 := bd_ne (p := putP ⟨3, [], 0, [], 0⟩) hR2 (U HNE);have hq3 := put_ok hp3;have HC3 := Hi (rq_ok (put_rq (U H2).1 ⟨3, [], 0, [], 0⟩ none 0 ⟨none, 0, rfl, NL, Nat.zero_le _, .inl rfl⟩ hp3) hq3);simp only [e0', List.length_nil] at HC3;have hR3 := (bd_ok hq3).symm.trans hR2;subst hR3;clear hp3 hq3 hR2;go_wp2_with (go_at_call 32; refine (U HC3).mono ?_)
        rintro e w3 ⟨rfl, nv3, h3⟩
        have H3 := Hi ((U H2).trans h3);clear h3;go_wp2;go_ret;exact ⟨rfl, nv3, U H3⟩
      · rw [if_neg hk] at hR2
        have hkb : (s2.tk.1 == 10) = false := beq_eq_false_iff_ne.2 hk;have HR3 := Hi hR2;clear hR2;have hp4 := bd_ne (p := parP E.c m1 .stmt) (U HR3) (U HNE);have HC4 := Hi (U HIO m1 (by omega) E.Z nv2 s2 wr (U H2).1 hp4);cases hq4 : parP E.c m1 .stmt s2 with
        | out => exact absurd hq4 hp4
        | no s4 =>
          have hR4 := (bd_no hq4).symm.trans (U HR3);subst hR4;replace HC4 := rn HC4 hq4;clear hq4 hp4;go_wp2_with (go_at_call 31; refine (U HC4).mono ?_)
          rintro e w4 ⟨rfl, nv4, h4⟩
          have H4 := Hi ((U H2).trans h4);clear h4;go_wp2;exact ⟨rfl, rfl, nv4, U H4⟩
        | ok a4 s4 =>
          have HR4 := br hq4 HR3;replace HC4 := ro HC4 hq4;clear hq4 hp4;go_wp2_with (go_at_call 31; refine (U HC4).mono ?_)
          rintro e w4 ⟨rfl, nv4, h4⟩
          have H4 := Hi ((U H2).trans h4);clear h4;have HO4 : Hid (w4.ownsRow W.heap.size 3 1 (.slice none 0 0) 0 []) := ⟨rfl, .inl ⟨rfl, rfl⟩⟩;have hsz4 := (U H4).2.1.size;obtain ⟨hj, hy0, hy1, hy2⟩ := U HJ;go_wp2_with (at_builtin; refine wpList_append_lies _ rfl _ _ 32 rfl W.heap.size 3 j0 _ 1 8 Tryz.underlying32 hj hy0 hy1 hy2 rfl (by decide) _ 0 [] rfl ((U HO4).alloc _) ⟨w4.heap.size, 0, none⟩ 1 1 [.int .i64 (hd0 a4 : Int)] rfl rfl ?c1 ?c2 (by decide) ?c3 ?c4 ?c5 _ rfl ?_)
          case c1 => exact World.news_of_block (cs := #[.int .i64 (hd0 a4 : Int)]) (t := 3) (fr := (0, 0)) (World.alloc_heap_new _ _)
          case c2 => intro u hu; simp at hu; subst hu; rfl
          case c3 => unfold maxLen; omega
          case c4 => omega
          case c5 => simp; omega
          intro g5 cap5 w5 hown5 hgrow5 hat5 hlt5;have h5 : Fil E nv s W [hd0 a4] g5 cap5 nv4 s4 w5 := Fil.one (U H4) ((Below.refl _ w4).alloc NL _) hown5 hgrow5 (by rcases hat5 with e | e; (· cases e); (· rw [e]; simp)) hlt5;have H5 := Hi h5;clear h5 hown5 hgrow5 hat5;go_wp2;have hI : FilI E nv s W n R .progLoop m1 (.slice (some ⟨g5, 0, none⟩) 1 cap5) w5 := ⟨by omega, [hd0 a4], nv4, s4, U HR4, .inr ⟨g5, cap5, rfl, U H5⟩⟩;exact ⟨⟨_, hI⟩, by rw [U HM0]; exact Nat.lt_succ_of_le (leastN_le hI)⟩
  · obtain ⟨m0, hm0⟩ : ∃ m0, (leastN fun m => FilI E nv s W n R .progLoop m (.slice (some ⟨g, 0, none⟩) ks.length cap) wr) = m0 := ⟨_, rfl⟩
    rw [hm0] at hmn hR2;have HM0 := Hi hm0;clear hm hrel hm0 HR1;cases m0 with
    | zero => exact absurd hR2.symm (U HNE)
    | succ m1 =>
      simp only [parP, bodyP] at hR2;obtain ⟨hlen, hR2⟩ := cap_ok hR2 (U HNE);rw [bd_ok (p := kindP) rfl] at hR2;have c2 := h2.at'.on.rd.tok.1;have hl2 := h2.at'.on.rd.lt;have H2 := Hi h2;clear h2;by_cases hk : s2.tk.1 = 10
      · rw [if_pos hk] at hR2
        rw [hk] at c2;have hp3 := bd_ne (p := putP ⟨3, [], 0, ks, 0⟩) hR2 (U HNE);have hq3 := put_ok hp3;have HC3 := Hi (rq_ok (put_rq ((U H2).lf).1 ⟨3, [], 0, ks, 0⟩ (some ⟨g, 0, none⟩) cap ((U H2).kids (U H00)) hp3) hq3);simp only [e0', List.length_nil] at HC3;have hR3 := (bd_ok hq3).symm.trans hR2;subst hR3;clear hp3 hq3 hR2;go_wp2_with (go_at_call 32; refine (U HC3).mono ?_)
        rintro e w3 ⟨rfl, nv3, h3⟩
        have H3 := Hi (((U H2).lf).trans h3);clear h3;go_wp2;go_ret;exact ⟨rfl, nv3, U H3⟩
      · rw [if_neg hk] at hR2
        have hkb : (s2.tk.1 == 10) = false := beq_eq_false_iff_ne.2 hk;have HR3 := Hi hR2;clear hR2;have hp4 := bd_ne (p := parP E.c m1 .stmt) (U HR3) (U HNE);have HC4 := Hi (U HIO m1 (by omega) (E.off g).Z nv2 s2 wr (U H2).at' hp4);cases hq4 : parP E.c m1 .stmt s2 with
        | out => exact absurd hq4 hp4
        | no s4 =>
          have hR4 := (bd_no hq4).symm.trans (U HR3);subst hR4;replace HC4 := rn HC4 hq4;clear hq4 hp4;go_wp2_with (go_at_call 31; refine (U HC4).mono ?_)
          rintro e w4 ⟨rfl, nv4, h4⟩
          have H4 := Hi ((U H2).read h4);clear h4;go_wp2;exact ⟨rfl, rfl, nv4, (U H4).lf⟩
        | ok a4 s4 =>
          have HR4 := br hq4 HR3;replace HC4 := ro HC4 hq4;clear hq4 hp4;obtain ⟨len, hln⟩ : ∃ len, ks.length = len := ⟨_, rfl⟩;have HLN := Hi hln;rw [hln] at hlen ⊢;clear hln;go_wp2_with (go_at_call 31; refine (U HC4).mono ?_)
          rintro e w4 ⟨rfl, nv4, h4⟩
          have H4 := Hi ((U H2).read h4);clear h4;have hO4 := (U H4).own;rw [U HLN] at hO4;have hsz4 := (U H4).fz.size;have HO4 := Hi hO4;clear hO4;obtain ⟨hj, hy0, hy1, hy2⟩ := U HJ;go_wp2_with (at_builtin; refine wpList_append_lies _ rfl _ _ 32 rfl W.heap.size 3 j0 _ 1 8 Tryz.underlying32 hj hy0 hy1 hy2 rfl (by decide) _ len (ks.map fun k : Nat => .int .i64 (k : Int)) rfl ((U HO4).alloc _) ⟨w4.heap.size, 0, none⟩ 1 1 [.int .i64 (hd0 a4 : Int)] rfl rfl ?c1 ?c2 (by decide) ?c3 ?c4 ?c5 _ rfl ?_)
          case c1 => exact World.news_of_block (cs := #[.int .i64 (hd0 a4 : Int)]) (t := 3) (fr := (0, 0)) (World.alloc_heap_new _ _)
          case c2 => intro u hu; simp at hu; subst hu; rfl
          case c3 => unfold maxLen; omega
          case c4 => omega
          case c5 => simp; omega
          intro g5 cap5 w5 hown5 hgrow5 hat5 hlt5;have h5 : Fil E nv s W (ks ++ [hd0 a4]) g5 cap5 nv4 s4 w5 := (U H4).more (U H00) ((Below.refl _ w4).alloc NL _) (by rw [U HLN]; exact hown5) hgrow5 (by rcases hat5 with e | e; (· exact .inl (by simpa [Value.ownBlock] using e)); (· exact .inr (by rw [e]; simp))) hlt5;have H5 := Hi h5;clear h5 hown5 hgrow5 hat5;go_wp2;have hI : FilI E nv s W n R .progLoop m1 (.slice (some ⟨g5, 0, none⟩) (len + 1) cap5) w5 := ⟨by omega, ks ++ [hd0 a4], nv4, s4, U HR4, .inr ⟨g5, cap5, by rw [← U HLN]; simp, U H5⟩⟩;exact ⟨⟨_, hI⟩, by rw [← U HLN, U HM0, U HLN]; exact Nat.lt_succ_of_le (leastN_le hI)⟩
theorem declares_any (M : Nat) (tv : Value) (n : Nat) (t : Tok) (nv lv cv bv : Value) (W : World) (hR : RdAt W M tv n t nv lv cv bv) (ht : Bys t.2.1) : Calls Tryz.prog 72 #[.pointer (some ⟨M, 0, none⟩)] W fun e w' => e = .returned (.bool (declL.contains (mark t))) ∧ Below W.heap.size W w' := by
 obtain ⟨c2, c3, c4, c5⟩ := hR.tok;have hl := hR.lt;have HC := Hi (mark_any t W);have hbm : Bys (mark t) := mark_bys ht;unfold tkV at HC;obtain ⟨m, hm⟩ : ∃ m, mark t = m := ⟨_, rfl⟩;rw [hm] at HC hbm ⊢;clear hm hR;by_cases e0 : m = [102, 117, 110, 99, 116, 105, 111, 110]
 · subst e0
   rw [show strOfNums [102, 117, 110, 99, 116, 105, 111, 110] = ⟨#[102, 117, 110, 99, 116, 105, 111, 110]⟩ from rfl] at HC;rw [show declL.contains [102, 117, 110, 99, 116, 105, 111, 110] = true from by decide];clear hbm;go_enter Tryz.func72, Tryz.ntmps72;go_wp2_with (go_at_call 50; refine (U HC).mono ?_)
   rintro e w1 ⟨rfl, h1⟩
   have H1 := Hi h1;clear h1;go_wp2;go_ret;exact ⟨rfl, U H1⟩
 by_cases e1 : m = [99, 108, 97, 115, 115]
 · subst e1
   rw [show strOfNums [99, 108, 97, 115, 115] = ⟨#[99, 108, 97, 115, 115]⟩ from rfl] at HC;rw [show declL.contains [99, 108, 97, 115, 115] = true from by decide];clear hbm;go_enter Tryz.func72, Tryz.ntmps72;go_wp2_with (go_at_call 50; refine (U HC).mono ?_)
   rintro e w1 ⟨rfl, h1⟩
   have H1 := Hi h1;clear h1;go_wp2;go_ret;exact ⟨rfl, U H1⟩
 by_cases e2 : m = [101, 110, 117, 109]
 · subst e2
   rw [show strOfNums [101, 110, 117, 109] = ⟨#[101, 110, 117, 109]⟩ from rfl] at HC;rw [show declL.contains [101, 110, 117, 109] = true from by decide];clear hbm;go_enter Tryz.func72, Tryz.ntmps72;go_wp2_with (go_at_call 50; refine (U HC).mono ?_)
   rintro e w1 ⟨rfl, h1⟩
   have H1 := Hi h1;clear h1;go_wp2;go_ret;exact ⟨rfl, U H1⟩
 by_cases e3 : m = [110, 97, 109, 101, 115, 112, 97, 99, 101]
 · subst e3
   rw [show strOfNums [110, 97, 109, 101, 115, 112, 97, 99, 101] = ⟨#[110, 97, 109, 101, 115, 112, 97, 99, 101]⟩ from rfl] at HC;rw [show declL.contains [110, 97, 109, 101, 115, 112, 97, 99, 101] = true from by decide];clear hbm;go_enter Tryz.func72, Tryz.ntmps72;go_wp2_with (go_at_call 50; refine (U HC).mono ?_)
   rintro e w1 ⟨rfl, h1⟩
   have H1 := Hi h1;clear h1;go_wp2;go_ret;exact ⟨rfl, U H1⟩
 by_cases e4 : m = [105, 110, 116, 101, 114, 102, 97, 99, 101]
 · subst e4
   rw [show strOfNums [105, 110, 116, 101, 114, 102, 97, 99, 101] = ⟨#[105, 110, 116, 101, 114, 102, 97, 99, 101]⟩ from rfl] at HC;rw [show declL.contains [105, 110, 116, 101, 114, 102, 97, 99, 101] = true from by decide];clear hbm;go_enter Tryz.func72, Tryz.ntmps72;go_wp2_with (go_at_call 50; refine (U HC).mono ?_)
   rintro e w1 ⟨rfl, h1⟩
   have H1 := Hi h1;clear h1;go_wp2;go_ret;exact ⟨rfl, U H1⟩
 by_cases e5 : m = [116, 121, 112, 101]
 · subst e5
   rw [show strOfNums [116, 121, 112, 101] = ⟨#[116, 121, 112, 101]⟩ from rfl] at HC;rw [show declL.contains [116, 121, 112, 101] = true from by decide];clear hbm;go_enter Tryz.func72, Tryz.ntmps72;go_wp2_with (go_at_call 50; refine (U HC).mono ?_)
   rintro e w1 ⟨rfl, h1⟩
   have H1 := Hi h1;clear h1;go_wp2;go_ret;exact ⟨rfl, U H1⟩
 have g0 := mark_ne hbm (l := [102, 117, 110, 99, 116, 105, 111, 110]) (by intro z hz; simp at hz; omega) e0;have g1 := mark_ne hbm (l := [99, 108, 97, 115, 115]) (by intro z hz; simp at hz; omega) e1;have g2 := mark_ne hbm (l := [101, 110, 117, 109]) (by intro z hz; simp at hz; omega) e2;have g3 := mark_ne hbm (l := [110, 97, 109, 101, 115, 112, 97, 99, 101]) (by intro z hz; simp at hz; omega) e3;have g4 := mark_ne hbm (l := [105, 110, 116, 101, 114, 102, 97, 99, 101]) (by intro z hz; simp at hz; omega) e4;have g5 := mark_ne hbm (l := [116, 121, 112, 101]) (by intro z hz; simp at hz; omega) e5;have hf : declL.contains m = false := by simp [declL, e0, e1, e2, e3, e4, e5]
 rw [hf];obtain ⟨S, hS⟩ : ∃ S, strOfNums m = S := ⟨_, rfl⟩;rw [hS] at HC g0 g1 g2 g3 g4 g5;clear hS hf hbm e0 e1 e2 e3 e4 e5;replace g0 : (S.toList == [102, 117, 110, 99, 116, 105, 111, 110]) = false := g0;replace g1 : (S.toList == [99, 108, 97, 115, 115]) = false := g1;replace g2 : (S.toList == [101, 110, 117, 109]) = false := g2;replace g3 : (S.toList == [110, 97, 109, 101, 115, 112, 97, 99, 101]) = false := g3;replace g4 : (S.toList == [105, 110, 116, 101, 114, 102, 97, 99, 101]) = false := g4;replace g5 : (S.toList == [116, 121, 112, 101]) = false := g5;go_enter Tryz.func72, Tryz.ntmps72;go_wp2_with (go_at_call 50; refine (U HC).mono ?_)
 rintro e w1 ⟨rfl, h1⟩
 have H1 := Hi h1;clear h1;go_wp2;go_ret;exact ⟨rfl, U H1⟩
theorem behind_ok {c : Cx} {s : PS} {far : Nat} (h : TksOk c.toks) : Bys (behindP c far s).2.1 := by
 unfold behindP;rw [List.getD_eq_getElem?_getD];cases hx : c.toks[min (s.n + far) (c.toks.length - 1)]? with
 | none => intro z hz; cases hz
 | some t => exact h t (List.mem_of_getElem? hx)
theorem stmt_step {E : En} (hE : E.Ok) {n : Nat}  (IB : IHA E n .block 60 #[.pointer (some ⟨E.M, 0, none⟩)]) (IV : ∀ num : Int, IHA E n (.variable num) 61 #[.pointer (some ⟨E.M, 0, none⟩), .int .i64 num]) (IE : IHA E n .enum 64 #[.pointer (some ⟨E.M, 0, none⟩)]) (IC : IHA E n .choice 65 #[.pointer (some ⟨E.M, 0, none⟩)]) (IW : IHA E n .while' 66 #[.pointer (some ⟨E.M, 0, none⟩)]) (IL : IHA E n .loop 67 #[.pointer (some ⟨E.M, 0, none⟩)]) (IU : IHA E n (.until [59] .expr) 68 #[.pointer (some ⟨E.M, 0, none⟩), .string ⟨#[59]⟩, .func (.func 24) #[.pointer (some ⟨E.M, 0, none⟩)] #[]]) (IR : ∀ k : Int, IHA E n (.bare k) 69 #[.pointer (some ⟨E.M, 0, none⟩), .int .i64 k]) (IA : ∀ (k : Int) (at' : Nat), IHA E n (.evaluated k at') 70 #[.pointer (some ⟨E.M, 0, none⟩), .int .i64 k, .int .i64 (at' : Int)]) (IT : IHA E n .try' 71 #[.pointer (some ⟨E.M, 0, none⟩)]) (ID : IHA E n .declaration 73 #[.pointer (some ⟨E.M, 0, none⟩)]) : IHA E (n + 1) .stmt 31 #[.pointer (some ⟨E.M, 0, none⟩)] := by
 intro nv s W h hne;obtain ⟨R, hR⟩ : ∃ R, parP E.c (n + 1) .stmt s = R := ⟨_, rfl⟩;rw [hR] at hne ⊢;simp only [parP, bodyP] at hR;have HR0 := Hi hR;have H0 := Hi (Lf.refl h);have HE := Hi hE;have HNE := Hi hne;have HIB := Hi IB;have HIV := Hi IV;have HIE := Hi IE;have HIC := Hi IC;have HIW := Hi IW;have HIL := Hi IL;have HIU := Hi IU;have HIR := Hi IR;have HIA := Hi IA;have HIT := Hi IT;have HID := Hi ID;clear hR hne h hE IB IV IE IC IW IL IU IR IA IT ID;go_enter Tryz.func31, Tryz.ntmps31;obtain ⟨t2_1, t3_1, t4_1, t5_1⟩ := (U H0).1.rd.tok;have hl1 := (U H0).1.rd.lt;have HC1 := Hi (mark_any s.tk W);have hbm1 : Bys (mark s.tk) := mark_bys (U H0).1.by'
 have hR1 := U HR0;rw [bd_ok (p := markP) rfl] at hR1;unfold tkV at HC1;obtain ⟨m1, hm1⟩ : ∃ m, mark s.tk = m := ⟨_, rfl⟩;rw [hm1] at HC1 hbm1 hR1;have HM1 := Hi hm1;clear hm1;by_cases e1_0 : m1 = [59]
 · subst e1_0
   simp (config := { decide := true }) only [if_true, if_false] at hR1;have HR1 := Hi hR1;rw [show strOfNums [59] = ⟨#[59]⟩ from rfl] at HC1;clear hR1 hbm1;go_wp2_with (go_at_call 50; refine (U HC1).mono ?_)
   rintro e w1 ⟨rfl, h1⟩
   have H1 := Hi ((U H0).below h1);clear h1;have hp2 := bd_ne (p := aloneP E.c 65) (U HR1) (U HNE);have HC2 := Hi (alone_rq (U HE) (U H1).1 65 hp2);cases hq2 : aloneP E.c 65 s with
   | out => exact absurd hq2 hp2
   | no s2 =>
     have hR2 := (bd_no hq2).symm.trans (U HR1);subst hR2;replace HC2 := rn HC2 hq2;clear hq2 hp2;go_wp2_with (go_at_call 59; refine (U HC2).mono ?_)
     rintro e w2 ⟨rfl, nv2, h2⟩
     have H2 := Hi ((U H1).trans h2);clear h2;go_wp2;exact ⟨rfl, rfl, nv2, U H2⟩
   | ok a2 s2 =>
     have HR2 := br hq2 HR1;replace HC2 := ro HC2 hq2;clear hq2 hp2;go_wp2_with (go_at_call 59; refine (U HC2).mono ?_)
     rintro e w2 ⟨rfl, nv2, h2⟩
     have H2 := Hi ((U H1).trans h2);clear h2;have hR2 : (.ok [a2] s2 : Res (List Nat)) = R := U HR2;subst hR2;go_wp2;go_ret;exact ⟨rfl, nv2, U H2⟩
 by_cases e1_1 : m1 = [123]
 · subst e1_1
   simp (config := { decide := true }) only [if_true, if_false] at hR1;have HR1 := Hi hR1;rw [show strOfNums [123] = ⟨#[123]⟩ from rfl] at HC1;clear hR1 hbm1;go_wp2_with (go_at_call 50; refine (U HC1).mono ?_)
   rintro e w1 ⟨rfl, h1⟩
   have H1 := Hi ((U H0).below h1);clear h1;have hp3 : parP E.c n .block s ≠ .out := fun e => U HNE ((U HR1).symm.trans e)
   have HC3 := Hi (U HIB _ _ _ (U H1).1 hp3);cases hq3 : parP E.c n .block s with
   | out => exact absurd hq3 hp3
   | no s3 =>
     have hR3 := hq3.symm.trans (U HR1);subst hR3;replace HC3 := rn HC3 hq3;clear hq3 hp3;go_wp2_with (go_at_call 60; refine (U HC3).mono ?_)
     rintro e w3 ⟨rfl, nv3, h3⟩
     have H3 := Hi ((U H1).trans h3);clear h3;go_wp2;exact ⟨rfl, rfl, nv3, U H3⟩
   | ok a3 s3 =>
     have HR3 := Hi (hq3.symm.trans (U HR1));replace HC3 := ro HC3 hq3;clear hq3 hp3;go_wp2_with (go_at_call 60; refine (U HC3).mono ?_)
     rintro e w3 ⟨rfl, nv3, h3⟩
     have H3 := Hi ((U H1).trans h3);clear h3;have hR3 := U HR3;subst hR3;go_wp2;go_ret;exact ⟨rfl, nv3, U H3⟩
 by_cases e1_2 : m1 = [108, 101, 116]
 · subst e1_2
   simp (config := { decide := true }) only [if_true, if_false] at hR1;have HR1 := Hi hR1;rw [show strOfNums [108, 101, 116] = ⟨#[108, 101, 116]⟩ from rfl] at HC1;clear hR1 hbm1;go_wp2_with (go_at_call 50; refine (U HC1).mono ?_)
   rintro e w1 ⟨rfl, h1⟩
   have H1 := Hi ((U H0).below h1);clear h1;have hp4 : parP E.c n (.variable 0) s ≠ .out := fun e => U HNE ((U HR1).symm.trans e)
   have HC4 := Hi (U HIV 0 _ _ _ (U H1).1 hp4);cases hq4 : parP E.c n (.variable 0) s with
   | out => exact absurd hq4 hp4
   | no s4 =>
     have hR4 := hq4.symm.trans (U HR1);subst hR4;replace HC4 := rn HC4 hq4;clear hq4 hp4;go_wp2_with (go_at_call 61; refine (U HC4).mono ?_)
     rintro e w4 ⟨rfl, nv4, h4⟩
     have H4 := Hi ((U H1).trans h4);clear h4;go_wp2;exact ⟨rfl, rfl, nv4, U H4⟩
   | ok a4 s4 =>
     have HR4 := Hi (hq4.symm.trans (U HR1));replace HC4 := ro HC4 hq4;clear hq4 hp4;go_wp2_with (go_at_call 61; refine (U HC4).mono ?_)
     rintro e w4 ⟨rfl, nv4, h4⟩
     have H4 := Hi ((U H1).trans h4);clear h4;have hR4 := U HR4;subst hR4;go_wp2;go_ret;exact ⟨rfl, nv4, U H4⟩
 by_cases e1_3 : m1 = [99, 111, 110, 115, 116]
 · subst e1_3
   simp (config := { decide := true }) only [if_true, if_false] at hR1;have HR1 := Hi hR1;rw [show strOfNums [99, 111, 110, 115, 116] = ⟨#[99, 111, 110, 115, 116]⟩ from rfl] at HC1;clear hR1 hbm1;go_wp2_with (go_at_call 50; refine (U HC1).mono ?_)
   rintro e w1 ⟨rfl, h1⟩
   have H1 := Hi ((U H0).below h1);clear h1;have HB5 := Hi (behind_any E.M E.tv s.n s.tk nv E.lv E.cv E.bv w1 E.c.toks (U H1).1.rd (U H1).1.tk (U H1).1.le' 1 (by omega));obtain ⟨t5, ht5⟩ : ∃ t, behindP E.c 1 s = t := ⟨_, rfl⟩;have hbt5 : Bys t5.2.1 := by rw [← ht5]; exact behind_ok (U HE).toks
   rw [show E.c.toks.getD (min (s.n + 1) (E.c.toks.length - 1)) tok0 = t5 from ht5] at HB5;have HI5c := Hi (is_any t5 hbt5 ⟨#[101, 110, 117, 109]⟩ [101, 110, 117, 109] ⟨rfl, by intro z hz; simp at hz; omega⟩);obtain ⟨b5, hb5⟩ : ∃ b, isT t5 [101, 110, 117, 109] = b := ⟨_, rfl⟩;rw [hb5] at HI5c;have hR5 : testP (fun s => isT (behindP E.c 1 s) [101, 110, 117, 109]) s = .ok b5 s := by show Res.ok (isT (behindP E.c 1 s) [101, 110, 117, 109]) s = _; rw [ht5, hb5]
   have HR5 := br hR5 HR1;clear hb5 hR5 hbt5 ht5;unfold tkV at HB5 HI5c;go_wp2_with (go_at_call 63; refine (U HB5).mono ?_)
   rintro e v5 ⟨rfl, h5⟩
   have H5b := Hi ((U H1).below h5);clear h5;go_wp2_with (go_at_call 62; refine (U HI5c v5).mono ?_)
   rintro e w5 ⟨rfl, h5⟩
   have H5 := Hi ((U H5b).below h5);clear h5;cases b5 with
   | false =>
     simp only [Bool.false_eq_true, if_false] at HR5;have hp6 : parP E.c n (.variable 1) s ≠ .out := fun e => U HNE ((U HR5).symm.trans e)
     have HC6 := Hi (U HIV 1 _ _ _ (U H5).1 hp6);cases hq6 : parP E.c n (.variable 1) s with
     | out => exact absurd hq6 hp6
     | no s6 =>
       have hR6 := hq6.symm.trans (U HR5);subst hR6;replace HC6 := rn HC6 hq6;clear hq6 hp6;go_wp2_with (go_at_call 61; refine (U HC6).mono ?_)
       rintro e w6 ⟨rfl, nv6, h6⟩
       have H6 := Hi ((U H5).trans h6);clear h6;go_wp2;exact ⟨rfl, rfl, nv6, U H6⟩
     | ok a6 s6 =>
       have HR6 := Hi (hq6.symm.trans (U HR5));replace HC6 := ro HC6 hq6;clear hq6 hp6;go_wp2_with (go_at_call 61; refine (U HC6).mono ?_)
       rintro e w6 ⟨rfl, nv6, h6⟩
       have H6 := Hi ((U H5).trans h6);clear h6;have hR6 := U HR6;subst hR6;go_wp2;go_ret;exact ⟨rfl, nv6, U H6⟩
   | true =>
     simp only [if_true] at HR5;have hp7 : parP E.c n .enum s ≠ .out := fun e => U HNE ((U HR5).symm.trans e)
     have HC7 := Hi (U HIE _ _ _ (U H5).1 hp7);cases hq7 : parP E.c n .enum s with
     | out => exact absurd hq7 hp7
     | no s7 =>
       have hR7 := hq7.symm.trans (U HR5);subst hR7;replace HC7 := rn HC7 hq7;clear hq7 hp7;go_wp2_with (go_at_call 64; refine (U HC7).mono ?_)
       rintro e w7 ⟨rfl, nv7, h7⟩
       have H7 := Hi ((U H5).trans h7);clear h7;go_wp2;exact ⟨rfl, rfl, nv7, U H7⟩
     | ok a7 s7 =>
       have HR7 := Hi (hq7.symm.trans (U HR5));replace HC7 := ro HC7 hq7;clear hq7 hp7;go_wp2_with (go_at_call 64; refine (U HC7).mono ?_)
       rintro e w7 ⟨rfl, nv7, h7⟩
       have H7 := Hi ((U H5).trans h7);clear h7;have hR7 := U HR7;subst hR7;go_wp2;go_ret;exact ⟨rfl, nv7, U H7⟩
 by_cases e1_4 : m1 = [105, 102]
 · subst e1_4
   simp (config := { decide := true }) only [if_true, if_false] at hR1;have HR1 := Hi hR1;rw [show strOfNums [105, 102] = ⟨#[105, 102]⟩ from rfl] at HC1;clear hR1 hbm1;go_wp2_with (go_at_call 50; refine (U HC1).mono ?_)
   rintro e w1 ⟨rfl, h1⟩
   have H1 := Hi ((U H0).below h1);clear h1;have hp8 : parP E.c n .choice s ≠ .out := fun e => U HNE ((U HR1).symm.trans e)
   have HC8 := Hi (U HIC _ _ _ (U H1).1 hp8);cases hq8 : parP E.c n .choice s with
   | out => exact absurd hq8 hp8
   | no s8 =>
     have hR8 := hq8.symm.trans (U HR1);subst hR8;replace HC8 := rn HC8 hq8;clear hq8 hp8;go_wp2_with (go_at_call 65; refine (U HC8).mono ?_)
     rintro e w8 ⟨rfl, nv8, h8⟩
     have H8 := Hi ((U H1).trans h8);clear h8;go_wp2;exact ⟨rfl, rfl, nv8, U H8⟩
   | ok a8 s8 =>
     have HR8 := Hi (hq8.symm.trans (U HR1));replace HC8 := ro HC8 hq8;clear hq8 hp8;go_wp2_with (go_at_call 65; refine (U HC8).mono ?_)
     rintro e w8 ⟨rfl, nv8, h8⟩
     have H8 := Hi ((U H1).trans h8);clear h8;have hR8 := U HR8;subst hR8;go_wp2;go_ret;exact ⟨rfl, nv8, U H8⟩
 by_cases e1_5 : m1 = [119, 104, 105, 108, 101]
 · subst e1_5
   simp (config := { decide := true }) only [if_true, if_false] at hR1;have HR1 := Hi hR1;rw [show strOfNums [119, 104, 105, 108, 101] = ⟨#[119, 104, 105, 108, 101]⟩ from rfl] at HC1;clear hR1 hbm1;go_wp2_with (go_at_call 50; refine (U HC1).mono ?_)
   rintro e w1 ⟨rfl, h1⟩
   have H1 := Hi ((U H0).below h1);clear h1;have hp9 : parP E.c n .while' s ≠ .out := fun e => U HNE ((U HR1).symm.trans e)
   have HC9 := Hi (U HIW _ _ _ (U H1).1 hp9);cases hq9 : parP E.c n .while' s with
   | out => exact absurd hq9 hp9
   | no s9 =>
     have hR9 := hq9.symm.trans (U HR1);subst hR9;replace HC9 := rn HC9 hq9;clear hq9 hp9;go_wp2_with (go_at_call 66; refine (U HC9).mono ?_)
     rintro e w9 ⟨rfl, nv9, h9⟩
     have H9 := Hi ((U H1).trans h9);clear h9;go_wp2;exact ⟨rfl, rfl, nv9, U H9⟩
   | ok a9 s9 =>
     have HR9 := Hi (hq9.symm.trans (U HR1));replace HC9 := ro HC9 hq9;clear hq9 hp9;go_wp2_with (go_at_call 66; refine (U HC9).mono ?_)
     rintro e w9 ⟨rfl, nv9, h9⟩
     have H9 := Hi ((U H1).trans h9);clear h9;have hR9 := U HR9;subst hR9;go_wp2;go_ret;exact ⟨rfl, nv9, U H9⟩
 by_cases e1_6 : m1 = [102, 111, 114]
 · subst e1_6
   simp (config := { decide := true }) only [if_true, if_false] at hR1;have HR1 := Hi hR1;rw [show strOfNums [102, 111, 114] = ⟨#[102, 111, 114]⟩ from rfl] at HC1;clear hR1 hbm1;go_wp2_with (go_at_call 50; refine (U HC1).mono ?_)
   rintro e w1 ⟨rfl, h1⟩
   have H1 := Hi ((U H0).below h1);clear h1;have hp10 : parP E.c n .loop s ≠ .out := fun e => U HNE ((U HR1).symm.trans e)
   have HC10 := Hi (U HIL _ _ _ (U H1).1 hp10);cases hq10 : parP E.c n .loop s with
   | out => exact absurd hq10 hp10
   | no s10 =>
     have hR10 := hq10.symm.trans (U HR1);subst hR10;replace HC10 := rn HC10 hq10;clear hq10 hp10;go_wp2_with (go_at_call 67; refine (U HC10).mono ?_)
     rintro e w10 ⟨rfl, nv10, h10⟩
     have H10 := Hi ((U H1).trans h10);clear h10;go_wp2;exact ⟨rfl, rfl, nv10, U H10⟩
   | ok a10 s10 =>
     have HR10 := Hi (hq10.symm.trans (U HR1));replace HC10 := ro HC10 hq10;clear hq10 hp10;go_wp2_with (go_at_call 67; refine (U HC10).mono ?_)
     rintro e w10 ⟨rfl, nv10, h10⟩
     have H10 := Hi ((U H1).trans h10);clear h10;have hR10 := U HR10;subst hR10;go_wp2;go_ret;exact ⟨rfl, nv10, U H10⟩
 by_cases e1_7 : m1 = [114, 101, 116, 117, 114, 110]
 · subst e1_7
   simp (config := { decide := true }) only [if_true, if_false] at hR1;have HR1 := Hi hR1;rw [show strOfNums [114, 101, 116, 117, 114, 110] = ⟨#[114, 101, 116, 117, 114, 110]⟩ from rfl] at HC1;clear hR1 hbm1;go_wp2_with (go_at_call 50; refine (U HC1).mono ?_)
   rintro e w1 ⟨rfl, h1⟩
   have H1 := Hi ((U H0).below h1);clear h1;have hp11 := bd_ne (p := nextP E.c) (U HR1) (U HNE);obtain ⟨a11, s11, hq11⟩ : ∃ a s', nextP E.c s = .ok a s' := next_ok hp11;have HC11 := Hi (rq_ok (next_rq (U HE) (U H1).1 hp11) hq11);have HR11 := br hq11 HR1;clear hq11 hp11;unfold tkV at HC11;go_wp2_with (go_at_call 53; refine (U HC11).mono ?_)
   rintro e w11 ⟨rfl, nv11, h11⟩
   have H11 := Hi ((U H1).trans h11);clear h11;have q211 := tf2 a11.1 (strOfNums a11.2.1) (a11.2.2.1 : Int) (a11.2.2.2 : Int) w11;have hp12 := bd_ne (p := parP E.c n (.until [59] .expr)) (U HR11) (U HNE);have HC12 := Hi (U HIU _ _ _ (U H11).1 hp12);cases hq12 : parP E.c n (.until [59] .expr) s11 with
   | out => exact absurd hq12 hp12
   | no s12 =>
     have hR12 := (bd_no hq12).symm.trans (U HR11);subst hR12;replace HC12 := rn HC12 hq12;clear hq12 hp12;go_wp2_with (go_at_call 68; refine (U HC12).mono ?_)
     rintro e w12 ⟨rfl, nv12, h12⟩
     have H12 := Hi ((U H11).trans h12);clear h12;go_wp2;exact ⟨rfl, rfl, nv12, U H12⟩
   | ok a12 s12 =>
     have HR12 := br hq12 HR11;replace HC12 := ro HC12 hq12;clear hq12 hp12;go_wp2_with (go_at_call 68; refine (U HC12).mono ?_)
     rintro e w12 ⟨rfl, nv12, h12⟩
     have H12 := Hi ((U H11).trans h12);clear h12;have hp13 := bd_ne (p := putP ⟨57, [], 0, [hd0 a12], a11.2.2.1⟩) (U HR12) (U HNE);obtain ⟨a13, s13, hq13⟩ : ∃ a s', putP ⟨57, [], 0, [hd0 a12], a11.2.2.1⟩ s12 = .ok a s' := put_ex hp13;have H13p := Hi ((U H12).below ((Below.refl _ w12).alloc NL (.cells #[.int .i64 ((hd0 a12 : Nat) : Int)] 3)));have HC13 := Hi (rq_ok (put_rq (U H13p).1 _ _ _ (kid1 w12 (hd0 a12) (U H12).1.zl) hp13) hq13);simp only [e0', List.length_cons, List.length_nil] at HC13;have HR13 := br hq13 HR12;clear hq13 hp13;go_wp2_with (go_at_call 32; refine (U HC13).mono ?_)
     rintro e w13 ⟨rfl, nv13, h13⟩
     have H13 := Hi ((U H13p).trans h13);clear h13;have hR13 : (.ok [a13] s13 : Res (List Nat)) = R := U HR13;subst hR13;go_wp2;go_ret;exact ⟨rfl, nv13, U H13⟩
 by_cases e1_8 : m1 = [98, 114, 101, 97, 107]
 · subst e1_8
   simp (config := { decide := true }) only [if_true, if_false] at hR1;have HR1 := Hi hR1;rw [show strOfNums [98, 114, 101, 97, 107] = ⟨#[98, 114, 101, 97, 107]⟩ from rfl] at HC1;clear hR1 hbm1;go_wp2_with (go_at_call 50; refine (U HC1).mono ?_)
   rintro e w1 ⟨rfl, h1⟩
   have H1 := Hi ((U H0).below h1);clear h1;have hp14 : parP E.c n (.bare 58) s ≠ .out := fun e => U HNE ((U HR1).symm.trans e)
   have HC14 := Hi (U HIR 58 _ _ _ (U H1).1 hp14);cases hq14 : parP E.c n (.bare 58) s with
   | out => exact absurd hq14 hp14
   | no s14 =>
     have hR14 := hq14.symm.trans (U HR1);subst hR14;replace HC14 := rn HC14 hq14;clear hq14 hp14;go_wp2_with (go_at_call 69; refine (U HC14).mono ?_)
     rintro e w14 ⟨rfl, nv14, h14⟩
     have H14 := Hi ((U H1).trans h14);clear h14;go_wp2;exact ⟨rfl, rfl, nv14, U H14⟩
   | ok a14 s14 =>
     have HR14 := Hi (hq14.symm.trans (U HR1));replace HC14 := ro HC14 hq14;clear hq14 hp14;go_wp2_with (go_at_call 69; refine (U HC14).mono ?_)
     rintro e w14 ⟨rfl, nv14, h14⟩
     have H14 := Hi ((U H1).trans h14);clear h14;have hR14 := U HR14;subst hR14;go_wp2;go_ret;exact ⟨rfl, nv14, U H14⟩
 by_cases e1_9 : m1 = [99, 111, 110, 116, 105, 110, 117, 101]
 · subst e1_9
   simp (config := { decide := true }) only [if_true, if_false] at hR1;have HR1 := Hi hR1;rw [show strOfNums [99, 111, 110, 116, 105, 110, 117, 101] = ⟨#[99, 111, 110, 116, 105, 110, 117, 101]⟩ from rfl] at HC1;clear hR1 hbm1;go_wp2_with (go_at_call 50; refine (U HC1).mono ?_)
   rintro e w1 ⟨rfl, h1⟩
   have H1 := Hi ((U H0).below h1);clear h1;have hp15 : parP E.c n (.bare 59) s ≠ .out := fun e => U HNE ((U HR1).symm.trans e)
   have HC15 := Hi (U HIR 59 _ _ _ (U H1).1 hp15);cases hq15 : parP E.c n (.bare 59) s with
   | out => exact absurd hq15 hp15
   | no s15 =>
     have hR15 := hq15.symm.trans (U HR1);subst hR15;replace HC15 := rn HC15 hq15;clear hq15 hp15;go_wp2_with (go_at_call 69; refine (U HC15).mono ?_)
     rintro e w15 ⟨rfl, nv15, h15⟩
     have H15 := Hi ((U H1).trans h15);clear h15;go_wp2;exact ⟨rfl, rfl, nv15, U H15⟩
   | ok a15 s15 =>
     have HR15 := Hi (hq15.symm.trans (U HR1));replace HC15 := ro HC15 hq15;clear hq15 hp15;go_wp2_with (go_at_call 69; refine (U HC15).mono ?_)
     rintro e w15 ⟨rfl, nv15, h15⟩
     have H15 := Hi ((U H1).trans h15);clear h15;have hR15 := U HR15;subst hR15;go_wp2;go_ret;exact ⟨rfl, nv15, U H15⟩
 by_cases e1_10 : m1 = [116, 104, 114, 111, 119]
 · subst e1_10
   simp (config := { decide := true }) only [if_true, if_false] at hR1;have HR1 := Hi hR1;rw [show strOfNums [116, 104, 114, 111, 119] = ⟨#[116, 104, 114, 111, 119]⟩ from rfl] at HC1;clear hR1 hbm1;go_wp2_with (go_at_call 50; refine (U HC1).mono ?_)
   rintro e w1 ⟨rfl, h1⟩
   have H1 := Hi ((U H0).below h1);clear h1;have hp16 := bd_ne (p := nextP E.c) (U HR1) (U HNE);obtain ⟨a16, s16, hq16⟩ : ∃ a s', nextP E.c s = .ok a s' := next_ok hp16;have HC16 := Hi (rq_ok (next_rq (U HE) (U H1).1 hp16) hq16);have HR16 := br hq16 HR1;clear hq16 hp16;unfold tkV at HC16;go_wp2_with (go_at_call 53; refine (U HC16).mono ?_)
   rintro e w16 ⟨rfl, nv16, h16⟩
   have H16 := Hi ((U H1).trans h16);clear h16;have q216 := tf2 a16.1 (strOfNums a16.2.1) (a16.2.2.1 : Int) (a16.2.2.2 : Int) w16;have hp17 : parP E.c n (.evaluated 60 a16.2.2.1) s16 ≠ .out := fun e => U HNE ((U HR16).symm.trans e)
   have HC17 := Hi (U HIA 60 a16.2.2.1 _ _ _ (U H16).1 hp17);cases hq17 : parP E.c n (.evaluated 60 a16.2.2.1) s16 with
   | out => exact absurd hq17 hp17
   | no s17 =>
     have hR17 := hq17.symm.trans (U HR16);subst hR17;replace HC17 := rn HC17 hq17;clear hq17 hp17;go_wp2_with (go_at_call 70; refine (U HC17).mono ?_)
     rintro e w17 ⟨rfl, nv17, h17⟩
     have H17 := Hi ((U H16).trans h17);clear h17;go_wp2;exact ⟨rfl, rfl, nv17, U H17⟩
   | ok a17 s17 =>
     have HR17 := Hi (hq17.symm.trans (U HR16));replace HC17 := ro HC17 hq17;clear hq17 hp17;go_wp2_with (go_at_call 70; refine (U HC17).mono ?_)
     rintro e w17 ⟨rfl, nv17, h17⟩
     have H17 := Hi ((U H16).trans h17);clear h17;have hR17 := U HR17;subst hR17;go_wp2;go_ret;exact ⟨rfl, nv17, U H17⟩
 by_cases e1_11 : m1 = [116, 114, 121]
 · subst e1_11
   simp (config := { decide := true }) only [if_true, if_false] at hR1;have HR1 := Hi hR1;rw [show strOfNums [116, 114, 121] = ⟨#[116, 114, 121]⟩ from rfl] at HC1;clear hR1 hbm1;go_wp2_with (go_at_call 50; refine (U HC1).mono ?_)
   rintro e w1 ⟨rfl, h1⟩
   have H1 := Hi ((U H0).below h1);clear h1;have hp18 : parP E.c n .try' s ≠ .out := fun e => U HNE ((U HR1).symm.trans e)
   have HC18 := Hi (U HIT _ _ _ (U H1).1 hp18);cases hq18 : parP E.c n .try' s with
   | out => exact absurd hq18 hp18
   | no s18 =>
     have hR18 := hq18.symm.trans (U HR1);subst hR18;replace HC18 := rn HC18 hq18;clear hq18 hp18;go_wp2_with (go_at_call 71; refine (U HC18).mono ?_)
     rintro e w18 ⟨rfl, nv18, h18⟩
     have H18 := Hi ((U H1).trans h18);clear h18;go_wp2;exact ⟨rfl, rfl, nv18, U H18⟩
   | ok a18 s18 =>
     have HR18 := Hi (hq18.symm.trans (U HR1));replace HC18 := ro HC18 hq18;clear hq18 hp18;go_wp2_with (go_at_call 71; refine (U HC18).mono ?_)
     rintro e w18 ⟨rfl, nv18, h18⟩
     have H18 := Hi ((U H1).trans h18);clear h18;have hR18 := U HR18;subst hR18;go_wp2;go_ret;exact ⟨rfl, nv18, U H18⟩
 have g1_0 := mark_ne hbm1 (l := [59]) (by intro z hz; simp at hz; omega) e1_0;have g1_1 := mark_ne hbm1 (l := [123]) (by intro z hz; simp at hz; omega) e1_1;have g1_2 := mark_ne hbm1 (l := [108, 101, 116]) (by intro z hz; simp at hz; omega) e1_2;have g1_3 := mark_ne hbm1 (l := [99, 111, 110, 115, 116]) (by intro z hz; simp at hz; omega) e1_3;have g1_4 := mark_ne hbm1 (l := [105, 102]) (by intro z hz; simp at hz; omega) e1_4;have g1_5 := mark_ne hbm1 (l := [119, 104, 105, 108, 101]) (by intro z hz; simp at hz; omega) e1_5;have g1_6 := mark_ne hbm1 (l := [102, 111, 114]) (by intro z hz; simp at hz; omega) e1_6;have g1_7 := mark_ne hbm1 (l := [114, 101, 116, 117, 114, 110]) (by intro z hz; simp at hz; omega) e1_7;have g1_8 := mark_ne hbm1 (l := [98, 114, 101, 97, 107]) (by intro z hz; simp at hz; omega) e1_8;have g1_9 := mark_ne hbm1 (l := [99, 111, 110, 116, 105, 110, 117, 101]) (by intro z hz; simp at hz; omega) e1_9;have g1_10 := mark_ne hbm1 (l := [116, 104, 114, 111, 119]) (by intro z hz; simp at hz; omega) e1_10;have g1_11 := mark_ne hbm1 (l := [116, 114, 121]) (by intro z hz; simp at hz; omega) e1_11;skip
 rw [if_neg e1_0, if_neg e1_1, if_neg e1_2, if_neg e1_3, if_neg e1_4, if_neg e1_5, if_neg e1_6, if_neg e1_7, if_neg e1_8, if_neg e1_9, if_neg e1_10, if_neg e1_11] at hR1;obtain ⟨S1, hS1⟩ : ∃ S, strOfNums m1 = S := ⟨_, rfl⟩;rw [hS1] at HC1 g1_0 g1_1 g1_2 g1_3 g1_4 g1_5 g1_6 g1_7 g1_8 g1_9 g1_10 g1_11;have HR1 := Hi hR1;clear hR1 hS1 hbm1 e1_0 e1_1 e1_2 e1_3 e1_4 e1_5 e1_6 e1_7 e1_8 e1_9 e1_10 e1_11;replace g1_0 : (S1.toList == [59]) = false := g1_0;replace g1_1 : (S1.toList == [123]) = false := g1_1;replace g1_2 : (S1.toList == [108, 101, 116]) = false := g1_2;replace g1_3 : (S1.toList == [99, 111, 110, 115, 116]) = false := g1_3;replace g1_4 : (S1.toList == [105, 102]) = false := g1_4;replace g1_5 : (S1.toList == [119, 104, 105, 108, 101]) = false := g1_5;replace g1_6 : (S1.toList == [102, 111, 114]) = false := g1_6;replace g1_7 : (S1.toList == [114, 101, 116, 117, 114, 110]) = false := g1_7;replace g1_8 : (S1.toList == [98, 114, 101, 97, 107]) = false := g1_8;replace g1_9 : (S1.toList == [99, 111, 110, 116, 105, 110, 117, 101]) = false := g1_9;replace g1_10 : (S1.toList == [116, 104, 114, 111, 119]) = false := g1_10;replace g1_11 : (S1.toList == [116, 114, 121]) = false := g1_11;go_wp2_with (go_at_call 50; refine (U HC1).mono ?_)
 rintro e w1 ⟨rfl, h1⟩
 have H1 := Hi ((U H0).below h1);clear h1;have HC19 := Hi (declares_any E.M E.tv s.n s.tk nv E.lv E.cv E.bv w1 (U H1).1.rd (U H1).1.by');rw [U HM1] at HC19;obtain ⟨b19, hb19⟩ : ∃ b, declL.contains m1 = b := ⟨_, rfl⟩;have hR19 := U HR1;rw [hb19] at HC19 hR19;have HR19 := Hi hR19;clear hb19 hR19;go_wp2_with (go_at_call 72; refine (U HC19).mono ?_)
 rintro e w19 ⟨rfl, h19⟩
 have H19 := Hi ((U H1).below h19);clear h19;cases b19 with
 | false =>
   simp only [Bool.false_eq_true, if_false] at HR19;have d20 := (U H19).1.rd.tok.2.2.1;have hl20 := (U H19).1.rd.lt;have hR20 := U HR19;rw [bd_ok (p := atP) rfl] at hR20;replace HR19 := Hi hR20;clear hR20;have hp21 : parP E.c n (.evaluated 64 s.tk.2.2.1) s ≠ .out := fun e => U HNE ((U HR19).symm.trans e)
   have HC21 := Hi (U HIA 64 s.tk.2.2.1 _ _ _ (U H19).1 hp21);cases hq21 : parP E.c n (.evaluated 64 s.tk.2.2.1) s with
   | out => exact absurd hq21 hp21
   | no s21 =>
     have hR21 := hq21.symm.trans (U HR19);subst hR21;replace HC21 := rn HC21 hq21;clear hq21 hp21;go_wp2_with (go_at_call 70; refine (U HC21).mono ?_)
     rintro e w21 ⟨rfl, nv21, h21⟩
     have H21 := Hi ((U H19).trans h21);clear h21;go_wp2;exact ⟨rfl, rfl, nv21, U H21⟩
   | ok a21 s21 =>
     have HR21 := Hi (hq21.symm.trans (U HR19));replace HC21 := ro HC21 hq21;clear hq21 hp21;go_wp2_with (go_at_call 70; refine (U HC21).mono ?_)
     rintro e w21 ⟨rfl, nv21, h21⟩
     have H21 := Hi ((U H19).trans h21);clear h21;have hR21 := U HR21;subst hR21;go_wp2;go_ret;exact ⟨rfl, nv21, U H21⟩
 | true =>
   simp only [if_true] at HR19;have hp22 : parP E.c n .declaration s ≠ .out := fun e => U HNE ((U HR19).symm.trans e)
   have HC22 := Hi (U HID _ _ _ (U H19).1 hp22);cases hq22 : parP E.c n .declaration s with
   | out => exact absurd hq22 hp22
   | no s22 =>
     have hR22 := hq22.symm.trans (U HR19);subst hR22;replace HC22 := rn HC22 hq22;clear hq22 hp22;go_wp2_with (go_at_call 73; refine (U HC22).mono ?_)
     rintro e w22 ⟨rfl, nv22, h22⟩
     have H22 := Hi ((U H19).trans h22);clear h22;go_wp2;exact ⟨rfl, rfl, nv22, U H22⟩
   | ok a22 s22 =>
     have HR22 := Hi (hq22.symm.trans (U HR19));replace HC22 := ro HC22 hq22;clear hq22 hp22;go_wp2_with (go_at_call 73; refine (U HC22).mono ?_)
     rintro e w22 ⟨rfl, nv22, h22⟩
     have H22 := Hi ((U H19).trans h22);clear h22;have hR22 := U HR22;subst hR22;go_wp2;go_ret;exact ⟨rfl, nv22, U H22⟩
theorem kid_cell {Z : Nat → Prop} {W : World} {g n cap x : Nat} (h : KidR Z W (.slice (some ⟨g, 0, none⟩) n cap) [x]) : W.cell? ⟨g, 0, none⟩ = some (.int .i64 (x : Int)) := by
 obtain ⟨a, c, e, _, _, h4⟩ := h;cases e;rcases h4 with h4 | ⟨b, o, cur, fr, ea, _, hh, hc⟩
 · cases h4
 · cases ea
   have := hc 0 x rfl;simp at this;simp [World.cell?, hh, this]
theorem kid_cap {Z : Nat → Prop} {W : World} {g n cap : Nat} {ks : List Nat} (h : KidR Z W (.slice (some ⟨g, 0, none⟩) n cap) ks) : ks.length ≤ cap ∧ cap ≤ 9223372036854775807 := by
 obtain ⟨a, c, e, h2, h3, _⟩ := h;cases e;unfold maxLen at h3;exact ⟨h2, by omega⟩
theorem anyType_step {E : En} (hE : E.Ok) {n : Nat}  (IA : ∀ m, m ≤ n → ∀ Z, IHA { E with Z := Z } m .arrayType 43 #[.pointer (some ⟨E.M, 0, none⟩)]) : IHA E (n + 1) .anyType 22 #[.pointer (some ⟨E.M, 0, none⟩)] := by
 intro nv s W h hne;obtain ⟨R, hR⟩ : ∃ R, parP E.c (n + 1) .anyType s = R := ⟨_, rfl⟩;rw [hR] at hne ⊢;simp only [parP, bodyP] at hR;have HR0 := Hi hR;have H0 := Hi (Lf.refl h);have HE := Hi hE;have HNE := Hi hne;have HIA := Hi IA;clear hR hne h hE IA;obtain ⟨j0, hj, hy0, hy1, hy2⟩ := info_parts infoInt;have HJ := Hi (And.intro hj (And.intro hy0 (And.intro hy1 hy2)));have H00 := Hi (U H0).1;clear hj hy0 hy1 hy2;go_enter Tryz.func22, Tryz.ntmps22;have d1 := (U H0).1.rd.tok.2.2.1;have hl1 := (U H0).1.rd.lt;have hR1 := U HR0;rw [bd_ok (p := atP) rfl] at hR1;replace HR0 := Hi hR1;clear hR1;have hp2 := bd_ne (p := takeP E.c [124]) (U HR0) (U HNE);obtain ⟨b2, s2, hq2⟩ := take_ok hp2;have HC2 := Hi (rq_ok (take_rq (U HE) (U H0).1 (x := ⟨#[124]⟩) ⟨rfl, by intro z hz; simp at hz; omega⟩ hp2) hq2);have HR2 := br hq2 HR0;clear hq2 hp2;go_wp2_with (go_at_call 42; refine (U HC2).mono ?_)
 rintro e w2 ⟨rfl, nv2, h2⟩
 have H2 := Hi ((U H0).trans h2);clear h2;have hp3 := bd_ne (p := parP E.c n .arrayType) (U HR2) (U HNE);have HC3 := Hi (U HIA n NL E.Z _ _ _ (U H2).1 hp3);cases hq3 : parP E.c n .arrayType s2 with
 | out => exact absurd hq3 hp3
 | no s3 =>
   have hR3 := (bd_no hq3).symm.trans (U HR2);subst hR3;replace HC3 := rn HC3 hq3;clear hq3 hp3;go_wp2_with (go_at_call 43; refine (U HC3).mono ?_)
   rintro e w3 ⟨rfl, nv3, h3⟩
   have H3 := Hi ((U H2).trans h3);clear h3;go_wp2;exact ⟨rfl, rfl, nv3, U H3⟩
 | ok a3 s3 =>
   have HR3 := br hq3 HR2;replace HC3 := ro HC3 hq3;clear hq3 hp3;go_wp2_with (go_at_call 43; refine (U HC3).mono ?_)
   rintro e w3 ⟨rfl, nv3, h3⟩
   have H3 := Hi ((U H2).trans h3);clear h3;go_wp2;go_loopw [4] (fun t wr => Hid (∃ m, SevI E nv s W n R (.anyLoop (s.tk.2.2.1)) m t wr)) (fun t wr => leastN fun m => SevI E nv s W n R (.anyLoop (s.tk.2.2.1)) m t wr)
   case atStart => exact ⟨n, NL, [hd0 a3], _, _, nv3, s3, rfl, Fil.first (U H3), U HR3⟩
   case round =>
    obtain ⟨m, hm⟩ := U hrel;obtain ⟨hmn, ks, g, cap, nv2, s2, rfl, h2, hR2⟩ := leastN_spec (P := fun m => SevI E nv s W n R (.anyLoop (s.tk.2.2.1)) m _ wr) hm;obtain ⟨m0, hm0⟩ : ∃ m0, (leastN fun m => SevI E nv s W n R (.anyLoop (s.tk.2.2.1)) m (.slice (some ⟨g, 0, none⟩) ks.length cap) wr) = m0 := ⟨_, rfl⟩;rw [hm0] at hmn hR2;have HM0 := Hi hm0;clear hm hrel hm0 HR3 H3;cases m0 with
    | zero => exact absurd hR2.symm (U HNE)
    | succ m1 =>
      simp only [parP, bodyP] at hR2;obtain ⟨hlen, hR2⟩ := cap_ok hR2 (U HNE);have hp3 := bd_ne (p := takeP E.c [124]) hR2 (U HNE);have HC3 := Hi (take_rq (E := E.off g) ((U HE).off g) h2.at' (x := ⟨#[124]⟩) ⟨rfl, by intro z hz; simp at hz; omega⟩ hp3);obtain ⟨b3, s3, hq3⟩ := take_ok hp3;replace HC3 := ro HC3 hq3;have HR3 := Hi ((bd_ok hq3).symm.trans hR2);have H2 := Hi h2;clear h2 hp3 hq3 hR2;obtain ⟨len, hln⟩ : ∃ len, ks.length = len := ⟨_, rfl⟩;have HLN := Hi hln;rw [hln] at hlen ⊢;clear hln;go_wp2_with (go_at_call 42; refine (U HC3).mono ?_)
      rintro e w3 ⟨rfl, nv3, h3⟩
      have H3 := Hi ((U H2).read h3);clear h3;cases b3 with
      | false =>
        by_cases h1 : len = 1
        · have hks := U HLN
          subst h1
          obtain ⟨x, rfl⟩ : ∃ x, ks = [x] := by
           cases ks with
           | nil => simp at hks
           | cons x t => cases t with
             | nil => exact ⟨x, rfl⟩
             | cons y t => simp at hks
          have hR3 : (.ok [x] s3 : Res (List Nat)) = R := U HR3;subst hR3;have hk3 := (U H3).kids (U H00);have hc3 : w3.cell? ⟨g, 0, none⟩ = some (.int .i64 (x : Int)) := kid_cell hk3;have hcp := kid_cap hk3;clear hk3 hks;go_wp2;go_ret;exact ⟨rfl, nv3, (U H3).lf⟩
        · have hR3 : one1 (putP ⟨87, [], 0, ks, s.tk.2.2.1⟩) s3 = R := by
           have := U HR3;simp only [Bool.false_eq_true, if_false] at this;rw [if_neg (by rw [U HLN]; exact h1)] at this;exact this
          have hl1 : ((len : Int) == 1) = false := by simp; omega
          have hp4 := bd_ne (p := putP ⟨87, [], 0, ks, s.tk.2.2.1⟩) hR3 (U HNE);have hq4 := put_ok hp4;have HC4 := Hi (rq_ok (put_rq (U H3).lf.1 ⟨87, [], 0, ks, s.tk.2.2.1⟩ (some ⟨g, 0, none⟩) cap ((U H3).kids (U H00)) hp4) hq4);simp only [e0'] at HC4;rw [U HLN] at HC4;have hR4 := (bd_ok hq4).symm.trans hR3;subst hR4;clear hp4 hq4 hR3;go_wp2_with (go_at_call 32; refine (U HC4).mono ?_)
          rintro e w4 ⟨rfl, nv4, h4⟩
          have H4 := Hi ((U H3).lf.trans h4);clear h4;go_wp2;go_ret;exact ⟨rfl, nv4, U H4⟩
      | true =>
        have hp4 := bd_ne (p := parP E.c m1 .arrayType) (U HR3) (U HNE);have HC4 := Hi (U HIA m1 (by omega) (E.off g).Z nv3 s3 w3 (U H3).at' hp4);cases hq4 : parP E.c m1 .arrayType s3 with
        | out => exact absurd hq4 hp4
        | no s4 =>
          have hR4 := (bd_no hq4).symm.trans (U HR3);subst hR4;replace HC4 := rn HC4 hq4;clear hq4 hp4;go_wp2_with (go_at_call 43; refine (U HC4).mono ?_)
          rintro e w4 ⟨rfl, nv4, h4⟩
          have H4 := Hi ((U H3).read h4);clear h4;go_wp2;exact ⟨rfl, rfl, nv4, (U H4).lf⟩
        | ok a4 s4 =>
          have HR4 := br hq4 HR3;replace HC4 := ro HC4 hq4;clear hq4 hp4;go_wp2_with (go_at_call 43; refine (U HC4).mono ?_)
          rintro e w4 ⟨rfl, nv4, h4⟩
          have H4 := Hi ((U H3).read h4);clear h4;have hO4 := (U H4).own;rw [U HLN] at hO4;have hsz4 := (U H4).fz.size;have HO4 := Hi hO4;obtain ⟨hj, hy0, hy1, hy2⟩ := U HJ;clear hO4;go_wp2_with (at_builtin; refine wpList_append_lies _ rfl _ _ 32 rfl W.heap.size 3 j0 _ 1 8 Tryz.underlying32 hj hy0 hy1 hy2 rfl (by decide) _ len (ks.map fun k : Nat => .int .i64 (k : Int)) rfl ((U HO4).alloc _) ⟨w4.heap.size, 0, none⟩ 1 1 [.int .i64 (hd0 a4 : Int)] rfl rfl ?c1 ?c2 (by decide) ?c3 ?c4 ?c5 _ rfl ?_)
          case c1 => exact World.news_of_block (cs := #[.int .i64 (hd0 a4 : Int)]) (t := 3) (fr := (0, 0)) (World.alloc_heap_new _ _)
          case c2 => intro u hu; simp at hu; subst hu; rfl
          case c3 => unfold maxLen; omega
          case c4 => omega
          case c5 => simp; omega
          intro g5 cap5 w5 hown5 hgrow5 hat5 hlt5;have h5 : Fil E nv s W (ks ++ [hd0 a4]) g5 cap5 nv4 s4 w5 := (U H4).more (U H00) ((Below.refl _ w4).alloc NL _) (by rw [U HLN]; exact hown5) hgrow5 (by rcases hat5 with e | e; (· exact .inl (by simpa [Value.ownBlock] using e)); (· exact .inr (by rw [e]; simp))) hlt5;have H5 := Hi h5;clear h5 hown5 hgrow5 hat5;go_wp2;have hI : SevI E nv s W n R (.anyLoop (s.tk.2.2.1)) m1 (.slice (some ⟨g5, 0, none⟩) (len + 1) cap5) w5 := ⟨by omega, ks ++ [hd0 a4], g5, cap5, nv4, s4, by rw [← U HLN]; simp, U H5, U HR4⟩;exact ⟨⟨_, hI⟩, by rw [← U HLN, U HM0, U HLN]; exact Nat.lt_succ_of_le (leastN_le hI)⟩
end
end Go.Proofs.YtofgphapjjofnaaGreatDoor
