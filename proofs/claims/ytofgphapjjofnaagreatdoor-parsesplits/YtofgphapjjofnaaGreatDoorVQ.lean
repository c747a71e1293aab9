/- Towards the law: QM QN QO QP. -/
import Derived.BigRegion
import Derived.Lib.Agree
import Derived.Test.YtofgphapjjofnaaGreatDoorV3
import Derived.Test.YtofgphapjjofnaaGreatDoorV5
import Derived.Test.YtofgphapjjofnaaGreatDoorVK
import Derived.Test.YtofgphapjjofnaaGreatDoorVM
import Derived.Test.YtofgphapjjofnaaGreatDoorVN
set_option linter.unusedSimpArgs false
set_option linter.unusedVariables false
set_option maxRecDepth 100000
set_option maxHeartbeats 8000000
namespace Go.Proofs.YtofgphapjjofnaaGreatDoor
section
open Go.RowKit Go.Shelf
theorem infoStr : (Tryz.prog.info? 9).map (fun i => (i.zero, i.size, i.bytes)) = some (some (.string ⟨#[]⟩), 1, 16) := by kernel_rfl
theorem nameP_inv {c : Cx} {s s' : PS} {nm : List Int} (h : nameP c s = .ok nm s') : nm = s.tk.2.1 ∧ s'.n = s.n + 1 := by
 obtain ⟨t, s1, h1, h2⟩ := bd_inv h;cases h2;unfold wantKindP nextP at h1;split at h1
 · split at h1
   · cases h1; exact ⟨rfl, rfl⟩
   · cases h1
 · cases h1
theorem takeP_inv {c : Cx} {s s' : PS} {x : List Int} {b : Bool} (h : takeP c x s = .ok b s') : s.n ≤ s'.n := by
 unfold takeP nextP bd rt at h;split at h
 · split at h
   · rename_i h2
     dsimp only at h2;split at h2
     · cases h2; cases h; exact Nat.le_succ _
     · cases h2
   · rename_i h2
     dsimp only at h2;split at h2 <;> cases h2
   · cases h
 · cases h; exact NL
theorem Lf.grow9 {E : En} {nv0 nv : Value} {s0 s : PS} {W0 W A : World} {g : Nat} (h0 : RAt E nv0 s0 W0) (hL : Lf E nv0 s0 W0 nv s W) (hg : W0.heap.size ≤ g) (ht : W.heap.size ≤ g ∨ tyOf W g = 9) (hA : FrP (fun k => k = g) W A) : Lf E nv0 s0 W0 nv s A := by
 have hs0 := hL.2.1.size;have hMl := h0.rd.lt;have hk : ∀ k, k < W.heap.size → k ≠ g → A.heap[k]? = W.heap[k]? := fun k hk hn => hA.block k hk hn
 have hkt : ∀ k t, tyOf W k = t → t ≠ 0 → t ≠ 9 → A.heap[k]? = W.heap[k]? := fun k t e h1 h2 => hk k (ty_lt e h1) fun e' => by
  subst e';have := ty_lt e h1;rcases ht with ht | ht <;> omega
 have h34 : ∀ k, tyOf W k = 34 ∨ tyOf W k = 3 → A.heap[k]? = W.heap[k]? := fun k e => by
  rcases e with e | e
  · exact hkt k 34 e (by omega) (by omega)
  · exact hkt k 3 e (by omega) (by omega)
 have hz : Fz E.M E.lo W0 A := ⟨hA.os.trans hL.2.1.os, hA.tape.trans hL.2.1.tape, hA.output.trans hL.2.1.output, Nat.le_trans hL.2.1.size hA.size, fun k hk' a b c => (hk k (by omega) (by omega)).trans (hL.2.1.block k hk' a b c), fun k hk' a => (hk k (by omega) (by omega)).trans (hL.2.1.low k hk' a)⟩;exact ⟨h0.again hz (hL.1.rd.keep (hk _ hL.1.rd.lt (by omega))) (hL.1.nc.keep fun k e => hkt k 4 e (by omega) (by omega)) (hL.1.nd.keep h34) hL.1.by' hL.1.le hL.1.lo.2.1, hz, fun u l' o => (hL.2.2 u l' o).keep h34⟩
def NmI (E : En) (nv : Value) (s : PS) (W : World) (n : Nat) (R : Res (List Nat)) (at' : Nat) (m : Nat) (t : Value) (wr : World) : Prop := m ≤ n ∧ ∃ (xs : List (List Int)) (g cap : Nat) (nv' : Value) (s' : PS), t = .slice (some ⟨g, 0, none⟩) xs.length cap ∧ wr.ownsRow W.heap.size 9 1 (.slice (some ⟨g, 0, none⟩) xs.length cap) xs.length (xs.map fun x => .string (strOfNums x)) ∧ W.heap.size ≤ g ∧ Lf E nv s W nv' s' wr ∧ (∀ x ∈ xs, x.length ≤ 1000000000) ∧ xs.length ≤ s'.n ∧ parP E.c m (.refLoop at' xs) s' = R
theorem own_ty9 {W : World} {B g n m cap : Nat} {xs : List Value} (h : W.ownsRow B 9 1 (.slice (some ⟨g, 0, none⟩) m cap) n xs) : tyOf W g = 9 := by
 rcases h.2 with ⟨h0, _⟩ | ⟨g', cap', cur, h0, _, hh, _⟩
 · cases h0
 · cases h0
   simp [tyOf, hh]
theorem join_dots : ∀ (xs : List (List Int)), (⟨(Lib.join ((xs.map strOfNums).map (·.data.toList)) (⟨#[46]⟩ : ByteArray).data.toList).toArray⟩ : ByteArray) = strOfNums (joinDots xs)
 | [] => rfl
 | [x] => by simp [Lib.join_one, joinDots, strOfNums]
 | x :: y :: l => by
   have ih := join_dots (y :: l);have ih' := congrArg (fun b : ByteArray => b.data.toList) ih;simp only [strOfNums, List.toList_toArray] at ih';simp only [List.map_cons, joinDots];unfold Lib.join at ih' ⊢;simp only [List.map_cons] at ih';rw [List.intercalate_cons_cons];simp only [strOfNums, List.map_append, List.map_cons, List.map_nil];simp only [strOfNums_data] at ih';rw [ih'];rfl
theorem dots_len : ∀ (xs : List (List Int)) (B : Nat), (∀ x ∈ xs, x.length ≤ B) → (joinDots xs).length ≤ xs.length * (B + 1)
 | [], _, _ => by simp [joinDots]
 | [x], B, h => by have := h x (List.mem_cons_self ..); simp [joinDots]; omega
 | x :: y :: l, B, h => by
   have h1 := h x (List.mem_cons_self ..);have h2 := dots_len (y :: l) B fun z hz => h z (List.mem_cons_of_mem _ hz)
   simp only [joinDots, List.length_append, List.length_cons, List.length_nil] at h2 ⊢;rw [Nat.succ_mul (l.length + 1)];omega
theorem nm_keep {E : En} {nv nv' : Value} {s s' : PS} {W A : World} {B g m n cap : Nat} {xs : List Value} (h : RAt E nv s W) (hl : Lf E nv s W nv' s' A) (ho : W.ownsRow B 9 1 (.slice (some ⟨g, 0, none⟩) m cap) n xs) : A.ownsRow B 9 1 (.slice (some ⟨g, 0, none⟩) m cap) n xs := by
 have ht := own_ty9 ho;refine row_keep ho fun k e => ?_
 have e' : g = k := by simpa [Value.ownBlock] using e
 subst e';refine hl.2.1.block g (ty_lt ht (by omega)) (fun e' => ?_) (by omega) (by omega);have := h.mty;rw [← e'] at this;omega
theorem nm_fr {W A : World} {o : Obj} {g : Nat} (h : (W.alloc o).grownBy A (some g)) : FrP (fun k => k = g) W A := by
 have hb := (Below.refl W.heap.size W).alloc NL o;exact ⟨h.os.trans hb.os, h.tape.trans hb.tape, h.output.trans hb.output, Nat.le_trans hb.size h.size, fun k hk hn => (h.block k (Nat.lt_of_lt_of_le hk hb.size) fun e => hn (by injection e)).trans (hb.block k hk)⟩
theorem nm_join {W : World} {B g cap : Nat} {xs : List (List Int)} (ho : W.ownsRow B 9 1 (.slice (some ⟨g, 0, none⟩) xs.length cap) xs.length (xs.map fun x => .string (strOfNums x))) (hx : ∀ x ∈ xs, x.length ≤ 1000000000) (hn : xs.length ≤ 100000) :
 Calls Tryz.prog 203 #[.slice (some ⟨g, 0, none⟩) xs.length cap, .string ⟨#[46]⟩] W fun e w' => e = .returned (.string (strOfNums (joinDots xs))) ∧ Below W.heap.size W w' := by
 have hd := dots_len xs 1000000000 hx;have hm : xs.length * (1000000000 + 1) ≤ 100000 * (1000000000 + 1) := Nat.mul_le_mul_right _ hn;have hcells := ho.cells (g := g) rfl;rcases ho.2 with ⟨h0, _⟩ | ⟨g', cap', cur, h0, _, hh, q1, q2, _, _⟩
 · cases h0
 · cases h0
   have := Tryz.strings_Join g 0 cap (xs.map strOfNums) ⟨#[46]⟩ W (fun j x hj => ?_) (Array.getElem?_eq_some_iff.1 hh).1 (by simp; omega) (by simpa using q1) ?_
   · rw [join_dots, List.length_map] at this
     exact this
   · rw [List.getElem?_map] at hj
     cases hy : xs[j]? with
     | none => rw [hy] at hj; cases hj
     | some y =>
       rw [hy] at hj;cases hj;have := hcells j (.string (strOfNums y)) (by simp [hy]);rw [Nat.zero_add];rw [show (⟨g, j, none⟩ : Addr) = (⟨g, 0, none⟩ : Addr).add j by unfold Addr.add; split <;> simp_all];exact this
   · have e := congrArg (fun b : ByteArray => b.data.toList.length) (join_dots xs)
     simp only [List.toList_toArray] at e;rw [e, strOfNums_data, List.length_map];omega
theorem typeRef_step {E : En} (hE : E.Ok) {n : Nat}  (IG : ∀ m, m ≤ n → IHA E m .typeArgs 202 #[.pointer (some ⟨E.M, 0, none⟩)]) : IHA E (n + 1) .typeRef 153 #[.pointer (some ⟨E.M, 0, none⟩)] := by
 intro nv s W h hne;obtain ⟨R, hR⟩ : ∃ R, parP E.c (n + 1) .typeRef s = R := ⟨_, rfl⟩;rw [hR] at hne ⊢;simp only [parP, bodyP] at hR;have HR0 := Hi hR;have H0 := Hi (Lf.refl h);have HE := Hi hE;have HNE := Hi hne;have HIG := Hi IG;clear hR hne h hE IG;obtain ⟨j0, hj, hy0, hy1, hy2⟩ := info_parts infoStr;have HJ := Hi (And.intro hj (And.intro hy0 (And.intro hy1 hy2)));have H00 := Hi (U H0).1;clear hj hy0 hy1 hy2;go_enter Tryz.func153, Tryz.ntmps153;have d1 := (U H0).1.rd.tok.2.2.1;have hl1 := (U H0).1.rd.lt;have hR1 := U HR0;rw [bd_ok (p := atP) rfl] at hR1;replace HR0 := Hi hR1;clear hR1;obtain ⟨t2_2, t3_2, t4_2, t5_2⟩ := (U H0).1.rd.tok;have hl2 := (U H0).1.rd.lt;have HC2 := Hi (mark_any s.tk W);have hbm2 : Bys (mark s.tk) := mark_bys (U H0).1.by'
 have hR2 := U HR0;rw [bd_ok (p := markP) rfl] at hR2;unfold tkV at HC2;obtain ⟨m2, hm2⟩ : ∃ m, mark s.tk = m := ⟨_, rfl⟩;rw [hm2] at HC2 hbm2 hR2;have HM2 := Hi hm2;clear hm2;by_cases e2_0 : m2 = [110, 117, 108, 108]
 · subst e2_0
   simp (config := { decide := true }) only [if_true, if_false] at hR2;have HR2 := Hi hR2;rw [show strOfNums [110, 117, 108, 108] = ⟨#[110, 117, 108, 108]⟩ from rfl] at HC2;clear hR2 hbm2;go_wp2_with (go_at_call 50; refine (U HC2).mono ?_)
   rintro e w2 ⟨rfl, h2⟩
   have H2 := Hi ((U H0).below h2);clear h2;have hp3 := bd_ne (p := nextP E.c) (U HR2) (U HNE);obtain ⟨a3, s3, hq3⟩ : ∃ a s', nextP E.c s = .ok a s' := next_ok hp3;have HC3 := Hi (rq_ok (next_rq (U HE) (U H2).1 hp3) hq3);have HR3 := br hq3 HR2;clear hq3 hp3;unfold tkV at HC3;go_wp2_with (go_at_call 53; refine (U HC3).mono ?_)
   rintro e w3 ⟨rfl, nv3, h3⟩
   have H3 := Hi ((U H2).trans h3);clear h3;have q13 := tf1 a3.1 (strOfNums a3.2.1) (a3.2.2.1 : Int) (a3.2.2.2 : Int) w3;have hp4 := bd_ne (p := listP []) (U HR3) (U HNE);obtain ⟨a4, s4, hq4⟩ : ∃ a s', listP [] s3 = .ok a s' := put_ex hp4;have HC4 := Hi (rq_ok (list_rq (U H3).1 [] none 0 ⟨none, 0, rfl, NL, Nat.zero_le _, .inl rfl⟩ hp4) hq4);have HR4 := br hq4 HR3;clear hq4 hp4;simp only [List.length_nil] at HC4;go_wp2_with (go_at_call 96; refine (U HC4).mono ?_)
   rintro e w4 ⟨rfl, nv4, h4⟩
   have H4 := Hi ((U H3).trans h4);clear h4;have hp5 := bd_ne (p := putP ⟨80, a3.2.1, 0, [a4], s.tk.2.2.1⟩) (U HR4) (U HNE);obtain ⟨a5, s5, hq5⟩ : ∃ a s', putP ⟨80, a3.2.1, 0, [a4], s.tk.2.2.1⟩ s4 = .ok a s' := put_ex hp5;have H5p := Hi ((U H4).below ((Below.refl _ w4).alloc NL (.cells #[.int .i64 ((a4 : Nat) : Int)] 3)));have HC5 := Hi (rq_ok (put_rq (U H5p).1 _ _ _ (kid1 w4 (a4) (U H4).1.zl) hp5) hq5);simp only [e0', List.length_cons, List.length_nil] at HC5;have HR5 := br hq5 HR4;clear hq5 hp5;go_wp2_with (go_at_call 32; refine (U HC5).mono ?_)
   rintro e w5 ⟨rfl, nv5, h5⟩
   have H5 := Hi ((U H5p).trans h5);clear h5;have hR5 : (.ok [a5] s5 : Res (List Nat)) = R := U HR5;subst hR5;go_wp2;go_ret;exact ⟨rfl, nv5, U H5⟩
 by_cases e2_1 : m2 = [117, 110, 100, 101, 102, 105, 110, 101, 100]
 · subst e2_1
   simp (config := { decide := true }) only [if_true, if_false] at hR2;have HR2 := Hi hR2;rw [show strOfNums [117, 110, 100, 101, 102, 105, 110, 101, 100] = ⟨#[117, 110, 100, 101, 102, 105, 110, 101, 100]⟩ from rfl] at HC2;clear hR2 hbm2;go_wp2_with (go_at_call 50; refine (U HC2).mono ?_)
   rintro e w2 ⟨rfl, h2⟩
   have H2 := Hi ((U H0).below h2);clear h2;have hp6 := bd_ne (p := nextP E.c) (U HR2) (U HNE);obtain ⟨a6, s6, hq6⟩ : ∃ a s', nextP E.c s = .ok a s' := next_ok hp6;have HC6 := Hi (rq_ok (next_rq (U HE) (U H2).1 hp6) hq6);have HR6 := br hq6 HR2;clear hq6 hp6;unfold tkV at HC6;go_wp2_with (go_at_call 53; refine (U HC6).mono ?_)
   rintro e w6 ⟨rfl, nv6, h6⟩
   have H6 := Hi ((U H2).trans h6);clear h6;have q16 := tf1 a6.1 (strOfNums a6.2.1) (a6.2.2.1 : Int) (a6.2.2.2 : Int) w6;have hp7 := bd_ne (p := listP []) (U HR6) (U HNE);obtain ⟨a7, s7, hq7⟩ : ∃ a s', listP [] s6 = .ok a s' := put_ex hp7;have HC7 := Hi (rq_ok (list_rq (U H6).1 [] none 0 ⟨none, 0, rfl, NL, Nat.zero_le _, .inl rfl⟩ hp7) hq7);have HR7 := br hq7 HR6;clear hq7 hp7;simp only [List.length_nil] at HC7;go_wp2_with (go_at_call 96; refine (U HC7).mono ?_)
   rintro e w7 ⟨rfl, nv7, h7⟩
   have H7 := Hi ((U H6).trans h7);clear h7;have hp8 := bd_ne (p := putP ⟨80, a6.2.1, 0, [a7], s.tk.2.2.1⟩) (U HR7) (U HNE);obtain ⟨a8, s8, hq8⟩ : ∃ a s', putP ⟨80, a6.2.1, 0, [a7], s.tk.2.2.1⟩ s7 = .ok a s' := put_ex hp8;have H8p := Hi ((U H7).below ((Below.refl _ w7).alloc NL (.cells #[.int .i64 ((a7 : Nat) : Int)] 3)));have HC8 := Hi (rq_ok (put_rq (U H8p).1 _ _ _ (kid1 w7 (a7) (U H7).1.zl) hp8) hq8);simp only [e0', List.length_cons, List.length_nil] at HC8;have HR8 := br hq8 HR7;clear hq8 hp8;go_wp2_with (go_at_call 32; refine (U HC8).mono ?_)
   rintro e w8 ⟨rfl, nv8, h8⟩
   have H8 := Hi ((U H8p).trans h8);clear h8;have hR8 : (.ok [a8] s8 : Res (List Nat)) = R := U HR8;subst hR8;go_wp2;go_ret;exact ⟨rfl, nv8, U H8⟩
 by_cases e2_2 : m2 = [116, 114, 117, 101]
 · subst e2_2
   simp (config := { decide := true }) only [if_true, if_false] at hR2;have HR2 := Hi hR2;rw [show strOfNums [116, 114, 117, 101] = ⟨#[116, 114, 117, 101]⟩ from rfl] at HC2;clear hR2 hbm2;go_wp2_with (go_at_call 50; refine (U HC2).mono ?_)
   rintro e w2 ⟨rfl, h2⟩
   have H2 := Hi ((U H0).below h2);clear h2;have hp9 := bd_ne (p := nextP E.c) (U HR2) (U HNE);obtain ⟨a9, s9, hq9⟩ : ∃ a s', nextP E.c s = .ok a s' := next_ok hp9;have HC9 := Hi (rq_ok (next_rq (U HE) (U H2).1 hp9) hq9);have HR9 := br hq9 HR2;clear hq9 hp9;unfold tkV at HC9;go_wp2_with (go_at_call 53; refine (U HC9).mono ?_)
   rintro e w9 ⟨rfl, nv9, h9⟩
   have H9 := Hi ((U H2).trans h9);clear h9;have q19 := tf1 a9.1 (strOfNums a9.2.1) (a9.2.2.1 : Int) (a9.2.2.2 : Int) w9;have hp10 := bd_ne (p := listP []) (U HR9) (U HNE);obtain ⟨a10, s10, hq10⟩ : ∃ a s', listP [] s9 = .ok a s' := put_ex hp10;have HC10 := Hi (rq_ok (list_rq (U H9).1 [] none 0 ⟨none, 0, rfl, NL, Nat.zero_le _, .inl rfl⟩ hp10) hq10);have HR10 := br hq10 HR9;clear hq10 hp10;simp only [List.length_nil] at HC10;go_wp2_with (go_at_call 96; refine (U HC10).mono ?_)
   rintro e w10 ⟨rfl, nv10, h10⟩
   have H10 := Hi ((U H9).trans h10);clear h10;have hp11 := bd_ne (p := putP ⟨80, a9.2.1, 0, [a10], s.tk.2.2.1⟩) (U HR10) (U HNE);obtain ⟨a11, s11, hq11⟩ : ∃ a s', putP ⟨80, a9.2.1, 0, [a10], s.tk.2.2.1⟩ s10 = .ok a s' := put_ex hp11;have H11p := Hi ((U H10).below ((Below.refl _ w10).alloc NL (.cells #[.int .i64 ((a10 : Nat) : Int)] 3)));have HC11 := Hi (rq_ok (put_rq (U H11p).1 _ _ _ (kid1 w10 (a10) (U H10).1.zl) hp11) hq11);simp only [e0', List.length_cons, List.length_nil] at HC11;have HR11 := br hq11 HR10;clear hq11 hp11;go_wp2_with (go_at_call 32; refine (U HC11).mono ?_)
   rintro e w11 ⟨rfl, nv11, h11⟩
   have H11 := Hi ((U H11p).trans h11);clear h11;have hR11 : (.ok [a11] s11 : Res (List Nat)) = R := U HR11;subst hR11;go_wp2;go_ret;exact ⟨rfl, nv11, U H11⟩
 by_cases e2_3 : m2 = [102, 97, 108, 115, 101]
 · subst e2_3
   simp (config := { decide := true }) only [if_true, if_false] at hR2;have HR2 := Hi hR2;rw [show strOfNums [102, 97, 108, 115, 101] = ⟨#[102, 97, 108, 115, 101]⟩ from rfl] at HC2;clear hR2 hbm2;go_wp2_with (go_at_call 50; refine (U HC2).mono ?_)
   rintro e w2 ⟨rfl, h2⟩
   have H2 := Hi ((U H0).below h2);clear h2;have hp12 := bd_ne (p := nextP E.c) (U HR2) (U HNE);obtain ⟨a12, s12, hq12⟩ : ∃ a s', nextP E.c s = .ok a s' := next_ok hp12;have HC12 := Hi (rq_ok (next_rq (U HE) (U H2).1 hp12) hq12);have HR12 := br hq12 HR2;clear hq12 hp12;unfold tkV at HC12;go_wp2_with (go_at_call 53; refine (U HC12).mono ?_)
   rintro e w12 ⟨rfl, nv12, h12⟩
   have H12 := Hi ((U H2).trans h12);clear h12;have q112 := tf1 a12.1 (strOfNums a12.2.1) (a12.2.2.1 : Int) (a12.2.2.2 : Int) w12;have hp13 := bd_ne (p := listP []) (U HR12) (U HNE);obtain ⟨a13, s13, hq13⟩ : ∃ a s', listP [] s12 = .ok a s' := put_ex hp13;have HC13 := Hi (rq_ok (list_rq (U H12).1 [] none 0 ⟨none, 0, rfl, NL, Nat.zero_le _, .inl rfl⟩ hp13) hq13);have HR13 := br hq13 HR12;clear hq13 hp13;simp only [List.length_nil] at HC13;go_wp2_with (go_at_call 96; refine (U HC13).mono ?_)
   rintro e w13 ⟨rfl, nv13, h13⟩
   have H13 := Hi ((U H12).trans h13);clear h13;have hp14 := bd_ne (p := putP ⟨80, a12.2.1, 0, [a13], s.tk.2.2.1⟩) (U HR13) (U HNE);obtain ⟨a14, s14, hq14⟩ : ∃ a s', putP ⟨80, a12.2.1, 0, [a13], s.tk.2.2.1⟩ s13 = .ok a s' := put_ex hp14;have H14p := Hi ((U H13).below ((Below.refl _ w13).alloc NL (.cells #[.int .i64 ((a13 : Nat) : Int)] 3)));have HC14 := Hi (rq_ok (put_rq (U H14p).1 _ _ _ (kid1 w13 (a13) (U H13).1.zl) hp14) hq14);simp only [e0', List.length_cons, List.length_nil] at HC14;have HR14 := br hq14 HR13;clear hq14 hp14;go_wp2_with (go_at_call 32; refine (U HC14).mono ?_)
   rintro e w14 ⟨rfl, nv14, h14⟩
   have H14 := Hi ((U H14p).trans h14);clear h14;have hR14 : (.ok [a14] s14 : Res (List Nat)) = R := U HR14;subst hR14;go_wp2;go_ret;exact ⟨rfl, nv14, U H14⟩
 have g2_0 := mark_ne hbm2 (l := [110, 117, 108, 108]) (by intro z hz; simp at hz; omega) e2_0;have g2_1 := mark_ne hbm2 (l := [117, 110, 100, 101, 102, 105, 110, 101, 100]) (by intro z hz; simp at hz; omega) e2_1;have g2_2 := mark_ne hbm2 (l := [116, 114, 117, 101]) (by intro z hz; simp at hz; omega) e2_2;have g2_3 := mark_ne hbm2 (l := [102, 97, 108, 115, 101]) (by intro z hz; simp at hz; omega) e2_3;skip
 rw [if_neg (by simp [List.contains_iff_mem, e2_0, e2_1, e2_2, e2_3])] at hR2;obtain ⟨S2, hS2⟩ : ∃ S, strOfNums m2 = S := ⟨_, rfl⟩;rw [hS2] at HC2 g2_0 g2_1 g2_2 g2_3;have HR2 := Hi hR2;clear hR2 hS2 hbm2 e2_0 e2_1 e2_2 e2_3;replace g2_0 : (S2.toList == [110, 117, 108, 108]) = false := g2_0;replace g2_1 : (S2.toList == [117, 110, 100, 101, 102, 105, 110, 101, 100]) = false := g2_1;replace g2_2 : (S2.toList == [116, 114, 117, 101]) = false := g2_2;replace g2_3 : (S2.toList == [102, 97, 108, 115, 101]) = false := g2_3;go_wp2_with (go_at_call 50; refine (U HC2).mono ?_)
 rintro e w2 ⟨rfl, h2⟩
 have H2 := Hi ((U H0).below h2);clear h2;have hp15 := bd_ne (p := nameP E.c) (U HR2) (U HNE);have HC15 := Hi (name_rq (U HE) (U H2).1 hp15);cases hq15 : nameP E.c s with
 | out => exact absurd hq15 hp15
 | no s15 =>
   have hR15 := (bd_no hq15).symm.trans (U HR2);subst hR15;replace HC15 := rn HC15 hq15;clear hq15 hp15;go_wp2_with (go_at_call 103; refine (U HC15).mono ?_)
   rintro e w15 ⟨rfl, nv15, h15⟩
   have H15 := Hi ((U H2).trans h15);clear h15;go_wp2;exact ⟨rfl, rfl, nv15, U H15⟩
 | ok a15 s15 =>
   have HR15 := br hq15 HR2;have hni := nameP_inv hq15;have hnb : a15.length ≤ 1000000000 := by rw [hni.1]; have := (U H2).1.le.2.2.2; omega
   have HNB := Hi (And.intro hnb (show [a15].length ≤ s15.n by rw [hni.2]; simp));replace HC15 := ro HC15 hq15;clear hq15 hp15 hni hnb;go_wp2_with (go_at_call 103; refine (U HC15).mono ?_)
   rintro e w15 ⟨rfl, nv15, h15⟩
   have H15 := Hi ((U H2).trans h15);clear h15;go_wp2;go_loopw [5] (fun t wr => Hid (∃ m, NmI E nv s W n R (s.tk.2.2.1) m t wr)) (fun t wr => leastN fun m => NmI E nv s W n R (s.tk.2.2.1) m t wr)
   case atStart =>
    have hbn : Below w15.heap.size w15 (w15.alloc (.cells #[.string (strOfNums a15)] 9)) := (Below.refl _ w15).alloc NL _;refine ⟨n, NL, [a15], w15.heap.size, 1, nv15, s15, rfl, ⟨rfl, .inr ⟨_, _, _, rfl, (U H15).2.1.size, World.alloc_heap_new w15 _, NL, by simp [maxLen], rfl, rfl⟩⟩, (U H15).2.1.size, (U H15).below hbn, ?_, ?_, U HR15⟩
    · intro x hx
      simp at hx;subst hx;exact (U HNB).1
    · exact (U HNB).2
   case round =>
    obtain ⟨m, hm⟩ := U hrel;obtain ⟨hmn, xs, g, cap, nv2, s2, rfl, ho2, hg2, h2, hx2, hxn2, hR2⟩ := leastN_spec (P := fun m => NmI E nv s W n R (s.tk.2.2.1) m _ wr) hm;obtain ⟨m0, hm0⟩ : ∃ m0, (leastN fun m => NmI E nv s W n R (s.tk.2.2.1) m (.slice (some ⟨g, 0, none⟩) xs.length cap) wr) = m0 := ⟨_, rfl⟩;rw [hm0] at hmn hR2;have HM0 := Hi hm0;clear hm hrel hm0 HR15 H15;cases m0 with
    | zero => exact absurd hR2.symm (U HNE)
    | succ m1 =>
      simp only [parP, bodyP] at hR2;obtain ⟨hlen, hR2⟩ := cap_ok hR2 (U HNE);have hp3 := bd_ne (p := takeP E.c [46]) hR2 (U HNE);have HC3 := Hi (take_rq (U HE) h2.1 (x := ⟨#[46]⟩) ⟨rfl, by intro z hz; simp at hz; omega⟩ hp3);obtain ⟨b3, s3, hq3⟩ := take_ok hp3;replace HC3 := ro HC3 hq3;have HR3 := Hi ((bd_ok hq3).symm.trans hR2);have hn3 := takeP_inv hq3;have H2 := Hi h2;have HO2 := Hi ho2;have HX2 := Hi hx2;have HTB := Hi h2.1.tk;clear h2 hp3 hq3 hR2 ho2 hx2;obtain ⟨len, hln⟩ : ∃ len, xs.length = len := ⟨_, rfl⟩;have HLN := Hi hln;rw [hln] at hlen hxn2 ⊢;clear hln;have HXN := Hi (Nat.le_trans hxn2 hn3);clear hxn2 hn3;go_wp2_with (go_at_call 42; refine (U HC3).mono ?_)
      rintro e w3 ⟨rfl, nv3, h3⟩
      have ho3 := nm_keep (U H2).1 h3 (U HO2);have H3 := Hi ((U H2).trans h3);have HO3 := Hi ho3;clear h3 ho3;cases b3 with
      | true =>
        have hp4 := bd_ne (p := nameP E.c) (U HR3) (U HNE);have HC4 := Hi (name_rq (U HE) (U H3).1 hp4);cases hq4 : nameP E.c s3 with
        | out => exact absurd hq4 hp4
        | no s4 =>
          have hR4 := (bd_no hq4).symm.trans (U HR3);subst hR4;replace HC4 := rn HC4 hq4;clear hq4 hp4;go_wp2_with (go_at_call 103; refine (U HC4).mono ?_)
          rintro e w4 ⟨rfl, nv4, h4⟩
          have H4 := Hi ((U H3).trans h4);clear h4;go_wp2;exact ⟨rfl, rfl, nv4, U H4⟩
        | ok a4 s4 =>
          have HR4 := br hq4 HR3;have hni := nameP_inv hq4;have hb4 : a4.length ≤ 1000000000 := by rw [hni.1]; have := (U H3).1.le.2.2.2; omega
          have HB4 := Hi (And.intro hb4 hni.2);replace HC4 := ro HC4 hq4;clear hq4 hp4 hni hb4;go_wp2_with (go_at_call 103; refine (U HC4).mono ?_)
          rintro e w4 ⟨rfl, nv4, h4⟩
          have ho4 := nm_keep (U H3).1 h4 (U HO3);have H4 := Hi ((U H3).trans h4);rw [U HLN] at ho4;have HO4 := Hi ho4;have hsz4 := (U H4).2.1.size;obtain ⟨hj, hy0, hy1, hy2⟩ := U HJ;obtain ⟨S4, hS4⟩ : ∃ S, strOfNums a4 = S := ⟨_, rfl⟩;have HS4 := Hi hS4;rw [hS4];clear h4 ho4 hS4;go_wp2_with (at_builtin; refine wpList_append_lies _ rfl _ _ 45 rfl W.heap.size 9 j0 _ 1 16 Tryz.underlying45 hj hy0 hy1 hy2 rfl (by decide) _ len (xs.map fun x => .string (strOfNums x)) rfl ((U HO4).alloc _) ⟨w4.heap.size, 0, none⟩ 1 1 [.string S4] rfl rfl ?c1 ?c2 (by decide) ?c3 ?c4 ?c5 _ rfl ?_)
          case c1 => exact World.news_of_block (cs := #[.string S4]) (t := 9) (fr := (0, 0)) (World.alloc_heap_new _ _)
          case c2 => intro u hu; simp at hu; subst hu; rfl
          case c3 => unfold maxLen; omega
          case c4 => omega
          case c5 => simp; omega
          intro g5 cap5 w5 hown5 hgrow5 hat5 hlt5;have hgty : tyOf w4 g = 9 := own_ty9 (U HO4);have hF5 : FrP (fun k => k = g) w4 w5 := nm_fr hgrow5;have h5 : Lf E nv s W nv4 s4 w5 := Lf.grow9 (U H00) (U H4) hg2 (.inr hgty) hF5
          have hg5 : W.heap.size ≤ g5 := by
           rcases hat5 with e | e
           · have e' : g = g5 := by simpa [Value.ownBlock] using e
             omega
           · rw [e]; first | omega | (simp; omega)
          have H5 := Hi h5;have HO5 := Hi hown5;clear h5 hown5 hgrow5 hat5 hgty hF5 hj hy0 hy1 hy2;go_wp2
          have hI : NmI E nv s W n R (s.tk.2.2.1) m1 (.slice (some ⟨g5, 0, none⟩) (len + 1) cap5) w5 := by
           have hll : (xs ++ [a4]).length = len + 1 := by rw [← U HLN]; simp
           refine ⟨by omega, xs ++ [a4], g5, cap5, nv4, s4, by rw [hll], ?_, hg5, U H5, ?_, ?_, U HR4⟩
           · rw [hll]
             have := U HO5;rw [← U HS4] at this;simpa using this
           · intro x hx
             rcases List.mem_append.1 hx with hx | hx
             · exact U HX2 x hx
             · simp at hx
               subst hx;exact (U HB4).1
           · rw [hll]
             have := U HXN;have := (U HB4).2;omega
          exact ⟨⟨_, hI⟩, by rw [← U HLN, U HM0, U HLN]; exact Nat.lt_succ_of_le (leastN_le hI)⟩
      | false =>
        have hp4 := bd_ne (p := parP E.c m1 .typeArgs) (U HR3) (U HNE);have HC4 := Hi (U HIG m1 (by omega) nv3 s3 w3 (U H3).1 hp4);cases hq4 : parP E.c m1 .typeArgs s3 with
        | out => exact absurd hq4 hp4
        | no s4 =>
          have hR4 := (bd_no hq4).symm.trans (U HR3);subst hR4;replace HC4 := rn HC4 hq4;clear hq4 hp4;go_wp2_with (go_at_call 202; refine (U HC4).mono ?_)
          rintro e w4 ⟨rfl, nv4, h4⟩
          have H4 := Hi ((U H3).trans h4);clear h4;go_wp2;exact ⟨rfl, rfl, nv4, U H4⟩
        | ok a4 s4 =>
          have HR4 := br hq4 HR3;replace HC4 := ro HC4 hq4;clear hq4 hp4;go_wp2_with (go_at_call 202; refine (U HC4).mono ?_)
          rintro e w4 ⟨rfl, nv4, h4⟩
          have ho4 := nm_keep (U H3).1 h4 (U HO3);have H4 := Hi ((U H3).trans h4);have hn1 := (U H3).1.le.1;obtain ⟨_, _, _, _, _, _, hnT, _⟩ := U HTB;have hJ := nm_join ho4 (U HX2) (by have := U HXN; have := U HLN; omega);rw [U HLN] at hJ;have HJN := Hi hJ;clear h4 ho4 hJ;go_wp2_with (go_at_call 203; refine (U HJN).mono ?_)
          rintro e w5 ⟨rfl, h5⟩
          have H5 := Hi ((U H4).below h5);clear h5;have H20 := Hi (U H5);have HR20 := Hi (U HR4);have hp21 := bd_ne (p := putP ⟨80, (joinDots xs), 0, [hd0 a4], s.tk.2.2.1⟩) (U HR20) (U HNE);obtain ⟨a21, s21, hq21⟩ : ∃ a s', putP ⟨80, (joinDots xs), 0, [hd0 a4], s.tk.2.2.1⟩ s4 = .ok a s' := put_ex hp21;have H21p := Hi ((U H20).below ((Below.refl _ w5).alloc NL (.cells #[.int .i64 ((hd0 a4 : Nat) : Int)] 3)));have HC21 := Hi (rq_ok (put_rq (U H21p).1 _ _ _ (kid1 w5 (hd0 a4) (U H20).1.zl) hp21) hq21);simp only [e0', List.length_cons, List.length_nil] at HC21;have HR21 := br hq21 HR20;clear hq21 hp21;go_wp2_with (go_at_call 32; refine (U HC21).mono ?_)
          rintro e w21 ⟨rfl, nv21, h21⟩
          have H21 := Hi ((U H21p).trans h21);clear h21;have hR21 : (.ok [a21] s21 : Res (List Nat)) = R := U HR21;subst hR21;go_wp2;go_ret;exact ⟨rfl, nv21, U H21⟩
structure AllI (E : En) (n : Nat) : Prop where
 cond : IHA E n .cond 48 #[.pointer (some ⟨E.M, 0, none⟩)]
 arrayType : IHA E n .arrayType 43 #[.pointer (some ⟨E.M, 0, none⟩)]
 evaluated : ∀ (k : Int) (at' : Nat), IHA E n (.evaluated k at') 70 #[.pointer (some ⟨E.M, 0, none⟩), .int .i64 k, .int .i64 (at' : Int)]
 inParens : IHA E n .inParens 107 #[.pointer (some ⟨E.M, 0, none⟩)]
 while_ : IHA E n .while' 66 #[.pointer (some ⟨E.M, 0, none⟩)]
 typeParam : IHA E n .typeParam 156 #[.pointer (some ⟨E.M, 0, none⟩)]
 caught : IHA E n .caught 112 #[.pointer (some ⟨E.M, 0, none⟩)]
 pair : IHA E n .pair 248 #[.pointer (some ⟨E.M, 0, none⟩)]
 otherwise : IHA E n .otherwise 108 #[.pointer (some ⟨E.M, 0, none⟩)]
 body : IHA E n .body 100 #[.pointer (some ⟨E.M, 0, none⟩)]
 unary : IHA E n .unary 159 #[.pointer (some ⟨E.M, 0, none⟩)]
 maybeType : IHA E n (.maybe [58] .anyType) 104 #[.pointer (some ⟨E.M, 0, none⟩), .string ⟨#[58]⟩, .func (.func 22) #[.pointer (some ⟨E.M, 0, none⟩)] #[]]
 maybeExpr : IHA E n (.maybe [61] .expr) 104 #[.pointer (some ⟨E.M, 0, none⟩), .string ⟨#[61]⟩, .func (.func 24) #[.pointer (some ⟨E.M, 0, none⟩)] #[]]
 maybeElse : IHA E n (.maybe [101, 108, 115, 101] .otherwise) 104 #[.pointer (some ⟨E.M, 0, none⟩), .string ⟨#[101, 108, 115, 101]⟩, .func (.func 108) #[.pointer (some ⟨E.M, 0, none⟩)] #[]]
 maybeLast : IHA E n (.maybe [102, 105, 110, 97, 108, 108, 121] .block) 104 #[.pointer (some ⟨E.M, 0, none⟩), .string ⟨#[102, 105, 110, 97, 108, 108, 121]⟩, .func (.func 60) #[.pointer (some ⟨E.M, 0, none⟩)] #[]]
 until1 : IHA E n (.until [59] .expr) 68 #[.pointer (some ⟨E.M, 0, none⟩), .string ⟨#[59]⟩, .func (.func 24) #[.pointer (some ⟨E.M, 0, none⟩)] #[]]
 until2 : IHA E n (.until [41] .expr) 68 #[.pointer (some ⟨E.M, 0, none⟩), .string ⟨#[41]⟩, .func (.func 24) #[.pointer (some ⟨E.M, 0, none⟩)] #[]]
 sevTypeParam : IHL E n (.several .typeParam) 155 #[.pointer (some ⟨E.M, 0, none⟩), .func (.func 156) #[.pointer (some ⟨E.M, 0, none⟩)] #[]]
 sevType : IHL E n (.several .anyType) 155 #[.pointer (some ⟨E.M, 0, none⟩), .func (.func 22) #[.pointer (some ⟨E.M, 0, none⟩)] #[]]
 sevRef : IHL E n (.several .typeRef) 155 #[.pointer (some ⟨E.M, 0, none⟩), .func (.func 153) #[.pointer (some ⟨E.M, 0, none⟩)] #[]]
 sevExpr : IHL E n (.several .expr) 155 #[.pointer (some ⟨E.M, 0, none⟩), .func (.func 24) #[.pointer (some ⟨E.M, 0, none⟩)] #[]]
 sevParam : IHL E n (.several .param) 155 #[.pointer (some ⟨E.M, 0, none⟩), .func (.func 97) #[.pointer (some ⟨E.M, 0, none⟩)] #[]]
 sevMember : IHL E n (.several .memberParam) 155 #[.pointer (some ⟨E.M, 0, none⟩), .func (.func 207) #[.pointer (some ⟨E.M, 0, none⟩)] #[]]
 encArgs : IHL E n (.enclosed [40] [41] .expr) 158 #[.pointer (some ⟨E.M, 0, none⟩), .string ⟨#[40]⟩, .string ⟨#[41]⟩, .func (.func 24) #[.pointer (some ⟨E.M, 0, none⟩)] #[]]
 encArray : IHL E n (.enclosed [91] [93] .expr) 158 #[.pointer (some ⟨E.M, 0, none⟩), .string ⟨#[91]⟩, .string ⟨#[93]⟩, .func (.func 24) #[.pointer (some ⟨E.M, 0, none⟩)] #[]]
 encParam : IHL E n (.enclosed [40] [41] .param) 158 #[.pointer (some ⟨E.M, 0, none⟩), .string ⟨#[40]⟩, .string ⟨#[41]⟩, .func (.func 97) #[.pointer (some ⟨E.M, 0, none⟩)] #[]]
 encMember : IHL E n (.enclosed [40] [41] .memberParam) 158 #[.pointer (some ⟨E.M, 0, none⟩), .string ⟨#[40]⟩, .string ⟨#[41]⟩, .func (.func 207) #[.pointer (some ⟨E.M, 0, none⟩)] #[]]
 args : IHA E n .args 228 #[.pointer (some ⟨E.M, 0, none⟩)]
 params : IHA E n (.params .param) 99 #[.pointer (some ⟨E.M, 0, none⟩), .func (.func 97) #[.pointer (some ⟨E.M, 0, none⟩)] #[]]
 members : IHA E n (.params .memberParam) 99 #[.pointer (some ⟨E.M, 0, none⟩), .func (.func 207) #[.pointer (some ⟨E.M, 0, none⟩)] #[]]
 block : IHA E n .block 60 #[.pointer (some ⟨E.M, 0, none⟩)]
 variable_ : ∀ num : Int, IHA E n (.variable num) 61 #[.pointer (some ⟨E.M, 0, none⟩), .int .i64 num]
 choice : IHA E n .choice 65 #[.pointer (some ⟨E.M, 0, none⟩)]
 callable : ∀ (k : Int) (at' : Nat), IHA E n (.callable k at') 113 #[.pointer (some ⟨E.M, 0, none⟩), .int .i64 k, .int .i64 (at' : Int)]
 func1 : IHA E n (.funcType [61, 62]) 150 #[.pointer (some ⟨E.M, 0, none⟩), .string ⟨#[61, 62]⟩]
 func2 : IHA E n (.funcType [58]) 150 #[.pointer (some ⟨E.M, 0, none⟩), .string ⟨#[58]⟩]
 field : IHA E n .field 208 #[.pointer (some ⟨E.M, 0, none⟩)]
 alias_ : IHA E n .alias 117 #[.pointer (some ⟨E.M, 0, none⟩)]
 enumMember : IHA E n .enumMember 106 #[.pointer (some ⟨E.M, 0, none⟩)]
 base : IHA E n .base 162 #[.pointer (some ⟨E.M, 0, none⟩)]
 super : IHA E n .super 250 #[.pointer (some ⟨E.M, 0, none⟩)]
 spacePart : IHA E n .spacePart 166 #[.pointer (some ⟨E.M, 0, none⟩)]
 namespace_ : IHA E n .namespace' 115 #[.pointer (some ⟨E.M, 0, none⟩)]
 forOf : ∀ at' : Nat, IHA E n (.forOf at') 110 #[.pointer (some ⟨E.M, 0, none⟩), .int .i64 (at' : Int)]
 filStmt : IHL E n (.filled .stmt) 102 #[.pointer (some ⟨E.M, 0, none⟩), .func (.func 31) #[.pointer (some ⟨E.M, 0, none⟩)] #[]]
 filClass : IHL E n (.filled .classPart) 102 #[.pointer (some ⟨E.M, 0, none⟩), .func (.func 164) #[.pointer (some ⟨E.M, 0, none⟩)] #[]]
 filSpace : IHL E n (.filled .spacePart) 102 #[.pointer (some ⟨E.M, 0, none⟩), .func (.func 166) #[.pointer (some ⟨E.M, 0, none⟩)] #[]]
 bare : ∀ k : Int, IHA E n (.bare k) 69 #[.pointer (some ⟨E.M, 0, none⟩), .int .i64 k]
 program : IHA E n .program 17 #[.pointer (some ⟨E.M, 0, none⟩)]
 declaration : IHA E n .declaration 73 #[.pointer (some ⟨E.M, 0, none⟩)]
 stmt : IHA E n .stmt 31 #[.pointer (some ⟨E.M, 0, none⟩)]
 piece : IHA E n .piece 200 #[.pointer (some ⟨E.M, 0, none⟩)]
 refs1 : IHA E n (.refs [101, 120, 116, 101, 110, 100, 115]) 163 #[.pointer (some ⟨E.M, 0, none⟩), .string ⟨#[101, 120, 116, 101, 110, 100, 115]⟩]
 refs2 : IHA E n (.refs [105, 109, 112, 108, 101, 109, 101, 110, 116, 115]) 163 #[.pointer (some ⟨E.M, 0, none⟩), .string ⟨#[105, 109, 112, 108, 101, 109, 101, 110, 116, 115]⟩]
 face : IHA E n .face 116 #[.pointer (some ⟨E.M, 0, none⟩)]
 marked0 : ∀ at' : Nat, IHA E n (.marked at' 0) 154 #[.pointer (some ⟨E.M, 0, none⟩), .int .i64 (at' : Int), .int .i64 0]
 marked2 : ∀ at' : Nat, IHA E n (.marked at' 2) 154 #[.pointer (some ⟨E.M, 0, none⟩), .int .i64 (at' : Int), .int .i64 2]
 marked4 : ∀ at' : Nat, IHA E n (.marked at' 4) 154 #[.pointer (some ⟨E.M, 0, none⟩), .int .i64 (at' : Int), .int .i64 4]
 marked6 : ∀ at' : Nat, IHA E n (.marked at' 6) 154 #[.pointer (some ⟨E.M, 0, none⟩), .int .i64 (at' : Int), .int .i64 6]
 param : IHA E n .param 97 #[.pointer (some ⟨E.M, 0, none⟩)]
 memberParam : IHA E n .memberParam 207 #[.pointer (some ⟨E.M, 0, none⟩)]
 objectType : IHA E n .objectType 151 #[.pointer (some ⟨E.M, 0, none⟩)]
 enum : IHA E n .enum 64 #[.pointer (some ⟨E.M, 0, none⟩)]
 exported : IHA E n .exported 209 #[.pointer (some ⟨E.M, 0, none⟩)]
 try_ : IHA E n .try' 71 #[.pointer (some ⟨E.M, 0, none⟩)]
 loop : IHA E n .loop 67 #[.pointer (some ⟨E.M, 0, none⟩)]
 arrow : IHA E n .arrow 47 #[.pointer (some ⟨E.M, 0, none⟩)]
 typeParams : IHA E n .typeParams 98 #[.pointer (some ⟨E.M, 0, none⟩)]
 typeArgs : IHA E n .typeArgs 202 #[.pointer (some ⟨E.M, 0, none⟩)]
 postfix_ : IHA E n .postfix 205 #[.pointer (some ⟨E.M, 0, none⟩)]
 newThing : IHA E n .newThing 249 #[.pointer (some ⟨E.M, 0, none⟩)]
 expr : IHA E n .expr 24 #[.pointer (some ⟨E.M, 0, none⟩)]
 primary : IHA E n .primary 226 #[.pointer (some ⟨E.M, 0, none⟩)]
 plainType : IHA E n .plainType 93 #[.pointer (some ⟨E.M, 0, none⟩)]
 anyType : IHA E n .anyType 22 #[.pointer (some ⟨E.M, 0, none⟩)]
 template : IHA E n .template 247 #[.pointer (some ⟨E.M, 0, none⟩)]
 typeRef : IHA E n .typeRef 153 #[.pointer (some ⟨E.M, 0, none⟩)]
 classPart : IHA E n .classPart 164 #[.pointer (some ⟨E.M, 0, none⟩)]
 cls : IHA E n .cls 114 #[.pointer (some ⟨E.M, 0, none⟩)]
 binary : ∀ l : Nat, l ≤ 10 → IHA E n (.binary l) 101 #[.pointer (some ⟨E.M, 0, none⟩), .int .i64 (l : Int)]
 callTypes : IHC E n
 braPiece : IHB E n .piece 200 [[59], [44]] #[.string ⟨#[59]⟩, .string ⟨#[44]⟩]
 braEnum : IHB E n .enumMember 106 [[44]] #[.string ⟨#[44]⟩]
 braPair : IHB E n .pair 248 [[44]] #[.string ⟨#[44]⟩]
theorem all_zero (E : En) : AllI E 0 where
 cond := fun nv s W h hne => absurd rfl hne
 arrayType := fun nv s W h hne => absurd rfl hne
 evaluated := fun _ _ nv s W h hne => absurd rfl hne
 inParens := fun nv s W h hne => absurd rfl hne
 while_ := fun nv s W h hne => absurd rfl hne
 typeParam := fun nv s W h hne => absurd rfl hne
 caught := fun nv s W h hne => absurd rfl hne
 pair := fun nv s W h hne => absurd rfl hne
 otherwise := fun nv s W h hne => absurd rfl hne
 body := fun nv s W h hne => absurd rfl hne
 unary := fun nv s W h hne => absurd rfl hne
 maybeType := fun nv s W h hne => absurd rfl hne
 maybeExpr := fun nv s W h hne => absurd rfl hne
 maybeElse := fun nv s W h hne => absurd rfl hne
 maybeLast := fun nv s W h hne => absurd rfl hne
 until1 := fun nv s W h hne => absurd rfl hne
 until2 := fun nv s W h hne => absurd rfl hne
 sevTypeParam := fun nv s W h hne => absurd rfl hne
 sevType := fun nv s W h hne => absurd rfl hne
 sevRef := fun nv s W h hne => absurd rfl hne
 sevExpr := fun nv s W h hne => absurd rfl hne
 sevParam := fun nv s W h hne => absurd rfl hne
 sevMember := fun nv s W h hne => absurd rfl hne
 encArgs := fun nv s W h hne => absurd rfl hne
 encArray := fun nv s W h hne => absurd rfl hne
 encParam := fun nv s W h hne => absurd rfl hne
 encMember := fun nv s W h hne => absurd rfl hne
 args := fun nv s W h hne => absurd rfl hne
 params := fun nv s W h hne => absurd rfl hne
 members := fun nv s W h hne => absurd rfl hne
 block := fun nv s W h hne => absurd rfl hne
 variable_ := fun _ nv s W h hne => absurd rfl hne
 choice := fun nv s W h hne => absurd rfl hne
 callable := fun _ _ nv s W h hne => absurd rfl hne
 func1 := fun nv s W h hne => absurd rfl hne
 func2 := fun nv s W h hne => absurd rfl hne
 field := fun nv s W h hne => absurd rfl hne
 alias_ := fun nv s W h hne => absurd rfl hne
 enumMember := fun nv s W h hne => absurd rfl hne
 base := fun nv s W h hne => absurd rfl hne
 super := fun nv s W h hne => absurd rfl hne
 spacePart := fun nv s W h hne => absurd rfl hne
 namespace_ := fun nv s W h hne => absurd rfl hne
 forOf := fun _ nv s W h hne => absurd rfl hne
 filStmt := fun nv s W h hne => absurd rfl hne
 filClass := fun nv s W h hne => absurd rfl hne
 filSpace := fun nv s W h hne => absurd rfl hne
 bare := fun _ nv s W h hne => absurd rfl hne
 program := fun nv s W h hne => absurd rfl hne
 declaration := fun nv s W h hne => absurd rfl hne
 stmt := fun nv s W h hne => absurd rfl hne
 piece := fun nv s W h hne => absurd rfl hne
 refs1 := fun nv s W h hne => absurd rfl hne
 refs2 := fun nv s W h hne => absurd rfl hne
 face := fun nv s W h hne => absurd rfl hne
 marked0 := fun _ nv s W h hne => absurd rfl hne
 marked2 := fun _ nv s W h hne => absurd rfl hne
 marked4 := fun _ nv s W h hne => absurd rfl hne
 marked6 := fun _ nv s W h hne => absurd rfl hne
 param := fun nv s W h hne => absurd rfl hne
 memberParam := fun nv s W h hne => absurd rfl hne
 objectType := fun nv s W h hne => absurd rfl hne
 enum := fun nv s W h hne => absurd rfl hne
 exported := fun nv s W h hne => absurd rfl hne
 try_ := fun nv s W h hne => absurd rfl hne
 loop := fun nv s W h hne => absurd rfl hne
 arrow := fun nv s W h hne => absurd rfl hne
 typeParams := fun nv s W h hne => absurd rfl hne
 typeArgs := fun nv s W h hne => absurd rfl hne
 postfix_ := fun nv s W h hne => absurd rfl hne
 newThing := fun nv s W h hne => absurd rfl hne
 expr := fun nv s W h hne => absurd rfl hne
 primary := fun nv s W h hne => absurd rfl hne
 plainType := fun nv s W h hne => absurd rfl hne
 anyType := fun nv s W h hne => absurd rfl hne
 template := fun nv s W h hne => absurd rfl hne
 typeRef := fun nv s W h hne => absurd rfl hne
 classPart := fun nv s W h hne => absurd rfl hne
 cls := fun nv s W h hne => absurd rfl hne
 binary := fun _ _ nv s W h hne => absurd rfl hne
 callTypes := fun nv s W h hne => absurd rfl hne
 braPiece := fun nv s W b h hb hne => absurd rfl hne
 braEnum := fun nv s W b h hb hne => absurd rfl hne
 braPair := fun nv s W b h hb hne => absurd rfl hne
theorem al_cond {E : En} (hE : E.Ok) {n : Nat} (H : ∀ m, m ≤ n → ∀ Z, AllI { E with Z := Z } m) (Z : Nat → Prop) : IHA { E with Z := Z } (n + 1) .cond 48 #[.pointer (some ⟨E.M, 0, none⟩)] :=
 have OK := hE.z Z;have N := H n NL Z;fun nv s W h hne => cond_step OK (N.binary 0 (by omega)) N.expr nv s W h hne
theorem al_arrayType {E : En} (hE : E.Ok) {n : Nat} (H : ∀ m, m ≤ n → ∀ Z, AllI { E with Z := Z } m) (Z : Nat → Prop) : IHA { E with Z := Z } (n + 1) .arrayType 43 #[.pointer (some ⟨E.M, 0, none⟩)] :=
 have OK := hE.z Z;have N := H n NL Z;fun nv s W h hne => arrayType_step OK N.plainType nv s W h hne
theorem al_evaluated {E : En} (hE : E.Ok) {n : Nat} (H : ∀ m, m ≤ n → ∀ Z, AllI { E with Z := Z } m) (Z : Nat → Prop) : ∀ (k : Int) (at' : Nat), IHA { E with Z := Z } (n + 1) (.evaluated k at') 70 #[.pointer (some ⟨E.M, 0, none⟩), .int .i64 k, .int .i64 (at' : Int)] :=
 have OK := hE.z Z;have N := H n NL Z;fun k at' => evaluated_step OK k at' N.expr
theorem al_inParens {E : En} (hE : E.Ok) {n : Nat} (H : ∀ m, m ≤ n → ∀ Z, AllI { E with Z := Z } m) (Z : Nat → Prop) : IHA { E with Z := Z } (n + 1) .inParens 107 #[.pointer (some ⟨E.M, 0, none⟩)] :=
 fun nv s W h hne => absurd rfl hne
theorem al_while_ {E : En} (hE : E.Ok) {n : Nat} (H : ∀ m, m ≤ n → ∀ Z, AllI { E with Z := Z } m) (Z : Nat → Prop) : IHA { E with Z := Z } (n + 1) .while' 66 #[.pointer (some ⟨E.M, 0, none⟩)] :=
 fun nv s W h hne => absurd rfl hne
theorem al_typeParam {E : En} (hE : E.Ok) {n : Nat} (H : ∀ m, m ≤ n → ∀ Z, AllI { E with Z := Z } m) (Z : Nat → Prop) : IHA { E with Z := Z } (n + 1) .typeParam 156 #[.pointer (some ⟨E.M, 0, none⟩)] :=
 fun nv s W h hne => absurd rfl hne
theorem al_caught {E : En} (hE : E.Ok) {n : Nat} (H : ∀ m, m ≤ n → ∀ Z, AllI { E with Z := Z } m) (Z : Nat → Prop) : IHA { E with Z := Z } (n + 1) .caught 112 #[.pointer (some ⟨E.M, 0, none⟩)] :=
 fun nv s W h hne => absurd rfl hne
theorem al_pair {E : En} (hE : E.Ok) {n : Nat} (H : ∀ m, m ≤ n → ∀ Z, AllI { E with Z := Z } m) (Z : Nat → Prop) : IHA { E with Z := Z } (n + 1) .pair 248 #[.pointer (some ⟨E.M, 0, none⟩)] :=
 fun nv s W h hne => absurd rfl hne
theorem al_otherwise {E : En} (hE : E.Ok) {n : Nat} (H : ∀ m, m ≤ n → ∀ Z, AllI { E with Z := Z } m) (Z : Nat → Prop) : IHA { E with Z := Z } (n + 1) .otherwise 108 #[.pointer (some ⟨E.M, 0, none⟩)] :=
 fun nv s W h hne => absurd rfl hne
theorem al_body {E : En} (hE : E.Ok) {n : Nat} (H : ∀ m, m ≤ n → ∀ Z, AllI { E with Z := Z } m) (Z : Nat → Prop) : IHA { E with Z := Z } (n + 1) .body 100 #[.pointer (some ⟨E.M, 0, none⟩)] :=
 fun nv s W h hne => absurd rfl hne
theorem al_unary {E : En} (hE : E.Ok) {n : Nat} (H : ∀ m, m ≤ n → ∀ Z, AllI { E with Z := Z } m) (Z : Nat → Prop) : IHA { E with Z := Z } (n + 1) .unary 159 #[.pointer (some ⟨E.M, 0, none⟩)] :=
 have OK := hE.z Z;have N := H n NL Z;unary_step OK N.unary N.postfix_
theorem al_maybeType {E : En} (hE : E.Ok) {n : Nat} (H : ∀ m, m ≤ n → ∀ Z, AllI { E with Z := Z } m) (Z : Nat → Prop) : IHA { E with Z := Z } (n + 1) (.maybe [58] .anyType) 104 #[.pointer (some ⟨E.M, 0, none⟩), .string ⟨#[58]⟩, .func (.func 22) #[.pointer (some ⟨E.M, 0, none⟩)] #[]] :=
 fun nv s W h hne => absurd rfl hne
theorem al_maybeExpr {E : En} (hE : E.Ok) {n : Nat} (H : ∀ m, m ≤ n → ∀ Z, AllI { E with Z := Z } m) (Z : Nat → Prop) : IHA { E with Z := Z } (n + 1) (.maybe [61] .expr) 104 #[.pointer (some ⟨E.M, 0, none⟩), .string ⟨#[61]⟩, .func (.func 24) #[.pointer (some ⟨E.M, 0, none⟩)] #[]] :=
 fun nv s W h hne => absurd rfl hne
theorem al_maybeElse {E : En} (hE : E.Ok) {n : Nat} (H : ∀ m, m ≤ n → ∀ Z, AllI { E with Z := Z } m) (Z : Nat → Prop) : IHA { E with Z := Z } (n + 1) (.maybe [101, 108, 115, 101] .otherwise) 104 #[.pointer (some ⟨E.M, 0, none⟩), .string ⟨#[101, 108, 115, 101]⟩, .func (.func 108) #[.pointer (some ⟨E.M, 0, none⟩)] #[]] :=
 fun nv s W h hne => absurd rfl hne
theorem al_maybeLast {E : En} (hE : E.Ok) {n : Nat} (H : ∀ m, m ≤ n → ∀ Z, AllI { E with Z := Z } m) (Z : Nat → Prop) : IHA { E with Z := Z } (n + 1) (.maybe [102, 105, 110, 97, 108, 108, 121] .block) 104 #[.pointer (some ⟨E.M, 0, none⟩), .string ⟨#[102, 105, 110, 97, 108, 108, 121]⟩, .func (.func 60) #[.pointer (some ⟨E.M, 0, none⟩)] #[]] :=
 fun nv s W h hne => absurd rfl hne
theorem al_until1 {E : En} (hE : E.Ok) {n : Nat} (H : ∀ m, m ≤ n → ∀ Z, AllI { E with Z := Z } m) (Z : Nat → Prop) : IHA { E with Z := Z } (n + 1) (.until [59] .expr) 68 #[.pointer (some ⟨E.M, 0, none⟩), .string ⟨#[59]⟩, .func (.func 24) #[.pointer (some ⟨E.M, 0, none⟩)] #[]] :=
 fun nv s W h hne => absurd rfl hne
theorem al_until2 {E : En} (hE : E.Ok) {n : Nat} (H : ∀ m, m ≤ n → ∀ Z, AllI { E with Z := Z } m) (Z : Nat → Prop) : IHA { E with Z := Z } (n + 1) (.until [41] .expr) 68 #[.pointer (some ⟨E.M, 0, none⟩), .string ⟨#[41]⟩, .func (.func 24) #[.pointer (some ⟨E.M, 0, none⟩)] #[]] :=
 fun nv s W h hne => absurd rfl hne
theorem al_sevTypeParam {E : En} (hE : E.Ok) {n : Nat} (H : ∀ m, m ≤ n → ∀ Z, AllI { E with Z := Z } m) (Z : Nat → Prop) : IHL { E with Z := Z } (n + 1) (.several .typeParam) 155 #[.pointer (some ⟨E.M, 0, none⟩), .func (.func 156) #[.pointer (some ⟨E.M, 0, none⟩)] #[]] :=
 have OK := hE.z Z;have N := H n NL Z;several_step OK (fun m hm Z' => (H m hm Z').typeParam) (fun args w => by kernel_rfl)
theorem al_sevType {E : En} (hE : E.Ok) {n : Nat} (H : ∀ m, m ≤ n → ∀ Z, AllI { E with Z := Z } m) (Z : Nat → Prop) : IHL { E with Z := Z } (n + 1) (.several .anyType) 155 #[.pointer (some ⟨E.M, 0, none⟩), .func (.func 22) #[.pointer (some ⟨E.M, 0, none⟩)] #[]] :=
 have OK := hE.z Z;have N := H n NL Z;several_step OK (fun m hm Z' => (H m hm Z').anyType) (fun args w => by kernel_rfl)
theorem al_sevRef {E : En} (hE : E.Ok) {n : Nat} (H : ∀ m, m ≤ n → ∀ Z, AllI { E with Z := Z } m) (Z : Nat → Prop) : IHL { E with Z := Z } (n + 1) (.several .typeRef) 155 #[.pointer (some ⟨E.M, 0, none⟩), .func (.func 153) #[.pointer (some ⟨E.M, 0, none⟩)] #[]] :=
 have OK := hE.z Z;have N := H n NL Z;several_step OK (fun m hm Z' => (H m hm Z').typeRef) (fun args w => by kernel_rfl)
theorem al_sevExpr {E : En} (hE : E.Ok) {n : Nat} (H : ∀ m, m ≤ n → ∀ Z, AllI { E with Z := Z } m) (Z : Nat → Prop) : IHL { E with Z := Z } (n + 1) (.several .expr) 155 #[.pointer (some ⟨E.M, 0, none⟩), .func (.func 24) #[.pointer (some ⟨E.M, 0, none⟩)] #[]] :=
 have OK := hE.z Z;have N := H n NL Z;several_step OK (fun m hm Z' => (H m hm Z').expr) (fun args w => by kernel_rfl)
theorem al_sevParam {E : En} (hE : E.Ok) {n : Nat} (H : ∀ m, m ≤ n → ∀ Z, AllI { E with Z := Z } m) (Z : Nat → Prop) : IHL { E with Z := Z } (n + 1) (.several .param) 155 #[.pointer (some ⟨E.M, 0, none⟩), .func (.func 97) #[.pointer (some ⟨E.M, 0, none⟩)] #[]] :=
 have OK := hE.z Z;have N := H n NL Z;several_step OK (fun m hm Z' => (H m hm Z').param) (fun args w => by kernel_rfl)
theorem al_sevMember {E : En} (hE : E.Ok) {n : Nat} (H : ∀ m, m ≤ n → ∀ Z, AllI { E with Z := Z } m) (Z : Nat → Prop) : IHL { E with Z := Z } (n + 1) (.several .memberParam) 155 #[.pointer (some ⟨E.M, 0, none⟩), .func (.func 207) #[.pointer (some ⟨E.M, 0, none⟩)] #[]] :=
 have OK := hE.z Z;have N := H n NL Z;several_step OK (fun m hm Z' => (H m hm Z').memberParam) (fun args w => by kernel_rfl)
theorem al_encArgs {E : En} (hE : E.Ok) {n : Nat} (H : ∀ m, m ≤ n → ∀ Z, AllI { E with Z := Z } m) (Z : Nat → Prop) : IHL { E with Z := Z } (n + 1) (.enclosed [40] [41] .expr) 158 #[.pointer (some ⟨E.M, 0, none⟩), .string ⟨#[40]⟩, .string ⟨#[41]⟩, .func (.func 24) #[.pointer (some ⟨E.M, 0, none⟩)] #[]] :=
 have OK := hE.z Z;have N := H n NL Z;enclosed_step OK N.sevExpr ⟨rfl, by intro z hz; simp at hz; omega⟩ ⟨rfl, by intro z hz; simp at hz; omega⟩
theorem al_encArray {E : En} (hE : E.Ok) {n : Nat} (H : ∀ m, m ≤ n → ∀ Z, AllI { E with Z := Z } m) (Z : Nat → Prop) : IHL { E with Z := Z } (n + 1) (.enclosed [91] [93] .expr) 158 #[.pointer (some ⟨E.M, 0, none⟩), .string ⟨#[91]⟩, .string ⟨#[93]⟩, .func (.func 24) #[.pointer (some ⟨E.M, 0, none⟩)] #[]] :=
 have OK := hE.z Z;have N := H n NL Z;enclosed_step OK N.sevExpr ⟨rfl, by intro z hz; simp at hz; omega⟩ ⟨rfl, by intro z hz; simp at hz; omega⟩
theorem al_encParam {E : En} (hE : E.Ok) {n : Nat} (H : ∀ m, m ≤ n → ∀ Z, AllI { E with Z := Z } m) (Z : Nat → Prop) : IHL { E with Z := Z } (n + 1) (.enclosed [40] [41] .param) 158 #[.pointer (some ⟨E.M, 0, none⟩), .string ⟨#[40]⟩, .string ⟨#[41]⟩, .func (.func 97) #[.pointer (some ⟨E.M, 0, none⟩)] #[]] :=
 have OK := hE.z Z;have N := H n NL Z;enclosed_step OK N.sevParam ⟨rfl, by intro z hz; simp at hz; omega⟩ ⟨rfl, by intro z hz; simp at hz; omega⟩
theorem al_encMember {E : En} (hE : E.Ok) {n : Nat} (H : ∀ m, m ≤ n → ∀ Z, AllI { E with Z := Z } m) (Z : Nat → Prop) : IHL { E with Z := Z } (n + 1) (.enclosed [40] [41] .memberParam) 158 #[.pointer (some ⟨E.M, 0, none⟩), .string ⟨#[40]⟩, .string ⟨#[41]⟩, .func (.func 207) #[.pointer (some ⟨E.M, 0, none⟩)] #[]] :=
 have OK := hE.z Z;have N := H n NL Z;enclosed_step OK N.sevMember ⟨rfl, by intro z hz; simp at hz; omega⟩ ⟨rfl, by intro z hz; simp at hz; omega⟩
theorem al_args {E : En} (hE : E.Ok) {n : Nat} (H : ∀ m, m ≤ n → ∀ Z, AllI { E with Z := Z } m) (Z : Nat → Prop) : IHA { E with Z := Z } (n + 1) .args 228 #[.pointer (some ⟨E.M, 0, none⟩)] :=
 have OK := hE.z Z;have N := H n NL Z;args_step OK N.encArgs
theorem al_params {E : En} (hE : E.Ok) {n : Nat} (H : ∀ m, m ≤ n → ∀ Z, AllI { E with Z := Z } m) (Z : Nat → Prop) : IHA { E with Z := Z } (n + 1) (.params .param) 99 #[.pointer (some ⟨E.M, 0, none⟩), .func (.func 97) #[.pointer (some ⟨E.M, 0, none⟩)] #[]] :=
 fun nv s W h hne => absurd rfl hne
theorem al_members {E : En} (hE : E.Ok) {n : Nat} (H : ∀ m, m ≤ n → ∀ Z, AllI { E with Z := Z } m) (Z : Nat → Prop) : IHA { E with Z := Z } (n + 1) (.params .memberParam) 99 #[.pointer (some ⟨E.M, 0, none⟩), .func (.func 207) #[.pointer (some ⟨E.M, 0, none⟩)] #[]] :=
 fun nv s W h hne => absurd rfl hne
theorem al_block {E : En} (hE : E.Ok) {n : Nat} (H : ∀ m, m ≤ n → ∀ Z, AllI { E with Z := Z } m) (Z : Nat → Prop) : IHA { E with Z := Z } (n + 1) .block 60 #[.pointer (some ⟨E.M, 0, none⟩)] :=
 fun nv s W h hne => absurd rfl hne
theorem al_variable_ {E : En} (hE : E.Ok) {n : Nat} (H : ∀ m, m ≤ n → ∀ Z, AllI { E with Z := Z } m) (Z : Nat → Prop) : ∀ num : Int, IHA { E with Z := Z } (n + 1) (.variable num) 61 #[.pointer (some ⟨E.M, 0, none⟩), .int .i64 num] :=
 fun _ nv s W h hne => absurd rfl hne
theorem al_choice {E : En} (hE : E.Ok) {n : Nat} (H : ∀ m, m ≤ n → ∀ Z, AllI { E with Z := Z } m) (Z : Nat → Prop) : IHA { E with Z := Z } (n + 1) .choice 65 #[.pointer (some ⟨E.M, 0, none⟩)] :=
 fun nv s W h hne => absurd rfl hne
theorem al_callable {E : En} (hE : E.Ok) {n : Nat} (H : ∀ m, m ≤ n → ∀ Z, AllI { E with Z := Z } m) (Z : Nat → Prop) : ∀ (k : Int) (at' : Nat), IHA { E with Z := Z } (n + 1) (.callable k at') 113 #[.pointer (some ⟨E.M, 0, none⟩), .int .i64 k, .int .i64 (at' : Int)] :=
 fun _ _ nv s W h hne => absurd rfl hne
theorem al_func1 {E : En} (hE : E.Ok) {n : Nat} (H : ∀ m, m ≤ n → ∀ Z, AllI { E with Z := Z } m) (Z : Nat → Prop) : IHA { E with Z := Z } (n + 1) (.funcType [61, 62]) 150 #[.pointer (some ⟨E.M, 0, none⟩), .string ⟨#[61, 62]⟩] :=
 fun nv s W h hne => absurd rfl hne
theorem al_func2 {E : En} (hE : E.Ok) {n : Nat} (H : ∀ m, m ≤ n → ∀ Z, AllI { E with Z := Z } m) (Z : Nat → Prop) : IHA { E with Z := Z } (n + 1) (.funcType [58]) 150 #[.pointer (some ⟨E.M, 0, none⟩), .string ⟨#[58]⟩] :=
 fun nv s W h hne => absurd rfl hne
theorem al_field {E : En} (hE : E.Ok) {n : Nat} (H : ∀ m, m ≤ n → ∀ Z, AllI { E with Z := Z } m) (Z : Nat → Prop) : IHA { E with Z := Z } (n + 1) .field 208 #[.pointer (some ⟨E.M, 0, none⟩)] :=
 fun nv s W h hne => absurd rfl hne
theorem al_alias_ {E : En} (hE : E.Ok) {n : Nat} (H : ∀ m, m ≤ n → ∀ Z, AllI { E with Z := Z } m) (Z : Nat → Prop) : IHA { E with Z := Z } (n + 1) .alias 117 #[.pointer (some ⟨E.M, 0, none⟩)] :=
 fun nv s W h hne => absurd rfl hne
theorem al_enumMember {E : En} (hE : E.Ok) {n : Nat} (H : ∀ m, m ≤ n → ∀ Z, AllI { E with Z := Z } m) (Z : Nat → Prop) : IHA { E with Z := Z } (n + 1) .enumMember 106 #[.pointer (some ⟨E.M, 0, none⟩)] :=
 fun nv s W h hne => absurd rfl hne
theorem al_base {E : En} (hE : E.Ok) {n : Nat} (H : ∀ m, m ≤ n → ∀ Z, AllI { E with Z := Z } m) (Z : Nat → Prop) : IHA { E with Z := Z } (n + 1) .base 162 #[.pointer (some ⟨E.M, 0, none⟩)] :=
 fun nv s W h hne => absurd rfl hne
theorem al_super {E : En} (hE : E.Ok) {n : Nat} (H : ∀ m, m ≤ n → ∀ Z, AllI { E with Z := Z } m) (Z : Nat → Prop) : IHA { E with Z := Z } (n + 1) .super 250 #[.pointer (some ⟨E.M, 0, none⟩)] :=
 fun nv s W h hne => absurd rfl hne
theorem al_spacePart {E : En} (hE : E.Ok) {n : Nat} (H : ∀ m, m ≤ n → ∀ Z, AllI { E with Z := Z } m) (Z : Nat → Prop) : IHA { E with Z := Z } (n + 1) .spacePart 166 #[.pointer (some ⟨E.M, 0, none⟩)] :=
 fun nv s W h hne => absurd rfl hne
theorem al_namespace_ {E : En} (hE : E.Ok) {n : Nat} (H : ∀ m, m ≤ n → ∀ Z, AllI { E with Z := Z } m) (Z : Nat → Prop) : IHA { E with Z := Z } (n + 1) .namespace' 115 #[.pointer (some ⟨E.M, 0, none⟩)] :=
 fun nv s W h hne => absurd rfl hne
theorem al_forOf {E : En} (hE : E.Ok) {n : Nat} (H : ∀ m, m ≤ n → ∀ Z, AllI { E with Z := Z } m) (Z : Nat → Prop) : ∀ at' : Nat, IHA { E with Z := Z } (n + 1) (.forOf at') 110 #[.pointer (some ⟨E.M, 0, none⟩), .int .i64 (at' : Int)] :=
 fun _ nv s W h hne => absurd rfl hne
theorem al_filStmt {E : En} (hE : E.Ok) {n : Nat} (H : ∀ m, m ≤ n → ∀ Z, AllI { E with Z := Z } m) (Z : Nat → Prop) : IHL { E with Z := Z } (n + 1) (.filled .stmt) 102 #[.pointer (some ⟨E.M, 0, none⟩), .func (.func 31) #[.pointer (some ⟨E.M, 0, none⟩)] #[]] :=
 fun nv s W h hne => absurd rfl hne
theorem al_filClass {E : En} (hE : E.Ok) {n : Nat} (H : ∀ m, m ≤ n → ∀ Z, AllI { E with Z := Z } m) (Z : Nat → Prop) : IHL { E with Z := Z } (n + 1) (.filled .classPart) 102 #[.pointer (some ⟨E.M, 0, none⟩), .func (.func 164) #[.pointer (some ⟨E.M, 0, none⟩)] #[]] :=
 fun nv s W h hne => absurd rfl hne
theorem al_filSpace {E : En} (hE : E.Ok) {n : Nat} (H : ∀ m, m ≤ n → ∀ Z, AllI { E with Z := Z } m) (Z : Nat → Prop) : IHL { E with Z := Z } (n + 1) (.filled .spacePart) 102 #[.pointer (some ⟨E.M, 0, none⟩), .func (.func 166) #[.pointer (some ⟨E.M, 0, none⟩)] #[]] :=
 fun nv s W h hne => absurd rfl hne
theorem al_bare {E : En} (hE : E.Ok) {n : Nat} (H : ∀ m, m ≤ n → ∀ Z, AllI { E with Z := Z } m) (Z : Nat → Prop) : ∀ k : Int, IHA { E with Z := Z } (n + 1) (.bare k) 69 #[.pointer (some ⟨E.M, 0, none⟩), .int .i64 k] :=
 fun _ nv s W h hne => absurd rfl hne
theorem al_program {E : En} (hE : E.Ok) {n : Nat} (H : ∀ m, m ≤ n → ∀ Z, AllI { E with Z := Z } m) (Z : Nat → Prop) : IHA { E with Z := Z } (n + 1) .program 17 #[.pointer (some ⟨E.M, 0, none⟩)] :=
 have OK := hE.z Z;have N := H n NL Z;program_step OK (fun m hm Z' => (H m hm Z').stmt)
theorem al_declaration {E : En} (hE : E.Ok) {n : Nat} (H : ∀ m, m ≤ n → ∀ Z, AllI { E with Z := Z } m) (Z : Nat → Prop) : IHA { E with Z := Z } (n + 1) .declaration 73 #[.pointer (some ⟨E.M, 0, none⟩)] :=
 fun nv s W h hne => absurd rfl hne
theorem al_stmt {E : En} (hE : E.Ok) {n : Nat} (H : ∀ m, m ≤ n → ∀ Z, AllI { E with Z := Z } m) (Z : Nat → Prop) : IHA { E with Z := Z } (n + 1) .stmt 31 #[.pointer (some ⟨E.M, 0, none⟩)] :=
 have OK := hE.z Z;have N := H n NL Z;stmt_step OK N.block N.variable_ N.enum N.choice N.while_ N.loop N.until1 N.bare N.evaluated N.try_ N.declaration
theorem al_piece {E : En} (hE : E.Ok) {n : Nat} (H : ∀ m, m ≤ n → ∀ Z, AllI { E with Z := Z } m) (Z : Nat → Prop) : IHA { E with Z := Z } (n + 1) .piece 200 #[.pointer (some ⟨E.M, 0, none⟩)] :=
 fun nv s W h hne => absurd rfl hne
theorem al_refs1 {E : En} (hE : E.Ok) {n : Nat} (H : ∀ m, m ≤ n → ∀ Z, AllI { E with Z := Z } m) (Z : Nat → Prop) : IHA { E with Z := Z } (n + 1) (.refs [101, 120, 116, 101, 110, 100, 115]) 163 #[.pointer (some ⟨E.M, 0, none⟩), .string ⟨#[101, 120, 116, 101, 110, 100, 115]⟩] :=
 fun nv s W h hne => absurd rfl hne
theorem al_refs2 {E : En} (hE : E.Ok) {n : Nat} (H : ∀ m, m ≤ n → ∀ Z, AllI { E with Z := Z } m) (Z : Nat → Prop) : IHA { E with Z := Z } (n + 1) (.refs [105, 109, 112, 108, 101, 109, 101, 110, 116, 115]) 163 #[.pointer (some ⟨E.M, 0, none⟩), .string ⟨#[105, 109, 112, 108, 101, 109, 101, 110, 116, 115]⟩] :=
 fun nv s W h hne => absurd rfl hne
theorem al_face {E : En} (hE : E.Ok) {n : Nat} (H : ∀ m, m ≤ n → ∀ Z, AllI { E with Z := Z } m) (Z : Nat → Prop) : IHA { E with Z := Z } (n + 1) .face 116 #[.pointer (some ⟨E.M, 0, none⟩)] :=
 fun nv s W h hne => absurd rfl hne
theorem al_marked0 {E : En} (hE : E.Ok) {n : Nat} (H : ∀ m, m ≤ n → ∀ Z, AllI { E with Z := Z } m) (Z : Nat → Prop) : ∀ at' : Nat, IHA { E with Z := Z } (n + 1) (.marked at' 0) 154 #[.pointer (some ⟨E.M, 0, none⟩), .int .i64 (at' : Int), .int .i64 0] :=
 fun _ nv s W h hne => absurd rfl hne
theorem al_marked2 {E : En} (hE : E.Ok) {n : Nat} (H : ∀ m, m ≤ n → ∀ Z, AllI { E with Z := Z } m) (Z : Nat → Prop) : ∀ at' : Nat, IHA { E with Z := Z } (n + 1) (.marked at' 2) 154 #[.pointer (some ⟨E.M, 0, none⟩), .int .i64 (at' : Int), .int .i64 2] :=
 fun _ nv s W h hne => absurd rfl hne
theorem al_marked4 {E : En} (hE : E.Ok) {n : Nat} (H : ∀ m, m ≤ n → ∀ Z, AllI { E with Z := Z } m) (Z : Nat → Prop) : ∀ at' : Nat, IHA { E with Z := Z } (n + 1) (.marked at' 4) 154 #[.pointer (some ⟨E.M, 0, none⟩), .int .i64 (at' : Int), .int .i64 4] :=
 fun _ nv s W h hne => absurd rfl hne
theorem al_marked6 {E : En} (hE : E.Ok) {n : Nat} (H : ∀ m, m ≤ n → ∀ Z, AllI { E with Z := Z } m) (Z : Nat → Prop) : ∀ at' : Nat, IHA { E with Z := Z } (n + 1) (.marked at' 6) 154 #[.pointer (some ⟨E.M, 0, none⟩), .int .i64 (at' : Int), .int .i64 6] :=
 fun _ nv s W h hne => absurd rfl hne
theorem al_param {E : En} (hE : E.Ok) {n : Nat} (H : ∀ m, m ≤ n → ∀ Z, AllI { E with Z := Z } m) (Z : Nat → Prop) : IHA { E with Z := Z } (n + 1) .param 97 #[.pointer (some ⟨E.M, 0, none⟩)] :=
 fun nv s W h hne => absurd rfl hne
theorem al_memberParam {E : En} (hE : E.Ok) {n : Nat} (H : ∀ m, m ≤ n → ∀ Z, AllI { E with Z := Z } m) (Z : Nat → Prop) : IHA { E with Z := Z } (n + 1) .memberParam 207 #[.pointer (some ⟨E.M, 0, none⟩)] :=
 fun nv s W h hne => absurd rfl hne
theorem al_objectType {E : En} (hE : E.Ok) {n : Nat} (H : ∀ m, m ≤ n → ∀ Z, AllI { E with Z := Z } m) (Z : Nat → Prop) : IHA { E with Z := Z } (n + 1) .objectType 151 #[.pointer (some ⟨E.M, 0, none⟩)] :=
 fun nv s W h hne => absurd rfl hne
theorem al_enum {E : En} (hE : E.Ok) {n : Nat} (H : ∀ m, m ≤ n → ∀ Z, AllI { E with Z := Z } m) (Z : Nat → Prop) : IHA { E with Z := Z } (n + 1) .enum 64 #[.pointer (some ⟨E.M, 0, none⟩)] :=
 fun nv s W h hne => absurd rfl hne
theorem al_exported {E : En} (hE : E.Ok) {n : Nat} (H : ∀ m, m ≤ n → ∀ Z, AllI { E with Z := Z } m) (Z : Nat → Prop) : IHA { E with Z := Z } (n + 1) .exported 209 #[.pointer (some ⟨E.M, 0, none⟩)] :=
 fun nv s W h hne => absurd rfl hne
theorem al_try_ {E : En} (hE : E.Ok) {n : Nat} (H : ∀ m, m ≤ n → ∀ Z, AllI { E with Z := Z } m) (Z : Nat → Prop) : IHA { E with Z := Z } (n + 1) .try' 71 #[.pointer (some ⟨E.M, 0, none⟩)] :=
 fun nv s W h hne => absurd rfl hne
theorem al_loop {E : En} (hE : E.Ok) {n : Nat} (H : ∀ m, m ≤ n → ∀ Z, AllI { E with Z := Z } m) (Z : Nat → Prop) : IHA { E with Z := Z } (n + 1) .loop 67 #[.pointer (some ⟨E.M, 0, none⟩)] :=
 fun nv s W h hne => absurd rfl hne
theorem al_arrow {E : En} (hE : E.Ok) {n : Nat} (H : ∀ m, m ≤ n → ∀ Z, AllI { E with Z := Z } m) (Z : Nat → Prop) : IHA { E with Z := Z } (n + 1) .arrow 47 #[.pointer (some ⟨E.M, 0, none⟩)] :=
 fun nv s W h hne => absurd rfl hne
theorem al_typeParams {E : En} (hE : E.Ok) {n : Nat} (H : ∀ m, m ≤ n → ∀ Z, AllI { E with Z := Z } m) (Z : Nat → Prop) : IHA { E with Z := Z } (n + 1) .typeParams 98 #[.pointer (some ⟨E.M, 0, none⟩)] :=
 fun nv s W h hne => absurd rfl hne
theorem al_typeArgs {E : En} (hE : E.Ok) {n : Nat} (H : ∀ m, m ≤ n → ∀ Z, AllI { E with Z := Z } m) (Z : Nat → Prop) : IHA { E with Z := Z } (n + 1) .typeArgs 202 #[.pointer (some ⟨E.M, 0, none⟩)] :=
 have OK := hE.z Z;have N := H n NL Z;typeArgs_step OK N.sevType
theorem al_postfix_ {E : En} (hE : E.Ok) {n : Nat} (H : ∀ m, m ≤ n → ∀ Z, AllI { E with Z := Z } m) (Z : Nat → Prop) : IHA { E with Z := Z } (n + 1) .postfix 205 #[.pointer (some ⟨E.M, 0, none⟩)] :=
 have OK := hE.z Z;have N := H n NL Z;postfix_step OK N.primary (fun m hm => (H m hm Z).expr) (fun m hm => (H m hm Z).args) (fun m hm => (H m hm Z).callTypes)
theorem al_newThing {E : En} (hE : E.Ok) {n : Nat} (H : ∀ m, m ≤ n → ∀ Z, AllI { E with Z := Z } m) (Z : Nat → Prop) : IHA { E with Z := Z } (n + 1) .newThing 249 #[.pointer (some ⟨E.M, 0, none⟩)] :=
 fun nv s W h hne => absurd rfl hne
theorem al_expr {E : En} (hE : E.Ok) {n : Nat} (H : ∀ m, m ≤ n → ∀ Z, AllI { E with Z := Z } m) (Z : Nat → Prop) : IHA { E with Z := Z } (n + 1) .expr 24 #[.pointer (some ⟨E.M, 0, none⟩)] :=
 have OK := hE.z Z;have N := H n NL Z;expr_step OK N.arrow N.cond N.expr
theorem al_primary {E : En} (hE : E.Ok) {n : Nat} (H : ∀ m, m ≤ n → ∀ Z, AllI { E with Z := Z } m) (Z : Nat → Prop) : IHA { E with Z := Z } (n + 1) .primary 226 #[.pointer (some ⟨E.M, 0, none⟩)] :=
 have OK := hE.z Z;have N := H n NL Z;primary_step OK N.template N.encArray N.braPair N.newThing N.super N.expr
theorem al_plainType {E : En} (hE : E.Ok) {n : Nat} (H : ∀ m, m ≤ n → ∀ Z, AllI { E with Z := Z } m) (Z : Nat → Prop) : IHA { E with Z := Z } (n + 1) .plainType 93 #[.pointer (some ⟨E.M, 0, none⟩)] :=
 have OK := hE.z Z;have N := H n NL Z;plainType_step OK N.func1 N.anyType N.objectType N.typeRef
theorem al_anyType {E : En} (hE : E.Ok) {n : Nat} (H : ∀ m, m ≤ n → ∀ Z, AllI { E with Z := Z } m) (Z : Nat → Prop) : IHA { E with Z := Z } (n + 1) .anyType 22 #[.pointer (some ⟨E.M, 0, none⟩)] :=
 have OK := hE.z Z;have N := H n NL Z;anyType_step OK (fun m hm Z' => (H m hm Z').arrayType)
theorem al_template {E : En} (hE : E.Ok) {n : Nat} (H : ∀ m, m ≤ n → ∀ Z, AllI { E with Z := Z } m) (Z : Nat → Prop) : IHA { E with Z := Z } (n + 1) .template 247 #[.pointer (some ⟨E.M, 0, none⟩)] :=
 fun nv s W h hne => absurd rfl hne
theorem al_typeRef {E : En} (hE : E.Ok) {n : Nat} (H : ∀ m, m ≤ n → ∀ Z, AllI { E with Z := Z } m) (Z : Nat → Prop) : IHA { E with Z := Z } (n + 1) .typeRef 153 #[.pointer (some ⟨E.M, 0, none⟩)] :=
 have OK := hE.z Z;have N := H n NL Z;typeRef_step OK (fun m hm => (H m hm Z).typeArgs)
theorem al_classPart {E : En} (hE : E.Ok) {n : Nat} (H : ∀ m, m ≤ n → ∀ Z, AllI { E with Z := Z } m) (Z : Nat → Prop) : IHA { E with Z := Z } (n + 1) .classPart 164 #[.pointer (some ⟨E.M, 0, none⟩)] :=
 fun nv s W h hne => absurd rfl hne
theorem al_cls {E : En} (hE : E.Ok) {n : Nat} (H : ∀ m, m ≤ n → ∀ Z, AllI { E with Z := Z } m) (Z : Nat → Prop) : IHA { E with Z := Z } (n + 1) .cls 114 #[.pointer (some ⟨E.M, 0, none⟩)] :=
 fun nv s W h hne => absurd rfl hne
theorem al_binary {E : En} (hE : E.Ok) {n : Nat} (H : ∀ m, m ≤ n → ∀ Z, AllI { E with Z := Z } m) (Z : Nat → Prop) : ∀ l : Nat, l ≤ 10 → IHA { E with Z := Z } (n + 1) (.binary l) 101 #[.pointer (some ⟨E.M, 0, none⟩), .int .i64 (l : Int)] := fun l hl => by
 have OK := hE.z Z;have N := H n NL Z;rcases Nat.lt_or_ge l 10 with h | h
 · exact binary_step OK l (l + 1) h rfl (fun m hm => (H m hm Z).binary (l + 1) (by omega)) (fun m hm => (H m hm Z).anyType)
 · have e : l = 10 := by omega
   subst e;exact binary_top OK N.unary
theorem all_any {E : En} (hE : E.Ok) : ∀ n, ∀ m, m ≤ n → ∀ Z, AllI { E with Z := Z } m
 | 0, m, hm, Z => by
   have e : m = 0 := by omega
   subst e;exact all_zero _
 | n + 1, m, hm, Z => by
   have H := all_any hE n;rcases Nat.lt_or_ge m (n + 1) with h | h
   · exact H m (by omega) Z
   · have e : m = n + 1 := by omega
     subst e;have OK := hE.z Z
     exact {
      cond := al_cond hE H Z
      arrayType := al_arrayType hE H Z
      evaluated := al_evaluated hE H Z
      inParens := al_inParens hE H Z
      while_ := al_while_ hE H Z
      typeParam := al_typeParam hE H Z
      caught := al_caught hE H Z
      pair := al_pair hE H Z
      otherwise := al_otherwise hE H Z
      body := al_body hE H Z
      unary := al_unary hE H Z
      maybeType := al_maybeType hE H Z
      maybeExpr := al_maybeExpr hE H Z
      maybeElse := al_maybeElse hE H Z
      maybeLast := al_maybeLast hE H Z
      until1 := al_until1 hE H Z
      until2 := al_until2 hE H Z
      sevTypeParam := al_sevTypeParam hE H Z
      sevType := al_sevType hE H Z
      sevRef := al_sevRef hE H Z
      sevExpr := al_sevExpr hE H Z
      sevParam := al_sevParam hE H Z
      sevMember := al_sevMember hE H Z
      encArgs := al_encArgs hE H Z
      encArray := al_encArray hE H Z
      encParam := al_encParam hE H Z
      encMember := al_encMember hE H Z
      args := al_args hE H Z
      params := al_params hE H Z
      members := al_members hE H Z
      block := al_block hE H Z
      variable_ := al_variable_ hE H Z
      choice := al_choice hE H Z
      callable := al_callable hE H Z
      func1 := al_func1 hE H Z
      func2 := al_func2 hE H Z
      field := al_field hE H Z
      alias_ := al_alias_ hE H Z
      enumMember := al_enumMember hE H Z
      base := al_base hE H Z
      super := al_super hE H Z
      spacePart := al_spacePart hE H Z
      namespace_ := al_namespace_ hE H Z
      forOf := al_forOf hE H Z
      filStmt := al_filStmt hE H Z
      filClass := al_filClass hE H Z
      filSpace := al_filSpace hE H Z
      bare := al_bare hE H Z
      program := al_program hE H Z
      declaration := al_declaration hE H Z
      stmt := al_stmt hE H Z
      piece := al_piece hE H Z
      refs1 := al_refs1 hE H Z
      refs2 := al_refs2 hE H Z
      face := al_face hE H Z
      marked0 := al_marked0 hE H Z
      marked2 := al_marked2 hE H Z
      marked4 := al_marked4 hE H Z
      marked6 := al_marked6 hE H Z
      param := al_param hE H Z
      memberParam := al_memberParam hE H Z
      objectType := al_objectType hE H Z
      enum := al_enum hE H Z
      exported := al_exported hE H Z
      try_ := al_try_ hE H Z
      loop := al_loop hE H Z
      arrow := al_arrow hE H Z
      typeParams := al_typeParams hE H Z
      typeArgs := al_typeArgs hE H Z
      postfix_ := al_postfix_ hE H Z
      newThing := al_newThing hE H Z
      expr := al_expr hE H Z
      primary := al_primary hE H Z
      plainType := al_plainType hE H Z
      anyType := al_anyType hE H Z
      template := al_template hE H Z
      typeRef := al_typeRef hE H Z
      classPart := al_classPart hE H Z
      cls := al_cls hE H Z
      binary := al_binary hE H Z
      callTypes := callTypes_step OK fun Z' => (H n NL Z').typeArgs
      braPiece := fun nv s W b h hb hne => absurd rfl hne
      braEnum := fun nv s W b h hb hne => absurd rfl hne
      braPair := fun nv s W b h hb hne => absurd rfl hne }
end
end Go.Proofs.YtofgphapjjofnaaGreatDoor
