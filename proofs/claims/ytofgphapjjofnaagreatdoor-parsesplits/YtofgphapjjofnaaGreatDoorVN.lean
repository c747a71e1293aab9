/- Towards the law: QD0 QD QE QH. -/
import Derived.BigQuiet
import Derived.Deep.QuietTactic
import Derived.Deep.RegionHeld3
import Derived.Laws.BytesArg
import Derived.Shelf.Pu.Clone
import Derived.StillTailTactics
import Derived.Test.YtofgphapjjofnaaGreatDoorVI
import Derived.Test.YtofgphapjjofnaaGreatDoorVL
import Derived.Test.YtofgphapjjofnaaGreatDoorVM
set_option linter.unusedSimpArgs false
set_option linter.unusedVariables false
set_option maxRecDepth 100000
set_option maxHeartbeats 8000000
namespace Go.Proofs.YtofgphapjjofnaaGreatDoor
section
open Go.Shelf
open Go.RowKit Go.Shelf
def Tryz.clone_ren : Go.Shelf.Ren := ⟨fun | 25 => 245 | n => n, fun | 37 => 22 | 47 => 153 | n => n, fun | n => n⟩
theorem Tryz.clone_lays : Go.Proofs.LaysPu.n25 Tryz.prog Tryz.clone_ren := {
 mixed := by kernel_rfl
 f25 := Tryz.func245.trans (congrArg some (by kernel_rfl))
 t0 := Tryz.underlying0
 a0 := Tryz.isAgg0
 z0 := Tryz.sizeOf0
 v0 := Tryz.zeroValue0
 i0 := by kernel_rfl
 t3 := Tryz.underlying3
 a3 := Tryz.isAgg3
 z3 := Tryz.sizeOf3
 v3 := Tryz.zeroValue3
 i3 := by kernel_rfl
 t4 := Tryz.underlying4
 a4 := Tryz.isAgg4
 z4 := Tryz.sizeOf4
 v4 := Tryz.zeroValue4
 i4 := by kernel_rfl
 t5 := Tryz.underlying5
 a5 := Tryz.isAgg5
 z5 := Tryz.sizeOf5
 v5 := Tryz.zeroValue5
 i5 := by kernel_rfl
 t9 := Tryz.underlying9
 a9 := Tryz.isAgg9
 z9 := Tryz.sizeOf9
 v9 := Tryz.zeroValue9
 i9 := by kernel_rfl
 t37 := Tryz.underlying22
 a37 := Tryz.isAgg22
 z37 := Tryz.sizeOf22
 v37 := Tryz.zeroValue22
 i37 := by kernel_rfl
 t47 := Tryz.underlying153
 a47 := Tryz.isAgg153
 z47 := Tryz.sizeOf153
 v47 := Tryz.zeroValue153
 i47 := by kernel_rfl }
theorem clone56 (s : ByteArray) (w : World) (h : s.size ≤ 281474976710656) : Calls Tryz.prog 245 #[.string s] w fun e w' => e = .returned (.string s) ∧ Below w.heap.size w w' :=
 AnyPu.stringslite_Clone Tryz.clone_lays s w h
theorem clone29 (s : ByteArray) (w : World) (h : s.size ≤ 281474976710656) : Calls Tryz.prog 225 #[.string s] w fun e w' => e = .returned (.string s) ∧ Below w.heap.size w w' := by
 have hh := Hi h;clear h;go_enter Tryz.func225, Tryz.ntmps225;go_wp2_with (go_at_call 245; refine (clone56 s _ (U hh)).mono ?_; rintro e w1 ⟨rfl, hb⟩);go_ret;exact ⟨rfl, hb⟩
theorem put4_below {W : World} {R n : Nat} (h : n ≤ R) (y0 y1 y2 y3 : Value) : Below n W ((((W.setCell ⟨R, 0, none⟩ y0).setCell ⟨R, 1, none⟩ y1).setCell ⟨R, 2, none⟩ y2).setCell ⟨R, 3, none⟩ y3) :=
 (((Below.refl _ W).setCell (p := ⟨R, 0, none⟩) h _).setCell (p := ⟨R, 1, none⟩) h _).setCell (p := ⟨R, 2, none⟩) h _ |>.setCell (p := ⟨R, 3, none⟩) h _
theorem heap_alloc_old (w : World) (o : Obj) {k : Nat} (h : k < w.heap.size) : (w.alloc o).heap[k]? = w.heap[k]? := ((Below.refl _ w).alloc NL o).block k h
def GoodS (k : Int) (s : ByteArray) : Prop := k = 9 ∧ ∃ h : 2 ≤ s.size, (s[0]'(by omega)).toNat = 62
theorem split200_bad (k a b : Int) (s : ByteArray) (w : World) (hb : ¬ GoodS k s) : Calls Tryz.prog 204 #[.agg #[.int .i64 k, .string s, .int .i64 a, .int .i64 b]] w fun e w' => e = .returned (.tuple #[.agg #[.int .i64 0, .string ⟨#[]⟩, .int .i64 0, .int .i64 0], .bool false]) ∧ Below w.heap.size w w' := by
 have hB : ∀ k' : Int, Below w.heap.size w ((w.alloc (.cells #[.int .i64 k', .string s, .int .i64 a, .int .i64 b] 40)).alloc (.cells #[.int .i64 0, .string ⟨#[]⟩, .int .i64 0, .int .i64 0] 40)) := fun k' => ((Below.refl _ w).alloc NL _).alloc (by simp) _
 have hbh := Hi hb;clear hb;go_enter Tryz.func204, Tryz.ntmps204;go_wp2
 · refine bodyPost_ret (v := .tuple #[.agg #[.int .i64 0, .string ⟨#[]⟩, .int .i64 0, .int .i64 0], .bool false]) ?_ rfl ⟨rfl, hB _⟩
   simp [results, Tryz.results204, go_sem]
 · exfalso
   rename_i h4 h3 h2 h1 _ _;exact U hbh ⟨by assumption, by omega, by have := h1.2; simp at this; omega⟩
 · refine bodyPost_ret (v := .tuple #[.agg #[.int .i64 0, .string ⟨#[]⟩, .int .i64 0, .int .i64 0], .bool false]) ?_ rfl ⟨rfl, hB _⟩
   simp [results, Tryz.results204, go_sem]
 · refine bodyPost_ret (v := .tuple #[.agg #[.int .i64 0, .string ⟨#[]⟩, .int .i64 0, .int .i64 0], .bool false]) ?_ rfl ⟨rfl, hB _⟩
   simp [results, Tryz.results204, go_sem]
theorem split200_good (k a b : Int) (s : ByteArray) (w : World) (hk : k = 9) (hlim : s.size ≤ 281474976710656) (h2 : 2 ≤ s.size) (h3 : (s[0]'(by omega)).toNat = 62) : Calls Tryz.prog 204 #[.agg #[.int .i64 k, .string s, .int .i64 a, .int .i64 b]] w fun e w' => e = .returned (.tuple #[.agg #[.int .i64 9, .string (s.extract 1 s.size), .int .i64 (IntKind.i64.wrap (a + 1)), .int .i64 b], .bool true]) ∧ Below w.heap.size w w' := by
 subst hk;obtain ⟨W1, hW1⟩ : ∃ W1, (w.alloc (.cells #[.int .i64 9, .string s, .int .i64 a, .int .i64 b] 40)).alloc (.cells #[.int .i64 0, .string ⟨#[]⟩, .int .i64 0, .int .i64 0] 40) = W1 := ⟨_, rfl⟩;have hB1 : Below w.heap.size w W1 := by rw [← hW1]; exact ((Below.refl _ w).alloc NL _).alloc (by simp) _
 have hz1 : W1.heap.size = w.heap.size + 1 + 1 := by rw [← hW1]; simp
 have hr0 : W1.heap[w.heap.size]? = some (.cells #[.int .i64 9, .string s, .int .i64 a, .int .i64 b] 40) := by rw [← hW1, heap_alloc_old _ _ (by simp)]; exact World.alloc_heap_new w _
 have hr1 : W1.heap[w.heap.size + 1]? = some (.cells #[.int .i64 0, .string ⟨#[]⟩, .int .i64 0, .int .i64 0] 40) := by rw [← hW1]; simpa using World.alloc_heap_new (w.alloc (.cells #[.int .i64 9, .string s, .int .i64 a, .int .i64 b] 40)) (.cells #[.int .i64 0, .string ⟨#[]⟩, .int .i64 0, .int .i64 0] 40)
 obtain ⟨c0, c1, c2, c3⟩ := cells4 hr0;obtain ⟨d0, d1, d2, d3⟩ := cells4 hr1;have d4 := Lib.frozen_of_heap hr1;have d5 : W1.shape? (w.heap.size + 1) = some (40, 4) := by simp [World.shape?, hr1]
 have i0 : 0 < s.size := by omega
 have i1 : (2 : Int) ≤ s.size := by omega
 have i2 : (((s[0]'i0).toNat : Int) != 62) = false := by simp [h3]
 have i3 : 1 ≤ s.size := by omega
 have i4 : (1 : Int) ≤ s.size := by omega
 clear h3 h2;have hex : (s.extract 1 s.size).size ≤ 281474976710656 := by simp; omega
 have HC := Hi fun W => clone29 (s.extract 1 s.size) W hex
 clear hex hlim;go_enter Tryz.func204, Tryz.ntmps204;go_wp2;go_region_with (go_at_call 225; refine (U HC _).mono ?_; rintro e W2 ⟨rfl, hB2⟩; have hr0' := (hB2.block w.heap.size (by show w.heap.size < W1.heap.size; omega)).trans hr0; have hr1' := (hB2.block (w.heap.size + 1) (by show w.heap.size + 1 < W1.heap.size; omega)).trans hr1; obtain ⟨c0', c1', c2', c3'⟩ := cells4 hr0'; obtain ⟨d0', d1', d2', d3'⟩ := cells4 hr1'; have d4' := Lib.frozen_of_heap hr1'; have d5' : W2.shape? (w.heap.size + 1) = some (40, 4) := (by simp [World.shape?, hr1']))
 all_goals (
  clear c0 c1 c2 c3 c0' c1' c2' c3' HC;go_wp2;have hB2' : Below W1.heap.size W1 W2 := (⟨rfl, rfl, rfl, NL, fun _ _ => rfl⟩ : Below W1.heap.size W1 W1.drew).trans hB2;have hB4 := put4_below (W := W2) (R := w.heap.size + 1) (n := w.heap.size) (by omega) (.int .i64 9) (.string (s.extract 1 s.size)) (.int .i64 (IntKind.i64.wrap (a + 1))) (.int .i64 b);have hr4 := set4 hr1' (.int .i64 9) (.string (s.extract 1 s.size)) (.int .i64 (IntKind.i64.wrap (a + 1))) (.int .i64 b);obtain ⟨W4, hW4⟩ : ∃ W4, ((((W2.setCell ⟨w.heap.size + 1, 0, none⟩ (.int .i64 9)).setCell ⟨w.heap.size + 1, 1, none⟩ (.string (s.extract 1 s.size))).setCell ⟨w.heap.size + 1, 2, none⟩ (.int .i64 (IntKind.i64.wrap (a + 1)))).setCell ⟨w.heap.size + 1, 3, none⟩ (.int .i64 b)) = W4 := ⟨_, rfl⟩;rw [hW4] at hB4 hr4 ⊢;clear hW4;obtain ⟨e0, e1, e2, e3⟩ := cells4 hr4;refine bodyPost_ret (v := .tuple #[.agg #[.int .i64 9, .string (s.extract 1 s.size), .int .i64 (IntKind.i64.wrap (a + 1)), .int .i64 b], .bool true]) ?_ rfl ⟨rfl, (hB1.trans (hB2'.mono hB1.size)).trans hB4⟩;clear d0 d1 d2 d3 d4 d5 d0' d1' d2' d3' d4' d5'
  simp [results, Tryz.results204, go_sem, e0, e1, e2, e3])
theorem str_first {l : List Int} (hl : Bys l) (h : 0 < (strOfNums l).size) : (((strOfNums l)[0]'h).toNat : Int) = l.getD 0 0 := by
 cases l with
 | nil => simp [strOfNums_size] at h
 | cons x l =>
   have hx := hl x (List.mem_cons_self ..);show ((UInt8.ofNat x.toNat).toNat : Int) = x
   simp only [UInt8.toNat_ofNat'];omega
theorem str_tail {l : List Int} : (strOfNums l).extract 1 (strOfNums l).size = strOfNums l.tail := by
 have h : ((strOfNums l).extract 1 (strOfNums l).size).data = (strOfNums l.tail).data := by
  cases l with
  | nil => rfl
  | cons x l =>
    simp [strOfNums, ByteArray.size];exact List.take_of_length_le (by simp)
 cases hx : (strOfNums l).extract 1 (strOfNums l).size;cases hy : strOfNums l.tail;rw [hx, hy] at h;simp only at h;rw [h]
theorem split_yes (t t' : Tok) (hb : Bys t.2.1) (hf : TkFine t) (h : splitT t = some t') (W : World) : Calls Tryz.prog 204 #[tkV t] W fun e w' => e = .returned (.tuple #[tkV t', .bool true]) ∧ Below W.heap.size W w' := by
 unfold splitT at h;split at h
 · rename_i hc
   obtain ⟨h9, h2, h3⟩ := hc;cases h;have hlen := hf.2;have hs := strOfNums_size t.2.1;have := split200_good t.1 (t.2.2.1 : Int) (t.2.2.2 : Int) (strOfNums t.2.1) W h9 (by omega) (by omega) (by have := str_first hb (by omega); omega);unfold tkV;rw [str_tail, show IntKind.i64.wrap ((t.2.2.1 : Int) + 1) = ((t.2.2.1 + 1 : Nat) : Int) by rw [IntKind.wrap_i64]; omega] at this;exact this
 · cases h
theorem split_no (t : Tok) (hb : Bys t.2.1) (h : splitT t = none) (W : World) : Calls Tryz.prog 204 #[tkV t] W fun e w' => e = .returned (.tuple #[tkV tok0, .bool false]) ∧ Below W.heap.size W w' := by
 refine split200_bad t.1 (t.2.2.1 : Int) (t.2.2.2 : Int) (strOfNums t.2.1) W fun hg => ?_
 obtain ⟨h9, h2, h3⟩ := hg;have hs := strOfNums_size t.2.1;unfold splitT at h;rw [if_pos ⟨h9, by omega, by have := str_first hb (by omega); omega⟩] at h;cases h
theorem split_bys {t t' : Tok} (hb : Bys t.2.1) (hf : TkFine t) (h : splitT t = some t') : Bys t'.2.1 ∧ TkFine t' := by
 unfold splitT at h;split at h
 · rename_i hc
   obtain ⟨h9, h2, h3⟩ := hc;cases h;refine ⟨fun z hz => hb z (List.mem_of_mem_tail hz), fun h => by simp at h, ?_⟩;have := hf.2;simp only [List.length_tail];omega
 · cases h
end
section
open Go.RowKit Go.Shelf
theorem RdAt.setT {W : World} {M : Nat} {tv : Value} {n : Nat} {t : Tok} {nv lv cv bv : Value} (h : RdAt W M tv n t nv lv cv bv) (t' : Tok) :
 RdAt ((((W.setCell ⟨M, 2, none⟩ (.int .i64 t'.1)).setCell ⟨M, 3, none⟩ (.string (strOfNums t'.2.1))).setCell ⟨M, 4, none⟩ (.int .i64 (t'.2.2.1 : Int))).setCell ⟨M, 5, none⟩ (.int .i64 (t'.2.2.2 : Int))) M tv n t' nv lv cv bv := by
 have h' : W.heap[M]? = some (.cells (rdC tv n t nv lv cv bv) 72) := h;unfold RdAt;simp [World.setCell, Array.getElem?_modify, h', rdC]
theorem wantAngle_rq {E : En} {nv : Value} {s : PS} {W : World} (hE : E.Ok) (h : RAt E nv s W) (hne : wantAngleP E.c s ≠ .out) : Calls Tryz.prog 157 #[.pointer (some ⟨E.M, 0, none⟩)] W (RQ E (fun _ : Unit => .tuple #[]) nv s W (wantAngleP E.c s)) := by
 obtain ⟨R, hR⟩ : ∃ R, wantAngleP E.c s = R := ⟨_, rfl⟩;rw [hR] at hne ⊢;obtain ⟨c2, c3, c4, c5⟩ := h.rd.tok;have hml := h.rd.lt;unfold wantAngleP at hR;have H0 := Hi h;cases hs : splitT s.tk with
 | some t' =>
   rw [hs] at hR;subst hR;have HS := Hi (split_yes s.tk t' h.by' h.le.2.2 hs W);have HB := Hi (split_bys h.by' h.le.2.2 hs);unfold tkV at HS;clear h hE hs hne;go_enter Tryz.func157, Tryz.ntmps157;go_wp2_with (go_at_call 204; refine (U HS).mono ?_)
   first | rintro e w1 rfl h1 | rintro e w1 ⟨rfl, h1⟩
   have h' := (U H0).below h1;have hml1 := h'.rd.lt;have f2 := h'.rd.free 2;have f3 := h'.rd.free 3;have f4 := h'.rd.free 4;have f5 := h'.rd.free 5;obtain ⟨d2, d3, d4, d5⟩ := h'.rd.tok;have HR1 := Hi h';have H1 := Hi h1;clear h' h1;go_wp2;have hF := (((((below_fr (S0 := fun k => k = E.M) (U H1)).set E.M 2 (.int .i64 t'.1) rfl).set E.M 3 (.string (strOfNums t'.2.1)) rfl).set E.M 4 (.int .i64 (t'.2.2.1 : Int)) rfl).set E.M 5 (.int .i64 (t'.2.2.2 : Int)) rfl).alloc (.cells #[.int .i64 t'.1, .string (strOfNums t'.2.1), .int .i64 (t'.2.2.1 : Int), .int .i64 (t'.2.2.2 : Int)] 40);have hRd0 := (U HR1).rd.setT t';have hRd := hRd0.keep (((Below.refl _ _).alloc NL (.cells #[.int .i64 t'.1, .string (strOfNums t'.2.1), .int .i64 (t'.2.2.1 : Int), .int .i64 (t'.2.2.2 : Int)] 40)).block E.M hRd0.lt);exact bodyPost_ret (results_none rfl _ _ _) rfl ⟨rfl, nv, turn_lf (s' := { s with tk := t' }) (U H0) hF hRd rfl rfl (U HB).1 ⟨(U H0).le.1, (U H0).le.2.1, (U HB).2⟩⟩
 | none =>
   rw [hs] at hR;replace hR : wantP E.c [62] s = R := hR;have hp : wantP E.c [62] s ≠ .out := by rw [hR]; exact hne
   have HS := Hi (split_no s.tk h.by' hs W);have HW : Hid (∀ w, Below W.heap.size W w → Calls Tryz.prog 94 #[.pointer (some ⟨E.M, 0, none⟩), .string ⟨#[62]⟩] w (RQ E (fun _ : Unit => .tuple #[]) nv s w (wantP E.c [62] s))) := fun w hw => want_rq hE (h.below hw) (x := ⟨#[62]⟩) ⟨rfl, by intro z hz; simp at hz; omega⟩ hp
   unfold tkV tok0 at HS;simp only [show strOfNums [] = ⟨#[]⟩ from rfl] at HS;clear h hE hs hne;go_enter Tryz.func157, Tryz.ntmps157;go_wp2_with (go_at_call 204; refine (U HS).mono ?_)
   first | rintro e w1 rfl h1 | rintro e w1 ⟨rfl, h1⟩
   have H1 := Hi h1;clear h1;cases hq : wantP E.c [62] s with
   | out => exact absurd hq hp
   | no s2 =>
     have HC := Hi (rq_no (U HW (w1.alloc (.cells #[.int .i64 0, .string ⟨#[]⟩, .int .i64 0, .int .i64 0] 40)) ((U H1).alloc (U H1).size _)) hq);have hR2 := hq.symm.trans hR;subst hR2;clear hq hp hR;go_wp2_with (go_at_call 94; refine (U HC).mono ?_)
     first | rintro e w2 rfl nv2 h2 | rintro e w2 ⟨rfl, nv2, h2⟩
     have H2 := Hi (((Lf.refl (U H0)).below ((U H1).alloc (U H1).size _)).trans h2);clear h2;go_wp2;exact ⟨rfl, rfl, nv2, U H2⟩
   | ok a2 s2 =>
     have HC := Hi (rq_ok (U HW (w1.alloc (.cells #[.int .i64 0, .string ⟨#[]⟩, .int .i64 0, .int .i64 0] 40)) ((U H1).alloc (U H1).size _)) hq);have hR2 := hq.symm.trans hR;subst hR2;clear hq hp hR;go_wp2_with (go_at_call 94; refine (U HC).mono ?_)
     first | rintro e w2 rfl nv2 h2 | rintro e w2 ⟨rfl, nv2, h2⟩
     have H2 := Hi (((Lf.refl (U H0)).below ((U H1).alloc (U H1).size _)).trans h2);clear h2;go_wp2;exact bodyPost_end (results_none rfl _ _ _) rfl ⟨rfl, nv2, U H2⟩
theorem cell_keep {W : World} {b o k q : Nat} {v : Value} (h : k ≠ b) : (W.setCell ⟨b, o, none⟩ v).cell? ⟨k, q, none⟩ = W.cell? ⟨k, q, none⟩ := by
 unfold World.cell?;rw [keep_set h]
theorem set_state {E : En} {nv : Value} {s : PS} {W : World} (h : RAt E nv s W) : ∃ nb cap, E.bv = .slice (some ⟨nb, 0, none⟩) s.nc.length cap ∧ s.nc.length ≤ cap ∧ cap ≤ maxLen ∧ E.M ≠ nb ∧ ∀ (i : Nat) (b : Bool), i < s.nc.length → W.cell? ⟨nb, i, none⟩ = some (.bool (s.nc.getD i false)) ∧ W.frozen? ⟨nb, i, none⟩ = false ∧ Lf E nv s W nv { s with nc := s.nc.set i b } (W.setCell ⟨nb, i, none⟩ (.bool b)) := by
 obtain ⟨nb, cap, cur, e, q1, q2, hh, hc⟩ := h.nc;have hM := h.mty;have hnb : tyOf W nb = 4 := by simp [tyOf, hh]
 have hMn : E.M ≠ nb := fun e => by rw [e] at hM; omega
 refine ⟨nb, cap, e, q1, q2, hMn, fun i b hi => ?_⟩;have hg : s.nc[i]? = some (s.nc.getD i false) := by rw [List.getD_eq_getElem?_getD, List.getElem?_eq_getElem hi]; rfl
 have hcu := hc i _ hg;have hkeep : ∀ k, k ≠ nb → (W.setCell ⟨nb, i, none⟩ (.bool b)).heap[k]? = W.heap[k]? := fun k hk => keep_set hk
 have hz : Fz E.M E.lo W (W.setCell ⟨nb, i, none⟩ (.bool b)) := ⟨rfl, rfl, rfl, by simp [World.setCell], fun k hk h1 h2 h3 => hkeep k fun e => by subst e; exact h3 hnb, fun k hk h1 => hkeep k fun e' => by
  have := h.lo.2.2 nb (by rw [e]; rfl)
  omega⟩
 have h34 : ∀ k, tyOf W k = 34 ∨ tyOf W k = 3 → (W.setCell ⟨nb, i, none⟩ (.bool b)).heap[k]? = W.heap[k]? := fun k hk => hkeep k fun e => by subst e; omega
 refine ⟨by simp [World.cell?, hh, hcu], by simp [World.frozen?, hh], h.again (s' := { s with nc := s.nc.set i b }) hz (h.rd.keep (hkeep _ hMn)) ?_ (h.nd.keep h34) h.by' ⟨h.le.1, by simpa using h.le.2.1, h.le.2.2⟩ h.lo.2.1, hz, fun u l' o => o.keep h34⟩;refine ⟨nb, cap, cur.setIfInBounds i (.bool b), by simpa using e, by simpa using q1, q2, ?_, fun j x hj => ?_⟩
 · simp [World.setCell, Array.getElem?_modify, hh]
 · simp only [List.getElem?_set] at hj
   rw [Array.getElem?_setIfInBounds];by_cases hij : i = j
   · subst hij
     rw [if_pos rfl, if_pos hi] at hj;cases hj;have := (Array.getElem?_eq_some_iff.1 hcu).1;simp [this]
   · rw [if_neg hij] at hj
     rw [if_neg hij];exact hc j x hj
theorem typeArgs_step {E : En} (hE : E.Ok) {n : Nat}  (IS : IHL E n (.several .anyType) 155 #[.pointer (some ⟨E.M, 0, none⟩), .func (.func 22) #[.pointer (some ⟨E.M, 0, none⟩)] #[]]) : IHA E (n + 1) .typeArgs 202 #[.pointer (some ⟨E.M, 0, none⟩)] := by
  intro nv s W h hne;obtain ⟨R, hR⟩ : ∃ R, parP E.c (n + 1) .typeArgs s = R := ⟨_, rfl⟩;rw [hR] at hne ⊢;simp only [parP, bodyP] at hR;have HR0 := Hi hR;have H0 := Hi (Lf.refl h);have HE := Hi hE;have HNE := Hi hne;have HIS := Hi IS;clear hR hne h hE IS;go_enter Tryz.func202, Tryz.ntmps202;have HC1 := Hi (ris_any E.M E.tv s.n s.tk nv E.lv E.cv E.bv W (U H0).1.rd (U H0).1.by' ⟨#[60]⟩ [60] ⟨rfl, by intro z hz; simp at hz; omega⟩);have hR1 := U HR0;rw [bd_ok (p := testP (isP [60])) rfl] at hR1;have HR1 := Hi hR1;clear hR1;obtain ⟨b1, hb1⟩ : ∃ b, isP [60] s = b := ⟨_, rfl⟩;rw [show isT s.tk [60] = b1 from hb1] at HC1;simp only [hb1] at HR1;clear hb1;go_wp2_with (go_at_call 92; refine (U HC1).mono ?_)
  first | rintro e w1 rfl h1 | rintro e w1 ⟨rfl, h1⟩
  have H1 := Hi ((U H0).below h1);clear h1;cases b1 with
  | false =>
    try simp only [Bool.false_eq_true, if_false] at HR1
    have hp2 := bd_ne (p := listP []) (U HR1) (U HNE);obtain ⟨a2, s2, hq2⟩ : ∃ a s', listP [] s = .ok a s' := put_ex hp2;have HC2 := Hi (rq_ok (list_rq (U H1).1 [] none 0 ⟨none, 0, rfl, NL, Nat.zero_le _, .inl rfl⟩ hp2) hq2);have HR2 := br hq2 HR1;clear hq2 hp2;simp only [List.length_nil] at HC2;go_wp2_with (go_at_call 96; refine (U HC2).mono ?_)
    first | rintro e w2 rfl nv2 h2 | rintro e w2 ⟨rfl, nv2, h2⟩
    have H2 := Hi ((U H1).trans h2);clear h2;have hR2 : (.ok [a2] s2 : Res (List Nat)) = R := U HR2;subst hR2;go_wp2;go_ret;exact ⟨rfl, nv2, U H2⟩
  | true =>
    try simp only [if_true] at HR1
    obtain ⟨nb, cap9, ebv, q1_9, q2_9, hMn9, hst⟩ := set_state (U H1).1;obtain ⟨hcell, hfro, hlf⟩ := hst s.n true (by rw [(U H1).1.le.2.1]; exact (U H1).1.le.1);have e9 := (U H1).1.rd.rest.2.2;rw [ebv] at e9;have e1 := (U H1).1.rd.two.2;have hlt9 : s.n < s.nc.length := by rw [(U H1).1.le.2.1]; exact (U H1).1.le.1
    have hml9 := (U H1).1.rd.lt;unfold maxLen at q2_9;obtain ⟨w3, hw3⟩ : ∃ x, w1.setCell ⟨nb, s.n, none⟩ (.bool true) = x := ⟨_, rfl⟩;obtain ⟨s3, hs3⟩ : ∃ x, ({ s with nc := s.nc.set s.n true } : PS) = x := ⟨_, rfl⟩;rw [hw3, hs3] at hlf;have hR3 : (bd (nextP E.c) fun _ => bd (parP E.c n (.several .anyType)) fun l => bd (wantAngleP E.c) fun _ => fun s' => one1 (listP l) { s' with nc := s'.nc.set s.n (isP [40] s' == false) }) s3 = R := by rw [← hs3]; exact U HR1
    have HR3 := Hi hR3;have H3 := Hi ((U H1).trans hlf);have HEB := Hi (show E.c.toks.length = s.nc.length from (U H1).1.le.2.1.symm);have HBV := Hi ebv;obtain ⟨N9, hN9⟩ : ∃ x, s.n = x := ⟨_, rfl⟩;obtain ⟨L9, hL9⟩ : ∃ x, s.nc.length = x := ⟨_, rfl⟩;rw [hN9, hL9] at hlt9;rw [hN9] at e1 hcell hfro hw3 HR3;rw [hL9] at e9 q1_9 HEB HBV;clear hR3 hlf hs3 hN9 hL9 ebv hst;have hp4 := bd_ne (p := nextP E.c) (U HR3) (U HNE);obtain ⟨a4, s4, hq4⟩ : ∃ a s', nextP E.c s3 = .ok a s' := next_ok hp4;have HC4 := Hi (rq_ok (next_rq (U HE) (U H3).1 hp4) hq4);have HR4 := br hq4 HR3;clear hq4 hp4;unfold tkV at HC4;go_wp2_with (go_at_call 53; refine (U HC4).mono ?_)
    first | rintro e w4 rfl nv4 h4 | rintro e w4 ⟨rfl, nv4, h4⟩
    have H4 := Hi ((U H3).trans h4);clear h4;have hp5 := bd_ne (p := parP E.c n (.several .anyType)) (U HR4) (U HNE);have HC5 := Hi (U HIS _ _ _ (U H4).1 hp5);cases hq5 : parP E.c n (.several .anyType) s4 with
    | out => exact absurd hq5 hp5
    | no s5 =>
      have hR5 := (bd_no hq5).symm.trans (U HR4);subst hR5;replace HC5 := Hi (rql_no (U HC5) hq5);clear hq5 hp5;go_wp2_with (go_at_call 155; refine (U HC5).mono ?_)
      first | rintro e w5 rfl nv5 h5 | rintro e w5 ⟨rfl, nv5, h5⟩
      have H5 := Hi ((U H4).trans h5);clear h5;go_wp2;exact ⟨rfl, rfl, nv5, U H5⟩
    | ok a5 s5 =>
      have HR5 := br hq5 HR4;replace HC5 := Hi (rql_ok (U HC5) hq5);clear hq5 hp5;go_wp2_with (go_at_call 155; refine (U HC5).mono ?_)
      first | rintro e w5 ka5 kc5 nv5 rfl hk5 h5 | rintro e w5 ⟨ka5, kc5, nv5, rfl, hk5, h5⟩
      have H5 := Hi ((U H4).trans h5);have HK5 := Hi hk5;clear h5 hk5;have hp6 := bd_ne (p := wantAngleP E.c) (U HR5) (U HNE);have HC6 := Hi (wantAngle_rq (U HE) (U H5).1 hp6);cases hq6 : wantAngleP E.c s5 with
      | out => exact absurd hq6 hp6
      | no s6 =>
        have hR6 := (bd_no hq6).symm.trans (U HR5);subst hR6;replace HC6 := rn HC6 hq6;clear hq6 hp6;go_wp2_with (go_at_call 157; refine (U HC6).mono ?_)
        first | rintro e w6 rfl nv6 h6 | rintro e w6 ⟨rfl, nv6, h6⟩
        have H6 := Hi ((U H5).trans h6);replace HK5 := Hi ((U HK5).fz (U H5).1 h6);clear h6;go_wp2;exact ⟨rfl, rfl, nv6, U H6⟩
      | ok a6 s6 =>
        have HR6 := br hq6 HR5;replace HC6 := ro HC6 hq6;clear hq6 hp6;go_wp2_with (go_at_call 157; refine (U HC6).mono ?_)
        first | rintro e w6 rfl nv6 h6 | rintro e w6 ⟨rfl, nv6, h6⟩
        have H6 := Hi ((U H5).trans h6);replace HK5 := Hi ((U HK5).fz (U H5).1 h6);clear h6;obtain ⟨bb, hbb⟩ : ∃ b, isP [40] s6 = b := ⟨_, rfl⟩
        have HC7 : Hid (∀ w', Below w6.heap.size w6 w' → Calls Tryz.prog 92 #[.pointer (some ⟨E.M, 0, none⟩), .string ⟨#[40]⟩] w' fun e w'' => e = .returned (.bool bb) ∧ Below w'.heap.size w' w'') := fun w' hw' => by
          have := ris_any E.M E.tv s6.n s6.tk nv6 E.lv E.cv E.bv w' ((U H6).1.below hw').rd (U H6).1.by' ⟨#[40]⟩ [40] ⟨rfl, by intro z hz; simp at hz; omega⟩
          rw [show isT s6.tk [40] = bb from hbb] at this;exact this
        have HST : Hid (∀ w', Below w6.heap.size w6 w' → w'.cell? ⟨E.M, 9, none⟩ = some (.slice (some ⟨nb, 0, none⟩) L9 cap9) ∧ (∃ bo, w'.cell? ⟨nb, N9, none⟩ = some (.bool bo)) ∧ w'.frozen? ⟨nb, N9, none⟩ = false ∧ ∀ b, Lf E nv6 s6 w' nv6 { s6 with nc := s6.nc.set N9 b } (w'.setCell ⟨nb, N9, none⟩ (.bool b))) := fun w' hw' => by
          have h' := (U H6).1.below hw';obtain ⟨nb', cap', ebv', _, _, _, hst'⟩ := set_state h';have hl' : s6.nc.length = L9 := h'.le.2.1.trans (U HEB);rw [U HBV, hl'] at ebv';cases ebv';have e9' := h'.rd.rest.2.2;rw [U HBV] at e9';refine ⟨e9', ⟨_, (hst' N9 true (by omega)).1⟩, (hst' N9 true (by omega)).2.1, fun b => (hst' N9 b (by omega)).2.2⟩
        have hRb := U HR6;have hml8 := (U H6).1.rd.lt;have HBB := Hi hbb;clear hbb;cases bb with
        | false =>
          have hR8 : one1 (listP a5) { s6 with nc := s6.nc.set N9 true } = R := by rw [← hRb, show (isP [40] s6 == false) = true by rw [U HBB]; rfl]
          have HR8 := Hi hR8;clear hR8 hRb;have z9 := (U HST w6 (Below.refl _ _)).1;go_wp2
          go_region_held3 (fun w' => w'.cell? ⟨E.M, 9, none⟩ = some (.slice (some ⟨nb, 0, none⟩) L9 cap9))
            (with_reducible first
              | exact (U HST _ (Below.refl _ _)).1
              | exact (U HST _ (Below.refl _ _).drew).1
              | exact (U HST _ hbz).1
              | exact (cell_keep hMn9).trans (U HST _ hbz).1
              | assumption)
            ((go_at_call 92; refine (U HC7 _ (Below.refl _ _).drew).mono ?_; rintro e wz ⟨rfl, hz6⟩; have hbz : Below w6.heap.size w6 wz := (Below.refl _ w6).drew.trans hz6; obtain ⟨z1, ⟨bo, z2⟩, z3, z4⟩ := U HST wz hbz; have HZ4 := Hi z4; have hmwz : E.M < wz.heap.size := Nat.lt_of_lt_of_le hml8 hbz.size; clear hz6 z4))
          all_goals (
            have HBZ := Hi hbz;obtain ⟨w8, hw8⟩ : ∃ x, wz.setCell ⟨nb, N9, none⟩ (.bool true) = x := ⟨_, rfl⟩;have hz4 := U HZ4 true;obtain ⟨s8, hs8⟩ : ∃ x, ({ s6 with nc := s6.nc.set N9 true } : PS) = x := ⟨_, rfl⟩;rw [hw8, hs8] at hz4;rw [hs8] at HR8;have H8b := Hi ((U H6).below (U HBZ));have HKb := Hi ((U HK5).keep (A := wz) fun k e => (U HBZ).block k (ty_lt e (by omega)));have H8 := Hi ((U H8b).trans hz4);replace HK5 := Hi ((U HKb).fz (U H8b).1 hz4);clear hbz z9 z1 hz4 hs8;rw [hw8];have hp9 := bd_ne (p := listP a5) (U HR8) (U HNE);obtain ⟨a9, s9, hq9⟩ : ∃ a s', listP a5 s8 = .ok a s' := put_ex hp9;have HC9 := Hi (rq_ok (list_rq (U H8).1 a5 ka5 kc5 (U HK5) hp9) hq9);have HR9 := br hq9 HR8;clear hq9 hp9;go_wp2_with (go_at_call 96; refine (U HC9).mono ?_)
            first | rintro e w9 rfl nv9 h9 | rintro e w9 ⟨rfl, nv9, h9⟩
            have H9 := Hi ((U H8).trans h9);replace HK5 := Hi ((U HK5).fz (U H8).1 h9);clear h9;have hR9 : (.ok [a9] s9 : Res (List Nat)) = R := U HR9;subst hR9;go_wp2;go_ret;exact ⟨rfl, nv9, U H9⟩
          )
        | true =>
          have hR10 : one1 (listP a5) { s6 with nc := s6.nc.set N9 false } = R := by rw [← hRb, show (isP [40] s6 == false) = false by rw [U HBB]; rfl]
          have HR10 := Hi hR10;clear hR10 hRb;have z9 := (U HST w6 (Below.refl _ _)).1;go_wp2
          go_region_held3 (fun w' => w'.cell? ⟨E.M, 9, none⟩ = some (.slice (some ⟨nb, 0, none⟩) L9 cap9))
            (with_reducible first
              | exact (U HST _ (Below.refl _ _)).1
              | exact (U HST _ (Below.refl _ _).drew).1
              | exact (U HST _ hbz).1
              | exact (cell_keep hMn9).trans (U HST _ hbz).1
              | assumption)
            ((go_at_call 92; refine (U HC7 _ (Below.refl _ _).drew).mono ?_; rintro e wz ⟨rfl, hz6⟩; have hbz : Below w6.heap.size w6 wz := (Below.refl _ w6).drew.trans hz6; obtain ⟨z1, ⟨bo, z2⟩, z3, z4⟩ := U HST wz hbz; have HZ4 := Hi z4; have hmwz : E.M < wz.heap.size := Nat.lt_of_lt_of_le hml8 hbz.size; clear hz6 z4))
          all_goals (
            have HBZ := Hi hbz;obtain ⟨w10, hw10⟩ : ∃ x, wz.setCell ⟨nb, N9, none⟩ (.bool false) = x := ⟨_, rfl⟩;have hz4 := U HZ4 false;obtain ⟨s10, hs10⟩ : ∃ x, ({ s6 with nc := s6.nc.set N9 false } : PS) = x := ⟨_, rfl⟩;rw [hw10, hs10] at hz4;rw [hs10] at HR10;have H10b := Hi ((U H6).below (U HBZ));have HKb := Hi ((U HK5).keep (A := wz) fun k e => (U HBZ).block k (ty_lt e (by omega)));have H10 := Hi ((U H10b).trans hz4);replace HK5 := Hi ((U HKb).fz (U H10b).1 hz4);clear hbz z9 z1 hz4 hs10;rw [hw10];have hp11 := bd_ne (p := listP a5) (U HR10) (U HNE);obtain ⟨a11, s11, hq11⟩ : ∃ a s', listP a5 s10 = .ok a s' := put_ex hp11;have HC11 := Hi (rq_ok (list_rq (U H10).1 a5 ka5 kc5 (U HK5) hp11) hq11);have HR11 := br hq11 HR10;clear hq11 hp11;go_wp2_with (go_at_call 96; refine (U HC11).mono ?_)
            first | rintro e w11 rfl nv11 h11 | rintro e w11 ⟨rfl, nv11, h11⟩
            have H11 := Hi ((U H10).trans h11);replace HK5 := Hi ((U HK5).fz (U H10).1 h11);clear h11;have hR11 : (.ok [a11] s11 : Res (List Nat)) = R := U HR11;subst hR11;go_wp2;go_ret;exact ⟨rfl, nv11, U H11⟩
          )
theorem RdAt.ten {W : World} {M : Nat} {tv : Value} {n : Nat} {t : Tok} {nv lv cv bv : Value} (h : RdAt W M tv n t nv lv cv bv) : W.cell? ⟨M, 0, none⟩ = some tv ∧ W.cell? ⟨M, 1, none⟩ = some (.int .i64 (n : Int)) ∧ W.cell? ⟨M, 2, none⟩ = some (.int .i64 t.1) ∧ W.cell? ⟨M, 3, none⟩ = some (.string (strOfNums t.2.1)) ∧ W.cell? ⟨M, 4, none⟩ = some (.int .i64 (t.2.2.1 : Int)) ∧ W.cell? ⟨M, 5, none⟩ = some (.int .i64 (t.2.2.2 : Int)) ∧ W.cell? ⟨M, 6, none⟩ = some nv ∧ W.cell? ⟨M, 7, none⟩ = some lv ∧ W.cell? ⟨M, 8, none⟩ = some cv ∧ W.cell? ⟨M, 9, none⟩ = some bv := by
 have h' : W.heap[M]? = some (.cells (rdC tv n t nv lv cv bv) 72) := h;simp [World.cell?, h', rdC]
theorem region_C {P : Program} {C : World → Prop} {id : Nat} {Q : Exit → Act → World → Prop} {a : Act} {w : World} {l : List Oper} (hm : P.follows .mixedOrders = true) (hB : Region.lexB .any l.toArray = true) (hC : C { w with drawn := w.drawn + 1 })
 (h : wpQuiet P l.toArray C (fun a' => ∀ w', C w' → Q .normal a' w') l a) : (Code.region id l.toArray true).wp P Q a w :=
 wp_region_quiet (C := C) hm hB hC (by simpa using h)
theorem ten_of {W : World} {B : Nat} {x0 x1 x2 x3 x4 x5 x6 x7 x8 x9 : Value} {t : Nat} {fr : Nat × Nat} (h : W.heap[B]? = some (.cells #[x0, x1, x2, x3, x4, x5, x6, x7, x8, x9] t fr)) : W.cell? ⟨B, 0, none⟩ = some x0 ∧ W.cell? ⟨B, 1, none⟩ = some x1 ∧ W.cell? ⟨B, 2, none⟩ = some x2 ∧ W.cell? ⟨B, 3, none⟩ = some x3 ∧ W.cell? ⟨B, 4, none⟩ = some x4 ∧ W.cell? ⟨B, 5, none⟩ = some x5 ∧ W.cell? ⟨B, 6, none⟩ = some x6 ∧ W.cell? ⟨B, 7, none⟩ = some x7 ∧ W.cell? ⟨B, 8, none⟩ = some x8 ∧ W.cell? ⟨B, 9, none⟩ = some x9 := by
 simp [World.cell?, h]
theorem RAt.forms {E : En} {nv : Value} {s : PS} {W : World} (h : RAt E nv s W) : (∃ a n c, E.tv = .slice a n c) ∧ (∃ a n c, nv = .slice a n c) ∧ (∃ a n c, E.lv = .slice a n c) ∧ (∃ a n c, E.cv = .slice a n c) := by
 refine ⟨?_, ?_, ?_, ?_⟩
 · obtain ⟨tb, cap, e, _⟩ := h.tk
   exact ⟨_, _, _, e⟩
 · obtain ⟨kvs, h1, h2, h3⟩ := h.nd
   rcases h2.2 with ⟨e, _⟩ | ⟨g, cap, cur, e, _⟩
   · exact ⟨_, _, _, e⟩
   · exact ⟨_, _, _, e⟩
 · obtain ⟨lb, cap, cur, t, fr, _, _, _, e, _⟩ := h.lv
   exact ⟨_, _, _, e⟩
 · obtain ⟨cb, cap, cur, fr, e, _⟩ := h.cl
   exact ⟨_, _, _, e⟩
def ctP (c : Cx) (r : Res (List Nat)) (s : PS) : Res (List Nat) := match r with
 | .ok l s' => if isP [40] s' then .ok l s' else .ok [] { s with nc := s'.nc }
 | .no s' => .ok [] { s with nc := s'.nc }
 | .out => .out
theorem ct_stay {E : En} {nv nv' : Value} {s s' : PS} {A B : World} {k t : Nat} {cs : Array Value} (hl : Lf E nv s A nv' s' B) (h : A.heap[k]? = some (.cells cs t)) (h1 : t ≠ 34) (h2 : t ≠ 4) (hM : k ≠ E.M) : B.heap[k]? = some (.cells cs t) := by
 have ht : tyOf A k = t := by simp [tyOf, h]
 exact (hl.2.1.block k (Array.getElem?_eq_some_iff.1 h).1 hM (by rw [ht]; exact h1) (by rw [ht]; exact h2)).trans h
theorem ct_ty {E : En} {nv nv' : Value} {s s' : PS} {A B : World} {g : Nat} {cs : Array Value} (hl : Lf (E.off g) nv s A nv' s' B) (h : A.heap[g]? = some (.cells cs 3)) (hM : g ≠ E.M) : tyOf B g = 3 := by
 simp [tyOf, ct_stay hl h (by decide) (by decide) hM]
theorem ct_set {E : En} {nv nv' : Value} {s s' : PS} {A B C : World} {g : Nat} {v v' : Value} (hl : Lf (E.off g) nv s A nv' s' B) (h : A.heap[g]? = some (.cells #[v] 3)) (hM : g ≠ E.M) (hb : Below (B.setCell ⟨g, 0, none⟩ v').heap.size (B.setCell ⟨g, 0, none⟩ v') C) : C.heap[g]? = some (.cells #[v'] 3) := by
 have h1 := ct_stay hl h (by decide) (by decide) hM;have h2 : (B.setCell ⟨g, 0, none⟩ v').heap[g]? = some (.cells #[v'] 3) := by simp [World.setCell, Array.getElem?_modify, h1]
 exact (hb.block g (Array.getElem?_eq_some_iff.1 h2).1).trans h2
theorem ct_keep {E : En} {nv nv' : Value} {s s' : PS} {A B C : World} {g k t : Nat} {cs : Array Value} {v' : Value} (hl : Lf (E.off g) nv s A nv' s' B) (h : A.heap[k]? = some (.cells cs t)) (h1 : t ≠ 34) (h2 : t ≠ 4) (hM : k ≠ (E.off g).M) (hg : k ≠ g) (hb : Below (B.setCell ⟨g, 0, none⟩ v').heap.size (B.setCell ⟨g, 0, none⟩ v') C) : C.heap[k]? = some (.cells cs t) := by
 have h3 : (B.setCell ⟨g, 0, none⟩ v').heap[k]? = some (.cells cs t) := (keep_set hg).trans (ct_stay hl h h1 h2 hM);exact (hb.block k (Array.getElem?_eq_some_iff.1 h3).1).trans h3
theorem ct_lf {E : En} {nv nv' : Value} {s s' : PS} {W w1 w2 wB A : World} (h : Lf E nv s W nv s w1) (hb : Below w1.heap.size w1 w2) (hg : w1.heap.size + 1 < w2.heap.size) (hl : Lf (E.off (w1.heap.size + 1)) nv s w2 nv' s' wB) (ht : tyOf wB (w1.heap.size + 1) = 3) (hA : FrP (fun k => k = w1.heap.size + 1) wB A) : Lf E nv s W nv' s' A := by
 have hs1 := h.2.1.size;have hs2 := hl.2.1.size;have hk : ∀ k, k < wB.heap.size → k ≠ w1.heap.size + 1 → A.heap[k]? = wB.heap[k]? := fun k hk hn => hA.block k hk hn
 have hR : RAt (E.off (w1.heap.size + 1)) nv' s' A := RAt.grow h.1 (by omega) ht hl.1 hA.size hk;refine ⟨hR.on, ?_, fun u l' o => ?_⟩
 · have h1 : Fz E.M E.lo W wB := (h.2.1.trans (below_fz hb)).trans hl.2.1
   exact ⟨hA.os.trans h1.os, hA.tape.trans h1.tape, hA.output.trans h1.output, Nat.le_trans h1.size hA.size, fun k hk' a b c => (hk k (by omega) (by omega)).trans (h1.block k hk' a b c), fun k hk' a => (hk k (by omega) (by omega)).trans (h1.low k hk' a)⟩
 · have o1 : OldOf (E.off (w1.heap.size + 1)).Z w1 nv s.nodes u l' := (h.2.2 u l' o).lt fun k hk' hn hz => hz.elim hn fun e => by omega
   have o2 := hl.2.2 u l' (o1.below hb);exact OldOf.lt (Z := (E.off (w1.heap.size + 1)).Z) ⟨NdRow.grow (Z := E.Z) o2.1 ht hk, o2.2⟩ fun k _ hn hz => hn (.inl hz)
theorem ct_back {E : En} {nv nv' : Value} {s s' : PS} {W A : World} (h : RAt E nv s W) (hl : Lf E nv s W nv' s' A) : Lf E nv s W nv { s with nc := s'.nc } ((((((((((A.setCell ⟨E.M, 0, none⟩ E.tv).setCell ⟨E.M, 1, none⟩ (.int .i64 (s.n : Int))).setCell ⟨E.M, 2, none⟩ (.int .i64 s.tk.1)).setCell ⟨E.M, 3, none⟩ (.string (strOfNums s.tk.2.1))).setCell ⟨E.M, 4, none⟩ (.int .i64 (s.tk.2.2.1 : Int))).setCell ⟨E.M, 5, none⟩ (.int .i64 (s.tk.2.2.2 : Int))).setCell ⟨E.M, 6, none⟩ nv).setCell ⟨E.M, 7, none⟩ E.lv).setCell ⟨E.M, 8, none⟩ E.cv).setCell ⟨E.M, 9, none⟩ E.bv) := by
 have hR : A.heap[E.M]? = some (.cells (rdC E.tv s'.n s'.tk nv' E.lv E.cv E.bv) 72) := hl.1.rd;have hF := ((((((((((FrP.refl (fun k => k = E.M) A).set E.M 0 E.tv rfl).set E.M 1 (.int .i64 (s.n : Int)) rfl).set E.M 2 (.int .i64 s.tk.1) rfl).set E.M 3 (.string (strOfNums s.tk.2.1)) rfl).set E.M 4 (.int .i64 (s.tk.2.2.1 : Int)) rfl).set E.M 5 (.int .i64 (s.tk.2.2.2 : Int)) rfl).set E.M 6 nv rfl).set E.M 7 E.lv rfl).set E.M 8 E.cv rfl).set E.M 9 E.bv rfl
 have hRd : RdAt ((((((((((A.setCell ⟨E.M, 0, none⟩ E.tv).setCell ⟨E.M, 1, none⟩ (.int .i64 (s.n : Int))).setCell ⟨E.M, 2, none⟩ (.int .i64 s.tk.1)).setCell ⟨E.M, 3, none⟩ (.string (strOfNums s.tk.2.1))).setCell ⟨E.M, 4, none⟩ (.int .i64 (s.tk.2.2.1 : Int))).setCell ⟨E.M, 5, none⟩ (.int .i64 (s.tk.2.2.2 : Int))).setCell ⟨E.M, 6, none⟩ nv).setCell ⟨E.M, 7, none⟩ E.lv).setCell ⟨E.M, 8, none⟩ E.cv).setCell ⟨E.M, 9, none⟩ E.bv) E.M E.tv s.n s.tk nv E.lv E.cv E.bv := by
  unfold RdAt;simp [World.setCell, Array.getElem?_modify, hR, rdC]
 obtain ⟨A', hA'⟩ : ∃ x, ((((((((((A.setCell ⟨E.M, 0, none⟩ E.tv).setCell ⟨E.M, 1, none⟩ (.int .i64 (s.n : Int))).setCell ⟨E.M, 2, none⟩ (.int .i64 s.tk.1)).setCell ⟨E.M, 3, none⟩ (.string (strOfNums s.tk.2.1))).setCell ⟨E.M, 4, none⟩ (.int .i64 (s.tk.2.2.1 : Int))).setCell ⟨E.M, 5, none⟩ (.int .i64 (s.tk.2.2.2 : Int))).setCell ⟨E.M, 6, none⟩ nv).setCell ⟨E.M, 7, none⟩ E.lv).setCell ⟨E.M, 8, none⟩ E.cv).setCell ⟨E.M, 9, none⟩ E.bv) = x := ⟨_, rfl⟩;rw [hA'] at hF hRd ⊢;have hM := hl.1.mty;have hkeep : ∀ k t, tyOf A k = t → t ≠ 0 → t ≠ 72 → A'.heap[k]? = A.heap[k]? := fun k t e h0 h1 => hF.block k (ty_lt e h0) fun e' => by subst e'; omega
 have h34 : ∀ k, tyOf A k = 34 ∨ tyOf A k = 3 → A'.heap[k]? = A.heap[k]? := fun k e => by
  rcases e with e | e
  · exact hkeep k 34 e (by omega) (by omega)
  · exact hkeep k 3 e (by omega) (by omega)
 have hz : Fz E.M E.lo W A' := hl.2.1.trans (fr_fz hF (fun k e => .inl e) (fun k e => by rw [e]; exact h.lo.1));exact ⟨h.again (s' := { s with nc := s'.nc }) hz hRd (hl.1.nc.keep fun k e => hkeep k 4 e (by omega) (by omega)) ((hl.2.2 nv s.nodes (OldOf.self h.nd)).1.keep h34) h.by' ⟨h.le.1, hl.1.le.2.1, h.le.2.2⟩ h.lo.2.1, hz, fun u l' o => ⟨((hl.2.2 u l' o).1).keep h34, o.2⟩⟩
theorem call1_any {E : En} {n : Nat} {nv : Value} {s : PS} {w2 : World} {B0 : Nat} (IG : ∀ Z, IHA { E with Z := Z } n .typeArgs 202 #[.pointer (some ⟨E.M, 0, none⟩)]) (g : Nat) (h : RAt (E.off g) nv s w2) (kb : w2.heap[B0]? = some (.cells #[.pointer (some ⟨E.M, 0, none⟩)] 51)) (k2 : w2.heap[g]? = some (.cells #[.int .i64 0] 3)) (hp : parP E.c n .typeArgs s ≠ .out) :
 Calls Tryz.prog 251 (#[] ++ #[.pointer (some ⟨B0, 0, none⟩), .pointer (some ⟨g, 0, none⟩)]) w2 (AttQ (fun w => ∃ l s' nv' wB, parP E.c n .typeArgs s = .ok l s' ∧ Lf (E.off g) nv s w2 nv' s' wB ∧ w = wB.setCell ⟨g, 0, none⟩ (.int .i64 (hd0 l : Int))) (fun w => ∃ s' nv', parP E.c n .typeArgs s = .no s' ∧ Lf (E.off g) nv s w2 nv' s' w)) := by
 have HC := Hi (IG (E.off g).Z nv s w2 h hp)
 have hM : g ≠ E.M := fun e => by
  have h1 : tyOf w2 E.M = 72 := RAt.mty (E := E.off g) h;rw [← e] at h1;simp [tyOf, k2] at h1
 have c0 : w2.cell? ⟨B0, 0, none⟩ = some (.pointer (some ⟨E.M, 0, none⟩)) := by simp [World.cell?, kb]
 have hB0 := World.block_lt_of_cell? w2 _ c0;have HK2 := Hi k2;have HM := Hi hM;clear h kb k2 IG hM;cases hq : parP E.c n .typeArgs s with
 | out => exact absurd hq hp
 | no s' =>
   replace HC := rn HC hq;have HQ := Hi hq;clear hq hp;go_enter Tryz.func251, Tryz.ntmps251;go_wp2_with (go_at_call 202; refine (U HC).mono ?_)
   first | rintro e w3 rfl nv3 h3 | rintro e w3 ⟨rfl, nv3, h3⟩
   have H3 := Hi h3;clear h3;go_wp2;exact ⟨rfl, .inr ⟨rfl, s', nv3, rfl, U H3⟩⟩
 | ok l s' =>
   replace HC := ro HC hq;clear hq hp;go_enter Tryz.func251, Tryz.ntmps251;go_wp2_with (go_at_call 202; refine (U HC).mono ?_)
   first | rintro e w3 rfl nv3 h3 | rintro e w3 ⟨rfl, nv3, h3⟩
   have k3 := ct_stay h3 (U HK2) (by decide) (by decide) (U HM);have x3 : w3.cell? ⟨g, 0, none⟩ = some (.int .i64 0) := by simp [World.cell?, k3]
   have f3 : w3.frozen? ⟨g, 0, none⟩ = false := by simp [World.frozen?, k3]
   have hg3 := World.block_lt_of_cell? w3 _ x3;have H3 := Hi h3;clear h3 k3;go_wp2;exact bodyPost_end (results_none rfl _ _ _) rfl (.inl ⟨rfl, l, s', nv3, w3, rfl, U H3, rfl⟩)
theorem callTypes_step {E : En} (hE : E.Ok) {n : Nat} (IG : ∀ Z, IHA { E with Z := Z } n .typeArgs 202 #[.pointer (some ⟨E.M, 0, none⟩)]) : IHC E (n + 1) := by
 intro nv s W h hne;obtain ⟨R, hR⟩ : ∃ R, parP E.c (n + 1) .callTypes s = R := ⟨_, rfl⟩;rw [hR] at hne ⊢;simp only [parP, bodyP] at hR;obtain ⟨b1, hb1⟩ : ∃ b, isP [40] s = b := ⟨_, rfl⟩;obtain ⟨b2, hb2⟩ : ∃ b, isP [60] s = b := ⟨_, rfl⟩;obtain ⟨bn, hbn⟩ : ∃ b, s.nc.getD s.n false = b := ⟨_, rfl⟩;rw [hb1, hb2, hbn] at hR;obtain ⟨nb, cap9, ebv, q1, q2, hMn, hst⟩ := set_state h;have hnl : s.n < s.nc.length := by rw [h.le.2.1]; exact h.le.1
 have hcell := (hst s.n true hnl).1;rw [hbn] at hcell;have e9 := h.rd.rest.2.2;rw [ebv] at e9;have e1 := h.rd.two.2;unfold maxLen at q2;obtain ⟨W0, hW0⟩ : ∃ x, W.alloc (.cells #[.pointer (some ⟨E.M, 0, none⟩)] 51) = x := ⟨_, rfl⟩;have hB0 : Below W.heap.size W W0 := by rw [← hW0]; exact (Below.refl _ W).alloc NL _
 have hbx : W0.heap[W.heap.size]? = some (.cells #[.pointer (some ⟨E.M, 0, none⟩)] 51) := by rw [← hW0]; exact World.alloc_heap_new W _
 have hws : W.heap.size < W0.heap.size := (Array.getElem?_eq_some_iff.1 hbx).1;have hnbW : nb < W.heap.size := World.block_lt_of_cell? W _ hcell;have hml := h.rd.lt;have hml0 : E.M < W0.heap.size := by omega
 have HL0 := Hi ((Lf.refl h).below hB0)
 have HSS : Hid (∀ w', Below W0.heap.size W0 w' → w'.cell? ⟨W.heap.size, 0, none⟩ = some (.pointer (some ⟨E.M, 0, none⟩)) ∧ w'.cell? ⟨E.M, 9, none⟩ = some (.slice (some ⟨nb, 0, none⟩) s.nc.length cap9) ∧ w'.cell? ⟨E.M, 1, none⟩ = some (.int .i64 (s.n : Int)) ∧ w'.cell? ⟨nb, s.n, none⟩ = some (.bool bn)) := fun w' hw => by
  have hbw : Below W.heap.size W w' := hB0.trans (hw.mono hB0.size);refine ⟨?_, (hbw.cell (p := ⟨E.M, 9, none⟩) hml).trans e9, (hbw.cell (p := ⟨E.M, 1, none⟩) hml).trans e1, (hbw.cell (p := ⟨nb, s.n, none⟩) hnbW).trans hcell⟩;have := (hw.block _ hws).trans hbx;simp [World.cell?, this]
 have HI1 : Hid (∀ w', Below W0.heap.size W0 w' → Calls Tryz.prog 92 #[.pointer (some ⟨E.M, 0, none⟩), .string ⟨#[40]⟩] w' fun e w'' => e = .returned (.bool b1) ∧ Below w'.heap.size w' w'') := fun w' hw => by
  have hbw : Below W.heap.size W w' := hB0.trans (hw.mono hB0.size);have := ris_any E.M E.tv s.n s.tk nv E.lv E.cv E.bv w' (h.below hbw).rd h.by' ⟨#[40]⟩ [40] ⟨rfl, by intro z hz; simp at hz; omega⟩
  rw [show isT s.tk [40] = b1 from hb1] at this;exact this
 have HI2 : Hid (∀ w', Below W0.heap.size W0 w' → Calls Tryz.prog 92 #[.pointer (some ⟨E.M, 0, none⟩), .string ⟨#[60]⟩] w' fun e w'' => e = .returned (.bool b2) ∧ Below w'.heap.size w' w'') := fun w' hw => by
  have hbw : Below W.heap.size W w' := hB0.trans (hw.mono hB0.size);have := ris_any E.M E.tv s.n s.tk nv E.lv E.cv E.bv w' (h.below hbw).rd h.by' ⟨#[60]⟩ [60] ⟨rfl, by intro z hz; simp at hz; omega⟩
  rw [show isT s.tk [60] = b2 from hb2] at this;exact this
 obtain ⟨⟨ta, tn, tc, etv⟩, ⟨na, nn, ncap, env⟩, ⟨la, ln, lc, elv⟩, ⟨ca, cn, cc, ecv⟩⟩ := h.forms;have HFO := Hi (And.intro etv (And.intro env (And.intro elv (And.intro ecv ebv))));clear etv env elv ecv;have HBX := Hi hbx;have HWS := Hi hws;have HIG := Hi IG;have HE := Hi hE;clear hcell e9 e1 hbx hst hb1 hb2 hbn hE IG ebv hB0 hMn hws;cases b1 with
 | false =>
   cases b2 with
   | false =>
     have hR1 : (.ok [] s : Res (List Nat)) = R := hR;subst hR1;clear h hR hne;go_enter Tryz.func227, Tryz.ntmps227;go_wp2;try rw [hW0]
     refine region_C (C := fun w' => Below W0.heap.size W0 w') (by kernel_rfl) (by kernel_rfl) (Below.refl _ _).drew ?_
     repeat (first
      | go_big_quiet_skip
      | (go_big_quiet_want
         go_big_quiet_op
         first
          | go_big_quiet_on
          | (apply Exists.intro
             refine ⟨fun w hw => ?_, ?_⟩
             first
              | rfl
              | with_reducible exact (U HI1 w hw).mono fun e w2 h => ⟨h.1, hw.trans (h.2.mono hw.size)⟩
              | with_reducible exact (U HI2 w hw).mono fun e w2 h => ⟨h.1, hw.trans (h.2.mono hw.size)⟩
              | (obtain ⟨g0, g1, g2, g3⟩ := U HSS w hw
                 have hgM : E.M < w.heap.size := Nat.lt_of_lt_of_le hml0 hw.size;go_simp
                 first | done | rfl | exact ⟨rfl, rfl⟩)
             go_big_quiet_on)))
     refine wpQuiet_nil ?_;intro w1 hw1;have HW1 := Hi hw1;clear hw1;go_wp2;refine bodyPost_ret (v := .tuple #[.int .i64 0, .bool false]) (by simp [results, Tryz.results227, go_sem]) rfl ⟨rfl, nv, ?_⟩;exact (U HL0).below (U HW1)
   | true =>
     cases bn with
     | true =>
       have hR1 : (.ok [] s : Res (List Nat)) = R := hR;subst hR1;clear h hR hne;go_enter Tryz.func227, Tryz.ntmps227;go_wp2;try rw [hW0]
       refine region_C (C := fun w' => Below W0.heap.size W0 w') (by kernel_rfl) (by kernel_rfl) (Below.refl _ _).drew ?_
       repeat (first
        | go_big_quiet_skip
        | (go_big_quiet_want
           go_big_quiet_op
           first
            | go_big_quiet_on
            | (apply Exists.intro
               refine ⟨fun w hw => ?_, ?_⟩
               first
                | rfl
                | with_reducible exact (U HI1 w hw).mono fun e w2 h => ⟨h.1, hw.trans (h.2.mono hw.size)⟩
                | with_reducible exact (U HI2 w hw).mono fun e w2 h => ⟨h.1, hw.trans (h.2.mono hw.size)⟩
                | (obtain ⟨g0, g1, g2, g3⟩ := U HSS w hw
                   have hgM : E.M < w.heap.size := Nat.lt_of_lt_of_le hml0 hw.size;go_simp
                   first | done | rfl | exact ⟨rfl, rfl⟩)
               go_big_quiet_on)))
       refine wpQuiet_nil ?_;intro w1 hw1;have HW1 := Hi hw1;clear hw1;go_wp2;refine bodyPost_ret (v := .tuple #[.int .i64 0, .bool false]) (by simp [results, Tryz.results227, go_sem]) rfl ⟨rfl, nv, ?_⟩;exact (U HL0).below (U HW1)
     | false =>
       have hR1 : ctP E.c (parP E.c n .typeArgs s) s = R := hR;clear hR;have HH := Hi h;clear h;have hp : parP E.c n .typeArgs s ≠ .out := fun e => by rw [e] at hR1; exact hne hR1.symm
       go_enter Tryz.func227, Tryz.ntmps227;go_wp2;try rw [hW0]
       refine region_C (C := fun w' => Below W0.heap.size W0 w') (by kernel_rfl) (by kernel_rfl) (Below.refl _ _).drew ?_
       repeat (first
        | go_big_quiet_skip
        | (go_big_quiet_want
           go_big_quiet_op
           first
            | go_big_quiet_on
            | (apply Exists.intro
               refine ⟨fun w hw => ?_, ?_⟩
               first
                | rfl
                | with_reducible exact (U HI1 w hw).mono fun e w2 h => ⟨h.1, hw.trans (h.2.mono hw.size)⟩
                | with_reducible exact (U HI2 w hw).mono fun e w2 h => ⟨h.1, hw.trans (h.2.mono hw.size)⟩
                | (obtain ⟨g0, g1, g2, g3⟩ := U HSS w hw
                   have hgM : E.M < w.heap.size := Nat.lt_of_lt_of_le hml0 hw.size;go_simp
                   first | done | rfl | exact ⟨rfl, rfl⟩)
               go_big_quiet_on)))
       refine wpQuiet_nil ?_;intro w1 hw1;have HW1 := Hi hw1;clear hw1;obtain ⟨g0, g1, g2, g3⟩ := U HSS w1 (U HW1);have HL1 := Hi ((U HL0).below (U HW1));obtain ⟨r0, r1, r2, r3, r4, r5, r6, r7, r8, r9⟩ := (U HL1).1.rd.ten;obtain ⟨etv, env, elv, ecv, ebv⟩ := U HFO;rw [etv] at r0;rw [env] at r6;rw [elv] at r7;rw [ecv] at r8;rw [ebv] at r9;clear etv env elv ecv ebv;have hml1 := (U HL1).1.rd.lt;have HB1 := Hi (show W.heap.size < w1.heap.size from Nat.lt_of_lt_of_le (U HWS) (U HW1).size);obtain ⟨w2, hw2⟩ : ∃ x, (w1.alloc (.cells #[.slice ta tn tc, .int .i64 (s.n : Int), .int .i64 s.tk.1, .string (strOfNums s.tk.2.1), .int .i64 (s.tk.2.2.1 : Int), .int .i64 (s.tk.2.2.2 : Int), .slice na nn ncap, .slice la ln lc, .slice ca cn cc, .slice (some ⟨nb, 0, none⟩) s.nc.length cap9] 72)).alloc (.cells #[.int .i64 0] 3) = x := ⟨_, rfl⟩;have hb2 : Below w1.heap.size w1 w2 := by rw [← hw2]; exact ((Below.refl _ w1).alloc NL _).alloc (by simp) _
       have k1 : w2.heap[w1.heap.size]? = some (.cells #[.slice ta tn tc, .int .i64 (s.n : Int), .int .i64 s.tk.1, .string (strOfNums s.tk.2.1), .int .i64 (s.tk.2.2.1 : Int), .int .i64 (s.tk.2.2.2 : Int), .slice na nn ncap, .slice la ln lc, .slice ca cn cc, .slice (some ⟨nb, 0, none⟩) s.nc.length cap9] 72) := by
        rw [← hw2];exact (((Below.refl _ (w1.alloc _)).alloc NL _).block w1.heap.size (by simp)).trans (World.alloc_heap_new w1 _)
       have k2 : w2.heap[w1.heap.size + 1]? = some (.cells #[.int .i64 0] 3) := by
        rw [← hw2];have := World.alloc_heap_new (w1.alloc (.cells #[.slice ta tn tc, .int .i64 (s.n : Int), .int .i64 s.tk.1, .string (strOfNums s.tk.2.1), .int .i64 (s.tk.2.2.1 : Int), .int .i64 (s.tk.2.2.2 : Int), .slice na nn ncap, .slice la ln lc, .slice ca cn cc, .slice (some ⟨nb, 0, none⟩) s.nc.length cap9] 72)) (.cells #[.int .i64 0] 3);rw [World.size_alloc] at this;exact this
       have kb : w2.heap[W.heap.size]? = some (.cells #[.pointer (some ⟨E.M, 0, none⟩)] 51) := (hb2.block _ (U HB1)).trans (((U HW1).block _ (U HWS)).trans (U HBX));have hR2 : RAt (E.off (w1.heap.size + 1)) nv s w2 := (U HL1).1.off hb2 (by omega) (Array.getElem?_eq_some_iff.1 k2).1;have HATT := Hi (attempt_any 251 #[] #[.pointer (some ⟨W.heap.size, 0, none⟩), .pointer (some ⟨w1.heap.size + 1, 0, none⟩)] w2 _ _ (fun args w => by kernel_rfl) (call1_any (U HIG) (w1.heap.size + 1) hR2 kb k2 hp));have HB2 := Hi hb2;have HK1 := Hi k1;have HK2 := Hi k2;have HKB := Hi kb;have hB12 : w1.heap.size + 1 < w2.heap.size := (Array.getElem?_eq_some_iff.1 k2).1;obtain ⟨BX, hBX⟩ : ∃ x, W.heap.size = x := ⟨_, rfl⟩;obtain ⟨C1, hC1⟩ : ∃ x, w1.heap.size = x := ⟨_, rfl⟩;clear hb2 k1 k2 kb g1 g2 g3 hR2 hBX hC1;rw [← hw2] at HATT;have HW2 := Hi hw2;clear hw2;go_wp2_with (go_at_call 27; refine (U HATT).mono ?_);rintro e w3 (⟨rfl, wA, hA, hbA⟩ | ⟨rfl, wA, hA, hbA⟩)
       · rw [U HW2] at hA
         obtain ⟨l, s', nv', wB, hq, hl, rfl⟩ := hA;obtain ⟨y, rfl⟩ := typeArgs_one _ _ _ _ _ hq;have htB := ct_ty hl (U HK2) (by omega);have hLA := ct_lf (U HL1) (U HB2) hB12 hl htB ((FrP.refl (fun k => k = w1.heap.size + 1) wB).set (w1.heap.size + 1) 0 (.int .i64 (hd0 [y] : Int)) rfl);have HLA := Hi (hLA.below hbA);have v2 : w3.heap[w1.heap.size + 1]? = some (.cells #[.int .i64 (hd0 [y] : Int)] 3) := ct_set hl (U HK2) (by omega) hbA;have v1 : w3.heap[w1.heap.size]? = some (.cells #[.slice ta tn tc, .int .i64 (s.n : Int), .int .i64 s.tk.1, .string (strOfNums s.tk.2.1), .int .i64 (s.tk.2.2.1 : Int), .int .i64 (s.tk.2.2.2 : Int), .slice na nn ncap, .slice la ln lc, .slice ca cn cc, .slice (some ⟨nb, 0, none⟩) s.nc.length cap9] 72) := ct_keep hl (U HK1) (by decide) (by decide) (by rw [show (E.off (w1.heap.size + 1)).M = E.M from rfl]; omega) (by omega) hbA;have v0 : w3.heap[W.heap.size]? = some (.cells #[.pointer (some ⟨E.M, 0, none⟩)] 51) := ct_keep hl (U HKB) (by decide) (by decide) (by rw [show (E.off (w1.heap.size + 1)).M = E.M from rfl]; omega) (by have := U HB1; omega) hbA;have x2 : w3.cell? ⟨w1.heap.size + 1, 0, none⟩ = some (.int .i64 (y : Int)) := by simp [World.cell?, v2, hd0]
         have x0 : w3.cell? ⟨W.heap.size, 0, none⟩ = some (.pointer (some ⟨E.M, 0, none⟩)) := by simp [World.cell?, v0]
         obtain ⟨y0, y1, y2, y3, y4, y5, y6, y7, y8, y9⟩ := ten_of v1;rw [hq] at hR1;obtain ⟨bb, hbb⟩ : ∃ b, isP [40] s' = b := ⟨_, rfl⟩;have hR3 : (if bb = true then Res.ok [y] s' else .ok [] { s with nc := s'.nc }) = R := by rw [← hR1, ← hbb]; rfl
         have HCI := Hi (ris_any E.M E.tv s'.n s'.tk nv' E.lv E.cv E.bv w3 (U HLA).1.rd (U HLA).1.by' ⟨#[40]⟩ [40] ⟨rfl, by intro z hz; simp at hz; omega⟩);rw [show isT s'.tk [40] = bb from hbb] at HCI;have HV0 := Hi v0;have HV1 := Hi v1;have HV2 := Hi v2;clear hq hl htB hLA hbA hbb v0 v1 v2 hR1 hp;cases bb with
         | true =>
           have hR4 : (.ok [y] s' : Res (List Nat)) = R := hR3;subst hR4;clear hR3;go_wp2_with (go_at_call 92; refine (U HCI).mono ?_)
           first | rintro e w4 rfl h4 | rintro e w4 ⟨rfl, h4⟩
           have z2 : w4.cell? ⟨w1.heap.size + 1, 0, none⟩ = some (.int .i64 (y : Int)) := by simp [World.cell?, (h4.block _ (Array.getElem?_eq_some_iff.1 (U HV2)).1).trans (U HV2), hd0]
           have hz2 := World.block_lt_of_cell? w4 _ z2;have H4 := Hi ((U HLA).below h4);clear h4;go_wp2;exact bodyPost_ret (v := .tuple #[.int .i64 (y : Int), .bool true]) (by simp [results, Tryz.results227, go_sem]) rfl ⟨rfl, nv', U H4⟩
         | false =>
           have hR4 : (.ok [] { s with nc := s'.nc } : Res (List Nat)) = R := hR3;subst hR4;clear hR3;go_wp2_with (go_at_call 92; refine (U HCI).mono ?_)
           first | rintro e w4 rfl h4 | rintro e w4 ⟨rfl, h4⟩
           have H4 := Hi ((U HLA).below h4);have z0 : w4.cell? ⟨W.heap.size, 0, none⟩ = some (.pointer (some ⟨E.M, 0, none⟩)) := by simp [World.cell?, (h4.block _ (Array.getElem?_eq_some_iff.1 (U HV0)).1).trans (U HV0)]
           have v1' := (h4.block _ (Array.getElem?_eq_some_iff.1 (U HV1)).1).trans (U HV1);clear h4;obtain ⟨y0, y1, y2, y3, y4, y5, y6, y7, y8, y9⟩ := ten_of v1';have hyl : w1.heap.size < w4.heap.size := (Array.getElem?_eq_some_iff.1 v1').1;have hml4 := (U H4).1.rd.lt;obtain ⟨p0, p1, p2, p3, p4, p5, p6, p7, p8, p9⟩ := (U H4).1.rd.ten;have f0 := (U H4).1.rd.free 0;have f1 := (U H4).1.rd.free 1;have f2 := (U H4).1.rd.free 2;have f3 := (U H4).1.rd.free 3;have f4 := (U H4).1.rd.free 4;have f5 := (U H4).1.rd.free 5;have f6 := (U H4).1.rd.free 6;have f7 := (U H4).1.rd.free 7;have f8 := (U H4).1.rd.free 8;have f9 := (U H4).1.rd.free 9;clear v1';go_wp2;refine bodyPost_ret (v := .tuple #[.int .i64 0, .bool false]) (by simp [results, Tryz.results227, go_sem]) rfl ⟨rfl, nv, ?_⟩;have hbk := ct_back (U HH) (U H4);obtain ⟨etv, env, elv, ecv, ebv⟩ := U HFO;rw [etv, env, elv, ecv, ebv] at hbk;rw [env];exact hbk
       · rw [U HW2] at hA
         obtain ⟨s', nv', hq, hl⟩ := hA;have htB := ct_ty hl (U HK2) (by omega);have hLA := ct_lf (U HL1) (U HB2) hB12 hl htB (FrP.refl (fun k => k = w1.heap.size + 1) wA);have H4 := Hi (hLA.below hbA);have v1' : w3.heap[w1.heap.size]? = some (.cells #[.slice ta tn tc, .int .i64 (s.n : Int), .int .i64 s.tk.1, .string (strOfNums s.tk.2.1), .int .i64 (s.tk.2.2.1 : Int), .int .i64 (s.tk.2.2.2 : Int), .slice na nn ncap, .slice la ln lc, .slice ca cn cc, .slice (some ⟨nb, 0, none⟩) s.nc.length cap9] 72) := (hbA.block _ (by have := hl.2.1.size; omega)).trans (ct_stay hl (U HK1) (by decide) (by decide) (by rw [show (E.off (w1.heap.size + 1)).M = E.M from rfl]; omega));have v0 : w3.heap[W.heap.size]? = some (.cells #[.pointer (some ⟨E.M, 0, none⟩)] 51) := (hbA.block _ (by have := hl.2.1.size; have := U HB1; omega)).trans (ct_stay hl (U HKB) (by decide) (by decide) (by rw [show (E.off (w1.heap.size + 1)).M = E.M from rfl]; omega));have z0 : w3.cell? ⟨W.heap.size, 0, none⟩ = some (.pointer (some ⟨E.M, 0, none⟩)) := by simp [World.cell?, v0]
         rw [hq] at hR1;have hR4 : (.ok [] { s with nc := s'.nc } : Res (List Nat)) = R := hR1;subst hR4;clear hq hl htB hLA hbA v0 hR1 hp;obtain ⟨y0, y1, y2, y3, y4, y5, y6, y7, y8, y9⟩ := ten_of v1';have hyl : w1.heap.size < w3.heap.size := (Array.getElem?_eq_some_iff.1 v1').1;have hml4 := (U H4).1.rd.lt;obtain ⟨p0, p1, p2, p3, p4, p5, p6, p7, p8, p9⟩ := (U H4).1.rd.ten;have f0 := (U H4).1.rd.free 0;have f1 := (U H4).1.rd.free 1;have f2 := (U H4).1.rd.free 2;have f3 := (U H4).1.rd.free 3;have f4 := (U H4).1.rd.free 4;have f5 := (U H4).1.rd.free 5;have f6 := (U H4).1.rd.free 6;have f7 := (U H4).1.rd.free 7;have f8 := (U H4).1.rd.free 8;have f9 := (U H4).1.rd.free 9;clear v1';go_wp2;refine bodyPost_ret (v := .tuple #[.int .i64 0, .bool false]) (by simp [results, Tryz.results227, go_sem]) rfl ⟨rfl, nv, ?_⟩;have hbk := ct_back (U HH) (U H4);obtain ⟨etv, env, elv, ecv, ebv⟩ := U HFO;rw [etv, env, elv, ecv, ebv] at hbk;rw [env];exact hbk
 | true =>
   cases bn with
   | true =>
     have hR1 : (.ok [] s : Res (List Nat)) = R := by cases b2 <;> exact hR
     subst hR1;clear h hR hne;go_enter Tryz.func227, Tryz.ntmps227;go_wp2;try rw [hW0]
     refine region_C (C := fun w' => Below W0.heap.size W0 w') (by kernel_rfl) (by kernel_rfl) (Below.refl _ _).drew ?_
     repeat (first
      | go_big_quiet_skip
      | (go_big_quiet_want
         go_big_quiet_op
         first
          | go_big_quiet_on
          | (apply Exists.intro
             refine ⟨fun w hw => ?_, ?_⟩
             first
              | rfl
              | with_reducible exact (U HI1 w hw).mono fun e w2 h => ⟨h.1, hw.trans (h.2.mono hw.size)⟩
              | with_reducible exact (U HI2 w hw).mono fun e w2 h => ⟨h.1, hw.trans (h.2.mono hw.size)⟩
              | (obtain ⟨g0, g1, g2, g3⟩ := U HSS w hw
                 have hgM : E.M < w.heap.size := Nat.lt_of_lt_of_le hml0 hw.size;go_simp
                 first | done | rfl | exact ⟨rfl, rfl⟩)
             go_big_quiet_on)))
     refine wpQuiet_nil ?_;intro w1 hw1;have HW1 := Hi hw1;clear hw1;go_wp2;refine bodyPost_ret (v := .tuple #[.int .i64 0, .bool false]) (by simp [results, Tryz.results227, go_sem]) rfl ⟨rfl, nv, ?_⟩;exact (U HL0).below (U HW1)
   | false =>
     have hR1 : ctP E.c (parP E.c n .typeArgs s) s = R := by cases b2 <;> exact hR
     clear hR;have HH := Hi h;clear h;have hp : parP E.c n .typeArgs s ≠ .out := fun e => by rw [e] at hR1; exact hne hR1.symm
     go_enter Tryz.func227, Tryz.ntmps227;go_wp2;try rw [hW0]
     refine region_C (C := fun w' => Below W0.heap.size W0 w') (by kernel_rfl) (by kernel_rfl) (Below.refl _ _).drew ?_
     repeat (first
      | go_big_quiet_skip
      | (go_big_quiet_want
         go_big_quiet_op
         first
          | go_big_quiet_on
          | (apply Exists.intro
             refine ⟨fun w hw => ?_, ?_⟩
             first
              | rfl
              | with_reducible exact (U HI1 w hw).mono fun e w2 h => ⟨h.1, hw.trans (h.2.mono hw.size)⟩
              | with_reducible exact (U HI2 w hw).mono fun e w2 h => ⟨h.1, hw.trans (h.2.mono hw.size)⟩
              | (obtain ⟨g0, g1, g2, g3⟩ := U HSS w hw
                 have hgM : E.M < w.heap.size := Nat.lt_of_lt_of_le hml0 hw.size;go_simp
                 first | done | rfl | exact ⟨rfl, rfl⟩)
             go_big_quiet_on)))
     refine wpQuiet_nil ?_;intro w1 hw1;have HW1 := Hi hw1;clear hw1;obtain ⟨g0, g1, g2, g3⟩ := U HSS w1 (U HW1);have HL1 := Hi ((U HL0).below (U HW1));obtain ⟨r0, r1, r2, r3, r4, r5, r6, r7, r8, r9⟩ := (U HL1).1.rd.ten;obtain ⟨etv, env, elv, ecv, ebv⟩ := U HFO;rw [etv] at r0;rw [env] at r6;rw [elv] at r7;rw [ecv] at r8;rw [ebv] at r9;clear etv env elv ecv ebv;have hml1 := (U HL1).1.rd.lt;have HB1 := Hi (show W.heap.size < w1.heap.size from Nat.lt_of_lt_of_le (U HWS) (U HW1).size);obtain ⟨w2, hw2⟩ : ∃ x, (w1.alloc (.cells #[.slice ta tn tc, .int .i64 (s.n : Int), .int .i64 s.tk.1, .string (strOfNums s.tk.2.1), .int .i64 (s.tk.2.2.1 : Int), .int .i64 (s.tk.2.2.2 : Int), .slice na nn ncap, .slice la ln lc, .slice ca cn cc, .slice (some ⟨nb, 0, none⟩) s.nc.length cap9] 72)).alloc (.cells #[.int .i64 0] 3) = x := ⟨_, rfl⟩;have hb2 : Below w1.heap.size w1 w2 := by rw [← hw2]; exact ((Below.refl _ w1).alloc NL _).alloc (by simp) _
     have k1 : w2.heap[w1.heap.size]? = some (.cells #[.slice ta tn tc, .int .i64 (s.n : Int), .int .i64 s.tk.1, .string (strOfNums s.tk.2.1), .int .i64 (s.tk.2.2.1 : Int), .int .i64 (s.tk.2.2.2 : Int), .slice na nn ncap, .slice la ln lc, .slice ca cn cc, .slice (some ⟨nb, 0, none⟩) s.nc.length cap9] 72) := by
      rw [← hw2];exact (((Below.refl _ (w1.alloc _)).alloc NL _).block w1.heap.size (by simp)).trans (World.alloc_heap_new w1 _)
     have k2 : w2.heap[w1.heap.size + 1]? = some (.cells #[.int .i64 0] 3) := by
      rw [← hw2];have := World.alloc_heap_new (w1.alloc (.cells #[.slice ta tn tc, .int .i64 (s.n : Int), .int .i64 s.tk.1, .string (strOfNums s.tk.2.1), .int .i64 (s.tk.2.2.1 : Int), .int .i64 (s.tk.2.2.2 : Int), .slice na nn ncap, .slice la ln lc, .slice ca cn cc, .slice (some ⟨nb, 0, none⟩) s.nc.length cap9] 72)) (.cells #[.int .i64 0] 3);rw [World.size_alloc] at this;exact this
     have kb : w2.heap[W.heap.size]? = some (.cells #[.pointer (some ⟨E.M, 0, none⟩)] 51) := (hb2.block _ (U HB1)).trans (((U HW1).block _ (U HWS)).trans (U HBX));have hR2 : RAt (E.off (w1.heap.size + 1)) nv s w2 := (U HL1).1.off hb2 (by omega) (Array.getElem?_eq_some_iff.1 k2).1;have HATT := Hi (attempt_any 251 #[] #[.pointer (some ⟨W.heap.size, 0, none⟩), .pointer (some ⟨w1.heap.size + 1, 0, none⟩)] w2 _ _ (fun args w => by kernel_rfl) (call1_any (U HIG) (w1.heap.size + 1) hR2 kb k2 hp));have HB2 := Hi hb2;have HK1 := Hi k1;have HK2 := Hi k2;have HKB := Hi kb;have hB12 : w1.heap.size + 1 < w2.heap.size := (Array.getElem?_eq_some_iff.1 k2).1;obtain ⟨BX, hBX⟩ : ∃ x, W.heap.size = x := ⟨_, rfl⟩;obtain ⟨C1, hC1⟩ : ∃ x, w1.heap.size = x := ⟨_, rfl⟩;clear hb2 k1 k2 kb g1 g2 g3 hR2 hBX hC1;rw [← hw2] at HATT;have HW2 := Hi hw2;clear hw2;go_wp2_with (go_at_call 27; refine (U HATT).mono ?_);rintro e w3 (⟨rfl, wA, hA, hbA⟩ | ⟨rfl, wA, hA, hbA⟩)
     · rw [U HW2] at hA
       obtain ⟨l, s', nv', wB, hq, hl, rfl⟩ := hA;obtain ⟨y, rfl⟩ := typeArgs_one _ _ _ _ _ hq;have htB := ct_ty hl (U HK2) (by omega);have hLA := ct_lf (U HL1) (U HB2) hB12 hl htB ((FrP.refl (fun k => k = w1.heap.size + 1) wB).set (w1.heap.size + 1) 0 (.int .i64 (hd0 [y] : Int)) rfl);have HLA := Hi (hLA.below hbA);have v2 : w3.heap[w1.heap.size + 1]? = some (.cells #[.int .i64 (hd0 [y] : Int)] 3) := ct_set hl (U HK2) (by omega) hbA;have v1 : w3.heap[w1.heap.size]? = some (.cells #[.slice ta tn tc, .int .i64 (s.n : Int), .int .i64 s.tk.1, .string (strOfNums s.tk.2.1), .int .i64 (s.tk.2.2.1 : Int), .int .i64 (s.tk.2.2.2 : Int), .slice na nn ncap, .slice la ln lc, .slice ca cn cc, .slice (some ⟨nb, 0, none⟩) s.nc.length cap9] 72) := ct_keep hl (U HK1) (by decide) (by decide) (by rw [show (E.off (w1.heap.size + 1)).M = E.M from rfl]; omega) (by omega) hbA;have v0 : w3.heap[W.heap.size]? = some (.cells #[.pointer (some ⟨E.M, 0, none⟩)] 51) := ct_keep hl (U HKB) (by decide) (by decide) (by rw [show (E.off (w1.heap.size + 1)).M = E.M from rfl]; omega) (by have := U HB1; omega) hbA;have x2 : w3.cell? ⟨w1.heap.size + 1, 0, none⟩ = some (.int .i64 (y : Int)) := by simp [World.cell?, v2, hd0]
       have x0 : w3.cell? ⟨W.heap.size, 0, none⟩ = some (.pointer (some ⟨E.M, 0, none⟩)) := by simp [World.cell?, v0]
       obtain ⟨y0, y1, y2, y3, y4, y5, y6, y7, y8, y9⟩ := ten_of v1;rw [hq] at hR1;obtain ⟨bb, hbb⟩ : ∃ b, isP [40] s' = b := ⟨_, rfl⟩;have hR3 : (if bb = true then Res.ok [y] s' else .ok [] { s with nc := s'.nc }) = R := by rw [← hR1, ← hbb]; rfl
       have HCI := Hi (ris_any E.M E.tv s'.n s'.tk nv' E.lv E.cv E.bv w3 (U HLA).1.rd (U HLA).1.by' ⟨#[40]⟩ [40] ⟨rfl, by intro z hz; simp at hz; omega⟩);rw [show isT s'.tk [40] = bb from hbb] at HCI;have HV0 := Hi v0;have HV1 := Hi v1;have HV2 := Hi v2;clear hq hl htB hLA hbA hbb v0 v1 v2 hR1 hp;cases bb with
       | true =>
         have hR4 : (.ok [y] s' : Res (List Nat)) = R := hR3;subst hR4;clear hR3;go_wp2_with (go_at_call 92; refine (U HCI).mono ?_)
         first | rintro e w4 rfl h4 | rintro e w4 ⟨rfl, h4⟩
         have z2 : w4.cell? ⟨w1.heap.size + 1, 0, none⟩ = some (.int .i64 (y : Int)) := by simp [World.cell?, (h4.block _ (Array.getElem?_eq_some_iff.1 (U HV2)).1).trans (U HV2), hd0]
         have hz2 := World.block_lt_of_cell? w4 _ z2;have H4 := Hi ((U HLA).below h4);clear h4;go_wp2;exact bodyPost_ret (v := .tuple #[.int .i64 (y : Int), .bool true]) (by simp [results, Tryz.results227, go_sem]) rfl ⟨rfl, nv', U H4⟩
       | false =>
         have hR4 : (.ok [] { s with nc := s'.nc } : Res (List Nat)) = R := hR3;subst hR4;clear hR3;go_wp2_with (go_at_call 92; refine (U HCI).mono ?_)
         first | rintro e w4 rfl h4 | rintro e w4 ⟨rfl, h4⟩
         have H4 := Hi ((U HLA).below h4);have z0 : w4.cell? ⟨W.heap.size, 0, none⟩ = some (.pointer (some ⟨E.M, 0, none⟩)) := by simp [World.cell?, (h4.block _ (Array.getElem?_eq_some_iff.1 (U HV0)).1).trans (U HV0)]
         have v1' := (h4.block _ (Array.getElem?_eq_some_iff.1 (U HV1)).1).trans (U HV1);clear h4;obtain ⟨y0, y1, y2, y3, y4, y5, y6, y7, y8, y9⟩ := ten_of v1';have hyl : w1.heap.size < w4.heap.size := (Array.getElem?_eq_some_iff.1 v1').1;have hml4 := (U H4).1.rd.lt;obtain ⟨p0, p1, p2, p3, p4, p5, p6, p7, p8, p9⟩ := (U H4).1.rd.ten;have f0 := (U H4).1.rd.free 0;have f1 := (U H4).1.rd.free 1;have f2 := (U H4).1.rd.free 2;have f3 := (U H4).1.rd.free 3;have f4 := (U H4).1.rd.free 4;have f5 := (U H4).1.rd.free 5;have f6 := (U H4).1.rd.free 6;have f7 := (U H4).1.rd.free 7;have f8 := (U H4).1.rd.free 8;have f9 := (U H4).1.rd.free 9;clear v1';go_wp2;refine bodyPost_ret (v := .tuple #[.int .i64 0, .bool false]) (by simp [results, Tryz.results227, go_sem]) rfl ⟨rfl, nv, ?_⟩;have hbk := ct_back (U HH) (U H4);obtain ⟨etv, env, elv, ecv, ebv⟩ := U HFO;rw [etv, env, elv, ecv, ebv] at hbk;rw [env];exact hbk
     · rw [U HW2] at hA
       obtain ⟨s', nv', hq, hl⟩ := hA;have htB := ct_ty hl (U HK2) (by omega);have hLA := ct_lf (U HL1) (U HB2) hB12 hl htB (FrP.refl (fun k => k = w1.heap.size + 1) wA);have H4 := Hi (hLA.below hbA);have v1' : w3.heap[w1.heap.size]? = some (.cells #[.slice ta tn tc, .int .i64 (s.n : Int), .int .i64 s.tk.1, .string (strOfNums s.tk.2.1), .int .i64 (s.tk.2.2.1 : Int), .int .i64 (s.tk.2.2.2 : Int), .slice na nn ncap, .slice la ln lc, .slice ca cn cc, .slice (some ⟨nb, 0, none⟩) s.nc.length cap9] 72) := (hbA.block _ (by have := hl.2.1.size; omega)).trans (ct_stay hl (U HK1) (by decide) (by decide) (by rw [show (E.off (w1.heap.size + 1)).M = E.M from rfl]; omega));have v0 : w3.heap[W.heap.size]? = some (.cells #[.pointer (some ⟨E.M, 0, none⟩)] 51) := (hbA.block _ (by have := hl.2.1.size; have := U HB1; omega)).trans (ct_stay hl (U HKB) (by decide) (by decide) (by rw [show (E.off (w1.heap.size + 1)).M = E.M from rfl]; omega));have z0 : w3.cell? ⟨W.heap.size, 0, none⟩ = some (.pointer (some ⟨E.M, 0, none⟩)) := by simp [World.cell?, v0]
       rw [hq] at hR1;have hR4 : (.ok [] { s with nc := s'.nc } : Res (List Nat)) = R := hR1;subst hR4;clear hq hl htB hLA hbA v0 hR1 hp;obtain ⟨y0, y1, y2, y3, y4, y5, y6, y7, y8, y9⟩ := ten_of v1';have hyl : w1.heap.size < w3.heap.size := (Array.getElem?_eq_some_iff.1 v1').1;have hml4 := (U H4).1.rd.lt;obtain ⟨p0, p1, p2, p3, p4, p5, p6, p7, p8, p9⟩ := (U H4).1.rd.ten;have f0 := (U H4).1.rd.free 0;have f1 := (U H4).1.rd.free 1;have f2 := (U H4).1.rd.free 2;have f3 := (U H4).1.rd.free 3;have f4 := (U H4).1.rd.free 4;have f5 := (U H4).1.rd.free 5;have f6 := (U H4).1.rd.free 6;have f7 := (U H4).1.rd.free 7;have f8 := (U H4).1.rd.free 8;have f9 := (U H4).1.rd.free 9;clear v1';go_wp2;refine bodyPost_ret (v := .tuple #[.int .i64 0, .bool false]) (by simp [results, Tryz.results227, go_sem]) rfl ⟨rfl, nv, ?_⟩;have hbk := ct_back (U HH) (U H4);obtain ⟨etv, env, elv, ecv, ebv⟩ := U HFO;rw [etv, env, elv, ecv, ebv] at hbk;rw [env];exact hbk
end
end Go.Proofs.YtofgphapjjofnaaGreatDoor
