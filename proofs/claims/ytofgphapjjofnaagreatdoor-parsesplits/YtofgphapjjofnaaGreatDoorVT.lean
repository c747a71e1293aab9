/- Towards the law: RH RI RJ RK RL RT. -/
import Derived.LoopN
import Derived.Test.YtofgphapjjofnaaGreatDoorMC
import Derived.Test.YtofgphapjjofnaaGreatDoorMG
import Derived.Test.YtofgphapjjofnaaGreatDoorVS
set_option linter.unusedSimpArgs false
set_option linter.unusedVariables false
set_option maxRecDepth 100000
set_option maxHeartbeats 8000000
namespace Go.Proofs.YtofgphapjjofnaaGreatDoor
section
open Go.RowKit Go.Shelf
def tn (k : Int) (s : ByteArray) : Int :=
 if k = 6 then 1 else if k = 8 then -1 else if k = 9 then (if s = ⟨#[40]⟩ ∨ s = ⟨#[91]⟩ ∨ s = ⟨#[123]⟩ then 1 else if s = ⟨#[41]⟩ ∨ s = ⟨#[93]⟩ ∨ s = ⟨#[125]⟩ then -1 else 0) else 0
theorem tn_le (k : Int) (s : ByteArray) : -1 ≤ tn k s ∧ tn k s ≤ 1 := by unfold tn; split <;> (try split) <;> (try split) <;> (try split) <;> (try split) <;> decide
theorem ne_list {s : ByteArray} {c : UInt8} (h : ¬ s = ⟨#[c]⟩) : (s.toList == [c]) = false := by
 rw [ba_toList];simp only [beq_eq_false_iff_ne, ne_eq];intro e;apply h
 apply ByteArray.ext
 apply Array.toList_inj.1
 simpa using e
theorem tn_cases (k : Int) (s : ByteArray) : (k = 6 ∧ tn k s = 1) ∨ (k = 8 ∧ tn k s = -1) ∨ (k = 9 ∧ s = ⟨#[40]⟩ ∧ tn k s = 1) ∨ (k = 9 ∧ s = ⟨#[91]⟩ ∧ tn k s = 1) ∨ (k = 9 ∧ s = ⟨#[123]⟩ ∧ tn k s = 1) ∨ (k = 9 ∧ s = ⟨#[41]⟩ ∧ tn k s = -1) ∨ (k = 9 ∧ s = ⟨#[93]⟩ ∧ tn k s = -1) ∨ (k = 9 ∧ s = ⟨#[125]⟩ ∧ tn k s = -1) ∨
 (k = 9 ∧ (s.toList == [40]) = false ∧ (s.toList == [91]) = false ∧ (s.toList == [123]) = false ∧ (s.toList == [41]) = false ∧ (s.toList == [93]) = false ∧ (s.toList == [125]) = false ∧ tn k s = 0) ∨ ((k == 6) = false ∧ (k == 8) = false ∧ (k == 9) = false ∧ tn k s = 0) := by
 by_cases h6 : k = 6
 · exact .inl ⟨h6, by simp [tn, h6]⟩
 by_cases h8 : k = 8
 · exact .inr (.inl ⟨h8, by simp [tn, h8]⟩)
 by_cases h9 : k = 9
 · refine .inr (.inr ?_)
   subst h9;by_cases s1 : s = ⟨#[40]⟩
   · exact .inl ⟨rfl, s1, by simp [tn, s1]⟩
   by_cases s2 : s = ⟨#[91]⟩
   · exact .inr (.inl ⟨rfl, s2, by simp [tn, s2]⟩)
   by_cases s3 : s = ⟨#[123]⟩
   · exact .inr (.inr (.inl ⟨rfl, s3, by simp [tn, s3]⟩))
   by_cases s4 : s = ⟨#[41]⟩
   · exact .inr (.inr (.inr (.inl ⟨rfl, s4, by subst s4; simp [tn]⟩)))
   by_cases s5 : s = ⟨#[93]⟩
   · exact .inr (.inr (.inr (.inr (.inl ⟨rfl, s5, by subst s5; simp [tn]⟩))))
   by_cases s6 : s = ⟨#[125]⟩
   · exact .inr (.inr (.inr (.inr (.inr (.inl ⟨rfl, s6, by subst s6; simp [tn]⟩)))))
   exact .inr (.inr (.inr (.inr (.inr (.inr (.inl ⟨rfl, ne_list s1, ne_list s2, ne_list s3, ne_list s4, ne_list s5, ne_list s6, by simp [tn, s1, s2, s3, s4, s5, s6]⟩))))))
 · exact .inr (.inr (.inr (.inr (.inr (.inr (.inr (.inr (.inr ⟨by simpa using h6, by simpa using h8, by simpa using h9, by simp [tn, h6, h8, h9]⟩))))))))
theorem turn46_any (k a b : Int) (s : ByteArray) (w : World) : Calls Tryz.prog 54 #[.agg #[.int .i64 k, .string s, .int .i64 a, .int .i64 b]] w fun e w' => e = .returned (.int .i64 (tn k s)) ∧ Below w.heap.size w w' := by
 have hB : ∀ k' s', Below w.heap.size w (w.alloc (.cells #[.int .i64 k', .string s', .int .i64 a, .int .i64 b] 40)) := fun k' s' => (Below.refl _ w).alloc NL _
 rcases tn_cases k s with ⟨rfl, ht⟩ | ⟨rfl, ht⟩ | ⟨rfl, rfl, ht⟩ | ⟨rfl, rfl, ht⟩ | ⟨rfl, rfl, ht⟩ | ⟨rfl, rfl, ht⟩ | ⟨rfl, rfl, ht⟩ | ⟨rfl, rfl, ht⟩ | ⟨rfl, q1, q2, q3, q4, q5, q6, ht⟩ | ⟨q1, q2, q3, ht⟩ <;> rw [ht] <;> clear ht
 all_goals (
  go_enter Tryz.func54, Tryz.ntmps54;go_wp2;go_ret
  exact ⟨rfl, hB _ _⟩)
def cN (K : Nat → Int) (T : Nat → ByteArray) : Nat → Int
 | 0 => 0
 | k + 1 => if cN K T k + tn (K k) (T k) < 0 then 0 else cN K T k + tn (K k) (T k)
def gN (K : Nat → Int) (T : Nat → ByteArray) : Nat → Int
 | 0 => 0
 | k + 1 => if cN K T (k + 1) > gN K T k then cN K T (k + 1) else gN K T k
def fN (K : Nat → Int) (T : Nat → ByteArray) (m : Int) : Nat → Int
 | 0 => -1
 | k + 1 => if cN K T (k + 1) > m ∧ fN K T m k < 0 then k else fN K T m k
theorem cN_le (K : Nat → Int) (T : Nat → ByteArray) : ∀ k, 0 ≤ cN K T k ∧ cN K T k ≤ k
 | 0 => by simp [cN]
 | k + 1 => by
   have h := cN_le K T k;have h2 := tn_le (K k) (T k);simp only [cN];split <;> omega
def Toks (W : World) (b off len : Nat) (K A E : Nat → Int) (T : Nat → ByteArray) : Prop :=
 ∀ j, j < len → W.cell? ⟨b, off + j * 4, none⟩ = some (.int .i64 (K j)) ∧ W.cell? ⟨b, off + j * 4 + 1, none⟩ = some (.string (T j)) ∧ W.cell? ⟨b, off + j * 4 + 2, none⟩ = some (.int .i64 (A j)) ∧ W.cell? ⟨b, off + j * 4 + 3, none⟩ = some (.int .i64 (E j))
theorem dep_step (K : Nat → Int) (T : Nat → ByteArray) (m : Int) (k : Nat) : ((cN K T (k + 1) = 0 ∧ cN K T k + tn (K k) (T k) < 0) ∨ (cN K T (k + 1) = cN K T k + tn (K k) (T k) ∧ 0 ≤ cN K T k + tn (K k) (T k))) ∧ ((gN K T (k + 1) = cN K T (k + 1) ∧ cN K T (k + 1) > gN K T k) ∨ (gN K T (k + 1) = gN K T k ∧ ¬ cN K T (k + 1) > gN K T k)) ∧
 ((fN K T m (k + 1) = k ∧ cN K T (k + 1) > m ∧ fN K T m k < 0) ∨ (fN K T m (k + 1) = fN K T m k ∧ ¬ (cN K T (k + 1) > m ∧ fN K T m k < 0))) := by
 refine ⟨?_, ?_, ?_⟩
 · simp only [cN]; split <;> omega
 · simp only [gN]; split <;> omega
 · simp only [fN]; split <;> omega
theorem depth24 (b off len cap : Nat) (K A E : Nat → Int) (T : Nat → ByteArray) (m : Int) (w : World) (hlen : len ≤ 1048576) (hb : b < w.heap.size) (hT : Toks w b off len K A E T) : Calls Tryz.prog 25 #[.slice (some ⟨b, off, none⟩) len cap, .int .i64 m] w fun e w' => e = .returned (.tuple #[.int .i64 (gN K T len), .int .i64 (fN K T m len)]) ∧ Below w.heap.size w w' := by
 have HT := Hi hT;clear hT;go_enter Tryz.func25, Tryz.ntmps25;go_wp2;go_loopw [6, 7, 8, 13] (fun n g f i wr => ∃ k : Nat, k ≤ len ∧ i = .int .i64 k ∧ n = .int .i64 (cN K T k) ∧ g = .int .i64 (gN K T k) ∧ f = .int .i64 (fN K T m k) ∧ Below w.heap.size w wr) (fun _ _ _ i _ => len - (Lib.intOf i).toNat)
 case atStart => exact ⟨0, Nat.zero_le _, rfl, rfl, rfl, rfl, Below.refl _ _⟩
 case round =>
  obtain ⟨k, hk, rfl, rfl, rfl, rfl, hB⟩ := hrel;by_cases hlt : k < len
  · have hq := U HT k hlt
    have d0 := (hB.cell (p := ⟨b, off + k * 4, none⟩) hb).trans hq.1;have d1 := (hB.cell (p := ⟨b, off + k * 4 + 1, none⟩) hb).trans hq.2.1;have d2 := (hB.cell (p := ⟨b, off + k * 4 + 2, none⟩) hb).trans hq.2.2.1;have d3 := (hB.cell (p := ⟨b, off + k * 4 + 3, none⟩) hb).trans hq.2.2.2;have hbr : b < wr.heap.size := Nat.lt_of_lt_of_le hb hB.size;clear hq;have hlt' : (k : Int) < len := by omega
    have HS := Hi (dep_step K T m k);have HC := Hi (cN_le K T k);have HN := Hi (tn_le (K k) (T k));go_wp2_with (go_at_call 54; refine (turn46_any _ _ _ _ _).mono ?_; rintro e W2 ⟨rfl, hB2⟩)
    all_goals (
     obtain ⟨s1, s2, s3⟩ := U HS;have hc := U HC;have hn := U HN;have hw : wrap64 (cN K T k + tn (K k) (T k)) = cN K T k + tn (K k) (T k) := IntWalk.wrap64_in _ (by omega);have hz := hB.size;clear d0 d1 d2 d3
     refine ⟨⟨k + 1, by omega, by go_num, congrArg _ (by omega), congrArg _ (by omega), congrArg _ (by omega), (hB.alloc hB.size _).trans (hB2.mono (by simp; omega))⟩, by simp [Lib.intOf]; omega⟩)
  · have hlt' : ¬ (k : Int) < len := by omega
    obtain rfl : k = len := by omega
    go_wp2;refine bodyPost_ret (v := .tuple #[.int .i64 (gN K T k), .int .i64 (fN K T m k)]) ?_ rfl ⟨rfl, hB⟩;simp [results, Tryz.results25, go_sem]
def deepF (l : List Tok) : Int := fN (fun j => (l.getD j tok0).1) (fun j => strOfNums (l.getD j tok0).2.1) 64 l.length
theorem depth_tk {W : World} {tv : Value} {l : List Tok} (h : TkRow W tv l) : Calls Tryz.prog 25 #[tv, .int .i64 64] W fun e w' => (∃ d, e = .returned (.tuple #[.int .i64 d, .int .i64 (deepF l)])) ∧ Below W.heap.size W w' := by
 obtain ⟨tb, cap, rfl, q1, q2, hpos, hl, hc⟩ := h;have hg : ∀ j, j < l.length → l[j]? = some (l.getD j tok0) := fun j hj => by rw [List.getD_eq_getElem?_getD, List.getElem?_eq_getElem hj]; rfl
 have hb : tb < W.heap.size := World.block_lt_of_cell? W _ (hc 0 _ (hg 0 hpos)).1;refine (depth24 tb 0 l.length cap (fun j => (l.getD j tok0).1) (fun j => ((l.getD j tok0).2.2.1 : Int)) (fun j => ((l.getD j tok0).2.2.2 : Int)) (fun j => strOfNums (l.getD j tok0).2.1) 64 W (by omega) hb fun j hj => ?_).mono ?_
 · have := hc j _ (hg j hj)
   simpa using this
 · rintro e w ⟨rfl, hB⟩
   exact ⟨⟨_, rfl⟩, hB⟩
def startS (l : List Tok) : PS := ⟨0, l.getD 0 tok0, [], List.replicate l.length false⟩
structure GoodT (l : List Tok) : Prop where
 toks : TksOk l
 nums : ∀ t ∈ l, TkFine t
 cll : (clL l).length = l.length
 clb : ∀ k ∈ clL l, k ≠ 0 → k + 1 < l.length
def TokQ (l : List Tok) (w : World) (e : Ending) (w' : World) : Prop := ∃ tv, e = .returned (.tuple #[tv, .int .i64 0, .int .i64 0]) ∧ TkRow w' tv l ∧ TyAt w' tv 40 ∧ Below w.heap.size w w'
theorem sl_tv {W : World} {tv : Value} {l : List Tok} (h : TkRow W tv l) : ∃ tb cap, tv = .slice (some ⟨tb, 0, none⟩) l.length cap := by
 obtain ⟨tb, cap, e, _⟩ := h;exact ⟨tb, cap, e⟩
structure WFr (W A : World) : Prop where
 os : A.os = W.os
 tape : A.tape = W.tape
 output : A.output = W.output
 size : W.heap.size ≤ A.heap.size
 block : ∀ k, k < W.heap.size → tyOf W k ≠ 34 → tyOf W k ≠ 4 → A.heap[k]? = W.heap[k]?
 nds : ∀ u l', NdRow (fun _ => False) W u l' → NdRow (fun _ => False) A u l'
 bel : Below W.heap.size W A
theorem WFr.of {W A : World} (h : Below W.heap.size W A) : WFr W A := ⟨h.os, h.tape, h.output, h.size, fun k hk _ _ => h.block k hk, fun u l' hu => hu.keep fun k e => h.block k (by rcases e with e | e <;> exact ty_lt e (by omega)), h⟩
theorem WFr.trans {A B C : World} (h : WFr A B) (k : WFr B C) : WFr A C := ⟨k.os.trans h.os, k.tape.trans h.tape, k.output.trans h.output, Nat.le_trans h.size k.size, fun i hi h1 h2 => by
 have e := h.block i hi h1 h2
 exact (k.block i (Nat.lt_of_lt_of_le hi h.size) (by rw [tyOf_eq e]; exact h1) (by rw [tyOf_eq e]; exact h2)).trans e, fun u l' hu => k.nds u l' (h.nds u l' hu), h.bel.trans (k.bel.mono h.size)⟩
theorem WFr.drew {A B : World} (h : WFr A B) : WFr A B.drew := h.trans (WFr.of (Below.refl _ B).drew)
theorem WFr.set {A B : World} {k t i : Nat} {cs : Array Value} {v : Value} (h : WFr A B) (hk : A.heap.size ≤ k) (hb : B.heap[k]? = some (.cells cs t)) (h1 : t ≠ 34) (h2 : t ≠ 3) : WFr A (B.setCell ⟨k, i, none⟩ v) := by
 have ht : tyOf B k = t := by simp [tyOf, hb]
 exact ⟨h.os, h.tape, h.output, by have := h.size; simpa [World.setCell] using this, fun j hj e1 e2 => (keep_set (by omega)).trans (h.block j hj e1 e2), fun u l' hu => (h.nds u l' hu).keep fun j e => keep_set fun e' => by subst e'; omega, h.bel.setCell hk v⟩
theorem whole_wfr {E : En} {W w3 w5 : World} {s s' : PS} {nv' : Value} (hb : Below W.heap.size W w3) (hz : ∀ k, ¬ E.Z k) (hM : W.heap.size ≤ E.lo) (hl : Lf E (.slice none 0 0) s w3 nv' s' w5) : WFr W w5 := by
 have hMM := hl.1.lo.1;refine ⟨hl.2.1.os.trans hb.os, hl.2.1.tape.trans hb.tape, hl.2.1.output.trans hb.output, Nat.le_trans hb.size hl.2.1.size, fun k hk h1 h2 => ?_, fun u l' hu => ?_, hl.2.1.os.trans hb.os, hl.2.1.tape.trans hb.tape, hl.2.1.output.trans hb.output, Nat.le_trans hb.size hl.2.1.size, fun k hk => (hl.2.1.low k (Nat.lt_of_lt_of_le hk hb.size) (by omega)).trans (hb.block k hk)⟩
 · have e := hb.block k hk
   exact (hl.2.1.block k (Nat.lt_of_lt_of_le hk hb.size) (by omega) (by rw [tyOf_eq e]; exact h1) (by rw [tyOf_eq e]; exact h2)).trans e
 · have h3 : NdRow (fun _ => False) w3 u l' := hu.keep fun k e => hb.block k (by rcases e with e | e <;> exact ty_lt e (by omega))
   have h4 : NdRow E.Z w3 u l' := h3.lt fun k _ _ => hz k
   have h5 := (hl.2.2 u l' ⟨h4, fun g n1 c1 n2 c2 e1 e2 => by cases e2⟩).1;exact h5.lt fun k _ _ h => h
theorem whole_ok_program {W : World} {ba : Option Addr} {bl bc : Nat} {l : List Tok} {n : Nat} {s' : PS} {r : List Nat} (hT : ∀ w, Below W.heap.size W w → Calls Tryz.prog 11 #[.slice ba bl bc] w (TokQ l w)) (hG : GoodT l) (hpos : 0 < l.length) (hd : deepF l < 0) (hKl : KidsLt s'.nodes) (hr0 : hd0 r < s'.nodes.length) (hll : (layP s'.nodes (s'.nodes.length + 1) (hd0 r) []).1.length ≤ 1000000) (hq : endP ⟨l, clL l⟩ n .program (startS l) = .ok r s') :
 Calls Tryz.prog 16 #[.slice ba bl bc, .func (.func 17) #[] #[]] W fun e A => ∃ tvv, e = .returned (.tuple #[.agg #[tvv], .int .i64 0, .int .i64 0]) ∧ NdRow (fun _ => False) A tvv (layP s'.nodes (s'.nodes.length + 1) (hd0 r) []).1 ∧ WFr W A := by
 have HT := Hi hT;have HKL := Hi hKl;have HR00 := Hi hr0;have HLL := Hi hll;have HQ := Hi hq;have HG := Hi hG;obtain ⟨df, hdf⟩ : ∃ d, deepF l = d := ⟨_, rfl⟩;have HDF := Hi hdf;rw [hdf] at hd;have hdb : ¬ (0 : Int) ≤ df := by omega
 clear hd;have hB0 : Below W.heap.size W ((W.alloc (.cells #[.func (.func 17) #[] #[]] 49)).alloc (.cells #[.slice none 0 0] 25)) := ((Below.refl _ W).alloc NL _).alloc (by simp) _;have HB0 := Hi hB0;have HR0 := Hi (al_at' W (.cells #[.slice none 0 0] 25) (.cells #[.func (.func 17) #[] #[]] 49));have HX0 : Hid (((W.alloc (.cells #[.func (.func 17) #[] #[]] 49)).alloc (.cells #[.slice none 0 0] 25)).heap[W.heap.size]? = some (.cells #[.func (.func 17) #[] #[]] 49)) := al_lt (al_at _ _);clear hB0 hT hq hG hdf hKl hr0 hll;go_enter Tryz.func16, Tryz.ntmps16;go_wp2_with (go_at_call 11; refine (U HT _ (U HB0)).mono ?_)
 first | rintro e w1 tv rfl hk1 hy1 h1 | rintro e w1 ⟨tv, rfl, hk1, hy1, h1⟩
 have HC := Hi (depth_tk hk1);rw [U HDF] at HC;have HK1 := Hi hk1;have HY1 := Hi hy1;have HB1 := Hi ((U HB0).trans (h1.mono (by simp; omega)));have HR1 := Hi ((h1.block _ (by simp)).trans (U HR0));have HX1 := Hi ((h1.block _ (by simp; omega)).trans (U HX0));obtain ⟨tb, tcap, rfl⟩ := sl_tv hk1;clear hk1 hy1 h1;go_wp2_with (go_at_call 25; refine (U HC).mono ?_)
 first | rintro e w2 d rfl h2 | rintro e w2 ⟨⟨d, rfl⟩, h2⟩
 have hT2 := TkRow.keep (S0 := fun _ => False) (U HK1) (below_fr h2) (fun _ _ h => h)
 have hY2 : TyAt w2 (.slice (some ⟨tb, 0, none⟩) l.length tcap) 40 := fun k hk => by
  have := U HY1 k hk;rw [tyOf_eq (h2.block k (ty_lt this (by omega)))];exact this
 have HNR := Hi (newReader_any hT2 hY2 (U HG).toks ((U HG).nums _ (by rw [List.getD_eq_getElem?_getD, List.getElem?_eq_getElem hpos]; exact List.getElem_mem hpos)) (U HG).cll);have HB2 := Hi ((U HB1).trans (h2.mono (U HB1).size));have HR2 := Hi ((h2.block _ (Array.getElem?_eq_some_iff.1 (U HR1)).1).trans (U HR1));have HX2 := Hi ((h2.block _ (Array.getElem?_eq_some_iff.1 (U HX1)).1).trans (U HX1));clear h2 hT2 hY2;go_wp2_with (go_at_call 26; refine (U HNR).mono ?_)
 first | rintro e w3 E rfl hEc hEt hEz hEM hR h3 | rintro e w3 ⟨E, rfl, hEc, hEt, hEz, hEM, hR, h3⟩
 have hE : E.Ok := by
  have := U HG;refine ⟨?_, ?_, ?_, ?_⟩ <;> rw [hEc]
  · exact this.toks
  · exact this.nums
  · exact this.cll
  · exact this.clb
 obtain ⟨w4, hw4⟩ : ∃ w, (w3.alloc (.cells #[.pointer (some ⟨E.M, 0, none⟩)] 51)).alloc (.cells #[.int .i64 0] 3) = w := ⟨_, rfl⟩;have h4 : Below w3.heap.size w3 w4 := by rw [← hw4]; exact ((Below.refl _ w3).alloc NL _).alloc (by simp) _
 have k0 : w4.heap[w3.heap.size]? = some (.cells #[.pointer (some ⟨E.M, 0, none⟩)] 51) := by rw [← hw4]; exact al_lt (al_at _ _)
 have k2 : w4.heap[w3.heap.size + 1]? = some (.cells #[.int .i64 0] 3) := by rw [← hw4]; exact al_at' _ _ _
 have kx : w4.heap[W.heap.size]? = some (.cells #[.func (.func 17) #[] #[]] 49) := (h4.block _ (Nat.lt_of_lt_of_le (Array.getElem?_eq_some_iff.1 (U HX2)).1 h3.size)).trans ((h3.block _ (Array.getElem?_eq_some_iff.1 (U HX2)).1).trans (U HX2));have kr : w4.heap[W.heap.size + 1]? = some (.cells #[.slice none 0 0] 25) := (h4.block _ (Nat.lt_of_lt_of_le (Array.getElem?_eq_some_iff.1 (U HR2)).1 h3.size)).trans ((h3.block _ (Array.getElem?_eq_some_iff.1 (U HR2)).1).trans (U HR2));have hR4 : RAt (E.off (w3.heap.size + 1)) (.slice none 0 0) (startS l) w4 := hR.off h4 (Nat.le_succ _) (Array.getElem?_eq_some_iff.1 k2).1;have hq' : endP E.c n .program (startS l) = .ok r s' := by rw [hEc]; exact U HQ
 have HATT := Hi (attempt_any 28 #[] #[.pointer (some ⟨w3.heap.size, 0, none⟩), .pointer (some ⟨W.heap.size, 0, none⟩), .pointer (some ⟨w3.heap.size + 1, 0, none⟩)] w4 _ _ (fun args w => by kernel_rfl) (whole1_program (fun Z => (all_any hE n n NL Z).program) (w3.heap.size + 1) hR4 k0 kx k2 (by rw [hq']; simp)));rw [← hw4] at HATT;have HB4 := Hi ((U HB2).trans ((h3.mono (U HB2).size).trans (h4.mono (Nat.le_trans (U HB2).size h3.size))));have HK0 := Hi k0;have HK2 := Hi k2;have HKR := Hi kr;have HW4 := Hi hw4;have HQ' := Hi hq';have HR4 := Hi hR4;have hM4 : E.M < w4.heap.size := hR4.rd.lt;have hWM : W.heap.size ≤ E.lo := Nat.le_trans (U HB2).size hEM;have hs3 : w2.heap.size ≤ w3.heap.size := h3.size;have hs2 := (U HB2).size
 have hMr : E.M ≠ W.heap.size + 1 := fun e => by
  have h1 := hR4.mty;rw [show (E.off (w3.heap.size + 1)).M = E.M from rfl, e] at h1;simp [tyOf, kr] at h1
 have hMg : w3.heap.size + 1 ≠ E.M := fun e => by
  have h1 := hR4.mty;rw [show (E.off (w3.heap.size + 1)).M = E.M from rfl, ← e] at h1;simp [tyOf, k2] at h1
 have hMb : w3.heap.size ≠ E.M := fun e => by
  have h1 := hR4.mty;rw [show (E.off (w3.heap.size + 1)).M = E.M from rfl, ← e] at h1;simp [tyOf, k0] at h1
 have hrw : W.heap.size + 1 < w3.heap.size := Nat.lt_of_lt_of_le (Array.getElem?_eq_some_iff.1 (U HR2)).1 hs3;have HLR := Hi (Lf.refl hR);have H4 := Hi h4;have HEZ := Hi hEz;have HB3 := Hi ((U HB2).trans (h3.mono (U HB2).size));have hg4 : w3.heap.size + 1 < w4.heap.size := (Array.getElem?_eq_some_iff.1 k2).1;clear k0 k2 kx kr hw4 hq' hR4 h3 h4 hE hEc hEt hEz hEM hR;go_wp2_with (go_at_call 27; refine (U HATT).mono ?_);rintro e w5 (⟨rfl, wA, hA, hbA⟩ | ⟨rfl, wA, hA, hbA⟩)
 · rw [U HW4] at hA
   obtain ⟨l5, s5, nv5, wB, hq5, hl5, rfl⟩ := hA;rw [U HQ'] at hq5;cases hq5;have htB := ct_ty hl5 (U HK2) hMg;have hLA := (ct_lf (U HLR) (U H4) hg4 hl5 htB ((FrP.refl (fun k => k = w3.heap.size + 1) wB).set (w3.heap.size + 1) 0 (.int .i64 (hd0 r : Int)) rfl)).below hbA;have v2 := ct_set hl5 (U HK2) hMg hbA;have v0 := ct_keep hl5 (U HK0) (by decide) (by decide) hMb (by omega) hbA;have hr5 := ct_keep hl5 (U HKR) (by decide) (by decide) (fun e => hMr e.symm) (by omega) hbA;have x0 : w5.cell? ⟨w3.heap.size, 0, none⟩ = some (.pointer (some ⟨E.M, 0, none⟩)) := by simp [World.cell?, v0]
   have x2 : w5.cell? ⟨w3.heap.size + 1, 0, none⟩ = some (.int .i64 (hd0 r : Int)) := by simp [World.cell?, v2]
   have hx0 := World.block_lt_of_cell? w5 _ x0;have hx2 := World.block_lt_of_cell? w5 _ x2;have HLO := Hi (laidOut_any (rc := rdC E.tv s'.n s'.tk nv5 E.lv E.cv E.bv) rfl hLA.1.rd hLA.1.nd hLA.1.zl (U HR00) (U HKL) (U HLL));have HWF := Hi (whole_wfr (U HB3) (U HEZ) hWM hLA);have HR5 := Hi hr5;clear hl5 hbA hLA v2 v0 hr5 htB;go_wp2_with (go_at_call 30; refine (U HLO).mono ?_)
   first | rintro e w6 tvv rfl hN h6 | rintro e w6 ⟨tvv, rfl, hN, h6⟩
   have hr6 : w6.heap[W.heap.size + 1]? = some (.cells #[.slice none 0 0] 25) := (h6.block _ (Array.getElem?_eq_some_iff.1 (U HR5)).1).trans (U HR5);have c0 : w6.cell? ⟨W.heap.size + 1, 0, none⟩ = some (.slice none 0 0) := by simp [World.cell?, hr6]
   have f0 : w6.frozen? ⟨W.heap.size + 1, 0, none⟩ = false := by simp [World.frozen?, hr6]
   have hl0 := World.block_lt_of_cell? w6 _ c0;obtain ⟨ta, tc, etv⟩ := nd_form hN;subst etv;have HF := Hi (((U HWF).trans (WFr.of h6)).set (i := 0) (v := .slice ta (layP s'.nodes (s'.nodes.length + 1) (hd0 r) []).1.length tc) (Nat.le_succ _) hr6 (by decide) (by decide));have HV := Hi (show (w6.setCell ⟨W.heap.size + 1, 0, none⟩ (.slice ta (layP s'.nodes (s'.nodes.length + 1) (hd0 r) []).1.length tc)).heap[W.heap.size + 1]? = some (.cells #[.slice ta (layP s'.nodes (s'.nodes.length + 1) (hd0 r) []).1.length tc] 25) by simp [World.setCell, Array.getElem?_modify, hr6])
   have HN : Hid (NdRow (fun _ => False) (w6.setCell ⟨W.heap.size + 1, 0, none⟩ (.slice ta (layP s'.nodes (s'.nodes.length + 1) (hd0 r) []).1.length tc)) (.slice ta (layP s'.nodes (s'.nodes.length + 1) (hd0 r) []).1.length tc) (layP s'.nodes (s'.nodes.length + 1) (hd0 r) []).1) := by
    have tR : tyOf w6 (W.heap.size + 1) = 25 := by simp [tyOf, hr6]
    exact (hN.lt (fun k _ _ h => h)).keep fun k e => keep_set fun e' => by subst e'; omega
   clear hN h6 hr6;generalize (layP s'.nodes (s'.nodes.length + 1) (hd0 r) []).1.length = LL at *;go_wp2;refine bodyPost_ret (results_cell3 rfl _ _ (W.heap.size + 1) 25 #[.slice ta LL tc] (0, 0) _ rfl (U HV) Tryz.underlying25 rfl rfl) rfl ?_;exact ⟨_, rfl, U HN, U HF⟩
 · exfalso
   obtain ⟨s5, nv5, hq5, _⟩ := hA;rw [U HQ'] at hq5;cases hq5
theorem al_ty (w : World) (cs : Array Value) (t : Nat) : tyOf (w.alloc (.cells cs t)) w.heap.size = t := by unfold tyOf; rw [al_at]
inductive Ans where
 | tree (t : List PN)
 | bad (at' e : Int)
def AnsQ (r : Ans) (W : World) (e : Ending) (A : World) : Prop := (match r with
 | .tree t => ∃ tvv, e = .returned (.tuple #[.agg #[tvv], .int .i64 0, .int .i64 0]) ∧ NdRow (fun _ => False) A tvv t
 | .bad i c => e = .returned (.tuple #[.agg #[.slice none 0 0], .int .i64 i, .int .i64 c])) ∧ WFr W A
theorem front_program {W : World} {ba : Option Addr} {bl bc : Nat} {r : Ans} (h : ∀ w, Below W.heap.size W w → Calls Tryz.prog 16 #[.slice ba bl bc, .func (.func 17) #[] #[]] w (AnsQ r w)) : Calls Tryz.prog 8 #[.slice ba bl bc] W (AnsQ r W) := by
 have HH := Hi (h _ ((Below.refl _ W).alloc NL (.cells #[.slice none 0 0] 25)));clear h;have HB0 := Hi ((Below.refl _ W).alloc NL (.cells #[.slice none 0 0] 25));have HR0 := Hi (al_at W (.cells #[.slice none 0 0] 25));cases r with
 | tree t =>
   unfold AnsQ at HH ⊢;go_enter Tryz.func8, Tryz.ntmps8;go_wp2_with (go_at_call 16; refine (U HH).mono ?_)
   first | rintro e w1 tvv rfl hN h1 | rintro e w1 ⟨⟨tvv, rfl, hN⟩, h1⟩
   have hr : w1.heap[W.heap.size]? = some (.cells #[.slice none 0 0] 25) := (h1.block _ (by simp) (by rw [al_ty]; decide) (by rw [al_ty]; decide)).trans (U HR0);have c0 : w1.cell? ⟨W.heap.size, 0, none⟩ = some (.slice none 0 0) := by simp [World.cell?, hr]
   have f0 : w1.frozen? ⟨W.heap.size, 0, none⟩ = false := by simp [World.frozen?, hr]
   have hl0 := World.block_lt_of_cell? w1 _ c0;obtain ⟨ta, tc, etv⟩ := nd_form hN;subst etv;have HF := Hi (((WFr.of (U HB0)).trans h1).set (i := 0) (v := .slice ta t.length tc) NL hr (by decide) (by decide));have HV := Hi (show (w1.setCell ⟨W.heap.size, 0, none⟩ (.slice ta t.length tc)).heap[W.heap.size]? = some (.cells #[.slice ta t.length tc] 25) by simp [World.setCell, Array.getElem?_modify, hr])
   have HN : Hid (NdRow (fun _ => False) (w1.setCell ⟨W.heap.size, 0, none⟩ (.slice ta t.length tc)) (.slice ta t.length tc) t) := by
    have tR : tyOf w1 W.heap.size = 25 := by simp [tyOf, hr]
    exact hN.keep fun k e => keep_set fun e' => by subst e'; omega
   clear hN h1 hr;generalize t.length = LL at *;go_wp2;refine bodyPost_ret (results_cell3 rfl _ _ W.heap.size 25 #[.slice ta LL tc] (0, 0) _ rfl (U HV) Tryz.underlying25 rfl rfl) rfl ?_;exact ⟨⟨_, rfl, U HN⟩, U HF⟩
 | bad i c =>
   unfold AnsQ at HH ⊢;go_enter Tryz.func8, Tryz.ntmps8;go_wp2_with (go_at_call 16; refine (U HH).mono ?_)
   first | rintro e w1 rfl h1 | rintro e w1 ⟨rfl, h1⟩
   have hr : w1.heap[W.heap.size]? = some (.cells #[.slice none 0 0] 25) := (h1.block _ (by simp) (by rw [al_ty]; decide) (by rw [al_ty]; decide)).trans (U HR0);have c0 : w1.cell? ⟨W.heap.size, 0, none⟩ = some (.slice none 0 0) := by simp [World.cell?, hr]
   have f0 : w1.frozen? ⟨W.heap.size, 0, none⟩ = false := by simp [World.frozen?, hr]
   have hl0 := World.block_lt_of_cell? w1 _ c0;have HF := Hi (((WFr.of (U HB0)).trans h1).set (i := 0) (v := .slice none 0 0) NL hr (by decide) (by decide));have HV := Hi (show (w1.setCell ⟨W.heap.size, 0, none⟩ (.slice none 0 0)).heap[W.heap.size]? = some (.cells #[.slice none 0 0] 25) by simp [World.setCell, Array.getElem?_modify, hr]);clear h1 hr;go_wp2;refine bodyPost_ret (results_cell3 rfl _ _ W.heap.size 25 #[.slice none 0 0] (0, 0) _ rfl (U HV) Tryz.underlying25 rfl rfl) rfl ?_;exact ⟨rfl, U HF⟩
theorem ans_ok_program {W : World} {ba : Option Addr} {bl bc : Nat} {l : List Tok} {n : Nat} {s' : PS} {r : List Nat} (hT : ∀ w, Below W.heap.size W w → Calls Tryz.prog 11 #[.slice ba bl bc] w (TokQ l w)) (hG : GoodT l) (hpos : 0 < l.length) (hd : deepF l < 0) (hKl : KidsLt s'.nodes) (hr0 : hd0 r < s'.nodes.length) (hll : (layP s'.nodes (s'.nodes.length + 1) (hd0 r) []).1.length ≤ 1000000) (hq : endP ⟨l, clL l⟩ n .program (startS l) = .ok r s') :
 Calls Tryz.prog 8 #[.slice ba bl bc] W (AnsQ (.tree (layP s'.nodes (s'.nodes.length + 1) (hd0 r) []).1) W) :=
 front_program fun w hw => (whole_ok_program (fun w' hw' => hT w' (hw.trans (hw'.mono hw.size))) hG hpos hd hKl hr0 hll hq).mono fun e A ⟨tvv, he, hN, hF⟩ => ⟨⟨tvv, he, hN⟩, hF⟩
theorem rowD_four : ∀ (l : List TokD) (j : Nat) (d : TokD), l[j]? = some d → ∀ q, q < 4 → (rowD l)[j * 4 + q]? = ([.int .i64 d.1.1, .string (strOfNums d.1.2.1), .int .i64 (d.1.2.2.1 : Int), .int .i64 (d.1.2.2.2 : Int)] : List Value)[q]?
 | [], j, d, h, q, hq => by simp at h
 | x :: l, 0, d, h, q, hq => by
   cases h;match q, hq with
   | 0, _ => rfl
   | 1, _ => rfl
   | 2, _ => rfl
   | 3, _ => rfl
 | x :: l, j + 1, d, h, q, hq => by
   rw [← rowD_four l j d h q hq, show (j + 1) * 4 + q = (j * 4 + q) + 1 + 1 + 1 + 1 by omega];rfl
def toksOf (g : Nat → Int) (len : Nat) : List Tok := (scI g len 0 []).map (·.1)
theorem row_tk {w : World} {v : Value} {l : List TokD} {base : Nat} (h : w.ownsRow base 40 4 v l.length (rowD l)) (hpos : 0 < l.length) (hl : l.length ≤ 100000) : TkRow w v (l.map (·.1)) ∧ TyAt w v 40 := by
 rcases h.2 with ⟨_, e⟩ | ⟨g, cap, cur, e, _, hh, q1, q2, q3, q4⟩
 · omega
 · refine ⟨⟨g, cap, by rw [List.length_map]; exact e, by rw [List.length_map]; exact q1, q2, by rw [List.length_map]; exact hpos, by rw [List.length_map]; exact hl, fun j t hj => ?_⟩, fun k hk => ?_⟩
   · rw [List.getElem?_map, Option.map_eq_some_iff] at hj
     obtain ⟨d, hd, rfl⟩ := hj
     have hc : ∀ q u, q < 4 → ([.int .i64 d.1.1, .string (strOfNums d.1.2.1), .int .i64 (d.1.2.2.1 : Int), .int .i64 (d.1.2.2.2 : Int)] : List Value)[q]? = some u → w.cell? ⟨g, j * 4 + q, none⟩ = some u := fun q u hq hu => by
      have := h.cells (g := g) (by rw [e]; rfl) (j * 4 + q) u ((rowD_four l j d hd q hq).trans hu);rw [show (⟨g, j * 4 + q, none⟩ : Addr) = (⟨g, 0, none⟩ : Addr).add (j * 4 + q) by unfold Addr.add; split <;> simp_all];exact this
     exact ⟨hc 0 _ (by omega) rfl, hc 1 _ (by omega) rfl, hc 2 _ (by omega) rfl, hc 3 _ (by omega) rfl⟩
   · rw [e] at hk
     have : g = k := by simpa [Value.ownBlock] using hk
     subst this;simp [tyOf, hh]
theorem tokens_good {a : Option Addr} {len cap c0 : Nat} {g : Nat → Int} (hg : ∀ j, 0 ≤ g j ∧ g j ≤ 255) {W : World} (hlen : len ≤ 4000) (hS0 : ∀ w, Below W.heap.size W w → Sl w c0 (.slice a len cap) len g) (hc0 : c0 < W.heap.size) (hnil : a = none → cap = 0) (hE1 : ErrG W 1) (hE2 : ErrG W 2) (hok : okI (scI g len 0 [])) (hpos : 0 < (scI g len 0 []).length) (hl : (scI g len 0 []).length ≤ 100000) :
 ∀ w, Below W.heap.size W w → Calls Tryz.prog 11 #[.slice a len cap] w (TokQ (toksOf g len) w) := fun w hw => by
 refine (callsIn_wide.1 (tokens_any a len cap c0 g hg w hlen (hS0 w hw) (Nat.lt_of_lt_of_le hc0 hw.size) hnil (hE1.below hw hE1.lt) (hE2.below hw hE2.lt))).mono ?_;rintro e A ⟨⟨_, v, rfl, hR⟩ | ⟨p, i, hp, _⟩, hb⟩
 · obtain ⟨h1, h2⟩ := row_tk hR hpos hl
   exact ⟨v, rfl, h1, h2, hb⟩
 · exfalso
   have := hok ((0, [], i, 0), 3) (by rw [hp]; simp);simp at this
def hasD (l : List ByteArray) (v : ByteArray) : Bool := l.any fun s => v.data.toList == s.data.toList
theorem hasD_eq (l : List ByteArray) (v : ByteArray) : hasT l v = hasD l v := by simp [hasT, hasD, ba_toList]
def lsgND (g : Nat → Int) : Nat → Nat
 | 0 => 0
 | L + 1 => if hasD (sgnL (L + 1)) (strOfNums (upto g (L + 1))) then L + 1 else lsgND g L
theorem lsgND_eq (g : Nat → Int) : ∀ L, lsgN g L = lsgND g L
 | 0 => rfl
 | L + 1 => by simp only [lsgN, lsgND, hasD_eq, lsgND_eq g L]
def sigQD (g : Nat → Int) (len at' : Nat) (bs : List Bool) : Option (Int × List Int × Nat × List Bool) :=
 let n := lsgND (fun j => g (at' + j)) (min 3 (len - at'))
 if n = 0 then none
 else if sub g at' (at' + n) = [123] then some (9, sub g at' (at' + n), at' + n, bs ++ [false])
 else if sub g at' (at' + n) = [125] then some (9, sub g at' (at' + n), at' + n, bs.dropLast)
 else some (9, sub g at' (at' + n), at' + n, bs)
theorem sigQD_eq (g : Nat → Int) (len at' : Nat) (bs : List Bool) : sigQ g len at' bs = sigQD g len at' bs := by
 unfold sigQ sigQD sgN;simp only [lsgND_eq]
def tokPD (g : Nat → Int) (len at' : Nat) (bs : List Bool) : Option (Int × List Int × Nat × List Bool) :=
 if isL (g at') = true then some (if hasD wordL (strOfNums (sub g at' (stopI isLD g len (at' + 1)))) then 2 else 1, sub g at' (stopI isLD g len (at' + 1)), stopI isLD g len (at' + 1), bs)
 else if isD (g at') = true then (if numOk g len at' = true then some (3, sub g at' (numEnd g len at'), numEnd g len at', bs) else none)
 else if g at' = 34 ∨ g at' = 39 then (quoP g len (g at') at').map fun y => (y.1, y.2.1, y.2.2, bs)
 else if g at' = 96 then pieQ 5 6 bs (pieI g len (at' + 1))
 else if g at' = 125 ∧ lastB bs = true then pieQ 8 7 bs.dropLast (pieI g len (at' + 1))
 else sigQD g len at' bs
theorem tokPD_eq (g : Nat → Int) (len at' : Nat) (bs : List Bool) : tokP g len at' bs = tokPD g len at' bs := by
 unfold tokP tokPD;simp only [hasD_eq, sigQD_eq]
def scFD (g : Nat → Int) (len : Nat) : Nat → Nat → List Bool → List TokD
 | 0, _, _ => []
 | f + 1, i, bs =>
   if ¬ i < len then [((10, [], len, len), 0)]
   else if blk (g i) = true then scFD g len f (i + 1) bs
   else if g i = 47 ∧ i + 1 < len ∧ g (i + 1) = 47 then scFD g len f (stopI (fun c => c != 10) g len i) bs
   else if g i = 47 ∧ i + 1 < len ∧ g (i + 1) = 42 then (if remI g len (i + 2) + 1 < len then scFD g len f (remI g len (i + 2) + 2) bs else [((0, [], i, 0), 3)])
   else match tokPD g len i bs with
    | none => [((0, [], i, 0), 3)]
    | some (k, t, e, bs') => ((k, t, i, e), 0) :: scFD g len f e bs'
theorem scFD_eq (g : Nat → Int) (len : Nat) : ∀ (f i : Nat) (bs : List Bool), scF g len f i bs = scFD g len f i bs
 | 0, _, _ => rfl
 | f + 1, i, bs => by
   simp only [scF, scFD, tokPD_eq, scFD_eq g len f];generalize tokPD g len i bs = y;cases y with
   | none => rfl
   | some z => rfl
def gOf (bs : List Int) (j : Nat) : Int := bs.getD j 0
def lexB (bs : List Int) : List TokD := scFD (gOf bs) bs.length (bs.length + 1) 0 []
theorem lexB_eq (bs : List Int) : scI (gOf bs) bs.length 0 [] = lexB bs := by
 unfold scI lexB;rw [scFD_eq, Nat.sub_zero]
def goodB (l : List Tok) : Bool := (l.all fun t => (t.2.1.all fun z => decide (0 ≤ z ∧ z ≤ 255)) && (decide (t.1 ≠ 3) || (decide (0 < t.2.1.length) && decide (t.2.1.length < 19) && t.2.1.all fun d => decide (48 ≤ d ∧ d ≤ 57))) && decide (t.2.2.1 + t.2.1.length ≤ 1000000000)) && decide ((clL l).length = l.length) && (clL l).all fun k => decide (k = 0 ∨ k + 1 < l.length)
theorem goodB_ok {l : List Tok} (h : goodB l = true) : GoodT l := by
 simp only [goodB, Bool.and_eq_true, List.all_eq_true, decide_eq_true_eq, Bool.or_eq_true] at h;obtain ⟨⟨h1, h2⟩, h3⟩ := h;refine ⟨fun t ht z hz => ((h1 t ht).1.1 z hz), fun t ht => ⟨fun h => ?_, (h1 t ht).2⟩, h2, fun k hk hn => (h3 k hk).resolve_left hn⟩;rcases (h1 t ht).1.2 with e | ⟨⟨e1, e2⟩, e3⟩
 · exact absurd h e
 · exact ⟨e1, e2, e3⟩
def kidsB (nodes : List PN) : Bool := (List.range nodes.length).all fun i => decide ((nodes.getD i pn0).kids.length ≤ 1000000) && (nodes.getD i pn0).kids.all fun k => decide (k < i)
theorem kidsB_ok {nodes : List PN} (h : kidsB nodes = true) : KidsLt nodes := by
 simp only [kidsB, List.all_eq_true, Bool.and_eq_true, decide_eq_true_eq, List.mem_range] at h;intro i x hx;have hi := (List.getElem?_eq_some_iff.1 hx).1;have e : nodes.getD i pn0 = x := by rw [List.getD_eq_getElem?_getD, hx]; rfl
 have := h i hi;rw [e] at this;exact this
def ansB (bs : List Int) (n : Nat) (x : Cmd) : Option (List PN) :=
 let L := lexB bs
 let l := L.map (·.1)
 if (L.all fun t => decide (t.2 = 0)) && decide (0 < L.length) && decide (L.length ≤ 100000) && goodB l && decide (deepF l < 0) then
  match endP ⟨l, clL l⟩ n x (startS l) with
  | .ok r s => if kidsB s.nodes && decide (hd0 r < s.nodes.length) && decide ((layP s.nodes (s.nodes.length + 1) (hd0 r) []).1.length ≤ 1000000) then some (layP s.nodes (s.nodes.length + 1) (hd0 r) []).1 else none
  | _ => none
 else none
theorem ansB_inv {bs : List Int} {n : Nat} {x : Cmd} {t : List PN} (h : ansB bs n x = some t) : okI (scI (gOf bs) bs.length 0 []) ∧ 0 < (scI (gOf bs) bs.length 0 []).length ∧ (scI (gOf bs) bs.length 0 []).length ≤ 100000 ∧ GoodT (toksOf (gOf bs) bs.length) ∧ deepF (toksOf (gOf bs) bs.length) < 0 ∧ ∃ r s, endP ⟨toksOf (gOf bs) bs.length, clL (toksOf (gOf bs) bs.length)⟩ n x (startS (toksOf (gOf bs) bs.length)) = .ok r s ∧ KidsLt s.nodes ∧ hd0 r < s.nodes.length ∧ (layP s.nodes (s.nodes.length + 1) (hd0 r) []).1.length ≤ 1000000 ∧ t = (layP s.nodes (s.nodes.length + 1) (hd0 r) []).1 := by
 unfold toksOf;rw [lexB_eq];unfold ansB at h;simp only at h;split at h
 · rename_i hc
   simp only [Bool.and_eq_true, List.all_eq_true, decide_eq_true_eq] at hc;obtain ⟨⟨⟨⟨c1, c2⟩, c3⟩, c4⟩, c5⟩ := hc;refine ⟨c1, c2, c3, goodB_ok c4, c5, ?_⟩;split at h
   · rename_i r s he
     split at h
     · rename_i hk
       simp only [Bool.and_eq_true, decide_eq_true_eq] at hk;exact ⟨r, s, he, kidsB_ok hk.1.1, hk.1.2, hk.2, (Option.some.inj h).symm⟩
     · cases h
   · cases h
 · cases h
theorem ansB_len {bs : List Int} {n : Nat} {x : Cmd} {t : List PN} (h : ansB bs n x = some t) : 0 < (toksOf (gOf bs) bs.length).length := by
 have := (ansB_inv h).2.1;simpa [toksOf] using this
theorem gOf_by {bs : List Int} (h : Bys bs) (j : Nat) : 0 ≤ gOf bs j ∧ gOf bs j ≤ 255 := by
 unfold gOf;rw [List.getD_eq_getElem?_getD];cases e : bs[j]? with
 | none => simp
 | some z => exact h z (List.mem_of_getElem? e)
theorem read_program {bs : List Int} {n : Nat} {t : List PN} (h : ansB bs n .program = some t) (hb : Bys bs) {W : World} {a : Option Addr} {cap c0 : Nat} (hlen : bs.length ≤ 4000) (hS0 : ∀ w, Below W.heap.size W w → Sl w c0 (.slice a bs.length cap) bs.length (gOf bs)) (hc0 : c0 < W.heap.size) (hnil : a = none → cap = 0) (hE1 : ErrG W 1) (hE2 : ErrG W 2) : Calls Tryz.prog 8 #[.slice a bs.length cap] W (AnsQ (.tree t) W) := by
 obtain ⟨h1, h2, h3, h4, h5, r, s, h6, h7, h8, h9, rfl⟩ := ansB_inv h;exact ans_ok_program (tokens_good (gOf_by hb) hlen hS0 hc0 hnil hE1 hE2 h1 h2 h3) h4 (ansB_len h) h5 h7 h8 h9 h6
def treeK : List PN := [⟨3, [], 0, [1], 0⟩, ⟨64, [], 0, [2], 0⟩, ⟨27, [], 0, [3, 4, 5], 0⟩, ⟨17, [102], 0, [], 0⟩, ⟨2, [], 0, [], 0⟩, ⟨2, [], 0, [6], 0⟩, ⟨10, [], 1, [], 2⟩]
theorem knownT : ansB [102, 40, 49, 41, 59] 40 .program = some treeK := by decide +kernel
theorem known_bys : Bys [102, 40, 49, 41, 59] := by intro z hz; simp at hz; omega
theorem sl_lit {W : World} {bs : List Int} {t : Nat} {fr : Nat × Nat} (hpos : 0 < bs.length) (hl : bs.length ≤ 4000) {w : World} (hw : Below (W.heap.size + 1) (W.alloc (.cells (bs.map fun z : Int => Value.int .u8 z).toArray t fr)) w) : Sl w W.heap.size (.slice (some ⟨W.heap.size, 0, none⟩) bs.length bs.length) bs.length (gOf bs) := by
 refine .inr ⟨0, bs.length, rfl, hpos, NL, by unfold maxLen; omega, fun j hj => ?_⟩;have h1 : w.heap[W.heap.size]? = some (.cells (bs.map fun z : Int => Value.int .u8 z).toArray t fr) := (hw.block _ (Nat.lt_succ_self _)).trans (al_at _ _);simp only [World.cell?, h1, Nat.zero_add];simp [gOf, hj]
theorem known_any {W : World} (hE1 : ErrG W 1) (hE2 : ErrG W 2) : Calls Tryz.prog 10 #[] W fun e A => e = .returned (.bool true) ∧ WFr W A := by
 have hb : Below W.heap.size W (W.alloc (.cells #[.int .u8 102, .int .u8 40, .int .u8 49, .int .u8 41, .int .u8 59] 5 (5, 6))) := (Below.refl _ W).alloc NL _
 have HC : Hid (Calls Tryz.prog 8 #[.slice (some ⟨W.heap.size, 0, none⟩) 5 5] (W.alloc (.cells #[.int .u8 102, .int .u8 40, .int .u8 49, .int .u8 41, .int .u8 59] 5 (5, 6))) (AnsQ (.tree treeK) (W.alloc (.cells #[.int .u8 102, .int .u8 40, .int .u8 49, .int .u8 41, .int .u8 59] 5 (5, 6))))) :=
  read_program (cap := 5) (c0 := W.heap.size) knownT known_bys (by decide) (fun w hw => sl_lit (t := 5) (fr := (5, 6)) (by decide) (by decide) (by rw [World.size_alloc] at hw; exact hw)) (by simp) (fun h => by cases h) (hE1.below hb hE1.lt) (hE2.below hb hE2.lt)
 have HB := Hi hb;obtain ⟨W1, hW1⟩ : ∃ w, W.alloc (.cells #[.int .u8 102, .int .u8 40, .int .u8 49, .int .u8 41, .int .u8 59] 5 (5, 6)) = w := ⟨_, rfl⟩;have hcm : (convert 22 22 (.slice (some ⟨W.heap.size, 0, none⟩) 5 5)).run Tryz.prog (W.alloc (.cells #[.int .u8 102, .int .u8 40, .int .u8 49, .int .u8 41, .int .u8 59] 5)) = .ok (.slice (some ⟨W.heap.size, 0, none⟩) 5 5) W1 := by rw [← hW1]; exact conv_mark W _ 5 5
 rw [hW1] at HC HB;clear hb hE1 hE2 hW1;unfold AnsQ at HC;go_enter Tryz.func10, Tryz.ntmps10;go_wp2_with (go_at_call 8; refine (U HC).mono ?_)
 first | rintro e w1 tvv rfl hN h1 | rintro e w1 ⟨⟨tvv, rfl, hN⟩, h1⟩
 obtain ⟨g, cap, kv1, etv, q1, q2, _, a0, _, _, _, _⟩ := nd_five (i := 1) hN rfl;subst etv;obtain ⟨g2, cap2, kv2, e2, _, _, _, b0, _, _, _, _⟩ := nd_five (i := 2) hN rfl;cases e2;obtain ⟨g3, cap3, kv3, e3, _, _, _, _, _, c2, _, _⟩ := nd_five (i := 6) hN rfl;cases e3;have hg := World.block_lt_of_cell? w1 _ a0;have HF := Hi (((WFr.of (U HB)).trans h1).trans (WFr.of ((Below.refl _ w1).alloc NL (.cells #[.slice (some ⟨g, 0, none⟩) 7 cap] 25))));change w1.cell? ⟨g, 5, none⟩ = _ at a0;change w1.cell? ⟨g, 10, none⟩ = _ at b0;change w1.cell? ⟨g, 32, none⟩ = _ at c2;simp only [treeK, List.length_cons, List.length_nil] at q1 ⊢;clear hN h1;go_wp2;go_ret;exact ⟨rfl, U HF⟩
theorem whole_ok_type {W : World} {ba : Option Addr} {bl bc : Nat} {l : List Tok} {n : Nat} {s' : PS} {r : List Nat} (hT : ∀ w, Below W.heap.size W w → Calls Tryz.prog 11 #[.slice ba bl bc] w (TokQ l w)) (hG : GoodT l) (hpos : 0 < l.length) (hd : deepF l < 0) (hKl : KidsLt s'.nodes) (hr0 : hd0 r < s'.nodes.length) (hll : (layP s'.nodes (s'.nodes.length + 1) (hd0 r) []).1.length ≤ 1000000) (hq : endP ⟨l, clL l⟩ n .anyType (startS l) = .ok r s') :
 Calls Tryz.prog 16 #[.slice ba bl bc, .func (.func 22) #[] #[]] W fun e A => ∃ tvv, e = .returned (.tuple #[.agg #[tvv], .int .i64 0, .int .i64 0]) ∧ NdRow (fun _ => False) A tvv (layP s'.nodes (s'.nodes.length + 1) (hd0 r) []).1 ∧ WFr W A := by
 have HT := Hi hT;have HKL := Hi hKl;have HR00 := Hi hr0;have HLL := Hi hll;have HQ := Hi hq;have HG := Hi hG;obtain ⟨df, hdf⟩ : ∃ d, deepF l = d := ⟨_, rfl⟩;have HDF := Hi hdf;rw [hdf] at hd;have hdb : ¬ (0 : Int) ≤ df := by omega
 clear hd;have hB0 : Below W.heap.size W ((W.alloc (.cells #[.func (.func 22) #[] #[]] 49)).alloc (.cells #[.slice none 0 0] 25)) := ((Below.refl _ W).alloc NL _).alloc (by simp) _;have HB0 := Hi hB0;have HR0 := Hi (al_at' W (.cells #[.slice none 0 0] 25) (.cells #[.func (.func 22) #[] #[]] 49));have HX0 : Hid (((W.alloc (.cells #[.func (.func 22) #[] #[]] 49)).alloc (.cells #[.slice none 0 0] 25)).heap[W.heap.size]? = some (.cells #[.func (.func 22) #[] #[]] 49)) := al_lt (al_at _ _);clear hB0 hT hq hG hdf hKl hr0 hll;go_enter Tryz.func16, Tryz.ntmps16;go_wp2_with (go_at_call 11; refine (U HT _ (U HB0)).mono ?_)
 first | rintro e w1 tv rfl hk1 hy1 h1 | rintro e w1 ⟨tv, rfl, hk1, hy1, h1⟩
 have HC := Hi (depth_tk hk1);rw [U HDF] at HC;have HK1 := Hi hk1;have HY1 := Hi hy1;have HB1 := Hi ((U HB0).trans (h1.mono (by simp; omega)));have HR1 := Hi ((h1.block _ (by simp)).trans (U HR0));have HX1 := Hi ((h1.block _ (by simp; omega)).trans (U HX0));obtain ⟨tb, tcap, rfl⟩ := sl_tv hk1;clear hk1 hy1 h1;go_wp2_with (go_at_call 25; refine (U HC).mono ?_)
 first | rintro e w2 d rfl h2 | rintro e w2 ⟨⟨d, rfl⟩, h2⟩
 have hT2 := TkRow.keep (S0 := fun _ => False) (U HK1) (below_fr h2) (fun _ _ h => h)
 have hY2 : TyAt w2 (.slice (some ⟨tb, 0, none⟩) l.length tcap) 40 := fun k hk => by
  have := U HY1 k hk;rw [tyOf_eq (h2.block k (ty_lt this (by omega)))];exact this
 have HNR := Hi (newReader_any hT2 hY2 (U HG).toks ((U HG).nums _ (by rw [List.getD_eq_getElem?_getD, List.getElem?_eq_getElem hpos]; exact List.getElem_mem hpos)) (U HG).cll);have HB2 := Hi ((U HB1).trans (h2.mono (U HB1).size));have HR2 := Hi ((h2.block _ (Array.getElem?_eq_some_iff.1 (U HR1)).1).trans (U HR1));have HX2 := Hi ((h2.block _ (Array.getElem?_eq_some_iff.1 (U HX1)).1).trans (U HX1));clear h2 hT2 hY2;go_wp2_with (go_at_call 26; refine (U HNR).mono ?_)
 first | rintro e w3 E rfl hEc hEt hEz hEM hR h3 | rintro e w3 ⟨E, rfl, hEc, hEt, hEz, hEM, hR, h3⟩
 have hE : E.Ok := by
  have := U HG;refine ⟨?_, ?_, ?_, ?_⟩ <;> rw [hEc]
  · exact this.toks
  · exact this.nums
  · exact this.cll
  · exact this.clb
 obtain ⟨w4, hw4⟩ : ∃ w, (w3.alloc (.cells #[.pointer (some ⟨E.M, 0, none⟩)] 51)).alloc (.cells #[.int .i64 0] 3) = w := ⟨_, rfl⟩;have h4 : Below w3.heap.size w3 w4 := by rw [← hw4]; exact ((Below.refl _ w3).alloc NL _).alloc (by simp) _
 have k0 : w4.heap[w3.heap.size]? = some (.cells #[.pointer (some ⟨E.M, 0, none⟩)] 51) := by rw [← hw4]; exact al_lt (al_at _ _)
 have k2 : w4.heap[w3.heap.size + 1]? = some (.cells #[.int .i64 0] 3) := by rw [← hw4]; exact al_at' _ _ _
 have kx : w4.heap[W.heap.size]? = some (.cells #[.func (.func 22) #[] #[]] 49) := (h4.block _ (Nat.lt_of_lt_of_le (Array.getElem?_eq_some_iff.1 (U HX2)).1 h3.size)).trans ((h3.block _ (Array.getElem?_eq_some_iff.1 (U HX2)).1).trans (U HX2));have kr : w4.heap[W.heap.size + 1]? = some (.cells #[.slice none 0 0] 25) := (h4.block _ (Nat.lt_of_lt_of_le (Array.getElem?_eq_some_iff.1 (U HR2)).1 h3.size)).trans ((h3.block _ (Array.getElem?_eq_some_iff.1 (U HR2)).1).trans (U HR2));have hR4 : RAt (E.off (w3.heap.size + 1)) (.slice none 0 0) (startS l) w4 := hR.off h4 (Nat.le_succ _) (Array.getElem?_eq_some_iff.1 k2).1;have hq' : endP E.c n .anyType (startS l) = .ok r s' := by rw [hEc]; exact U HQ
 have HATT := Hi (attempt_any 28 #[] #[.pointer (some ⟨w3.heap.size, 0, none⟩), .pointer (some ⟨W.heap.size, 0, none⟩), .pointer (some ⟨w3.heap.size + 1, 0, none⟩)] w4 _ _ (fun args w => by kernel_rfl) (whole1_anyType (fun Z => (all_any hE n n NL Z).anyType) (w3.heap.size + 1) hR4 k0 kx k2 (by rw [hq']; simp)));rw [← hw4] at HATT;have HB4 := Hi ((U HB2).trans ((h3.mono (U HB2).size).trans (h4.mono (Nat.le_trans (U HB2).size h3.size))));have HK0 := Hi k0;have HK2 := Hi k2;have HKR := Hi kr;have HW4 := Hi hw4;have HQ' := Hi hq';have HR4 := Hi hR4;have hM4 : E.M < w4.heap.size := hR4.rd.lt;have hWM : W.heap.size ≤ E.lo := Nat.le_trans (U HB2).size hEM;have hs3 : w2.heap.size ≤ w3.heap.size := h3.size;have hs2 := (U HB2).size
 have hMr : E.M ≠ W.heap.size + 1 := fun e => by
  have h1 := hR4.mty;rw [show (E.off (w3.heap.size + 1)).M = E.M from rfl, e] at h1;simp [tyOf, kr] at h1
 have hMg : w3.heap.size + 1 ≠ E.M := fun e => by
  have h1 := hR4.mty;rw [show (E.off (w3.heap.size + 1)).M = E.M from rfl, ← e] at h1;simp [tyOf, k2] at h1
 have hMb : w3.heap.size ≠ E.M := fun e => by
  have h1 := hR4.mty;rw [show (E.off (w3.heap.size + 1)).M = E.M from rfl, ← e] at h1;simp [tyOf, k0] at h1
 have hrw : W.heap.size + 1 < w3.heap.size := Nat.lt_of_lt_of_le (Array.getElem?_eq_some_iff.1 (U HR2)).1 hs3;have HLR := Hi (Lf.refl hR);have H4 := Hi h4;have HEZ := Hi hEz;have HB3 := Hi ((U HB2).trans (h3.mono (U HB2).size));have hg4 : w3.heap.size + 1 < w4.heap.size := (Array.getElem?_eq_some_iff.1 k2).1;clear k0 k2 kx kr hw4 hq' hR4 h3 h4 hE hEc hEt hEz hEM hR;go_wp2_with (go_at_call 27; refine (U HATT).mono ?_);rintro e w5 (⟨rfl, wA, hA, hbA⟩ | ⟨rfl, wA, hA, hbA⟩)
 · rw [U HW4] at hA
   obtain ⟨l5, s5, nv5, wB, hq5, hl5, rfl⟩ := hA;rw [U HQ'] at hq5;cases hq5;have htB := ct_ty hl5 (U HK2) hMg;have hLA := (ct_lf (U HLR) (U H4) hg4 hl5 htB ((FrP.refl (fun k => k = w3.heap.size + 1) wB).set (w3.heap.size + 1) 0 (.int .i64 (hd0 r : Int)) rfl)).below hbA;have v2 := ct_set hl5 (U HK2) hMg hbA;have v0 := ct_keep hl5 (U HK0) (by decide) (by decide) hMb (by omega) hbA;have hr5 := ct_keep hl5 (U HKR) (by decide) (by decide) (fun e => hMr e.symm) (by omega) hbA;have x0 : w5.cell? ⟨w3.heap.size, 0, none⟩ = some (.pointer (some ⟨E.M, 0, none⟩)) := by simp [World.cell?, v0]
   have x2 : w5.cell? ⟨w3.heap.size + 1, 0, none⟩ = some (.int .i64 (hd0 r : Int)) := by simp [World.cell?, v2]
   have hx0 := World.block_lt_of_cell? w5 _ x0;have hx2 := World.block_lt_of_cell? w5 _ x2;have HLO := Hi (laidOut_any (rc := rdC E.tv s'.n s'.tk nv5 E.lv E.cv E.bv) rfl hLA.1.rd hLA.1.nd hLA.1.zl (U HR00) (U HKL) (U HLL));have HWF := Hi (whole_wfr (U HB3) (U HEZ) hWM hLA);have HR5 := Hi hr5;clear hl5 hbA hLA v2 v0 hr5 htB;go_wp2_with (go_at_call 30; refine (U HLO).mono ?_)
   first | rintro e w6 tvv rfl hN h6 | rintro e w6 ⟨tvv, rfl, hN, h6⟩
   have hr6 : w6.heap[W.heap.size + 1]? = some (.cells #[.slice none 0 0] 25) := (h6.block _ (Array.getElem?_eq_some_iff.1 (U HR5)).1).trans (U HR5);have c0 : w6.cell? ⟨W.heap.size + 1, 0, none⟩ = some (.slice none 0 0) := by simp [World.cell?, hr6]
   have f0 : w6.frozen? ⟨W.heap.size + 1, 0, none⟩ = false := by simp [World.frozen?, hr6]
   have hl0 := World.block_lt_of_cell? w6 _ c0;obtain ⟨ta, tc, etv⟩ := nd_form hN;subst etv;have HF := Hi (((U HWF).trans (WFr.of h6)).set (i := 0) (v := .slice ta (layP s'.nodes (s'.nodes.length + 1) (hd0 r) []).1.length tc) (Nat.le_succ _) hr6 (by decide) (by decide));have HV := Hi (show (w6.setCell ⟨W.heap.size + 1, 0, none⟩ (.slice ta (layP s'.nodes (s'.nodes.length + 1) (hd0 r) []).1.length tc)).heap[W.heap.size + 1]? = some (.cells #[.slice ta (layP s'.nodes (s'.nodes.length + 1) (hd0 r) []).1.length tc] 25) by simp [World.setCell, Array.getElem?_modify, hr6])
   have HN : Hid (NdRow (fun _ => False) (w6.setCell ⟨W.heap.size + 1, 0, none⟩ (.slice ta (layP s'.nodes (s'.nodes.length + 1) (hd0 r) []).1.length tc)) (.slice ta (layP s'.nodes (s'.nodes.length + 1) (hd0 r) []).1.length tc) (layP s'.nodes (s'.nodes.length + 1) (hd0 r) []).1) := by
    have tR : tyOf w6 (W.heap.size + 1) = 25 := by simp [tyOf, hr6]
    exact (hN.lt (fun k _ _ h => h)).keep fun k e => keep_set fun e' => by subst e'; omega
   clear hN h6 hr6;generalize (layP s'.nodes (s'.nodes.length + 1) (hd0 r) []).1.length = LL at *;go_wp2;refine bodyPost_ret (results_cell3 rfl _ _ (W.heap.size + 1) 25 #[.slice ta LL tc] (0, 0) _ rfl (U HV) Tryz.underlying25 rfl rfl) rfl ?_;exact ⟨_, rfl, U HN, U HF⟩
 · exfalso
   obtain ⟨s5, nv5, hq5, _⟩ := hA;rw [U HQ'] at hq5;cases hq5
theorem front_type {W : World} {ba : Option Addr} {bl bc : Nat} {r : Ans} (h : ∀ w, Below W.heap.size W w → Calls Tryz.prog 16 #[.slice ba bl bc, .func (.func 22) #[] #[]] w (AnsQ r w)) : Calls Tryz.prog 13 #[.slice ba bl bc] W (AnsQ r W) := by
 have HH := Hi (h _ ((Below.refl _ W).alloc NL (.cells #[.slice none 0 0] 25)));clear h;have HB0 := Hi ((Below.refl _ W).alloc NL (.cells #[.slice none 0 0] 25));have HR0 := Hi (al_at W (.cells #[.slice none 0 0] 25));cases r with
 | tree t =>
   unfold AnsQ at HH ⊢;go_enter Tryz.func13, Tryz.ntmps13;go_wp2_with (go_at_call 16; refine (U HH).mono ?_)
   first | rintro e w1 tvv rfl hN h1 | rintro e w1 ⟨⟨tvv, rfl, hN⟩, h1⟩
   have hr : w1.heap[W.heap.size]? = some (.cells #[.slice none 0 0] 25) := (h1.block _ (by simp) (by rw [al_ty]; decide) (by rw [al_ty]; decide)).trans (U HR0);have c0 : w1.cell? ⟨W.heap.size, 0, none⟩ = some (.slice none 0 0) := by simp [World.cell?, hr]
   have f0 : w1.frozen? ⟨W.heap.size, 0, none⟩ = false := by simp [World.frozen?, hr]
   have hl0 := World.block_lt_of_cell? w1 _ c0;obtain ⟨ta, tc, etv⟩ := nd_form hN;subst etv;have HF := Hi (((WFr.of (U HB0)).trans h1).set (i := 0) (v := .slice ta t.length tc) NL hr (by decide) (by decide));have HV := Hi (show (w1.setCell ⟨W.heap.size, 0, none⟩ (.slice ta t.length tc)).heap[W.heap.size]? = some (.cells #[.slice ta t.length tc] 25) by simp [World.setCell, Array.getElem?_modify, hr])
   have HN : Hid (NdRow (fun _ => False) (w1.setCell ⟨W.heap.size, 0, none⟩ (.slice ta t.length tc)) (.slice ta t.length tc) t) := by
    have tR : tyOf w1 W.heap.size = 25 := by simp [tyOf, hr]
    exact hN.keep fun k e => keep_set fun e' => by subst e'; omega
   clear hN h1 hr;generalize t.length = LL at *;go_wp2;refine bodyPost_ret (results_cell3 rfl _ _ W.heap.size 25 #[.slice ta LL tc] (0, 0) _ rfl (U HV) Tryz.underlying25 rfl rfl) rfl ?_;exact ⟨⟨_, rfl, U HN⟩, U HF⟩
 | bad i c =>
   unfold AnsQ at HH ⊢;go_enter Tryz.func13, Tryz.ntmps13;go_wp2_with (go_at_call 16; refine (U HH).mono ?_)
   first | rintro e w1 rfl h1 | rintro e w1 ⟨rfl, h1⟩
   have hr : w1.heap[W.heap.size]? = some (.cells #[.slice none 0 0] 25) := (h1.block _ (by simp) (by rw [al_ty]; decide) (by rw [al_ty]; decide)).trans (U HR0);have c0 : w1.cell? ⟨W.heap.size, 0, none⟩ = some (.slice none 0 0) := by simp [World.cell?, hr]
   have f0 : w1.frozen? ⟨W.heap.size, 0, none⟩ = false := by simp [World.frozen?, hr]
   have hl0 := World.block_lt_of_cell? w1 _ c0;have HF := Hi (((WFr.of (U HB0)).trans h1).set (i := 0) (v := .slice none 0 0) NL hr (by decide) (by decide));have HV := Hi (show (w1.setCell ⟨W.heap.size, 0, none⟩ (.slice none 0 0)).heap[W.heap.size]? = some (.cells #[.slice none 0 0] 25) by simp [World.setCell, Array.getElem?_modify, hr]);clear h1 hr;go_wp2;refine bodyPost_ret (results_cell3 rfl _ _ W.heap.size 25 #[.slice none 0 0] (0, 0) _ rfl (U HV) Tryz.underlying25 rfl rfl) rfl ?_;exact ⟨rfl, U HF⟩
theorem ans_ok_type {W : World} {ba : Option Addr} {bl bc : Nat} {l : List Tok} {n : Nat} {s' : PS} {r : List Nat} (hT : ∀ w, Below W.heap.size W w → Calls Tryz.prog 11 #[.slice ba bl bc] w (TokQ l w)) (hG : GoodT l) (hpos : 0 < l.length) (hd : deepF l < 0) (hKl : KidsLt s'.nodes) (hr0 : hd0 r < s'.nodes.length) (hll : (layP s'.nodes (s'.nodes.length + 1) (hd0 r) []).1.length ≤ 1000000) (hq : endP ⟨l, clL l⟩ n .anyType (startS l) = .ok r s') :
 Calls Tryz.prog 13 #[.slice ba bl bc] W (AnsQ (.tree (layP s'.nodes (s'.nodes.length + 1) (hd0 r) []).1) W) :=
 front_type fun w hw => (whole_ok_type (fun w' hw' => hT w' (hw.trans (hw'.mono hw.size))) hG hpos hd hKl hr0 hll hq).mono fun e A ⟨tvv, he, hN, hF⟩ => ⟨⟨tvv, he, hN⟩, hF⟩
theorem read_type {bs : List Int} {n : Nat} {t : List PN} (h : ansB bs n .anyType = some t) (hb : Bys bs) {W : World} {a : Option Addr} {cap c0 : Nat} (hlen : bs.length ≤ 4000) (hS0 : ∀ w, Below W.heap.size W w → Sl w c0 (.slice a bs.length cap) bs.length (gOf bs)) (hc0 : c0 < W.heap.size) (hnil : a = none → cap = 0) (hE1 : ErrG W 1) (hE2 : ErrG W 2) : Calls Tryz.prog 13 #[.slice a bs.length cap] W (AnsQ (.tree t) W) := by
 obtain ⟨h1, h2, h3, h4, h5, r, s, h6, h7, h8, h9, rfl⟩ := ansB_inv h;exact ans_ok_type (tokens_good (gOf_by hb) hlen hS0 hc0 hnil hE1 hE2 h1 h2 h3) h4 (ansB_len h) h5 h7 h8 h9 h6
end
end Go.Proofs.YtofgphapjjofnaaGreatDoor
