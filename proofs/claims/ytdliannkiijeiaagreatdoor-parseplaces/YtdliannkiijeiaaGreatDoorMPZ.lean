/- Towards the law: PZ. -/
import Derived.BigRegion
import Derived.Test.YtdliannkiijeiaaGreatDoorMS6
import Derived.Test.YtdliannkiijeiaaGreatDoorMT
set_option linter.unusedSimpArgs false
set_option linter.unusedVariables false
set_option maxRecDepth 100000
set_option maxHeartbeats 8000000
namespace Go.Proofs.YtdliannkiijeiaaGreatDoor
section
open Go.RowKit Go.Shelf
def BoxAt (w : World) (X : Nat) (x : PN) (kv : Value) : Prop := w.heap[X]? = some (.cells #[.int .i64 x.kind, .string (strOfNums x.text), .int .i64 x.num, kv, .int .i64 (x.loc : Int)] 34)
theorem BoxAt.cells {w : World} {X : Nat} {x : PN} {kv : Value} (h : BoxAt w X x kv) : X < w.heap.size ∧ w.cell? ⟨X, 0, none⟩ = some (.int .i64 x.kind) ∧ w.cell? ⟨X, 1, none⟩ = some (.string (strOfNums x.text)) ∧ w.cell? ⟨X, 2, none⟩ = some (.int .i64 x.num) ∧ w.cell? ⟨X, 3, none⟩ = some kv ∧ w.cell? ⟨X, 4, none⟩ = some (.int .i64 (x.loc : Int)) := by
 unfold BoxAt at h;exact ⟨(Array.getElem?_eq_some_iff.1 h).1, by simp [World.cell?, h], by simp [World.cell?, h], by simp [World.cell?, h], by simp [World.cell?, h], by simp [World.cell?, h]⟩
theorem kid_get {Z : Nat → Prop} {w : World} {kv : Value} {ks : List Nat} (h : KidR Z w kv ks) {j k : Nat} (hj : ks[j]? = some k) : ∃ b o cap, kv = .slice (some ⟨b, o, none⟩) ks.length cap ∧ b < w.heap.size ∧ ks.length ≤ cap ∧ cap ≤ maxLen ∧ w.cell? ⟨b, o + j, none⟩ = some (.int .i64 (k : Int)) := by
 obtain ⟨a, cap, e, h1, h2, h3⟩ := h;rcases h3 with h3 | ⟨b, o, cur, fr, ea, _, hh, hc⟩
 · rw [h3] at hj; simp at hj
 · exact ⟨b, o, cap, by rw [e, ea], (Array.getElem?_eq_some_iff.1 hh).1, h1, h2, by simp [World.cell?, hh, hc j k hj]⟩
theorem kid_form {Z : Nat → Prop} {w : World} {kv : Value} {ks : List Nat} (h : KidR Z w kv ks) : ∃ a cap, kv = .slice a ks.length cap := by
 obtain ⟨a, cap, e, _⟩ := h;exact ⟨a, cap, e⟩
theorem places_bad {W : World} {a : Option Addr} {len cap : Nat} {i c : Int} (hlen : len ≤ 800) (hC : Calls Tryz.prog 9 #[.slice a len cap] W (AnsQ (.bad i c) W)) (hc : c ≠ 0) (hE1 : ErrG W 1) (hE2 : ErrG W 2) : Calls Tryz.prog 6 #[.slice a len cap] W fun e A => e = .returned (.bool true) ∧ Below W.heap.size W A := by
 have HC := Hi hC;have HE := Hi (And.intro hE1 hE2);have hl' : ¬ (len : Int) > 800 := by omega
 have hcb : (c != 0) = true := by simpa using hc
 clear hC hE1 hE2 hc;unfold AnsQ at HC;go_enter Tryz.func6, Tryz.ntmps6;go_wp2_with (go_at_call 9; refine (U HC).mono ?_)
 first | rintro e w1 rfl h1 | rintro e w1 ⟨rfl, h1⟩
 have hB : Below W.heap.size W (w1.alloc (.cells #[.slice none 0 0] 25)) := h1.bel.alloc h1.size _;have HK := Hi (known_any ((U HE).1.below hB (U HE).1.lt) ((U HE).2.below hB (U HE).2.lt));have HB := Hi hB;clear h1 hB;go_wp2_with (go_at_call 11; refine (U HK).mono ?_)
 first | rintro e w2 rfl h2 | rintro e w2 ⟨rfl, h2⟩
 have HF := Hi ((U HB).trans (h2.bel.mono (U HB).size));clear h2;go_wp2;go_ret;exact ⟨rfl, U HF⟩
theorem NdRow.bel {Z : Nat → Prop} {W A : World} {v : Value} {l : List PN} (h : NdRow Z W v l) (hb : Below W.heap.size W A) : NdRow Z A v l := h.keep fun k e => hb.block k (by rcases e with e | e <;> exact ty_lt e (by omega))
theorem KidR.bel {Z : Nat → Prop} {W A : World} {v : Value} {l : List Nat} (h : KidR Z W v l) (hb : Below W.heap.size W A) : KidR Z A v l := h.keep fun k e => hb.block k (ty_lt e (by omega))
theorem places_tree {W : World} {a : Option Addr} {len cap : Nat} {T : List PN} (hlen : len ≤ 800) (hC : Calls Tryz.prog 9 #[.slice a len cap] W (AnsQ (.tree T) W)) (hTl : T.length ≤ 900000) (hT : ∀ (i : Nat) (y : PN), T[i]? = some y → Gd len T y) (hE1 : ErrG W 1) (hE2 : ErrG W 2) : Calls Tryz.prog 6 #[.slice a len cap] W fun e A => e = .returned (.bool true) ∧ Below W.heap.size W A := by
 have HC := Hi hC;have HE := Hi (And.intro hE1 hE2);have HT := Hi hT;have hl' : ¬ (len : Int) > 800 := by omega
 clear hC hE1 hE2 hT;unfold AnsQ at HC;go_enter Tryz.func6, Tryz.ntmps6;go_wp2_with (go_at_call 9; refine (U HC).mono ?_)
 first | rintro e w1 tvv rfl hN h1 | rintro e w1 ⟨⟨tvv, rfl, hN⟩, h1⟩
 obtain ⟨ta, tc, etv⟩ := nd_form hN;subst etv;have hBx : Below w1.heap.size w1 (w1.alloc (.cells #[.slice ta T.length tc] 25)) := (Below.refl _ w1).alloc NL _;have HN2 := Hi (hN.bel hBx);have HB2 := Hi (h1.bel.trans (hBx.mono h1.size));have HX2 := Hi (al_at w1 (.cells #[.slice ta T.length tc] 25));obtain ⟨w2, hw2⟩ : ∃ w, w1.alloc (.cells #[.slice ta T.length tc] 25) = w := ⟨_, rfl⟩;obtain ⟨X, hX⟩ : ∃ x, w1.heap.size = x := ⟨_, rfl⟩;rw [hw2] at HN2 HB2 HX2;rw [hX] at HX2;clear hN h1 hBx;obtain ⟨n, hn⟩ : ∃ n, T.length = n := ⟨_, rfl⟩;rw [hn] at HN2 HX2 hTl hw2 ⊢;have HNN := Hi hn;clear hn;go_wp2;go_loopw [6] (fun t wr => ∃ i : Nat, i ≤ n ∧ t = .int .i64 (i : Int) ∧ Below w2.heap.size w2 wr) (fun t _ => n - (intOf t).toNat)
 case atStart => exact ⟨0, Nat.zero_le _, rfl, Below.refl _ _⟩
 case round =>
  obtain ⟨w0, hw0⟩ : ∃ w0, w0 = wr := ⟨_, rfl⟩;subst hw0;obtain ⟨i, hi, rfl, hBr⟩ := hrel;have hX0 : w0.heap[X]? = some (.cells #[.slice ta n tc] 25) := (hBr.block X (Array.getElem?_eq_some_iff.1 (U HX2)).1).trans (U HX2);have cX : w0.cell? ⟨X, 0, none⟩ = some (.slice ta n tc) := by simp [World.cell?, hX0]
  have hXl := World.block_lt_of_cell? w0 _ cX;have HB0 := Hi hBr;have HX0 := Hi hX0;clear hX0;by_cases hil : i < n
  · have hil' : (i : Int) < n := by omega
    obtain ⟨y, hy⟩ : ∃ y, T[i]? = some y := ⟨_, List.getElem?_eq_getElem (by rw [U HNN]; exact hil)⟩;have hN0 := (U HN2).bel (hBr);obtain ⟨g, cg, kv, eg, q1, q2, hK, d0, d1, d2, d3, d4⟩ := nd_five hN0 hy;cases eg;obtain ⟨ka, kc, ek⟩ := kid_form hK;subst ek;have hGd := U HT i y hy;obtain ⟨kd, tx, nm, ks, lc⟩ := y;simp only at d0 d1 d2 d3 d4 hK hGd;have hgl := World.block_lt_of_cell? w0 _ d0;have hBy : Below w0.heap.size w0 (w0.alloc (.cells #[.int .i64 kd, .string (strOfNums tx), .int .i64 nm, .slice ka ks.length kc, .int .i64 (lc : Int)] 34)) := (Below.refl _ w0).alloc NL _;have HY3 := Hi (al_at w0 (.cells #[.int .i64 kd, .string (strOfNums tx), .int .i64 nm, .slice ka ks.length kc, .int .i64 (lc : Int)] 34));have HB3 := Hi hBy;obtain ⟨w3, hw3⟩ : ∃ w, w0.alloc (.cells #[.int .i64 kd, .string (strOfNums tx), .int .i64 nm, .slice ka ks.length kc, .int .i64 (lc : Int)] 34) = w := ⟨_, rfl⟩;rw [hw3] at HY3 HB3;have hY0 : w3.cell? ⟨w0.heap.size, 0, none⟩ = some (.int .i64 kd) := by simp [World.cell?, U HY3]
    have hY4 : w3.cell? ⟨w0.heap.size, 4, none⟩ = some (.int .i64 (lc : Int)) := by simp [World.cell?, U HY3]
    have hY3 : w3.cell? ⟨w0.heap.size, 3, none⟩ = some (.slice ka ks.length kc) := by simp [World.cell?, U HY3]
    have hYl := World.block_lt_of_cell? w3 _ hY0;have HK := Hi hK;have HN0 := Hi hN0;have HGD := Hi hGd;have HNX : Hid (∀ w, Below w0.heap.size w0 w → Below w2.heap.size w2 w) := fun w hw => (U HB0).trans (hw.mono (U HB0).size)
    clear hK hN0 hGd hBr hBy;by_cases h1 : kd = 1
    · subst h1
      go_wp2;exact ⟨⟨i + 1, by omega, by go_num, U HNX _ (U HB3)⟩, by simp [intOf]; omega⟩
    by_cases h2 : kd = 2
    · subst h2
      go_wp2;exact ⟨⟨i + 1, by omega, by go_num, U HNX _ (U HB3)⟩, by simp [intOf]; omega⟩
    obtain ⟨hlb, hkb⟩ := ((U HGD).resolve_left h1).resolve_left h2;dsimp only at hlb hkb;have h1' : (kd == 1) = false := by simpa using h1
    have h2' : (kd == 2) = false := by simpa using h2
    have hl1 : ¬ (lc : Int) < 0 := by omega
    have hl2 : ¬ (lc : Int) > (len : Int) := by omega
    have HKB := Hi hkb;clear hkb hlb h1 h2;go_wp2;go_loopw [8] (fun t wr => ∃ k : Nat, k ≤ ks.length ∧ t = .int .i64 (k : Int) ∧ Below w3.heap.size w3 wr) (fun t _ => ks.length - (intOf t).toNat)
    case atStart => exact ⟨0, Nat.zero_le _, rfl, Below.refl _ _⟩
    case round =>
     obtain ⟨w4, hw4⟩ : ∃ w4, w4 = wr := ⟨_, rfl⟩;subst hw4;obtain ⟨k, hk, rfl, hB4⟩ := hrel;have hB04 : Below w0.heap.size w0 w4 := (U HB3).trans (hB4.mono (U HB3).size);have hYY : w4.heap[w0.heap.size]? = some (.cells #[.int .i64 kd, .string (strOfNums tx), .int .i64 nm, .slice ka ks.length kc, .int .i64 (lc : Int)] 34) := (hB4.block _ hYl).trans (U HY3);have e3 : w4.cell? ⟨w0.heap.size, 3, none⟩ = some (.slice ka ks.length kc) := by simp [World.cell?, hYY]
     have e4 : w4.cell? ⟨w0.heap.size, 4, none⟩ = some (.int .i64 (lc : Int)) := by simp [World.cell?, hYY]
     have eX : w4.cell? ⟨X, 0, none⟩ = some (.slice (some ⟨g, 0, none⟩) T.length tc) := by
      have := (hB04.block X hXl).trans (U HX0);simp [World.cell?, this]
     have hYl4 := World.block_lt_of_cell? w4 _ e3;have hXl4 := World.block_lt_of_cell? w4 _ eX;have HB4 := Hi hB4;have HB04 := Hi hB04;clear hB4 hYY;by_cases hkl : k < ks.length
     · have hkl' : (k : Int) < ks.length := by omega
       obtain ⟨j, hkj⟩ : ∃ j, ks[k]? = some j := ⟨_, List.getElem?_eq_getElem hkl⟩;obtain ⟨z, hz, hzc⟩ := U HKB j (List.mem_of_getElem? hkj);have hjT : j < T.length := (List.getElem?_eq_some_iff.1 hz).1;have hjT' : (j : Int) < T.length := by omega
       obtain ⟨kb, ko, kcap, ek, hkbl, kq1, kq2, ck⟩ := kid_get ((U HK).bel hB04) hkj;cases ek;obtain ⟨g', cg', kv', eg', _, _, hK', z0, z1, z2, z3, z4⟩ := nd_five ((U HN0).bel hB04) hz;cases eg';obtain ⟨za, zc, ez⟩ := kid_form hK';subst ez;obtain ⟨zk, zt, zn, zks, zl⟩ := z;simp only at z0 z1 z2 z3 z4 hzc;have hgl4 := World.block_lt_of_cell? w4 _ z0
       have hkm : ks.length ≤ 9223372036854775807 := by
        have := kq2;unfold maxLen at this;omega
       have HZC := Hi hzc;clear hK' hzc hkj hz hB04 hjT;go_wp2;go_region;have hB5 : Below w4.heap.size w4 (w4.alloc (.cells #[.int .i64 zk, .string (strOfNums zt), .int .i64 zn, .slice za zks.length zc, .int .i64 (zl : Int)] 34)).drew := ((Below.refl _ w4).alloc NL _).drew;have hZZ : (w4.alloc (.cells #[.int .i64 zk, .string (strOfNums zt), .int .i64 zn, .slice za zks.length zc, .int .i64 (zl : Int)] 34)).drew.heap[w4.heap.size]? = some (.cells #[.int .i64 zk, .string (strOfNums zt), .int .i64 zn, .slice za zks.length zc, .int .i64 (zl : Int)] 34) := al_at w4 _;have f4 := (hB5.cell (p := ⟨w0.heap.size, 4, none⟩) hYl4).trans e4;clear hw3 hw2 d0 d1 d2 d4 hY0 hY4 z0 z1 z2 z3 z4 e4 ck cX eX;generalize (w4.alloc (.cells #[.int .i64 zk, .string (strOfNums zt), .int .i64 zn, .slice za zks.length zc, .int .i64 (zl : Int)] 34)).drew = w5 at *;have y0 : w5.cell? ⟨w4.heap.size, 0, none⟩ = some (.int .i64 zk) := by simp [World.cell?, hZZ]
       have y4 : w5.cell? ⟨w4.heap.size, 4, none⟩ = some (.int .i64 (zl : Int)) := by simp [World.cell?, hZZ]
       have hZl := World.block_lt_of_cell? w5 _ y0;have hYl5 := World.block_lt_of_cell? w5 _ f4;have HB5 := Hi ((U HB4).trans (hB5.mono (U HB4).size));have HB05 := Hi ((U HB04).trans (hB5.mono (U HB04).size));clear hB5 hZZ;rcases U HZC with h3 | h3 | h3
       · subst h3
         go_wp2;exact ⟨⟨k + 1, by omega, by go_num, U HB5⟩, by simp [intOf]; omega⟩
       · subst h3
         go_wp2;exact ⟨⟨k + 1, by omega, by go_num, U HB5⟩, by simp [intOf]; omega⟩
       · by_cases h4 : zk = 1
         · subst h4
           go_wp2;exact ⟨⟨k + 1, by omega, by go_num, U HB5⟩, by simp [intOf]; omega⟩
         by_cases h5 : zk = 2
         · subst h5
           go_wp2;exact ⟨⟨k + 1, by omega, by go_num, U HB5⟩, by simp [intOf]; omega⟩
         have h4' : (zk != 1) = true := by simpa using h4
         have h5' : (zk != 2) = true := by simpa using h5
         have h6 : ¬ (zl : Int) < (lc : Int) := by omega
         clear h3 h4 h5;go_wp2;exact ⟨⟨i + 1, by omega, by go_num, U HNX _ (U HB05)⟩, by simp [intOf]; omega⟩
     · have hkl' : ¬ (k : Int) < ks.length := by omega
       clear hB04;go_wp2;exact ⟨⟨i + 1, by omega, by go_num, U HNX _ (U HB04)⟩, by simp [intOf]; omega⟩
  · have hil' : ¬ (i : Int) < n := by omega
    have HK := Hi (known_any ((U HE).1.below ((U HB2).trans (hBr.mono (U HB2).size)) (U HE).1.lt) ((U HE).2.below ((U HB2).trans (hBr.mono (U HB2).size)) (U HE).2.lt));clear hBr;go_wp2_with (go_at_call 11; refine (U HK).mono ?_)
    first | rintro e w9 rfl h9 | rintro e w9 ⟨rfl, h9⟩
    have HF := Hi (((U HB2).trans ((U HB0).mono (U HB2).size)).trans (h9.bel.mono (Nat.le_trans (U HB2).size (U HB0).size)));clear h9;go_wp2;go_ret;exact ⟨rfl, U HF⟩
end
end Go.Proofs.YtdliannkiijeiaaGreatDoor
