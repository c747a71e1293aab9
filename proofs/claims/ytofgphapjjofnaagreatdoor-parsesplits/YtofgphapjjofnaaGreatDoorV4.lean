/- Towards the law: QI0 QI. -/
import Derived.Test.YtofgphapjjofnaaGreatDoorMB
import Derived.Test.YtofgphapjjofnaaGreatDoorV3
import Derived.Test.YtofgphapjjofnaaGreatDoorVN
set_option linter.unusedSimpArgs false
set_option linter.unusedVariables false
set_option maxRecDepth 100000
set_option maxHeartbeats 8000000
namespace Go.Proofs.YtofgphapjjofnaaGreatDoor
section
open Go.RowKit Go.Shelf
theorem index_anyM (b off n cap : Nat) (l : List ByteArray) (v : ByteArray) (W : World) (hT : Txts W b off l) (hn : n = l.length) (hl : l.length ≤ cap) (hc : cap ≤ 9223372036854775807) :
 Calls Tryz.prog 206 #[.slice (some ⟨b, off, none⟩) n cap, .string v] W fun e W' => (∃ i : Int, e = .returned (.int .i64 i) ∧ decide (0 ≤ i) = hasT l v) ∧ W' = W := by
 subst hn;have HT := Hi hT;clear hT;go_enter Tryz.func206, Tryz.ntmps206;go_wp2;go_loopw [8] (fun t wr => ∃ k : Nat, k ≤ l.length ∧ t = .int .i64 (k : Int) ∧ (∀ j s, j < k → l[j]? = some s → (v.toList == s.toList) = false) ∧ wr = W) (fun t _ => l.length - (intOf t).toNat)
 case atStart => exact ⟨0, Nat.zero_le _, rfl, fun j s h => by omega, rfl⟩
 case round =>
  obtain ⟨k, hk, rfl, hno, hw⟩ := hrel;subst wr;have HNO := Hi hno;clear hno;by_cases hlt : k < l.length
  · have hlt' : (k : Int) < l.length := by omega
    obtain ⟨s, hs⟩ : ∃ s, l[k]? = some s := ⟨_, List.getElem?_eq_getElem hlt⟩;have hcell := U HT k s hs;have HS := Hi hs;clear hs;cases he : (v.toList == s.toList) with
    | true =>
      go_wp2;go_ret;refine ⟨⟨_, rfl, ?_⟩, rfl⟩;rw [hasT_yes (U HS) he];simp
    | false =>
      go_wp2;refine ⟨⟨k + 1, by omega, by go_num, fun j s' hj hs' => ?_, trivial⟩, by simp [intOf]; omega⟩;by_cases hjk : j = k
      · subst hjk
        have := hs'.symm.trans (U HS);cases this;exact he
      · exact U HNO j s' (by omega) hs'
  · have hlt' : ¬ (k : Int) < l.length := by omega
    go_wp2;go_ret;refine ⟨⟨_, rfl, ?_⟩, rfl⟩;rw [hasT_no fun j s hs => U HNO j s (by have := (List.getElem?_eq_some_iff.1 hs).1; omega) hs];rfl
theorem contains_anyM (b off n cap : Nat) (l : List ByteArray) (v : ByteArray) (W : World) (hT : Txts W b off l) (hn : n = l.length) (hl : l.length ≤ cap) (hc : cap ≤ 9223372036854775807) :
 Calls Tryz.prog 160 #[.slice (some ⟨b, off, none⟩) n cap, .string v] W fun e W' => e = .returned (.bool (hasT l v)) ∧ W' = W := by
 subst hn;have HC := Hi (index_anyM b off _ cap l v W hT rfl hl hc);clear hT;go_enter Tryz.func160, Tryz.ntmps160;go_wp2_with (go_at_call 206; refine (U HC).mono ?_; rintro x w' ⟨⟨i, rfl, hi⟩, hw⟩; subst w'; have HI := Hi hi; clear hi);go_ret;rw [← U HI];exact ⟨rfl, rfl⟩
theorem next_tk {c : Cx} {s s' : PS} {a : Tok} (h : nextP c s = .ok a s') : a = s.tk := by
 unfold nextP at h;split at h
 · cases h; rfl
 · cases h
theorem lv_bys : ∀ i, ∀ x ∈ levelsL.getD i [], Bys x := by
 intro i x hx z hz;have hall : levelsL.all (fun r => r.all fun x => x.all fun z => decide (0 ≤ z ∧ z ≤ 255)) = true := by decide
 rw [List.getD_eq_getElem?_getD] at hx;cases hr : levelsL[i]? with
 | none => rw [hr] at hx; cases hx
 | some r =>
   rw [hr] at hx;have h1 := List.all_eq_true.1 hall r (List.mem_of_getElem? hr);have h2 := List.all_eq_true.1 h1 x hx;exact of_decide_eq_true (List.all_eq_true.1 h2 z hz)
theorem lv_at {W : World} {lv : Value} (h : LvRow W lv) {l : Nat} (hl : l < 10) : ∃ lb cap, lv = .slice (some ⟨lb, 0, none⟩) 10 cap ∧ 10 ≤ cap ∧ cap ≤ 9223372036854775807 ∧ ∃ rb rl rc, W.cell? ⟨lb, l, none⟩ = some (.slice (some ⟨rb, 0, none⟩) rl rc) ∧ ∀ w', Below W.heap.size W w' → ∀ m, Bys m → Calls Tryz.prog 160 #[.slice (some ⟨rb, 0, none⟩) rl rc, .string (strOfNums m)] w' fun e W' => e = .returned (.bool ((levelsL.getD l []).contains m)) ∧ W' = w' := by
 obtain ⟨lb, cap, cur, t, fr, t1, t2, t3, e, q1, q2, hh, hc⟩ := h;have hll : l < levelsL.length := by simp [levelsL]; omega
 have hg : levelsL[l]? = some (levelsL.getD l []) := by rw [List.getD_eq_getElem?_getD, List.getElem?_eq_getElem hll]; rfl
 obtain ⟨b, c, cu, f, a1, a2, a3, a4, a5⟩ := hc l _ hg;refine ⟨lb, cap, e, q1, by unfold maxLen at q2; omega, b, (levelsL.getD l []).length, c, by unfold World.cell?; simp only [hh]; simpa using a1, fun w' hw m hm => ?_⟩;rw [← has_contains (lv_bys l) hm];have h4 := (hw.block b (Array.getElem?_eq_some_iff.1 a4).1).trans a4;refine contains_anyM b 0 _ c ((levelsL.getD l []).map strOfNums) (strOfNums m) w' (fun j s hj => ?_) (by simp) (by simpa using a2) (by unfold maxLen at a3; omega);rw [List.getElem?_map] at hj;cases hx : (levelsL.getD l [])[j]? with
 | none => rw [hx] at hj; cases hj
 | some x =>
   rw [hx] at hj;cases hj;have := a5 j x hx;simp [World.cell?, h4, this]
theorem binary_step {E : En} (hE : E.Ok) {n : Nat} (l j : Nat) (hl : l < 10) (hj : l + 1 = j) (IB : ∀ m, m ≤ n → IHA E m (.binary j) 101 #[.pointer (some ⟨E.M, 0, none⟩), .int .i64 (j : Int)]) (IA : ∀ m, m ≤ n → IHA E m .anyType 22 #[.pointer (some ⟨E.M, 0, none⟩)]) : IHA E (n + 1) (.binary l) 101 #[.pointer (some ⟨E.M, 0, none⟩), .int .i64 (l : Int)] := by
 intro nv s W h hne;obtain ⟨R, hR⟩ : ∃ R, parP E.c (n + 1) (.binary l) s = R := ⟨_, rfl⟩;rw [hR] at hne ⊢;simp only [parP, bodyP] at hR;have HR0 := Hi hR;have H0 := Hi (Lf.refl h);have HE := Hi hE;have HNE := Hi hne;have HIB := Hi IB;have HIA := Hi IA;clear hR hne h hE IB IA;have hR' := U HR0;rw [if_neg (by simp [levelsL]; omega), hj] at hR';replace HR0 := Hi hR';have hlb : ((l : Int) == 10) = false := by simp; omega
 have hws : IntKind.i64.wrap ((l : Int) + 1) = (j : Int) := by rw [IntKind.wrap_i64]; omega
 obtain ⟨lb0, capL0, elv0, qL10, qL20, _⟩ := lv_at (U H0).1.lv hl;have e70 := (U H0).1.rd.rest.1;rw [elv0] at e70;have hlL : (l : Int) < 10 := by omega
 clear hR' elv0;go_enter Tryz.func101, Tryz.ntmps101;have d1 := (U H0).1.rd.tok.2.2.1;have hl1 := (U H0).1.rd.lt;have hR1 := U HR0;rw [bd_ok (p := atP) rfl] at hR1;replace HR0 := Hi hR1;clear hR1;have hp2 := bd_ne (p := parP E.c n (.binary j)) (U HR0) (U HNE);have HC2 := Hi (U HIB n NL _ _ _ (U H0).1 hp2);cases hq2 : parP E.c n (.binary j) s with
 | out => exact absurd hq2 hp2
 | no s2 =>
   have hR2 := (bd_no hq2).symm.trans (U HR0);subst hR2;replace HC2 := rn HC2 hq2;clear hq2 hp2;go_wp2_with (go_at_call 101; refine (U HC2).mono ?_)
   rintro e w2 ⟨rfl, nv2, h2⟩
   have H2 := Hi ((U H0).trans h2);clear h2;go_wp2;exact ⟨rfl, rfl, nv2, U H2⟩
 | ok a2 s2 =>
   have HR2 := br hq2 HR0;replace HC2 := ro HC2 hq2;clear hq2 hp2;go_wp2_with (go_at_call 101; refine (U HC2).mono ?_)
   rintro e w2 ⟨rfl, nv2, h2⟩
   have H2 := Hi ((U H0).trans h2);clear h2;go_wp2;go_loopw [6] (fun t wr => Hid (∃ m, LpI E nv s W n R (.binLoop l (s.tk.2.2.1)) m t wr)) (fun t wr => leastN fun m => LpI E nv s W n R (.binLoop l (s.tk.2.2.1)) m t wr)
   case atStart => exact ⟨n, NL, hd0 a2, nv2, s2, rfl, U H2, U HR2⟩
   case round =>
    obtain ⟨m, hm⟩ := U hrel;obtain ⟨hmn, k, nv3, s3, rfl, h3, hR3⟩ := leastN_spec (P := fun m => LpI E nv s W n R (.binLoop l (s.tk.2.2.1)) m _ wr) hm;obtain ⟨m0, hm0⟩ : ∃ m0, (leastN fun m => LpI E nv s W n R (.binLoop l (s.tk.2.2.1)) m (.int .i64 (k : Int)) wr) = m0 := ⟨_, rfl⟩;rw [hm0] at hmn hR3;have HM0 := Hi hm0;clear hm hrel hm0 HR2 H2;cases m0 with
    | zero => exact absurd hR3.symm (U HNE)
    | succ m1 =>
      simp only [parP, bodyP] at hR3;have HR3 := Hi hR3;have H3 := Hi h3;clear hR3 h3;have hR4 := U HR3;rw [bd_ok (p := markP) rfl] at hR4;simp only [hj] at hR4;obtain ⟨bm, hbm⟩ : ∃ b, (levelsL.getD l []).contains (mark s3.tk) = b := ⟨_, rfl⟩;rw [hbm] at hR4;have HA4 := Hi (lv_at (U H3).1.lv hl);obtain ⟨lb, capL, elv, qL1, qL2, rb, rl, rc, hrow⟩ := U HA4
      have HSS : Hid (∀ w', Below wr.heap.size wr w' → E.M < w'.heap.size ∧ w'.cell? ⟨E.M, 7, none⟩ = some (.slice (some ⟨lb, 0, none⟩) 10 capL) ∧ w'.cell? ⟨lb, l, none⟩ = some (.slice (some ⟨rb, 0, none⟩) rl rc) ∧ w'.cell? ⟨E.M, 2, none⟩ = some (.int .i64 s3.tk.1) ∧ w'.cell? ⟨E.M, 3, none⟩ = some (.string (strOfNums s3.tk.2.1)) ∧ w'.cell? ⟨E.M, 4, none⟩ = some (.int .i64 (s3.tk.2.2.1 : Int)) ∧ w'.cell? ⟨E.M, 5, none⟩ = some (.int .i64 (s3.tk.2.2.2 : Int))) := fun w' hw' => by
       have h' := (U H3).1.below hw';have e7 := h'.rd.rest.1;rw [elv] at e7;exact ⟨h'.rd.lt, e7, (hw'.cell (p := ⟨lb, l, none⟩) (World.block_lt_of_cell? _ _ hrow.1)).trans hrow.1, h'.rd.tok⟩
      have HMK : Hid (∀ w', Below wr.heap.size wr w' → Calls Tryz.prog 50 #[.agg #[.int .i64 s3.tk.1, .string (strOfNums s3.tk.2.1), .int .i64 (s3.tk.2.2.1 : Int), .int .i64 (s3.tk.2.2.2 : Int)]] w' fun e w'' => e = .returned (.string (strOfNums (mark s3.tk))) ∧ Below w'.heap.size w' w'') := fun w' _ => mark_any s3.tk w'
      have HCN : Hid (∀ w', Below wr.heap.size wr w' → Calls Tryz.prog 160 #[.slice (some ⟨rb, 0, none⟩) rl rc, .string (strOfNums (mark s3.tk))] w' fun e w'' => e = .returned (.bool bm) ∧ Below w'.heap.size w' w'') := fun w' hw' => by
       have := hrow.2 w' hw' (mark s3.tk) (mark_bys (U H3).1.by');rw [hbm] at this;refine this.mono ?_;rintro e w'' ⟨rfl, rfl⟩;exact ⟨rfl, Below.refl _ _⟩
      have hgg := U HSS wr (Below.refl _ _);have HR4 := Hi hR4;clear hR4 hbm hrow elv;go_wp2;refine region_C (C := fun w' => Below wr.heap.size wr w') (by kernel_rfl) (by kernel_rfl) (Below.refl _ _).drew ?_;cases bm with
      | false =>
        repeat (first
         | go_big_quiet_skip
         | (go_big_quiet_want
            go_big_quiet_op
            first
             | go_big_quiet_on
             | (apply Exists.intro
                refine ⟨fun w hw => ?_, ?_⟩
                first
                 | rfl
                 | with_reducible exact (U HMK w hw).mono fun e w2 h => ⟨h.1, hw.trans (h.2.mono hw.size)⟩
                 | with_reducible exact (U HCN w hw).mono fun e w2 h => ⟨h.1, hw.trans (h.2.mono hw.size)⟩
                 | (obtain ⟨g0, g1, g2, g3, g4, g5, g6⟩ := U HSS w hw
                    go_simp
                    first | done | rfl | exact ⟨rfl, rfl⟩)
                go_big_quiet_on)))
        refine wpQuiet_nil ?_;intro w4 hw4;have H4 := Hi ((U H3).below hw4);clear hw4 hgg;have hR4 : (.ok [k] s3 : Res (List Nat)) = R := U HR4;subst hR4;go_wp2;go_ret;exact ⟨rfl, nv3, U H4⟩
      | true =>
        repeat (first
         | go_big_quiet_skip
         | (go_big_quiet_want
            go_big_quiet_op
            first
             | go_big_quiet_on
             | (apply Exists.intro
                refine ⟨fun w hw => ?_, ?_⟩
                first
                 | rfl
                 | with_reducible exact (U HMK w hw).mono fun e w2 h => ⟨h.1, hw.trans (h.2.mono hw.size)⟩
                 | with_reducible exact (U HCN w hw).mono fun e w2 h => ⟨h.1, hw.trans (h.2.mono hw.size)⟩
                 | (obtain ⟨g0, g1, g2, g3, g4, g5, g6⟩ := U HSS w hw
                    go_simp
                    first | done | rfl | exact ⟨rfl, rfl⟩)
                go_big_quiet_on)))
        refine wpQuiet_nil ?_;intro w4 hw4;have H4 := Hi ((U H3).below hw4);clear hw4 hgg;have hp5 := bd_ne (p := nextP E.c) (U HR4) (U HNE);obtain ⟨a5, s5, hq5⟩ := next_ok hp5;have ha5 := next_tk hq5;subst ha5;have HC5 := Hi (rq_ok (next_rq (U HE) (U H4).1 hp5) hq5);have hR5 := (bd_ok hq5).symm.trans (U HR4);unfold tkV at HC5;have hbt := (U H4).1.by'
        clear hq5 hp5;by_cases hs : s3.tk.2.1 = [97, 115]
        · rw [if_pos hs] at hR5
          have HR5 := Hi hR5;rw [hs, show strOfNums [97, 115] = ⟨#[97, 115]⟩ from rfl] at HC5;have hst : strOfNums s3.tk.2.1 = ⟨#[97, 115]⟩ := by rw [hs]; rfl
          clear hR5 hbt;go_wp2_with (go_at_call 53; refine (U HC5).mono ?_)
          rintro e w5 ⟨rfl, nv5, h5⟩
          have H5 := Hi ((U H4).trans h5);clear h5;have q15 := tf1 s3.tk.1 ⟨#[97, 115]⟩ (s3.tk.2.2.1 : Int) (s3.tk.2.2.2 : Int) w5;have hp6 := bd_ne (p := parP E.c m1 .anyType) (U HR5) (U HNE);have HC6 := Hi (U HIA m1 (by omega) _ _ _ (U H5).1 hp6);cases hq6 : parP E.c m1 .anyType s5 with
          | out => exact absurd hq6 hp6
          | no s6 =>
            have hR6 := (bd_no hq6).symm.trans (U HR5);subst hR6;replace HC6 := rn HC6 hq6;clear hq6 hp6;go_wp2_with (go_at_call 22; refine (U HC6).mono ?_)
            rintro e w6 ⟨rfl, nv6, h6⟩
            have H6 := Hi ((U H5).trans h6);clear h6;go_wp2;exact ⟨rfl, rfl, nv6, U H6⟩
          | ok a6 s6 =>
            have HR6 := br hq6 HR5;replace HC6 := ro HC6 hq6;clear hq6 hp6;go_wp2_with (go_at_call 22; refine (U HC6).mono ?_)
            rintro e w6 ⟨rfl, nv6, h6⟩
            have H6 := Hi ((U H5).trans h6);clear h6;have hp7 := bd_ne (p := putP ⟨33, [], 0, [k, hd0 a6], s.tk.2.2.1⟩) (U HR6) (U HNE);obtain ⟨a7, s7, hq7⟩ : ∃ a s', putP ⟨33, [], 0, [k, hd0 a6], s.tk.2.2.1⟩ s6 = .ok a s' := put_ex hp7;have H7p := Hi ((U H6).below ((Below.refl _ w6).alloc NL (.cells #[.int .i64 ((k : Nat) : Int), .int .i64 ((hd0 a6 : Nat) : Int)] 3)));have HC7 := Hi (rq_ok (put_rq (U H7p).1 _ _ _ (kid2 w6 (k) (hd0 a6) (U H6).1.zl) hp7) hq7);simp only [e0', List.length_cons, List.length_nil] at HC7;have HR7 := br hq7 HR6;clear hq7 hp7;go_wp2_with (go_at_call 32; refine (U HC7).mono ?_)
            rintro e w7 ⟨rfl, nv7, h7⟩
            have H7 := Hi ((U H7p).trans h7);clear h7;go_wp2;have hI : LpI E nv s W n R (.binLoop l (s.tk.2.2.1)) m1 (.int .i64 ((a7 : Nat) : Int)) _ := ⟨by omega, _, nv7, s7, rfl, U H7, U HR7⟩;exact ⟨⟨_, hI⟩, by rw [U HM0]; exact Nat.lt_succ_of_le (leastN_le hI)⟩
        · rw [if_neg hs] at hR5
          have HR5 := Hi hR5;have hng : ((strOfNums s3.tk.2.1).toList == [97, 115]) = false := mark_ne hbt (l := [97, 115]) (by intro z hz; simp at hz; omega) hs;clear hR5 hbt hs;go_wp2_with (go_at_call 53; refine (U HC5).mono ?_)
          rintro e w5 ⟨rfl, nv5, h5⟩
          have H5 := Hi ((U H4).trans h5);clear h5;have q15 := tf1 s3.tk.1 (strOfNums s3.tk.2.1) (s3.tk.2.2.1 : Int) (s3.tk.2.2.2 : Int) w5;have hp8 := bd_ne (p := parP E.c m1 (.binary j)) (U HR5) (U HNE);have HC8 := Hi (U HIB m1 (by omega) _ _ _ (U H5).1 hp8);cases hq8 : parP E.c m1 (.binary j) s5 with
          | out => exact absurd hq8 hp8
          | no s8 =>
            have hR8 := (bd_no hq8).symm.trans (U HR5);subst hR8;replace HC8 := rn HC8 hq8;clear hq8 hp8;go_wp2_with (go_at_call 101; refine (U HC8).mono ?_)
            rintro e w8 ⟨rfl, nv8, h8⟩
            have H8 := Hi ((U H5).trans h8);clear h8;go_wp2;exact ⟨rfl, rfl, nv8, U H8⟩
          | ok a8 s8 =>
            have HR8 := br hq8 HR5;replace HC8 := ro HC8 hq8;clear hq8 hp8;go_wp2_with (go_at_call 101; refine (U HC8).mono ?_)
            rintro e w8 ⟨rfl, nv8, h8⟩
            have H8 := Hi ((U H5).trans h8);clear h8;have hp9 := bd_ne (p := putP ⟨24, s3.tk.2.1, 0, [k, hd0 a8], s.tk.2.2.1⟩) (U HR8) (U HNE);obtain ⟨a9, s9, hq9⟩ : ∃ a s', putP ⟨24, s3.tk.2.1, 0, [k, hd0 a8], s.tk.2.2.1⟩ s8 = .ok a s' := put_ex hp9;have H9p := Hi ((U H8).below ((Below.refl _ w8).alloc NL (.cells #[.int .i64 ((k : Nat) : Int), .int .i64 ((hd0 a8 : Nat) : Int)] 3)));have HC9 := Hi (rq_ok (put_rq (U H9p).1 _ _ _ (kid2 w8 (k) (hd0 a8) (U H8).1.zl) hp9) hq9);simp only [e0', List.length_cons, List.length_nil] at HC9;have HR9 := br hq9 HR8;clear hq9 hp9;go_wp2_with (go_at_call 32; refine (U HC9).mono ?_)
            rintro e w9 ⟨rfl, nv9, h9⟩
            have H9 := Hi ((U H9p).trans h9);clear h9;go_wp2;have hI : LpI E nv s W n R (.binLoop l (s.tk.2.2.1)) m1 (.int .i64 ((a9 : Nat) : Int)) _ := ⟨by omega, _, nv9, s9, rfl, U H9, U HR9⟩;exact ⟨⟨_, hI⟩, by rw [U HM0]; exact Nat.lt_succ_of_le (leastN_le hI)⟩
theorem binary_top {E : En} (hE : E.Ok) {n : Nat}  (IU : IHA E n .unary 159 #[.pointer (some ⟨E.M, 0, none⟩)]) : IHA E (n + 1) (.binary 10) 101 #[.pointer (some ⟨E.M, 0, none⟩), .int .i64 10] := by
 intro nv s W h hne;obtain ⟨R, hR⟩ : ∃ R, parP E.c (n + 1) (.binary 10) s = R := ⟨_, rfl⟩;rw [hR] at hne ⊢;simp only [parP, bodyP] at hR;have HR0 := Hi hR;have H0 := Hi (Lf.refl h);have HE := Hi hE;have HNE := Hi hne;have HIU := Hi IU;clear hR hne h hE IU;have hR' := U HR0;rw [if_pos (by simp [levelsL])] at hR';replace HR0 := Hi hR';obtain ⟨lb0, capL0, elv0, qL10, qL20, _⟩ := lv_at (U H0).1.lv (show 0 < 10 by omega);have e70 := (U H0).1.rd.rest.1;rw [elv0] at e70;have hml0 := (U H0).1.rd.lt;clear hR' elv0;go_enter Tryz.func101, Tryz.ntmps101;have hp1 : parP E.c n .unary s ≠ .out := fun e => U HNE ((U HR0).symm.trans e)
 have HC1 := Hi (U HIU _ _ _ (U H0).1 hp1);cases hq1 : parP E.c n .unary s with
 | out => exact absurd hq1 hp1
 | no s1 =>
   have hR1 := hq1.symm.trans (U HR0);subst hR1;replace HC1 := rn HC1 hq1;clear hq1 hp1;go_wp2_with (go_at_call 159; refine (U HC1).mono ?_)
   rintro e w1 ⟨rfl, nv1, h1⟩
   have H1 := Hi ((U H0).trans h1);clear h1;go_wp2;exact ⟨rfl, rfl, nv1, U H1⟩
 | ok a1 s1 =>
   have HR1 := Hi (hq1.symm.trans (U HR0));replace HC1 := ro HC1 hq1;clear hq1 hp1;go_wp2_with (go_at_call 159; refine (U HC1).mono ?_)
   rintro e w1 ⟨rfl, nv1, h1⟩
   have H1 := Hi ((U H0).trans h1);clear h1;have hR1 := U HR1;subst hR1;go_wp2;go_ret;exact ⟨rfl, nv1, U H1⟩
end
end Go.Proofs.YtofgphapjjofnaaGreatDoor
