/- Towards the law: QA QG. -/
import Derived.Test.YtofgphapjjofnaaGreatDoorVK
set_option linter.unusedSimpArgs false
set_option linter.unusedVariables false
set_option maxRecDepth 100000
set_option maxHeartbeats 8000000
namespace Go.Proofs.YtofgphapjjofnaaGreatDoor
section
open Go.RowKit Go.Shelf
def IHB (E : En) (n : Nat) (one : Cmd) (g : Nat) (bt : List (List Int)) (cells : Array Value) : Prop := ∀ nv s W b, RAt E nv s W → W.heap[b]? = some (.cells cells 9) → parP E.c n (.braced one bt) s ≠ .out → Calls Tryz.prog 105 #[.pointer (some ⟨E.M, 0, none⟩), .func (.func g) #[.pointer (some ⟨E.M, 0, none⟩)] #[], .slice (some ⟨b, 0, none⟩) bt.length bt.length] W (RQL E nv s W (parP E.c n (.braced one bt) s))
def ctV : List Nat → Value
 | [] => .tuple #[.int .i64 0, .bool false]
 | y :: _ => .tuple #[.int .i64 ((y : Nat) : Int), .bool true]
def IHC (E : En) (n : Nat) : Prop := ∀ nv s W, RAt E nv s W → parP E.c n .callTypes s ≠ .out → Calls Tryz.prog 227 #[.pointer (some ⟨E.M, 0, none⟩)] W (RQ E ctV nv s W (parP E.c n .callTypes s))
theorem call_ex {c : Cx} {n : Nat} {s : PS} (h : parP c n .callTypes s ≠ .out) : ∃ a s', parP c n .callTypes s = .ok a s' := by
 cases n with
 | zero => exact absurd rfl h
 | succ n =>
   simp only [parP, bodyP] at h ⊢;split
   · exact ⟨_, _, rfl⟩
   · rename_i h1
     rw [if_neg h1] at h;cases hq : parP c n .typeArgs s with
     | out => rw [hq] at h; exact absurd rfl h
     | no s' => exact ⟨_, _, rfl⟩
     | ok l s' =>
       simp only;split
       · exact ⟨_, _, rfl⟩
       · exact ⟨_, _, rfl⟩
def One (c : Cx) (n : Nat) (x : Cmd) : Prop := ∀ s l s', parP c n x s = .ok l s' → ∃ y, l = [y]
theorem one1_one {p : Pr Nat} {s s' : PS} {l : List Nat} (h : one1 p s = .ok l s') : ∃ y, l = [y] := by
 unfold one1 bd rt at h;split at h
 · cases h; exact ⟨_, rfl⟩
 · cases h
 · cases h
theorem bd_inv {α β : Type} {p : Pr α} {k : α → Pr β} {s s' : PS} {b : β} (h : bd p k s = .ok b s') : ∃ a s1, p s = .ok a s1 ∧ k a s1 = .ok b s' := by
 unfold bd at h;split at h
 · exact ⟨_, _, by assumption, h⟩
 · cases h
 · cases h
theorem typeArgs_one (c : Cx) (n : Nat) : One c n .typeArgs := by
 intro s l s' h;cases n with
 | zero => cases h
 | succ n =>
   simp only [parP, bodyP] at h;obtain ⟨b, s1, h1, h2⟩ := bd_inv h;cases b with
   | false => exact one1_one h2
   | true =>
     obtain ⟨_, s2, _, h3⟩ := bd_inv (p := nextP c) h2;obtain ⟨_, s3, _, h4⟩ := bd_inv h3;obtain ⟨_, s4, _, h5⟩ := bd_inv h4;exact one1_one h5
theorem call_len {c : Cx} {n : Nat} {s s' : PS} {l : List Nat} (h : parP c n .callTypes s = .ok l s') : l = [] ∨ ∃ y, l = [y] := by
 cases n with
 | zero => cases h
 | succ n =>
   simp only [parP, bodyP] at h;split at h
   · cases h; exact .inl rfl
   · split at h
     · rename_i hq
       split at h
       · cases h; exact .inr (typeArgs_one c n _ _ _ hq)
       · cases h; exact .inl rfl
     · cases h; exact .inl rfl
     · cases h
theorem rqc_ok {E : En} {nv : Value} {s : PS} {W : World} {r : Res (List Nat)} {f : Nat} {args : Array Value} (h : Calls Tryz.prog f args W (RQ E ctV nv s W r)) {a : List Nat} {s' : PS} (hr : r = .ok a s') : Calls Tryz.prog f args W fun e A => e = .returned (ctV a) ∧ ∃ nv', Lf E nv s W nv' s' A := by
 subst hr;exact h
theorem postfix_step {E : En} (hE : E.Ok) {n : Nat}  (IP : IHA E n .primary 226 #[.pointer (some ⟨E.M, 0, none⟩)]) (IX : ∀ m, m ≤ n → IHA E m .expr 24 #[.pointer (some ⟨E.M, 0, none⟩)]) (IA : ∀ m, m ≤ n → IHA E m .args 228 #[.pointer (some ⟨E.M, 0, none⟩)]) (IC : ∀ m, m ≤ n → IHC E m) : IHA E (n + 1) .postfix 205 #[.pointer (some ⟨E.M, 0, none⟩)] := by
 intro nv s W h hne;obtain ⟨R, hR⟩ : ∃ R, parP E.c (n + 1) .postfix s = R := ⟨_, rfl⟩;rw [hR] at hne ⊢;simp only [parP, bodyP] at hR;have HR0 := Hi hR;have H0 := Hi (Lf.refl h);have HE := Hi hE;have HNE := Hi hne;have HIP := Hi IP;have HIX := Hi IX;have HIA := Hi IA;have HIC := Hi IC;clear hR hne h hE IP IX IA IC;go_enter Tryz.func205, Tryz.ntmps205;go_wp2;go_step3
 have d1 := (U H0).1.rd.tok.2.2.1;have hl1 := (U H0).1.rd.lt;have hR1 := U HR0;rw [bd_ok (p := atP) rfl] at hR1;replace HR0 := Hi hR1;clear hR1;have hp2 := bd_ne (p := parP E.c n .primary) (U HR0) (U HNE);have HC2 := Hi (U HIP _ _ _ (U H0).1 hp2);cases hq2 : parP E.c n .primary s with
 | out => exact absurd hq2 hp2
 | no s2 =>
   have hR2 := (bd_no hq2).symm.trans (U HR0);subst hR2;replace HC2 := rn HC2 hq2;clear hq2 hp2;go_wp2_with (go_at_call 226; refine (U HC2).mono ?_)
   rintro e w2 ⟨rfl, nv2, h2⟩
   have H2 := Hi ((U H0).trans h2);clear h2;go_wp2;exact ⟨rfl, rfl, nv2, U H2⟩
 | ok a2 s2 =>
   have HR2 := br hq2 HR0;replace HC2 := ro HC2 hq2;clear hq2 hp2;go_wp2_with (go_at_call 226; refine (U HC2).mono ?_)
   rintro e w2 ⟨rfl, nv2, h2⟩
   have H2 := Hi ((U H0).trans h2);clear h2;go_wp2;go_step3
   go_wp2;go_loopw [4] (fun t wr => Hid (∃ m, LpI E nv s W n R (.postLoop (s.tk.2.2.1)) m t wr)) (fun t wr => leastN fun m => LpI E nv s W n R (.postLoop (s.tk.2.2.1)) m t wr)
   case atStart => exact ⟨n, NL, hd0 a2, nv2, s2, rfl, U H2, U HR2⟩
   case round =>
    obtain ⟨m, hm⟩ := U hrel;obtain ⟨hmn, k, nv3, s3, rfl, h3, hR3⟩ := leastN_spec (P := fun m => LpI E nv s W n R (.postLoop (s.tk.2.2.1)) m _ wr) hm;obtain ⟨m0, hm0⟩ : ∃ m0, (leastN fun m => LpI E nv s W n R (.postLoop (s.tk.2.2.1)) m (.int .i64 (k : Int)) wr) = m0 := ⟨_, rfl⟩;rw [hm0] at hmn hR3;have HM0 := Hi hm0;clear hm hrel hm0 HR2 H2;cases m0 with
    | zero => exact absurd hR3.symm (U HNE)
    | succ m1 =>
      simp only [parP, bodyP] at hR3;have HR3 := Hi hR3;have H3 := Hi h3;clear hR3 h3;have hp4 := bd_ne (p := takeP E.c [46]) (U HR3) (U HNE);obtain ⟨b4, s4, hq4⟩ := take_ok hp4;have HC4 := Hi (rq_ok (take_rq (U HE) (U H3).1 (x := ⟨#[46]⟩) ⟨rfl, by intro z hz; simp at hz; omega⟩ hp4) hq4);have HR4 := br hq4 HR3;clear hq4 hp4;go_wp2_with (go_at_call 42; refine (U HC4).mono ?_)
      rintro e w4 ⟨rfl, nv4, h4⟩
      have H4 := Hi ((U H3).trans h4);clear h4;cases b4 with
      | false =>
        have hp5 := bd_ne (p := takeP E.c [91]) (U HR4) (U HNE);obtain ⟨b5, s5, hq5⟩ := take_ok hp5;have HC5 := Hi (rq_ok (take_rq (U HE) (U H4).1 (x := ⟨#[91]⟩) ⟨rfl, by intro z hz; simp at hz; omega⟩ hp5) hq5);have HR5 := br hq5 HR4;clear hq5 hp5;go_wp2_with (go_at_call 42; refine (U HC5).mono ?_)
        rintro e w5 ⟨rfl, nv5, h5⟩
        have H5 := Hi ((U H4).trans h5);clear h5;cases b5 with
        | false =>
          have hp6 := bd_ne (p := takeP E.c [33]) (U HR5) (U HNE);obtain ⟨b6, s6, hq6⟩ := take_ok hp6;have HC6 := Hi (rq_ok (take_rq (U HE) (U H5).1 (x := ⟨#[33]⟩) ⟨rfl, by intro z hz; simp at hz; omega⟩ hp6) hq6);have HR6 := br hq6 HR5;clear hq6 hp6;go_wp2_with (go_at_call 42; refine (U HC6).mono ?_)
          rintro e w6 ⟨rfl, nv6, h6⟩
          have H6 := Hi ((U H5).trans h6);clear h6;cases b6 with
          | false =>
            have hp7 := bd_ne (p := parP E.c m1 .callTypes) (U HR6) (U HNE);have HC7 := Hi (U HIC m1 (by omega) _ _ _ (U H6).1 hp7);obtain ⟨a7, s7, hq7⟩ := call_ex hp7;have HR7 := br hq7 HR6;replace HC7 := Hi (rqc_ok (U HC7) hq7);have hl17 := call_len hq7;clear hq7 hp7;rcases hl17 with rfl | ⟨y7, rfl⟩
            · skip
              simp only [ctV] at HC7;go_wp2_with (go_at_call 227; refine (U HC7).mono ?_)
              rintro e w7 ⟨rfl, nv7, h7⟩
              have H7 := Hi ((U H6).trans h7);clear h7;have hR7 : (.ok [k] s7 : Res (List Nat)) = R := U HR7;subst hR7;go_wp2
              first | (rw [Exit.noGoto_ret]; go_ret) | go_ret
              exact ⟨rfl, nv7, U H7⟩
            · skip
              simp only [ctV] at HC7;go_wp2_with (go_at_call 227; refine (U HC7).mono ?_)
              rintro e w7 ⟨rfl, nv7, h7⟩
              have H7 := Hi ((U H6).trans h7);replace HR7 := Hi (show (bd (parP E.c m1 .args) fun a => bd (putP ⟨27, [], 0, [k, y7, hd0 a], s.tk.2.2.1⟩) fun y => parP E.c m1 (.postLoop (s.tk.2.2.1) y)) s7 = R from U HR7);clear h7;have hp8 := bd_ne (p := parP E.c m1 .args) (U HR7) (U HNE);have HC8 := Hi (U HIA m1 (by omega) _ _ _ (U H7).1 hp8);cases hq8 : parP E.c m1 .args s7 with
              | out => exact absurd hq8 hp8
              | no s8 =>
                have hR8 := (bd_no hq8).symm.trans (U HR7);subst hR8;replace HC8 := rn HC8 hq8;clear hq8 hp8;go_wp2_with (go_at_call 228; refine (U HC8).mono ?_)
                rintro e w8 ⟨rfl, nv8, h8⟩
                have H8 := Hi ((U H7).trans h8);clear h8;go_wp2;exact ⟨rfl, rfl, nv8, U H8⟩
              | ok a8 s8 =>
                have HR8 := br hq8 HR7;replace HC8 := ro HC8 hq8;clear hq8 hp8;go_wp2_with (go_at_call 228; refine (U HC8).mono ?_)
                rintro e w8 ⟨rfl, nv8, h8⟩
                have H8 := Hi ((U H7).trans h8);clear h8;have hp9 := bd_ne (p := putP ⟨27, [], 0, [k, y7, hd0 a8], s.tk.2.2.1⟩) (U HR8) (U HNE);obtain ⟨a9, s9, hq9⟩ : ∃ a s', putP ⟨27, [], 0, [k, y7, hd0 a8], s.tk.2.2.1⟩ s8 = .ok a s' := put_ex hp9;have H9p := Hi ((U H8).below ((Below.refl _ w8).alloc NL (.cells #[.int .i64 ((k : Nat) : Int), .int .i64 ((y7 : Nat) : Int), .int .i64 ((hd0 a8 : Nat) : Int)] 3)));have HC9 := Hi (rq_ok (put_rq (U H9p).1 _ _ _ (kid3 w8 (k) (y7) (hd0 a8) (U H8).1.zl) hp9) hq9);simp only [e0', List.length_cons, List.length_nil] at HC9;have HR9 := br hq9 HR8;clear hq9 hp9;go_wp2_with (go_at_call 32; refine (U HC9).mono ?_)
                rintro e w9 ⟨rfl, nv9, h9⟩
                have H9 := Hi ((U H9p).trans h9);clear h9;go_wp2;have hI : LpI E nv s W n R (.postLoop (s.tk.2.2.1)) m1 (.int .i64 ((a9 : Nat) : Int)) _ := ⟨by omega, _, nv9, s9, rfl, U H9, U HR9⟩;exact ⟨⟨_, hI⟩, by rw [U HM0]; exact Nat.lt_succ_of_le (leastN_le hI)⟩
          | true =>
            have hp10 := bd_ne (p := putP ⟨34, [], 0, [k], s.tk.2.2.1⟩) (U HR6) (U HNE);obtain ⟨a10, s10, hq10⟩ : ∃ a s', putP ⟨34, [], 0, [k], s.tk.2.2.1⟩ s6 = .ok a s' := put_ex hp10;have H10p := Hi ((U H6).below ((Below.refl _ w6).alloc NL (.cells #[.int .i64 ((k : Nat) : Int)] 3)));have HC10 := Hi (rq_ok (put_rq (U H10p).1 _ _ _ (kid1 w6 (k) (U H6).1.zl) hp10) hq10);simp only [e0', List.length_cons, List.length_nil] at HC10;have HR10 := br hq10 HR6;clear hq10 hp10;go_wp2_with (go_at_call 32; refine (U HC10).mono ?_)
            rintro e w10 ⟨rfl, nv10, h10⟩
            have H10 := Hi ((U H10p).trans h10);clear h10;go_wp2;have hI : LpI E nv s W n R (.postLoop (s.tk.2.2.1)) m1 (.int .i64 ((a10 : Nat) : Int)) _ := ⟨by omega, _, nv10, s10, rfl, U H10, U HR10⟩;exact ⟨⟨_, hI⟩, by rw [U HM0]; exact Nat.lt_succ_of_le (leastN_le hI)⟩
        | true =>
          have hp11 := bd_ne (p := parP E.c m1 .expr) (U HR5) (U HNE);have HC11 := Hi (U HIX m1 (by omega) _ _ _ (U H5).1 hp11);cases hq11 : parP E.c m1 .expr s5 with
          | out => exact absurd hq11 hp11
          | no s11 =>
            have hR11 := (bd_no hq11).symm.trans (U HR5);subst hR11;replace HC11 := rn HC11 hq11;clear hq11 hp11;go_wp2_with (go_at_call 24; refine (U HC11).mono ?_)
            rintro e w11 ⟨rfl, nv11, h11⟩
            have H11 := Hi ((U H5).trans h11);clear h11;go_wp2;exact ⟨rfl, rfl, nv11, U H11⟩
          | ok a11 s11 =>
            have HR11 := br hq11 HR5;replace HC11 := ro HC11 hq11;clear hq11 hp11;go_wp2_with (go_at_call 24; refine (U HC11).mono ?_)
            rintro e w11 ⟨rfl, nv11, h11⟩
            have H11 := Hi ((U H5).trans h11);clear h11;have hp12 := bd_ne (p := wantP E.c [93]) (U HR11) (U HNE);have HC12 := Hi (want_rq (U HE) (U H11).1 (x := ⟨#[93]⟩) ⟨rfl, by intro z hz; simp at hz; omega⟩ hp12);cases hq12 : wantP E.c [93] s11 with
            | out => exact absurd hq12 hp12
            | no s12 =>
              have hR12 := (bd_no hq12).symm.trans (U HR11);subst hR12;replace HC12 := rn HC12 hq12;clear hq12 hp12;go_wp2_with (go_at_call 94; refine (U HC12).mono ?_)
              rintro e w12 ⟨rfl, nv12, h12⟩
              have H12 := Hi ((U H11).trans h12);clear h12;go_wp2;exact ⟨rfl, rfl, nv12, U H12⟩
            | ok a12 s12 =>
              have HR12 := br hq12 HR11;replace HC12 := ro HC12 hq12;clear hq12 hp12;go_wp2_with (go_at_call 94; refine (U HC12).mono ?_)
              rintro e w12 ⟨rfl, nv12, h12⟩
              have H12 := Hi ((U H11).trans h12);clear h12;have hp13 := bd_ne (p := putP ⟨30, [], 0, [k, hd0 a11], s.tk.2.2.1⟩) (U HR12) (U HNE);obtain ⟨a13, s13, hq13⟩ : ∃ a s', putP ⟨30, [], 0, [k, hd0 a11], s.tk.2.2.1⟩ s12 = .ok a s' := put_ex hp13;have H13p := Hi ((U H12).below ((Below.refl _ w12).alloc NL (.cells #[.int .i64 ((k : Nat) : Int), .int .i64 ((hd0 a11 : Nat) : Int)] 3)));have HC13 := Hi (rq_ok (put_rq (U H13p).1 _ _ _ (kid2 w12 (k) (hd0 a11) (U H12).1.zl) hp13) hq13);simp only [e0', List.length_cons, List.length_nil] at HC13;have HR13 := br hq13 HR12;clear hq13 hp13;go_wp2_with (go_at_call 32; refine (U HC13).mono ?_)
              rintro e w13 ⟨rfl, nv13, h13⟩
              have H13 := Hi ((U H13p).trans h13);clear h13;go_wp2;have hI : LpI E nv s W n R (.postLoop (s.tk.2.2.1)) m1 (.int .i64 ((a13 : Nat) : Int)) _ := ⟨by omega, _, nv13, s13, rfl, U H13, U HR13⟩;exact ⟨⟨_, hI⟩, by rw [U HM0]; exact Nat.lt_succ_of_le (leastN_le hI)⟩
      | true =>
        have hp14 := bd_ne (p := nameP E.c) (U HR4) (U HNE);have HC14 := Hi (name_rq (U HE) (U H4).1 hp14);cases hq14 : nameP E.c s4 with
        | out => exact absurd hq14 hp14
        | no s14 =>
          have hR14 := (bd_no hq14).symm.trans (U HR4);subst hR14;replace HC14 := rn HC14 hq14;clear hq14 hp14;go_wp2_with (go_at_call 103; refine (U HC14).mono ?_)
          rintro e w14 ⟨rfl, nv14, h14⟩
          have H14 := Hi ((U H4).trans h14);clear h14;go_wp2;exact ⟨rfl, rfl, nv14, U H14⟩
        | ok a14 s14 =>
          have HR14 := br hq14 HR4;replace HC14 := ro HC14 hq14;clear hq14 hp14;go_wp2_with (go_at_call 103; refine (U HC14).mono ?_)
          rintro e w14 ⟨rfl, nv14, h14⟩
          have H14 := Hi ((U H4).trans h14);clear h14;have hp15 := bd_ne (p := putP ⟨29, a14, 0, [k], s.tk.2.2.1⟩) (U HR14) (U HNE);obtain ⟨a15, s15, hq15⟩ : ∃ a s', putP ⟨29, a14, 0, [k], s.tk.2.2.1⟩ s14 = .ok a s' := put_ex hp15;have H15p := Hi ((U H14).below ((Below.refl _ w14).alloc NL (.cells #[.int .i64 ((k : Nat) : Int)] 3)));have HC15 := Hi (rq_ok (put_rq (U H15p).1 _ _ _ (kid1 w14 (k) (U H14).1.zl) hp15) hq15);simp only [e0', List.length_cons, List.length_nil] at HC15;have HR15 := br hq15 HR14;clear hq15 hp15;go_wp2_with (go_at_call 32; refine (U HC15).mono ?_)
          rintro e w15 ⟨rfl, nv15, h15⟩
          have H15 := Hi ((U H15p).trans h15);clear h15;go_wp2;have hI : LpI E nv s W n R (.postLoop (s.tk.2.2.1)) m1 (.int .i64 ((a15 : Nat) : Int)) _ := ⟨by omega, _, nv15, s15, rfl, U H15, U HR15⟩;exact ⟨⟨_, hI⟩, by rw [U HM0]; exact Nat.lt_succ_of_le (leastN_le hI)⟩
end
end Go.Proofs.YtofgphapjjofnaaGreatDoor
