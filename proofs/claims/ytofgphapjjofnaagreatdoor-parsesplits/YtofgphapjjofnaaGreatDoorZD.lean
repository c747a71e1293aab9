/- Towards the law: T5 T6 T7. -/
import Derived.Deep.RegionWith
import Derived.LoopN
import Derived.RangeFuncBox
import Derived.Shelf.Abstract
import Derived.Test.YtofgphapjjofnaaGreatDoorZC
set_option linter.unusedSimpArgs false
set_option linter.unusedVariables false
set_option maxRecDepth 100000
set_option maxHeartbeats 8000000
namespace Go.Proofs.YtofgphapjjofnaaGreatDoor.Tr
section
open Go.RowKit
theorem within_any (W : World) (a : Option Addr) (len cap : Nat) (hlen : len ≤ 2199023255552) (k : Int) : Calls Tryz.prog 88 #[.slice a len cap, .int .i64 k] W fun e w' => e = .returned (.bool (decide (0 ≤ k) && decide (k < (len : Int)))) ∧ w' = W := by
 by_cases h1 : 0 ≤ k
 · have a1 : decide (0 ≤ k) = true := by simpa using h1
   have HR : Hid ((decide (0 ≤ k) && decide (k < (len : Int))) = decide (k < (len : Int))) := by show (decide (0 ≤ k) && decide (k < (len : Int))) = decide (k < (len : Int)); rw [a1]; rfl
   go_enter Tryz.func88, Tryz.ntmps88;go_wp2;go_ret;exact ⟨show Ending.returned (.bool (decide (k < (len : Int)))) = _ from ret_b (U HR).symm, rfl⟩
 · have a1 : decide (0 ≤ k) = false := by simpa using h1
   have HR : Hid ((decide (0 ≤ k) && decide (k < (len : Int))) = false) := by show (decide (0 ≤ k) && decide (k < (len : Int))) = false; rw [a1]; rfl
   go_enter Tryz.func88, Tryz.ntmps88;go_wp2;go_ret
   first | exact ⟨rfl, rfl⟩ | exact ⟨show Ending.returned (.bool false) = _ from ret_b (U HR).symm, rfl⟩
theorem within_ok {W : World} {M : Nat} {v : Value} {l : List Nd} (hN : Nodes W M v l) (k : Int) : Calls Tryz.prog 88 #[v, .int .i64 k] W fun e w' => e = .returned (.bool (ins l k)) ∧ w' = W := by
 obtain ⟨a, cap, rfl, _, _⟩ := hN.len;exact within_any W a l.length cap hN.1 k
def upK (l : List Nd) (ks : List Int) (q : Nat → Bool) : Nat → Bool
 | 0 => true
 | i + 1 => upK l ks q i && (ins l (ks.getD i 0) && q i)
theorem upK_le {l : List Nd} {ks : List Int} {q : Nat → Bool} {i : Nat} (h : upK l ks q i = false) : ∀ {j}, i ≤ j → upK l ks q j = false
 | 0, hj => by obtain rfl : i = 0 := by omega
               exact h
 | j + 1, hj => by
   by_cases e : i = j + 1
   · subst e; exact h
   · show (upK l ks q j && _) = false
     rw [upK_le h (by omega)]; rfl
theorem upK_false {l : List Nd} {ks : List Int} {q : Nat → Bool} {i n : Nat} (hi : i < n) (h : (ins l (ks.getD i 0) && q i) = false) : upK l ks q n = false :=
 upK_le (i := i + 1) (by show (upK l ks q i && _) = false; rw [h]; simp) hi
theorem list_gen (f : Nat) (caps : Array Value) (ey : ∀ args w, (callFunc f args).run Tryz.prog w = .ok (.enter f args) w) (W : World) (M M' : Nat) (v : Value) (l : List Nd) (n : Nat) (hN : Nodes W M v l) (hn : n < l.length) (hMM : M ≤ M') (hM : M' ≤ W.heap.size)
 (J : Nat → World → Prop) (q : Nat → Bool) (h0 : J 0 W) (hlen : (nd l n).kids.length ≤ 17592186044416)
 (hY : ∀ i A, i < (nd l n).kids.length → J i A → Below M' W A → ins l ((nd l n).kids.getD i 0) = true → Calls Tryz.prog f (#[v, .int .i64 ((nd l n).kids.getD i 0)] ++ caps) A fun e A' => e = .returned (.bool (q i)) ∧ Below M' A A' ∧ (q i = true → J (i + 1) A')) :
 Calls Tryz.prog 120 #[v, .int .i64 (n : Int), .func (.func f) #[] caps] W fun e w' => e = .returned (.bool ((nd l n).kind == 2 && upK l (nd l n).kids q (nd l n).kids.length)) ∧ Below M' W w' := by
 have HN := Hi hN;obtain ⟨b, o, cap, ka, kc, rfl, hcap, hmx, hb, d0, d1, d2, d3, d4, hkc, hkm, hK⟩ := hN.at hn;have hlt : (n : Int) < l.length := by omega
 have hbW : b < W.heap.size := Nat.lt_of_lt_of_le hb (Nat.le_trans hMM hM);obtain ⟨ks, hks⟩ : ∃ ks, (nd l n).kids = ks := ⟨_, rfl⟩;rw [hks] at d3 hK hlen hY ⊢;clear hks;have HY := Hi hY;have HK := Hi hK;have H0 := Hi h0;clear hN hn hcap hmx hY h0 hkc hkm hK;cases hk : ((nd l n).kind == 2) with
 | false =>
   have hk' : ((nd l n).kind != 2) = true := by simp only [bne, hk]; rfl
   go_enter Tryz.func120, Tryz.ntmps120;go_wp2;go_ret;exact ⟨rfl, Below.refl _ _⟩
 | true =>
   have hk' : ((nd l n).kind != 2) = false := by simp only [bne, hk]; rfl
   go_enter Tryz.func120, Tryz.ntmps120;go_wp2;go_loopw [21] (fun t wr => ∃ i : Nat, i ≤ ks.length ∧ t = .int .i64 (i : Int) ∧ upK l ks q i = true ∧ J i wr ∧ Below M' W wr) (fun t _ => ks.length - (intOf t).toNat)
   case atStart => exact ⟨0, Nat.zero_le _, rfl, rfl, U H0, Below.refl _ _⟩
   case round =>
    obtain ⟨i, hi, rfl, hu, hJ, hB⟩ := hrel;have HJ := Hi hJ;have HU := Hi hu;clear hJ hu;by_cases hil : i < ks.length
    · have hil' : (i : Int) < ks.length := by omega
      have hkk := U HK;rcases hkk with hkk | ⟨kb, ko, rfl, hkb, hkc⟩
      · subst hkk; simp at hil
      have dk := (hB.cell (p := ⟨kb, ko + i, none⟩) (Nat.lt_of_lt_of_le hkb hMM)).trans (hkc i hil);clear hkc;obtain ⟨k, hkv⟩ : ∃ k, ks.getD i 0 = k := ⟨_, rfl⟩;have HC0 := U HY i wr hil (U HJ) hB;rw [hkv] at dk HC0;have HKV := Hi hkv;have HC := Hi HC0;have HIL := Hi hil;clear hkv HC0 HY;cases hins : ins l k with
      | false =>
        have HF : Hid (upK l ks q ks.length = false) := upK_false (U HIL) (by rw [U HKV, hins]; rfl);go_wp2_with (go_at_call 88; refine (within_ok ((U HN).keep hB hMM) _).mono ?_; rintro e w2 ⟨rfl, rfl⟩);go_ret;exact ⟨ret_b (U HF).symm, hB⟩
      | true =>
        cases hq : q i with
        | false =>
          have HF : Hid (upK l ks q ks.length = false) := upK_false (U HIL) (by rw [U HKV, hins, hq]; rfl);have HINS := Hi hins;have HQ := Hi hq;clear hq;go_wp2_with (first | (go_at_call 88; refine (within_ok ((U HN).keep hB hMM) _).mono ?_; rintro e w2 ⟨rfl, rfl⟩) | (refine (U HC (U HINS)).mono ?_; rintro e w3 ⟨he, hB3, hJ3⟩; rw [U HQ] at he; subst he));go_ret;exact ⟨ret_b (U HF).symm, hB.trans hB3⟩
        | true =>
          have HUU : Hid (upK l ks q (i + 1) = true) := by show (upK l ks q i && (ins l (ks.getD i 0) && q i)) = true; rw [U HU, U HKV, hins, hq]; rfl
          have HINS := Hi hins;have HQ := Hi hq;clear hq;go_wp2_with (first | (go_at_call 88; refine (within_ok ((U HN).keep hB hMM) _).mono ?_; rintro e w2 ⟨rfl, rfl⟩) | (refine (U HC (U HINS)).mono ?_; rintro e w3 ⟨he, hB3, hJ3⟩; rw [U HQ] at he; subst he; have HJ3 := Hi hJ3; clear hJ3));refine ⟨⟨i + 1, by omega, by go_num, U HUU, U HJ3 (U HQ), hB.trans hB3⟩, by simp [intOf]; omega⟩
    · have hil' : ¬ (i : Int) < ks.length := by omega
      obtain rfl : i = ks.length := by omega
      go_wp2;go_ret;exact ⟨show Ending.returned (.bool true) = _ from ret_b (U HU).symm, hB⟩
end
section
open Go.RowKit Go.Shelf
theorem upK_cons (l : List Nd) (k : Int) (ks : List Int) (q : Nat → Bool) : ∀ n, upK l (k :: ks) q (n + 1) = ((ins l k && q 0) && upK l ks (fun i => q (i + 1)) n)
 | 0 => by simp [upK]
 | n + 1 => by
   show (upK l (k :: ks) q (n + 1) && (ins l ((k :: ks).getD (n + 1) 0) && q (n + 1))) = _
   rw [upK_cons l k ks q n];simp [upK, Bool.and_assoc]
theorem upK_all (p : Plc) (l : List Nd) : ∀ ks : List Int, upK l ks (fun i => p l (ks.getD i 0).toNat) ks.length = kAll p l ks
 | [] => rfl
 | k :: ks => by
   rw [List.length_cons, upK_cons];have := upK_all p l ks;simp only [kAll, List.all_cons] at this ⊢;rw [← this];rfl
theorem list_pl {f : Nat} {p : Plc} (h : PlOk f p) (ey : ∀ args w, (callFunc f args).run Tryz.prog w = .ok (.enter f args) w) (W : World) (M : Nat) (v : Value) (l : List Nd) (n : Nat) (hN : Nodes W M v l) (hn : n < l.length) (hM : M ≤ W.heap.size) :
 Calls Tryz.prog 120 #[v, .int .i64 (n : Int), .func (.func f) #[] #[]] W fun e w' => e = .returned (.bool (pList p l n)) ∧ Below W.heap.size W w' := by
 have := list_gen f #[] ey W M W.heap.size v l n hN hn hM NL (fun _ _ => True) (fun i => p l ((nd l n).kids.getD i 0).toNat) trivial (hN.2.1 n hn).2 (fun i A hi _ hB hins => by
  obtain ⟨h1, h2⟩ := ins_iff.1 hins;have hc := h A M v l _ (hN.keep hB hM) h2 (Nat.le_trans hM hB.size);rw [Int.toNat_of_nonneg h1] at hc;refine Calls.mono (by simpa using hc) ?_;rintro e A' ⟨he, hB2⟩
  exact ⟨he, hB2.mono hB.size, fun _ => trivial⟩)
 rw [upK_all] at this;exact this
theorem exprs_ok : PlOk 137 (pList pExpr) := fun W M v l n hN hn hM => by
 have HC := Hi (list_pl expr_ok (enters_of Tryz.func128 (by kernel_rfl) rfl) W M v l n hN hn hM);obtain ⟨a, cap, rfl, _, _⟩ := hN.len;clear hN hn hM;go_enter Tryz.func137, Tryz.ntmps137;go_wp2_with (go_at_call 120; refine (U HC).mono ?_; rintro e w2 ⟨rfl, hB⟩);go_ret;exact ⟨rfl, hB⟩
theorem types_ok : PlOk 77 (pList pTyp) := fun W M v l n hN hn hM => by
 have HC := Hi (list_pl typ_ok (enters_of Tryz.func80 (by kernel_rfl) rfl) W M v l n hN hn hM);obtain ⟨a, cap, rfl, _, _⟩ := hN.len;clear hN hn hM;go_enter Tryz.func77, Tryz.ntmps77;go_wp2_with (go_at_call 120; refine (U HC).mono ?_; rintro e w2 ⟨rfl, hB⟩);go_ret;exact ⟨rfl, hB⟩
theorem typeNames_ok : PlOk 176 (pList (pK 80)) := fun W M v l n hN hn hM => by
 have HC := Hi (list_pl typeName_ok (enters_of Tryz.func214 (by kernel_rfl) rfl) W M v l n hN hn hM);obtain ⟨a, cap, rfl, _, _⟩ := hN.len;clear hN hn hM;go_enter Tryz.func176, Tryz.ntmps176;go_wp2_with (go_at_call 120; refine (U HC).mono ?_; rintro e w2 ⟨rfl, hB⟩);go_ret;exact ⟨rfl, hB⟩
theorem typeParams_ok : PlOk 131 (pList (pK 67)) := fun W M v l n hN hn hM => by
 have HC := Hi (list_pl typeParam_ok (enters_of Tryz.func171 (by kernel_rfl) rfl) W M v l n hN hn hM);obtain ⟨a, cap, rfl, _, _⟩ := hN.len;clear hN hn hM;go_enter Tryz.func131, Tryz.ntmps131;go_wp2_with (go_at_call 120; refine (U HC).mono ?_; rintro e w2 ⟨rfl, hB⟩);go_ret;exact ⟨rfl, hB⟩
theorem params_ok : PlOk 84 (pList pParam) := fun W M v l n hN hn hM => by
 have HC := Hi (list_pl param_ok (enters_of Tryz.func126 (by kernel_rfl) rfl) W M v l n hN hn hM);obtain ⟨a, cap, rfl, _, _⟩ := hN.len;clear hN hn hM;go_enter Tryz.func84, Tryz.ntmps84;go_wp2_with (go_at_call 120; refine (U HC).mono ?_; rintro e w2 ⟨rfl, hB⟩);go_ret;exact ⟨rfl, hB⟩
theorem markedParams_ok : PlOk 180 (pList (pK 66)) := fun W M v l n hN hn hM => by
 have HC := Hi (list_pl markedParam_ok (enters_of Tryz.func216 (by kernel_rfl) rfl) W M v l n hN hn hM);obtain ⟨a, cap, rfl, _, _⟩ := hN.len;clear hN hn hM;go_enter Tryz.func180, Tryz.ntmps180;go_wp2_with (go_at_call 120; refine (U HC).mono ?_; rintro e w2 ⟨rfl, hB⟩);go_ret;exact ⟨rfl, hB⟩
def cnt (l : List Nd) (ks : List Int) : Nat → Nat
 | 0 => 0
 | i + 1 => cnt l ks i + (if (nd l (ks.getD i 0).toNat).kind == 46 then 1 else 0)
def qm (l : List Nd) (ks : List Int) (c i : Nat) : Bool := (nd l (ks.getD i 0).toNat).kind == 44 || (nd l (ks.getD i 0).toNat).kind == 45 || ((nd l (ks.getD i 0).toNat).kind == 46 && (c + cnt l ks i == 0))
theorem cnt_cons (l : List Nd) (k : Int) (ks : List Int) : ∀ i, cnt l (k :: ks) (i + 1) = (if (nd l k.toNat).kind == 46 then 1 else 0) + cnt l ks i
 | 0 => by simp [cnt]
 | i + 1 => by
   show cnt l (k :: ks) (i + 1) + _ = _
   rw [cnt_cons l k ks i];simp only [cnt, List.getD_cons_succ];omega
theorem mem_upK (l : List Nd) : ∀ (ks : List Int) (c : Nat), upK l ks (qm l ks c) ks.length = mem l c ks
 | [], c => rfl
 | k :: ks, c => by
   rw [List.length_cons, upK_cons];show _ = (ins l k && _)
   have e : (fun i => qm l (k :: ks) c (i + 1)) = qm l ks (c + (if (nd l k.toNat).kind == 46 then 1 else 0)) := by
    funext i
    simp only [qm, cnt_cons, List.getD_cons_succ];rw [Nat.add_assoc]
   rw [e, mem_upK l ks];have e0 : qm l (k :: ks) c 0 = ((nd l k.toNat).kind == 44 || (nd l k.toNat).kind == 45 || ((nd l k.toNat).kind == 46 && (c == 0))) := by simp [qm, cnt]
   rw [e0];by_cases h4 : (nd l k.toNat).kind = 44
   · simp [h4]
   by_cases h5 : (nd l k.toNat).kind = 45
   · simp [h5]
   by_cases h6 : (nd l k.toNat).kind = 46
   · simp [h6, Bool.and_assoc]
   · simp [h4, h5, h6]
theorem mem1_any (W : World) (M B : Nat) (v : Value) (l : List Nd) (n c : Nat) (hN : Nodes W M v l) (hn : n < l.length) (hMB : M ≤ B) (hc : c ≤ 1) (hb0 : Boxed W B 3 (.int .i64 (c : Int))) :
 Calls Tryz.prog 215 #[v, .int .i64 (n : Int), .pointer (some ⟨B, 0, none⟩)] W fun e w' => e = .returned (.bool ((nd l n).kind == 44 || (nd l n).kind == 45 || ((nd l n).kind == 46 && (c == 0)))) ∧ Below B W w' ∧ Boxed w' B 3 (.int .i64 ((c + (if (nd l n).kind == 46 then 1 else 0) : Nat) : Int)) := by
 obtain ⟨b, o, cap, ka, kc, rfl, hcap, hmx, hb, d0, d1, d2, d3, d4, _, _, _⟩ := hN.at hn;have hlt : (n : Int) < l.length := by omega
 have hbW : b < B := Nat.lt_of_lt_of_le hb hMB;have hBx := hb0.lt;have HB := Hi hb0;have hcl := hb0.cell;have hfr := hb0.frozen;clear hN hn hcap hmx hb0;generalize (nd l n).kind = kd at *;by_cases h4 : kd = 44
 · subst h4
   go_enter Tryz.func215, Tryz.ntmps215;go_wp2;go_ret;exact ⟨rfl, Below.refl _ _, U HB⟩
 by_cases h5 : kd = 45
 · subst h5
   go_enter Tryz.func215, Tryz.ntmps215;go_wp2;go_ret;exact ⟨rfl, Below.refl _ _, U HB⟩
 by_cases h6 : kd = 46
 · subst h6
   rcases (by omega : c = 0 ∨ c = 1) with rfl | rfl
   · go_enter Tryz.func215, Tryz.ntmps215
     go_wp2;go_ret;exact ⟨rfl, (Below.refl _ _).setCell (p := ⟨B, 0, none⟩) NL _, (U HB).set _⟩
   · go_enter Tryz.func215, Tryz.ntmps215
     go_wp2;go_ret;exact ⟨rfl, (Below.refl _ _).setCell (p := ⟨B, 0, none⟩) NL _, (U HB).set _⟩
 · have q4 : (kd == 44) = false := by simpa using h4
   have q5 : (kd == 45) = false := by simpa using h5
   have q6 : (kd == 46) = false := by simpa using h6
   clear h4 h5 h6;go_enter Tryz.func215, Tryz.ntmps215;go_wp2;go_ret
   all_goals first | exact ⟨rfl, Below.refl _ _, U HB⟩ | contradiction
theorem members_ok : PlOk 177 pMem := fun W M v l n hN hn hM => by
 have h0 := Boxed.new W 3 (.int .i64 0);have hB0 : Below W.heap.size W (W.alloc (.cells #[.int .i64 0] 3)) := (Below.refl _ _).alloc NL _
 have HC := Hi (list_gen 215 #[.pointer (some ⟨W.heap.size, 0, none⟩)] (enters_of Tryz.func215 (by kernel_rfl) rfl) (W.alloc (.cells #[.int .i64 0] 3)) M W.heap.size v l n (hN.keep hB0 hM) hn hM (by simp)
  (fun i A => cnt l (nd l n).kids i ≤ 1 ∧ Boxed A W.heap.size 3 (.int .i64 (cnt l (nd l n).kids i : Int))) (qm l (nd l n).kids 0) ⟨by simp [cnt], by simpa [cnt] using h0⟩ (hN.2.1 n hn).2 (fun i A hi hJ hB hins => by
   obtain ⟨h1, h2⟩ := ins_iff.1 hins;have hc := mem1_any A M W.heap.size v l _ _ ((hN.keep hB0 hM).keep hB hM) h2 hM hJ.1 hJ.2;rw [Int.toNat_of_nonneg h1] at hc;refine Calls.mono (by simpa using hc) ?_;rintro e A' ⟨he, hB2, hb2⟩;refine ⟨by rw [he]; simp [qm], hB2, fun hq => ⟨?_, by simpa [cnt] using hb2⟩⟩;simp only [cnt];by_cases h6 : (nd l ((nd l n).kids.getD i 0).toNat).kind = 46
   · simp only [qm, h6] at hq
     simp at hq;simp [hq]; split <;> omega
   · have e6 : ((nd l ((nd l n).kids.getD i 0).toNat).kind == 46) = false := by simpa using h6
     rw [e6]; simpa using hJ.1))
 rw [mem_upK] at HC;obtain ⟨a, cap, rfl, _, _⟩ := hN.len;clear hN hn h0;go_enter Tryz.func177, Tryz.ntmps177;go_wp2_with (go_at_call 120; refine (U HC).mono ?_; rintro e w2 ⟨rfl, hB⟩);go_ret;exact ⟨rfl, hB0.trans hB⟩
theorem mov_stop {l : List Nd} {f m : Nat} (h : ((nd l m).kind == 29 && decide ((nd l m).kids.length = 1) && ins l ((nd l m).kids.getD 0 0)) = false) : mov l (f + 1) m = ((nd l m).kind == 17) := by
 simp only [mov];split
 · rename_i k hk
   rw [hk] at h;simp at h;split
   · rename_i hc
     simp at hc;rw [h hc.1] at hc;simp at hc
   · rfl
 · rfl
theorem mov_go {l : List Nd} {f m : Nat} (h1 : (nd l m).kind = 29) (h2 : (nd l m).kids.length = 1) (h3 : ins l ((nd l m).kids.getD 0 0) = true) : mov l (f + 1) m = mov l f ((nd l m).kids.getD 0 0).toNat := by
 obtain ⟨k, hk⟩ := List.length_eq_one_iff.1 h2;rw [hk] at h3 ⊢;simp only [mov, hk];simp at h3;simp [h1, h3]
theorem mov_ok : PlOk 138 pNew := fun W M v l n hN hn hM => by
 have HN := Hi hN;have hlen := hN.1;obtain ⟨a, cap, rfl, _, _⟩ := hN.len;have HM := Hi hM;clear hN;go_enter Tryz.func138, Tryz.ntmps138;go_wp2;go_loopw [1, 8] (fun t1 t8 wr => ∃ i m : Nat, i ≤ l.length ∧ m < l.length ∧ t8 = .int .i64 (i : Int) ∧ t1 = .int .i64 (m : Int) ∧ mov l l.length n = mov l (l.length - i) m ∧ wr = W) (fun _ t8 _ => l.length - (intOf t8).toNat)
 case atStart => exact ⟨0, n, Nat.zero_le _, hn, rfl, rfl, rfl, rfl⟩
 case round =>
  obtain ⟨i, m, hi, hm, rfl, rfl, he, hw⟩ := hrel;subst wr;have HE := Hi he;clear he;obtain ⟨b, o, cap', ka, kc, hv, hcap, hmx, hb, d0, d1, d2, d3, d4, hkc, hkm, hK⟩ := (U HN).at hm;obtain ⟨rfl, rfl⟩ : a = some ⟨b, o, none⟩ ∧ cap' = cap := by injection hv with h1 _ h3; exact ⟨h1, h3.symm⟩
  clear hv;have hml : (m : Int) < l.length := by omega
  have hbW : b < W.heap.size := Nat.lt_of_lt_of_le hb (U HM);clear hcap hmx;by_cases hil : i < l.length
  · have hil' : (i : Int) < l.length := by omega
    obtain ⟨f, hf⟩ : ∃ f, l.length - i = f + 1 := ⟨l.length - i - 1, by omega⟩;have HF := Hi hf;clear hf;by_cases h1 : (nd l m).kind = 29
    · by_cases h2 : (nd l m).kids.length = 1
      · rcases hK with hK | ⟨kb, ko, rfl, hkb, hkc'⟩
        · rw [hK] at h2; simp at h2
        have dk := hkc' 0 (by omega);rw [Nat.add_zero] at dk;obtain ⟨k, hk⟩ : ∃ k, (nd l m).kids.getD 0 0 = k := ⟨_, rfl⟩;rw [hk] at dk;have h1' : ((nd l m).kind != 29) = false := by simp [h1]
        have HK := Hi hk;have H1 := Hi h1;have H2 := Hi h2;rw [h2] at d3 hkc;clear hkc' hk h2;cases hins : ins l k with
        | false =>
          have HR : Hid (pNew l n = ((nd l m).kind == 17)) := by
           show mov l l.length n = _
           rw [U HE, U HF];exact mov_stop (by rw [U HK, hins]; simp)
          clear h1;go_wp2_with (go_at_call 88; refine (within_ok (U HN) _).mono ?_; rintro e w2 ⟨rfl, rfl⟩);go_ret;exact ⟨ret_b (U HR).symm, Below.refl _ _⟩
        | true =>
          have HINS := Hi hins;have hins2 := ins_iff.1 hins;clear h1;go_wp2_with (go_at_call 88; refine (within_ok (U HN) _).mono ?_; rintro e w2 ⟨rfl, rfl⟩);refine ⟨⟨i + 1, k.toNat, by omega, hins2.2, by go_num, by rw [Int.toNat_of_nonneg hins2.1], ?_, trivial⟩, by simp [intOf]; omega⟩;rw [U HE, U HF, mov_go (U H1) (U H2) (by rw [U HK]; exact U HINS), U HK];have := U HF;rw [show l.length - (i + 1) = f from by omega]
      · have h2' : (((nd l m).kids.length : Int) != 1) = true := by simp only [bne_iff_ne, ne_eq]; omega
        have h1' : ((nd l m).kind != 29) = false := by simp [h1]
        have HR : Hid (pNew l n = ((nd l m).kind == 17)) := by
         show mov l l.length n = _
         rw [U HE, U HF];exact mov_stop (by simp [h2])
        clear h1 h2;go_wp2;go_ret;exact ⟨ret_b (U HR).symm, Below.refl _ _⟩
    · have h1' : ((nd l m).kind != 29) = true := by simpa using h1
      have HR : Hid (pNew l n = ((nd l m).kind == 17)) := by
       show mov l l.length n = _
       rw [U HE, U HF];exact mov_stop (by simp [h1])
      clear h1;go_wp2;go_ret;exact ⟨ret_b (U HR).symm, Below.refl _ _⟩
  · have hil' : ¬ (i : Int) < l.length := by omega
    have HR : Hid (pNew l n = ((nd l m).kind == 17)) := by
     show mov l l.length n = _
     rw [U HE, show l.length - i = 0 from by omega];rfl
    go_wp2;go_ret;exact ⟨ret_b (U HR).symm, Below.refl _ _⟩
theorem two_ok : AllOk 85 0 two := fun W M v l ks a cap hN hK hlen _ hc hm hins hM => by
 obtain ⟨a', cap', rfl, _, _⟩ := hN.len;clear hN hK hins;go_enter Tryz.func85, Tryz.ntmps85;go_wp2;go_ret;exact ⟨show Ending.returned (.bool (decide ((2 : Int) ≤ ks.length))) = _ from ret_b (by simp only [two]; exact decide_eq_decide.2 (by omega)), Below.refl _ _⟩
theorem cof_ok : AllOk 190 3 cof := fun W M v l ks a cap hN hK hlen h3 hc hm hins hM => by
 rcases hK with rfl | ⟨kb, ko, rfl, hkb, hk⟩
 · simp at h3
 have e1 := hk 1 (by omega);have e2 := hk 2 (by omega);obtain ⟨k1, h1⟩ : ∃ k1, ks.getD 1 0 = k1 := ⟨_, rfl⟩;obtain ⟨k2, h2⟩ : ∃ k2, ks.getD 2 0 = k2 := ⟨_, rfl⟩;have i1 : ins l k1 = true := hins _ (by rw [← h1, List.getD_eq_getElem?_getD, List.getElem?_eq_getElem (by omega)]; exact List.getElem_mem _);have i2 : ins l k2 = true := hins _ (by rw [← h2, List.getD_eq_getElem?_getD, List.getElem?_eq_getElem (by omega)]; exact List.getElem_mem _);rw [h1] at e1;rw [h2] at e2;obtain ⟨p1, l1⟩ := ins_iff.1 i1;obtain ⟨p2, l2⟩ := ins_iff.1 i2;have hkW : kb < W.heap.size := Nat.lt_of_lt_of_le hkb hM;have g1 : (1 : Int) < ks.length := by omega
 have g2 : (2 : Int) < ks.length := by omega
 have C1 := none_ok W M v l _ hN l1 hM;rw [Int.toNat_of_nonneg p1] at C1;have C2 := none_ok W M v l _ hN l2 hM;rw [Int.toNat_of_nonneg p2] at C2;have HC1 := Hi C1
 have HC2 : Hid (∀ W', Below W.heap.size W W' → Calls Tryz.prog 213 #[v, .int .i64 k2] W' fun e w' => e = .returned (.bool (pK 1 l k2.toNat)) ∧ Below W'.heap.size W' w') := fun W' hB => by
  have := none_ok W' M v l _ (hN.keep hB hM) l2 (Nat.le_trans hM hB.size);rw [Int.toNat_of_nonneg p2] at this;exact this
 obtain ⟨a', cap', rfl, _, _⟩ := hN.len;clear hN hk hins C1 C2 i1 i2 p1 p2 l1 l2;cases hq : pK 1 l k1.toNat with
 | false =>
   have HR : Hid (cof l ks = true) := by
    have e : ((nd l k1.toNat).kind == 1) = false := hq;show (!((nd l (ks.getD 1 0).toNat).kind == 1) || _) = true
    rw [h1, e]; rfl
   have HQ := Hi hq;clear hq h1 h2;go_enter Tryz.func190, Tryz.ntmps190;go_wp2_with (first | (go_at_call_of 213 k1; refine (U HC1).mono ?_; rintro e w2 ⟨he, hB2⟩; rw [U HQ] at he; subst he));go_ret;exact ⟨ret_b (U HR).symm, hB2⟩
 | true =>
   have HR : Hid (cof l ks = !(pK 1 l k2.toNat)) := by
    have e : ((nd l k1.toNat).kind == 1) = true := hq;show (!((nd l (ks.getD 1 0).toNat).kind == 1) || !((nd l (ks.getD 2 0).toNat).kind == 1)) = _
    rw [h1, h2, e]; rfl
   have HQ := Hi hq;clear hq h1 h2;go_enter Tryz.func190, Tryz.ntmps190;go_wp2_with (first | (go_at_call_of 213 k1; refine (U HC1).mono ?_; rintro e w2 ⟨he, hB2⟩; rw [U HQ] at he; subst he; have e2 := (hB2.cell (p := ⟨kb, ko + 2, none⟩) hkW).trans e2) | (go_at_call_of 213 k2; refine (U HC2 _ hB2).mono ?_; rintro e w3 ⟨rfl, hB3⟩));go_ret;exact ⟨ret_b (U HR).symm, hB2.trans (hB3.mono hB2.size)⟩
theorem pcs_step {l : List Nd} : ∀ (ks : List Int), 2 ≤ ks.length → pcs l ks = ((nd l (ks.getD 0 0).toNat).kind == 11 && pcs l (ks.drop 2))
 | k :: k' :: ks, _ => by simp [pcs]
theorem pcs_end {l : List Nd} : ∀ (ks : List Int), ks.length = 1 → pcs l ks = ((nd l (ks.getD 0 0).toNat).kind == 11)
 | [k], _ => by simp [pcs]
theorem pcs_ok : AllOk 129 0 pcs := fun W M v l ks a cap hN hK hlen _ hc hm hins hM => by
 have HN := Hi hN;have HM := Hi hM;have HI := Hi hins;have HK := Hi hK;have hll := hN.1;obtain ⟨a', cap', rfl, _, _⟩ := hN.len;clear hN hK hins hc hm;go_enter Tryz.func129, Tryz.ntmps129;go_wp2;go_loopw [5] (fun t wr => ∃ i : Nat, t = .int .i64 (i : Int) ∧ i % 2 = 0 ∧ ((i ≤ ks.length ∧ pcs l ks = pcs l (ks.drop i)) ∨ (i = ks.length + 1 ∧ pcs l ks = true)) ∧ wr = W) (fun t _ => ks.length + 2 - (intOf t).toNat)
 case atStart => exact ⟨0, rfl, rfl, .inl ⟨Nat.zero_le _, rfl⟩, rfl⟩
 case round =>
  obtain ⟨i, rfl, hi2, hor, hw⟩ := hrel;subst wr;by_cases hil : i < ks.length
  · have hil' : (i : Int) < ks.length := by omega
    have hp : pcs l ks = pcs l (ks.drop i) := by
     rcases hor with h | h
     · exact h.2
     · omega
    have HP := Hi hp;clear hp hor;rcases U HK with hK | ⟨kb, ko, rfl, hkb, hkc⟩
    · subst hK; simp at hil
    have dk := hkc i hil;obtain ⟨k, hk⟩ : ∃ k, ks.getD i 0 = k := ⟨_, rfl⟩;rw [hk] at dk;have i1 : ins l k = true := U HI _ (by rw [← hk, List.getD_eq_getElem?_getD, List.getElem?_eq_getElem hil]; exact List.getElem_mem _);obtain ⟨q1, q2⟩ := ins_iff.1 i1;obtain ⟨b, o, cap'', ka, kc, hv, hcap, hmx, hb, d0, d1, d2, d3, d4, _, _, _⟩ := (U HN).at q2;obtain ⟨rfl, rfl⟩ : a' = some ⟨b, o, none⟩ ∧ cap'' = cap' := by injection hv with h1 _ h3; exact ⟨h1, h3.symm⟩
    have hg0 : (ks.drop i).getD 0 0 = k := by rw [← hk]; simp [List.getD_eq_getElem?_getD]
    have HG := Hi hg0;obtain ⟨m, rfl⟩ : ∃ m : Nat, k = (m : Int) := ⟨k.toNat, (Int.toNat_of_nonneg q1).symm⟩;simp only [Int.toNat_natCast] at q2 d0 d1 d2 d3 d4;have hml : (m : Int) < l.length := by omega
    have hbW : b < W.heap.size := Nat.lt_of_lt_of_le hb (U HM);clear hv hcap hmx hkc hk hg0 i1;cases hq : ((nd l m).kind == 11) with
    | false =>
      have hq' : ((nd l m).kind != 11) = true := by simp only [bne, hq]; rfl
      have HR : Hid (pcs l ks = false) := by
       show pcs l ks = false
       rw [U HP];by_cases h2 : 2 ≤ (ks.drop i).length
       · rw [pcs_step _ h2, U HG, Int.toNat_natCast, hq]; rfl
       · rw [pcs_end _ (by simp at h2 ⊢; omega), U HG, Int.toNat_natCast, hq]
      go_wp2;go_ret;exact ⟨ret_b (U HR).symm, Below.refl _ _⟩
    | true =>
      have hq' : ((nd l m).kind != 11) = false := by simp only [bne, hq]; rfl
      have HQ := Hi hq;go_wp2;refine ⟨⟨i + 2, by go_num, by omega, ?_, trivial⟩, by simp [intOf]; omega⟩;by_cases h2 : 2 ≤ (ks.drop i).length
      · refine .inl ⟨by simp at h2; omega, ?_⟩
        rw [U HP, pcs_step _ h2, U HG, Int.toNat_natCast, U HQ, List.drop_drop]; rfl
      · refine .inr ⟨by simp at h2; omega, ?_⟩
        rw [U HP, pcs_end _ (by simp at h2 ⊢; omega), U HG, Int.toNat_natCast, U HQ]
  · have hil' : ¬ (i : Int) < ks.length := by omega
    have HR : Hid (pcs l ks = ((ks.length : Int).tmod 2 == 1)) := by
     show pcs l ks = _
     rcases hor with ⟨h1, h2⟩ | ⟨h1, h2⟩
     · have e : i = ks.length := by omega
       rw [h2, e, List.drop_length];have : (ks.length : Int).tmod 2 = 0 := by rw [Int.tmod_eq_emod_of_nonneg (by omega)]; omega
       rw [this]; rfl
     · have : (ks.length : Int).tmod 2 = 1 := by rw [Int.tmod_eq_emod_of_nonneg (by omega)]; omega
       rw [h2, this]; rfl
    clear hor;go_wp2;go_ret;exact ⟨ret_b (U HR).symm, Below.refl _ _⟩
end
end Go.Proofs.YtofgphapjjofnaaGreatDoor.Tr
