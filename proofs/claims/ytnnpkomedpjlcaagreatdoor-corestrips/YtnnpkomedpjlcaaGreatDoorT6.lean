/- Places of Lists, a class's parts, Members over a Name. -/
import Derived.RangeFuncBox
import Derived.Shelf.Abstract
import Derived.Test.YtnnpkomedpjlcaaGreatDoorT5
namespace Go.Proofs.YtnnpkomedpjlcaaGreatDoor
set_option linter.unusedSimpArgs false
set_option linter.unusedVariables false
open Go.RowKit Go.Shelf

theorem upK_cons (l : List Nd) (k : Int) (ks : List Int) (q : Nat → Bool) : ∀ n, upK l (k :: ks) q (n + 1) = ((ins l k && q 0) && upK l ks (fun i => q (i + 1)) n)
  | 0 => by simp [upK]
  | n + 1 => by
    show (upK l (k :: ks) q (n + 1) && (ins l ((k :: ks).getD (n + 1) 0) && q (n + 1))) = _
    rw [upK_cons l k ks q n]
    simp [upK, Bool.and_assoc]
theorem upK_all (p : Plc) (l : List Nd) : ∀ ks : List Int, upK l ks (fun i => p l (ks.getD i 0).toNat) ks.length = kAll p l ks
  | [] => rfl
  | k :: ks => by
    rw [List.length_cons, upK_cons]
    have := upK_all p l ks
    simp only [kAll, List.all_cons] at this ⊢
    rw [← this]
    rfl

theorem list_pl {f : Nat} {p : Plc} (h : PlOk f p) (ey : ∀ args w, (callFunc f args).run Tryz.prog w = .ok (.enter f args) w) (W : World) (M : Nat) (v : Value) (l : List Nd) (n : Nat) (hN : Nodes W M v l) (hn : n < l.length) (hM : M ≤ W.heap.size) :
    Calls Tryz.prog 84 #[v, .int .i64 (n : Int), .func (.func f) #[] #[]] W fun e w' => e = .returned (.bool (pList p l n)) ∧ Below W.heap.size W w' := by
  have := list_gen f #[] ey W M W.heap.size v l n hN hn hM (Nat.le_refl _) (fun _ _ => True) (fun i => p l ((nd l n).kids.getD i 0).toNat) trivial (hN.2.1 n hn).2 (fun i A hi _ hB hins => by
    obtain ⟨h1, h2⟩ := ins_iff.1 hins
    have hc := h A M v l _ (hN.keep hB hM) h2 (Nat.le_trans hM hB.size)
    rw [Int.toNat_of_nonneg h1] at hc
    refine Calls.mono (by simpa using hc) ?_
    rintro e A' ⟨he, hB2⟩
    exact ⟨he, hB2.mono hB.size, fun _ => trivial⟩)
  rw [upK_all] at this
  exact this

set_option maxRecDepth 100000 in
theorem exprs_ok : PlOk 101 (pList pExpr) := fun W M v l n hN hn hM => by
  have HC := hide (list_pl expr_ok (enters_of Tryz.func92 (by kernel_rfl) rfl) W M v l n hN hn hM)
  obtain ⟨a, cap, rfl, _, _⟩ := hN.len
  clear hN hn hM
  go_enter Tryz.func101, Tryz.ntmps101
  go_wp2_with (go_at_call 84; refine (unhide HC).mono ?_; rintro e w2 ⟨rfl, hB⟩)
  go_ret
  exact ⟨rfl, hB⟩

set_option maxRecDepth 100000 in
theorem types_ok : PlOk 62 (pList pTyp) := fun W M v l n hN hn hM => by
  have HC := hide (list_pl typ_ok (enters_of Tryz.func65 (by kernel_rfl) rfl) W M v l n hN hn hM)
  obtain ⟨a, cap, rfl, _, _⟩ := hN.len
  clear hN hn hM
  go_enter Tryz.func62, Tryz.ntmps62
  go_wp2_with (go_at_call 84; refine (unhide HC).mono ?_; rintro e w2 ⟨rfl, hB⟩)
  go_ret
  exact ⟨rfl, hB⟩

set_option maxRecDepth 100000 in
theorem typeNames_ok : PlOk 125 (pList (pK 80)) := fun W M v l n hN hn hM => by
  have HC := hide (list_pl typeName_ok (enters_of Tryz.func150 (by kernel_rfl) rfl) W M v l n hN hn hM)
  obtain ⟨a, cap, rfl, _, _⟩ := hN.len
  clear hN hn hM
  go_enter Tryz.func125, Tryz.ntmps125
  go_wp2_with (go_at_call 84; refine (unhide HC).mono ?_; rintro e w2 ⟨rfl, hB⟩)
  go_ret
  exact ⟨rfl, hB⟩

set_option maxRecDepth 100000 in
theorem typeParams_ok : PlOk 95 (pList (pK 67)) := fun W M v l n hN hn hM => by
  have HC := hide (list_pl typeParam_ok (enters_of Tryz.func120 (by kernel_rfl) rfl) W M v l n hN hn hM)
  obtain ⟨a, cap, rfl, _, _⟩ := hN.len
  clear hN hn hM
  go_enter Tryz.func95, Tryz.ntmps95
  go_wp2_with (go_at_call 84; refine (unhide HC).mono ?_; rintro e w2 ⟨rfl, hB⟩)
  go_ret
  exact ⟨rfl, hB⟩

set_option maxRecDepth 100000 in
theorem params_ok : PlOk 69 (pList pParam) := fun W M v l n hN hn hM => by
  have HC := hide (list_pl param_ok (enters_of Tryz.func90 (by kernel_rfl) rfl) W M v l n hN hn hM)
  obtain ⟨a, cap, rfl, _, _⟩ := hN.len
  clear hN hn hM
  go_enter Tryz.func69, Tryz.ntmps69
  go_wp2_with (go_at_call 84; refine (unhide HC).mono ?_; rintro e w2 ⟨rfl, hB⟩)
  go_ret
  exact ⟨rfl, hB⟩

set_option maxRecDepth 100000 in
theorem markedParams_ok : PlOk 129 (pList (pK 66)) := fun W M v l n hN hn hM => by
  have HC := hide (list_pl markedParam_ok (enters_of Tryz.func152 (by kernel_rfl) rfl) W M v l n hN hn hM)
  obtain ⟨a, cap, rfl, _, _⟩ := hN.len
  clear hN hn hM
  go_enter Tryz.func129, Tryz.ntmps129
  go_wp2_with (go_at_call 84; refine (unhide HC).mono ?_; rintro e w2 ⟨rfl, hB⟩)
  go_ret
  exact ⟨rfl, hB⟩

/-- How many constructors there are among the first kids. -/
def cnt (l : List Nd) (ks : List Int) : Nat → Nat
  | 0 => 0
  | i + 1 => cnt l ks i + (if (nd l (ks.getD i 0).toNat).kind == 46 then 1 else 0)
def qm (l : List Nd) (ks : List Int) (c i : Nat) : Bool := (nd l (ks.getD i 0).toNat).kind == 44 || (nd l (ks.getD i 0).toNat).kind == 45 || ((nd l (ks.getD i 0).toNat).kind == 46 && (c + cnt l ks i == 0))
theorem cnt_cons (l : List Nd) (k : Int) (ks : List Int) : ∀ i, cnt l (k :: ks) (i + 1) = (if (nd l k.toNat).kind == 46 then 1 else 0) + cnt l ks i
  | 0 => by simp [cnt]
  | i + 1 => by
    show cnt l (k :: ks) (i + 1) + _ = _
    rw [cnt_cons l k ks i]
    simp only [cnt, List.getD_cons_succ]
    omega
theorem mem_upK (l : List Nd) : ∀ (ks : List Int) (c : Nat), upK l ks (qm l ks c) ks.length = mem l c ks
  | [], c => rfl
  | k :: ks, c => by
    rw [List.length_cons, upK_cons]
    show _ = (ins l k && _)
    have e : (fun i => qm l (k :: ks) c (i + 1)) = qm l ks (c + (if (nd l k.toNat).kind == 46 then 1 else 0)) := by
      funext i
      simp only [qm, cnt_cons, List.getD_cons_succ]
      rw [Nat.add_assoc]
    rw [e, mem_upK l ks]
    have e0 : qm l (k :: ks) c 0 = ((nd l k.toNat).kind == 44 || (nd l k.toNat).kind == 45 || ((nd l k.toNat).kind == 46 && (c == 0))) := by simp [qm, cnt]
    rw [e0]
    by_cases h4 : (nd l k.toNat).kind = 44
    · simp [h4]
    by_cases h5 : (nd l k.toNat).kind = 45
    · simp [h5]
    by_cases h6 : (nd l k.toNat).kind = 46
    · simp [h6, Bool.and_assoc]
    · simp [h4, h5, h6]

theorem cnt_le {l : List Nd} {ks : List Int} : ∀ {i}, upK l ks (qm l ks 0) i = true → cnt l ks i ≤ 1
  | 0, _ => by simp [cnt]
  | i + 1, h => by
    have h' : (upK l ks (qm l ks 0) i && (ins l (ks.getD i 0) && qm l ks 0 i)) = true := h
    simp only [Bool.and_eq_true] at h'
    have ih := cnt_le h'.1
    simp only [cnt]
    by_cases h6 : (nd l (ks.getD i 0).toNat).kind = 46
    · have hq := h'.2.2
      simp [qm, h6] at hq
      simp [hq]; split <;> omega
    · have : ((nd l (ks.getD i 0).toNat).kind == 46) = false := by simpa using h6
      rw [this]; simpa using ih

set_option maxRecDepth 100000 in
set_option maxHeartbeats 1000000 in
theorem mem1_any (W : World) (M B : Nat) (v : Value) (l : List Nd) (n c : Nat) (hN : Nodes W M v l) (hn : n < l.length) (hMB : M ≤ B) (hc : c ≤ 1) (hb0 : Boxed W B 3 (.int .i64 (c : Int))) :
    Calls Tryz.prog 151 #[v, .int .i64 (n : Int), .pointer (some ⟨B, 0, none⟩)] W fun e w' => e = .returned (.bool ((nd l n).kind == 44 || (nd l n).kind == 45 || ((nd l n).kind == 46 && (c == 0)))) ∧ Below B W w' ∧ Boxed w' B 3 (.int .i64 ((c + (if (nd l n).kind == 46 then 1 else 0) : Nat) : Int)) := by
  obtain ⟨b, o, cap, ka, kc, rfl, hcap, hmx, hb, d0, d1, d2, d3, d4, _, _, _⟩ := hN.at hn
  have hlt : (n : Int) < l.length := by omega
  have hbW : b < B := Nat.lt_of_lt_of_le hb hMB
  have hBx := hb0.lt
  have HB := hide hb0
  have hcl := hb0.cell
  have hfr := hb0.frozen
  clear hN hn hcap hmx hb0
  generalize (nd l n).kind = kd at *
  by_cases h4 : kd = 44
  · subst h4
    go_enter Tryz.func151, Tryz.ntmps151
    go_wp2
    go_ret
    exact ⟨rfl, Below.refl _ _, unhide HB⟩
  by_cases h5 : kd = 45
  · subst h5
    go_enter Tryz.func151, Tryz.ntmps151
    go_wp2
    go_ret
    exact ⟨rfl, Below.refl _ _, unhide HB⟩
  by_cases h6 : kd = 46
  · subst h6
    rcases (by omega : c = 0 ∨ c = 1) with rfl | rfl
    · go_enter Tryz.func151, Tryz.ntmps151
      go_wp2
      go_ret
      exact ⟨rfl, (Below.refl _ _).setCell (p := ⟨B, 0, none⟩) (Nat.le_refl _) _, (unhide HB).set _⟩
    · go_enter Tryz.func151, Tryz.ntmps151
      go_wp2
      go_ret
      exact ⟨rfl, (Below.refl _ _).setCell (p := ⟨B, 0, none⟩) (Nat.le_refl _) _, (unhide HB).set _⟩
  · have q4 : (kd == 44) = false := by simpa using h4
    have q5 : (kd == 45) = false := by simpa using h5
    have q6 : (kd == 46) = false := by simpa using h6
    clear h4 h5 h6
    go_enter Tryz.func151, Tryz.ntmps151
    go_wp2
    go_ret
    all_goals first | exact ⟨rfl, Below.refl _ _, unhide HB⟩ | contradiction

set_option maxRecDepth 100000 in
set_option maxHeartbeats 1000000 in
theorem members_ok : PlOk 126 pMem := fun W M v l n hN hn hM => by
  have h0 := Boxed.new W 3 (.int .i64 0)
  have hB0 : Below W.heap.size W (W.alloc (.cells #[.int .i64 0] 3)) := (Below.refl _ _).alloc (Nat.le_refl _) _
  have HC := hide (list_gen 151 #[.pointer (some ⟨W.heap.size, 0, none⟩)] (enters_of Tryz.func151 (by kernel_rfl) rfl) (W.alloc (.cells #[.int .i64 0] 3)) M W.heap.size v l n (hN.keep hB0 hM) hn hM (by simp)
    (fun i A => cnt l (nd l n).kids i ≤ 1 ∧ Boxed A W.heap.size 3 (.int .i64 (cnt l (nd l n).kids i : Int))) (qm l (nd l n).kids 0) ⟨by simp [cnt], by simpa [cnt] using h0⟩ (hN.2.1 n hn).2 (fun i A hi hJ hB hins => by
      obtain ⟨h1, h2⟩ := ins_iff.1 hins
      have hc := mem1_any A M W.heap.size v l _ _ ((hN.keep hB0 hM).keep hB hM) h2 hM hJ.1 hJ.2
      rw [Int.toNat_of_nonneg h1] at hc
      refine Calls.mono (by simpa using hc) ?_
      rintro e A' ⟨he, hB2, hb2⟩
      refine ⟨by rw [he]; simp [qm], hB2, fun hq => ⟨?_, by simpa [cnt] using hb2⟩⟩
      simp only [cnt]
      by_cases h6 : (nd l ((nd l n).kids.getD i 0).toNat).kind = 46
      · simp only [qm, h6] at hq
        simp at hq
        simp [hq]; split <;> omega
      · have e6 : ((nd l ((nd l n).kids.getD i 0).toNat).kind == 46) = false := by simpa using h6
        rw [e6]; simpa using hJ.1))
  rw [mem_upK] at HC
  obtain ⟨a, cap, rfl, _, _⟩ := hN.len
  clear hN hn h0
  go_enter Tryz.func126, Tryz.ntmps126
  go_wp2_with (go_at_call 84; refine (unhide HC).mono ?_; rintro e w2 ⟨rfl, hB⟩)
  go_ret
  exact ⟨rfl, hB0.trans hB⟩

end Go.Proofs.YtnnpkomedpjlcaaGreatDoor
