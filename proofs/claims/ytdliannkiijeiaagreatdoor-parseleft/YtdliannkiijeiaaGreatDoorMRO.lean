/- Towards the law: RO. -/
import Derived.Deep.CutRange
import Derived.Deep.RegionHeld3
import Derived.Deep.RegionWith
import Derived.Test.YtdliannkiijeiaaGreatDoorMU
set_option linter.unusedSimpArgs false
set_option linter.unusedVariables false
set_option maxRecDepth 100000
set_option maxHeartbeats 8000000
namespace Go.Proofs.YtdliannkiijeiaaGreatDoor
section
open Go.RowKit Go.Shelf
theorem left_box {A B w3 : World} {b : Nat} (h : WFr A w3) (hb : A.heap[b]? = some (.cells #[.slice none 0 0] 25)) (h2 : WFr B w3) (hle : B.heap.size ≤ b) (v : Value) : w3.cell? ⟨b, 0, none⟩ = some (.slice none 0 0) ∧ w3.frozen? ⟨b, 0, none⟩ = false ∧ b < w3.heap.size ∧ w3.heap[b]? = some (.cells #[.slice none 0 0] 25) ∧ WFr B (w3.setCell ⟨b, 0, none⟩ v) := by
 have ht : tyOf A b = 25 := by simp [tyOf, hb]
 have e := (h.block b (Array.getElem?_eq_some_iff.1 hb).1 (by rw [ht]; decide) (by rw [ht]; decide)).trans hb;exact ⟨by simp [World.cell?, e], by simp [World.frozen?, e], (Array.getElem?_eq_some_iff.1 e).1, e, h2.set hle e (by decide) (by decide)⟩
theorem sg_str_all : ((List.range 19).all fun i => decide ((strOfNums (sgL.getD i [])).data.toList = (sgA.getD i default).data.toList)) = true := by decide +kernel
theorem sg_str {i : Nat} (hi : i < 19) : strOfNums (sgL.getD i []) = sgA.getD i default := by
 have h := List.all_eq_true.1 sg_str_all i (List.mem_range.2 hi);simp only [decide_eq_true_eq] at h;apply ByteArray.ext
 exact Array.toList_inj.1 h
theorem left_fin {i k : Nat} (hi : i < 19) (hk : k < 19) {t : List PN} (h : leftOk i k t = true) : (lvL.getD i 0 < lvL.getD k 0 ∧ strOfNums (t.getD 0 pn0).text = sgA.getD i default ∧ (t.getD 1 pn0).kind = 17 ∧ strOfNums (t.getD 2 pn0).text = sgA.getD k default) ∨ (¬ lvL.getD i 0 < lvL.getD k 0 ∧ strOfNums (t.getD 0 pn0).text = sgA.getD k default ∧ strOfNums (t.getD 1 pn0).text = sgA.getD i default ∧ strOfNums (t.getD 4 pn0).text = ⟨#[122]⟩) := by
 unfold leftOk at h;by_cases hc : lvL.getD i 0 < lvL.getD k 0
 · rw [if_pos hc] at h
   simp only [Bool.and_eq_true, decide_eq_true_eq] at h;exact .inl ⟨hc, by rw [h.2.1.1]; exact sg_str hi, h.2.1.2, by rw [h.2.2]; exact sg_str hk⟩
 · rw [if_neg hc] at h
   simp only [Bool.and_eq_true, decide_eq_true_eq] at h;exact .inr ⟨hc, by rw [h.2.1.1]; exact sg_str hk, by rw [h.2.1.2]; exact sg_str hi, by rw [h.2.2]; rfl⟩
theorem sg_size {i : Nat} (hi : i < 19) : (sgA.getD i default).size ≤ 3 := by
 have h := left_sg hi
 have h2 : ((sgA.getD i default).data.toList.map (fun b => (b.toNat : Int))).length ≤ 3 := by
  rw [h];exact sgL_len i
 rw [List.length_map, Array.length_toList] at h2;exact h2
theorem cat_ex (X Y : ByteArray) (h1 : X.size ≤ 3) (h2 : Y.size ≤ 3) : ∃ A1 A2 A3 A4 : ByteArray, (∀ w, (Op.stringOp .add ⟨#[120, 32]⟩ X).run Tryz.prog w = .ok (.string A1) w) ∧ (∀ w, (Op.stringOp .add A1 ⟨#[32, 121, 32]⟩).run Tryz.prog w = .ok (.string A2) w) ∧ (∀ w, (Op.stringOp .add A2 Y).run Tryz.prog w = .ok (.string A3) w) ∧ (∀ w, (Op.stringOp .add A3 ⟨#[32, 122]⟩).run Tryz.prog w = .ok (.string A4) w) ∧ A4 = ((((⟨#[120, 32]⟩ : ByteArray) ++ X) ++ ⟨#[32, 121, 32]⟩) ++ Y) ++ ⟨#[32, 122]⟩ := by
 have e1 : (⟨#[120, 32]⟩ : ByteArray).size = 2 := rfl;have e2 : (⟨#[32, 121, 32]⟩ : ByteArray).size = 3 := rfl;have e3 : (⟨#[32, 122]⟩ : ByteArray).size = 2 := rfl;exact ⟨_, _, _, _, fun w => run_string_add_sum w _ _ (by omega), fun w => run_string_add_sum w _ _ (by rw [ByteArray.size_append]; omega), fun w => run_string_add_sum w _ _ (by rw [ByteArray.size_append, ByteArray.size_append]; omega), fun w => run_string_add_sum w _ _ (by rw [ByteArray.size_append, ByteArray.size_append, ByteArray.size_append]; omega), rfl⟩
theorem left_any {W : World} (a b : Int) (hE1 : ErrG W 1) (hE2 : ErrG W 2) : Calls Tryz.prog 7 #[.int .i64 a, .int .i64 b] W fun e A => e = .returned (.bool true) ∧ Below W.heap.size W A := by
 obtain ⟨i, hi, hai⟩ := mod19 a;obtain ⟨k, hk, hbk⟩ := mod19 b;have HAI := Hi hai;have HBK := Hi hbk;have HE := Hi (And.intro hE1 hE2);clear hai hbk hE1 hE2;obtain ⟨w2, hw2⟩ : ∃ w, ((W.alloc (.cells (sgA.map Value.string).toArray 9)).alloc (.cells (lvL.map (Value.int .i64)).toArray 3)) = w := ⟨_, rfl⟩;have hB2 : Below W.heap.size W w2 := by rw [← hw2]; exact ((Below.refl _ W).alloc NL _).alloc (by simp) _
 have hL2 : w2.heap[W.heap.size]? = some (.cells (sgA.map Value.string).toArray 9) := by rw [← hw2]; exact al_lt (al_at _ _)
 have hV2 : w2.heap[W.heap.size + 1]? = some (.cells (lvL.map (Value.int .i64)).toArray 3) := by rw [← hw2]; exact al_at' _ _ _
 have HB2 := Hi hB2;have HL2 := Hi hL2;have HV2 := Hi hV2;have hw2' : (W.alloc (Obj.cells #[Value.string { data := #[124, 124] }, Value.string { data := #[38, 38] }, Value.string { data := #[124] }, Value.string { data := #[94] }, Value.string { data := #[38] }, Value.string { data := #[61, 61, 61] }, Value.string { data := #[33, 61, 61] }, Value.string { data := #[60] }, Value.string { data := #[60, 61] }, Value.string { data := #[62] }, Value.string { data := #[62, 61] }, Value.string { data := #[105, 110] }, Value.string { data := #[60, 60] }, Value.string { data := #[62, 62] }, Value.string { data := #[62, 62, 62] }, Value.string { data := #[43] }, Value.string { data := #[45] }, Value.string { data := #[42] }, Value.string { data := #[37] }] 9)).alloc (Obj.cells #[Value.int IntKind.i64 2, Value.int IntKind.i64 3, Value.int IntKind.i64 4, Value.int IntKind.i64 5, Value.int IntKind.i64 6, Value.int IntKind.i64 7, Value.int IntKind.i64 7, Value.int IntKind.i64 8, Value.int IntKind.i64 8, Value.int IntKind.i64 8, Value.int IntKind.i64 8, Value.int IntKind.i64 8, Value.int IntKind.i64 9, Value.int IntKind.i64 9, Value.int IntKind.i64 9, Value.int IntKind.i64 10, Value.int IntKind.i64 10, Value.int IntKind.i64 11, Value.int IntKind.i64 11] 3) = w2 := hw2;have HW2 := Hi hw2';clear hw2 hw2' hB2 hL2 hV2;go_enter Tryz.func7, Tryz.ntmps7;go_upto_if 23 with fail
 go_cut [7] from 22 to 27 (fun s7 wx => s7 = .int .i64 (i : Int) ∧ w2 = wx)
 case first =>
  have e1 : (0 ≤ a.tmod 19 → a.tmod 19 = (i : Int)) ∧ (a.tmod 19 < 0 → wrap64 (a.tmod 19 + 19) = (i : Int) ∧ a.tmod 19 + 19 = (i : Int)) := by
   have := U HAI;refine ⟨fun h => by omega, fun h => ?_⟩;have e : a.tmod 19 + 19 = (i : Int) := by omega
   rw [e];exact ⟨IntWalk.wrap64_in _ (by omega), rfl⟩
  have E1 := Hi e1;clear e1;go_wp2_with fail
  all_goals (
   go_meet
   case rel => exact ⟨by first | rw [((U E1).2 (by assumption)).1] | rw [((U E1).2 (by assumption)).2] | rw [(U E1).1 (by assumption)], (U HW2).symm⟩)
 case rest =>
 obtain ⟨rfl, rfl⟩ := hcut;go_upto_if 29 with fail
 go_cut [8] from 28 to 33 (fun s8 wx => s8 = .int .i64 (k : Int) ∧ w2 = wx)
 case first =>
  have e2 : (0 ≤ b.tmod 19 → b.tmod 19 = (k : Int)) ∧ (b.tmod 19 < 0 → wrap64 (b.tmod 19 + 19) = (k : Int) ∧ b.tmod 19 + 19 = (k : Int)) := by
   have := U HBK;refine ⟨fun h => by omega, fun h => ?_⟩;have e : b.tmod 19 + 19 = (k : Int) := by omega
   rw [e];exact ⟨IntWalk.wrap64_in _ (by omega), rfl⟩
  have E2 := Hi e2;clear e2;go_wp2_with fail
  all_goals (
   go_meet
   case rel => exact ⟨by first | rw [((U E2).2 (by assumption)).1] | rw [((U E2).2 (by assumption)).2] | rw [(U E2).1 (by assumption)], rfl⟩)
 case rest =>
 obtain ⟨rfl, rfl⟩ := hcut;obtain ⟨N, F, t, hok, hcv, hFB, hRD⟩ := left_read hi hk;have hcs := cat_ex (sgA.getD i default) (sgA.getD k default) (sg_size hi) (sg_size hk);obtain ⟨A1, A2, A3, A4, ha1, ha2, ha3, ha4, ha5⟩ := hcs;have hcv' : ∀ w, (convert 9 22 (.string A4)).run Tryz.prog w = .ok (.slice (some ⟨w.heap.size, 0, none⟩) N (F w).1) (F w).2 := fun w => by rw [ha5]; exact hcv w
 clear ha5 hcv;have hX : w2.cell? ⟨W.heap.size, i, none⟩ = some (.string (sgA.getD i default)) := by simp only [World.cell?, U HL2, List.getElem?_toArray]; exact (get19 hi).1
 have hY : w2.cell? ⟨W.heap.size, k, none⟩ = some (.string (sgA.getD k default)) := by simp only [World.cell?, U HL2, List.getElem?_toArray]; exact (get19 hk).1
 have hxl := World.block_lt_of_cell? w2 _ hX
 have HER : Hid (∀ w', WFr w2 w' → ErrG w' 1 ∧ ErrG w' 2) := fun w' hw => by
  obtain ⟨e1, e2⟩ := U HE;have hw2 := (U HB2).trans (hw.bel.mono (U HB2).size);exact ⟨e1.below hw2 e1.lt, e2.below hw2 e2.lt⟩
 have hbo : Below w2.heap.size w2 (w2.alloc (.cells #[.slice none 0 0] 25)).drew := ((Below.refl w2.heap.size w2).alloc NL _).drew;have HW0 : Hid (WFr w2 (w2.alloc (.cells #[.slice none 0 0] 25)).drew) := WFr.of hbo;have HWA : Hid (WFr w2 (F w2.drew).2) := WFr.of ((Below.refl w2.heap.size w2).drew.trans (hFB w2.drew));have HWB : Hid (WFr w2 ((F w2.drew).2.alloc (.cells #[.slice none 0 0] 25))) := (U HWA).trans (WFr.of ((Below.refl _ _).alloc NL _));have HWC : Hid (WFr w2 (F (w2.alloc (.cells #[.slice none 0 0] 25)).drew).2) := (U HW0).trans (WFr.of (hFB _));have HRA : Hid (Calls Tryz.prog 15 #[.slice (some ⟨w2.heap.size, 0, none⟩) N (F w2.drew).1] (F w2.drew).2 (AnsQ (.tree t) (F w2.drew).2)) := hRD w2.drew _ (Below.refl _ _) (U HER _ (U HWA)).1 (U HER _ (U HWA)).2;have HRB : Hid (Calls Tryz.prog 15 #[.slice (some ⟨w2.heap.size, 0, none⟩) N (F w2.drew).1] ((F w2.drew).2.alloc (.cells #[.slice none 0 0] 25)) (AnsQ (.tree t) ((F w2.drew).2.alloc (.cells #[.slice none 0 0] 25)))) := hRD w2.drew _ ((Below.refl _ _).alloc NL _) (U HER _ (U HWB)).1 (U HER _ (U HWB)).2;have hsz1 : (w2.alloc (.cells #[.slice none 0 0] 25)).drew.heap.size = w2.heap.size + 1 := by show (w2.alloc _).heap.size = _; rw [World.size_alloc]
 have HRC : Hid (Calls Tryz.prog 15 #[.slice (some ⟨w2.heap.size + 1, 0, none⟩) N (F (w2.alloc (.cells #[.slice none 0 0] 25)).drew).1] (F (w2.alloc (.cells #[.slice none 0 0] 25)).drew).2 (AnsQ (.tree t) (F (w2.alloc (.cells #[.slice none 0 0] 25)).drew).2)) := by
  have := hRD (w2.alloc (.cells #[.slice none 0 0] 25)).drew _ (Below.refl _ _) (U HER _ (U HWC)).1 (U HER _ (U HWC)).2;rw [hsz1] at this;exact this
 have HBC : Hid ((F (w2.alloc (.cells #[.slice none 0 0] 25)).drew).2.heap[w2.heap.size]? = some (.cells #[.slice none 0 0] 25)) := ((hFB (w2.alloc (.cells #[.slice none 0 0] 25)).drew).block _ (by rw [hsz1]; omega)).trans (al_at w2 _);unfold AnsQ at HRA HRB HRC
 have HSX : Hid (∀ w', WFr w2 w' → w'.cell? ⟨W.heap.size, i, none⟩ = some (.string (sgA.getD i default)) ∧ w'.cell? ⟨W.heap.size, k, none⟩ = some (.string (sgA.getD k default))) := fun w' hw => by
  have hty : tyOf w2 W.heap.size = 9 := by simp [tyOf, U HL2]
  have := hw.block W.heap.size hxl (by rw [hty]; decide) (by rw [hty]; decide);simp only [World.cell?, this];exact ⟨hX, hY⟩
 have HFN := Hi (left_fin hi hk hok)
 have HSV : Hid (∀ w', WFr w2 w' → w'.cell? ⟨W.heap.size + 1, k, none⟩ = some (.int .i64 (lvL.getD k 0)) ∧ w'.cell? ⟨W.heap.size + 1, i, none⟩ = some (.int .i64 (lvL.getD i 0))) := fun w' hw => by
  have hty : tyOf w2 (W.heap.size + 1) = 3 := by simp [tyOf, U HV2]
  have := hw.block (W.heap.size + 1) (Array.getElem?_eq_some_iff.1 (U HV2)).1 (by rw [hty]; decide) (by rw [hty]; decide);simp only [World.cell?, this, U HV2, List.getElem?_toArray];exact ⟨(get19 hk).2, (get19 hi).2⟩
 have HX := Hi hX;have HY' := Hi hY;have HOK := Hi hok;have hXs := sg_size hi;have hYs := sg_size hk;have hiI : (i : Int) < 19 := by omega
 have hkI : (k : Int) < 19 := by omega
 have hi0 : (0 : Int) ≤ (i : Int) := by omega
 have hk0 : (0 : Int) ≤ (k : Int) := by omega
 generalize sgA.getD i default = X at *;generalize sgA.getD k default = Y at *;generalize lvL.getD i 0 = Li at *;generalize lvL.getD k 0 = Lk at *;clear hX hY hok hRD hFB hsz1 hbo;go_upto_region 9 with fail
 go_cut [9, 10, 11] from 34 to 51 (fun s9 s10 s11 wx => ∃ b4 g5 cap5, s9 = .pointer (some ⟨b4, 0, none⟩) ∧ s10 = .int .i64 0 ∧ s11 = .int .i64 0 ∧ wx.heap[b4]? = some (.cells #[.slice (some ⟨g5, 0, none⟩) 5 cap5] 25) ∧ NdRow (fun _ => False) wx (.slice (some ⟨g5, 0, none⟩) 5 cap5) t ∧ WFr w2 wx)
 case first =>
  obtain ⟨x1, x2⟩ := U HSX _ (WFr.of (Below.refl _ _).drew);obtain ⟨x3, x4⟩ := U HSX _ (U HW0);obtain ⟨x5, x6⟩ := U HSX _ (U HWA)
  go_region_with
   ((first
     | (go_at_call 15; with_reducible refine Calls.mono (U HRA) ?_; rintro e w3 ⟨⟨tvv, rfl, hN⟩, h3⟩; have hW3 : WFr w2 w3 := (U HWA).trans h3; have hW4 : ∀ o, WFr w2 (w3.alloc o) := fun o => hW3.trans (WFr.of ((Below.refl _ w3).alloc NL o)); obtain ⟨g5, cap5, etv, qq1, qq2, hx5⟩ := left_tree (U HOK) hN; subst etv)
     | (go_at_call 15; with_reducible refine Calls.mono (U HRB) ?_; rintro e w3 ⟨⟨tvv, rfl, hN⟩, h3⟩; have hW3 : WFr w2 w3 := (U HWB).trans h3; obtain ⟨g5, cap5, etv, qq1, qq2, hx5⟩ := left_tree (U HOK) hN; subst etv; obtain ⟨z0, z1, z2, z3, z4⟩ := left_box h3 (al_at _ _) hW3 (U HWA).size (.slice (some ⟨g5, 0, none⟩) 5 cap5); have hW5 := z4)
     | (go_at_call 15; with_reducible refine Calls.mono (U HRC) ?_; rintro e w3 ⟨⟨tvv, rfl, hN⟩, h3⟩; have hW3 : WFr w2 w3 := (U HWC).trans h3; obtain ⟨g5, cap5, etv, qq1, qq2, hx5⟩ := left_tree (U HOK) hN; subst etv; obtain ⟨z0, z1, z2, z3, z4⟩ := left_box h3 (U HBC) hW3 NL (.slice (some ⟨g5, 0, none⟩) 5 cap5); have hW5 := z4)))
  all_goals (
   clear x1 x2 x3 x4 x5 x6;have hN4 := hN
   first
    | (replace hN4 : NdRow (fun _ => False) (w3.alloc (.cells #[.slice (some ⟨g5, 0, none⟩) 5 cap5] 25)) (.slice (some ⟨g5, 0, none⟩) 5 cap5) t := hN.keep fun j e => ((Below.refl _ w3).alloc NL _).block j (by rcases e with e | e <;> exact ty_lt e (by omega))
       have hb4 := al_at w3 (.cells #[.slice (some ⟨g5, 0, none⟩) 5 cap5] 25);have hW6 := hW4 (.cells #[.slice (some ⟨g5, 0, none⟩) 5 cap5] 25)
       skip)
    | (replace hN4 : NdRow (fun _ => False) (w3.setCell ⟨(F w2.drew).2.heap.size, 0, none⟩ (.slice (some ⟨g5, 0, none⟩) 5 cap5)) (.slice (some ⟨g5, 0, none⟩) 5 cap5) t := hN.keep fun j e => keep_set fun e' => by subst e'; have : tyOf w3 (F w2.drew).2.heap.size = 25 := by { simp [tyOf, z3] }; omega
       have hb4 : (w3.setCell ⟨(F w2.drew).2.heap.size, 0, none⟩ (.slice (some ⟨g5, 0, none⟩) 5 cap5)).heap[(F w2.drew).2.heap.size]? = some (.cells #[.slice (some ⟨g5, 0, none⟩) 5 cap5] 25) := by simp [World.setCell, Array.getElem?_modify, z3]
       have hW6 := hW5)
    | (replace hN4 : NdRow (fun _ => False) (w3.setCell ⟨w2.heap.size, 0, none⟩ (.slice (some ⟨g5, 0, none⟩) 5 cap5)) (.slice (some ⟨g5, 0, none⟩) 5 cap5) t := hN.keep fun j e => keep_set fun e' => by subst e'; have : tyOf w3 w2.heap.size = 25 := by { simp [tyOf, z3] }; omega
       have hb4 : (w3.setCell ⟨w2.heap.size, 0, none⟩ (.slice (some ⟨g5, 0, none⟩) 5 cap5)).heap[w2.heap.size]? = some (.cells #[.slice (some ⟨g5, 0, none⟩) 5 cap5] 25) := by simp [World.setCell, Array.getElem?_modify, z3]
       have hW6 := hW5)
   go_wp2_with fail;go_meet
   case rel => exact ⟨_, _, _, rfl, rfl, rfl, hb4, hN4, hW6⟩)
 case rest =>
 obtain ⟨b4, g5, cap5, rfl, rfl, rfl, hb4, hN4, hW6⟩ := hcut;obtain ⟨w4, rfl⟩ : ∃ w4, w4 = wc := ⟨_, rfl⟩;obtain ⟨g6, cap6, etv6, _, _, hx6⟩ := left_tree (U HOK) hN4;cases etv6;have hb0 : w4.cell? ⟨b4, 0, none⟩ = some (.slice (some ⟨g5, 0, none⟩) 5 cap5) := by simp [World.cell?, hb4]
 have hbl := World.block_lt_of_cell? w4 _ hb0;have HX6 := Hi hx6;have HN4 := Hi hN4;have HB4 := Hi hb4;have HW6 := Hi hW6;clear hx6 hN4 hb4 hW6
 have HS13 : Hid (∀ w', WFr w4 w' → w'.cell? ⟨b4, 0, none⟩ = some (.slice (some ⟨g5, 0, none⟩) 5 cap5) ∧ w'.cell? ⟨g5, 1, none⟩ = some (.string (strOfNums (t.getD 0 pn0).text)) ∧ w'.cell? ⟨g5, 5, none⟩ = some (.int .i64 (t.getD 1 pn0).kind) ∧ w'.cell? ⟨g5, 6, none⟩ = some (.string (strOfNums (t.getD 1 pn0).text)) ∧ w'.cell? ⟨g5, 11, none⟩ = some (.string (strOfNums (t.getD 2 pn0).text)) ∧ w'.cell? ⟨g5, 21, none⟩ = some (.string (strOfNums (t.getD 4 pn0).text)) ∧ w'.cell? ⟨W.heap.size, i, none⟩ = some (.string X) ∧ w'.cell? ⟨W.heap.size, k, none⟩ = some (.string Y)) := fun w' hw => by
  obtain ⟨g7, cap7, etv7, _, _, hx7⟩ := left_tree (U HOK) (hw.nds _ _ (U HN4));cases etv7;have hty : tyOf w4 b4 = 25 := by simp [tyOf, U HB4]
  have hb := (hw.block b4 hbl (by rw [hty]; decide) (by rw [hty]; decide)).trans (U HB4);exact ⟨by simp [World.cell?, hb], (hx7 0 (by omega)).2, (hx7 1 (by omega)).1, (hx7 1 (by omega)).2, (hx7 2 (by omega)).2, (hx7 4 (by omega)).2, (U HSX _ ((U HW6).trans hw)).1, (U HSX _ ((U HW6).trans hw)).2⟩
 have HKN : Hid (∀ w', WFr w4 w' → Calls Tryz.prog 11 #[] w' fun e A => e = .returned (.bool true) ∧ WFr w' A) := fun w' hw => known_any (U HER _ ((U HW6).trans hw)).1 (U HER _ ((U HW6).trans hw)).2
 have HWW : Hid (∀ w', WFr w4 w' → WFr W w') := fun w' hw => (WFr.of (U HB2)).trans ((U HW6).trans hw)
 go_wp2;obtain ⟨v1, v2⟩ := U HSV _ (U HW6);have hvl := World.block_lt_of_cell? w4 _ v1
 go_region_held3 (fun w' => w'.cell? ⟨W.heap.size + 1, k, none⟩ = some (.int .i64 Lk) ∧ w'.cell? ⟨W.heap.size + 1, i, none⟩ = some (.int .i64 Li))
  (with_reducible first
   | exact U HSV _ (U HW6)
   | exact U HSV _ (U HW6).drew
   | assumption)
  (fail)
 all_goals (
  clear v1 v2;rcases U HFN with ⟨hlt, f0, f1, f2⟩ | ⟨hlt, f0, f1, f2⟩
  · have HSZ : Hid (∀ w', WFr w4 w' → w'.cell? ⟨b4, 0, none⟩ = some (.slice (some ⟨g5, 0, none⟩) 5 cap5) ∧ (w'.cell? ⟨g5, 1, none⟩ = some (.string X) ∧ w'.cell? ⟨g5, 5, none⟩ = some (.int .i64 17) ∧ w'.cell? ⟨g5, 11, none⟩ = some (.string Y)) ∧ w'.cell? ⟨W.heap.size, i, none⟩ = some (.string X) ∧ w'.cell? ⟨W.heap.size, k, none⟩ = some (.string Y)) := fun w' hw => by
     obtain ⟨p0, p1, p2, p3, p4, p5, p6, p7⟩ := U HS13 w' hw;rw [f0] at p1;rw [f1] at p2;rw [f2] at p4;exact ⟨p0, ⟨p1, p2, p4⟩, p6, p7⟩
    have HW7 : Hid (WFr w4 w4.drew) := (WFr.of (Below.refl _ w4)).drew;clear f0 f1 f2;go_wp2;obtain ⟨p0, ⟨p1, p2, p4⟩, p6, p7⟩ := U HSZ _ (U HW7);have hgl := World.block_lt_of_cell? _ _ p1
    go_region_held3 (fun w' => w'.cell? ⟨b4, 0, none⟩ = some (.slice (some ⟨g5, 0, none⟩) 5 cap5) ∧ (w'.cell? ⟨g5, 1, none⟩ = some (.string X) ∧ w'.cell? ⟨g5, 5, none⟩ = some (.int .i64 17) ∧ w'.cell? ⟨g5, 11, none⟩ = some (.string Y)) ∧ w'.cell? ⟨W.heap.size, i, none⟩ = some (.string X) ∧ w'.cell? ⟨W.heap.size, k, none⟩ = some (.string Y))
     (with_reducible first
      | exact U HSZ _ (U HW7)
      | exact U HSZ _ (U HW7).drew
      | exact U HSZ _ hW8
      | assumption)
     ((go_at_call 11; first | with_reducible refine Calls.mono (U HKN _ (U HW7)) ?_ | with_reducible refine Calls.mono (U HKN _ (U HW7).drew) ?_
       rintro e w5 ⟨rfl, h5⟩; first | (have hW8 : WFr w4 w5 := (U HW7).trans h5) | (have hW8 : WFr w4 w5 := (U HW7).drew.trans h5)))
    all_goals (
     go_wp2;go_ret
     exact ⟨rfl, (U HWW _ hW8).bel⟩)
  · have HSZ : Hid (∀ w', WFr w4 w' → w'.cell? ⟨b4, 0, none⟩ = some (.slice (some ⟨g5, 0, none⟩) 5 cap5) ∧ (w'.cell? ⟨g5, 1, none⟩ = some (.string Y) ∧ w'.cell? ⟨g5, 6, none⟩ = some (.string X) ∧ w'.cell? ⟨g5, 21, none⟩ = some (.string ⟨#[122]⟩)) ∧ w'.cell? ⟨W.heap.size, i, none⟩ = some (.string X) ∧ w'.cell? ⟨W.heap.size, k, none⟩ = some (.string Y)) := fun w' hw => by
     obtain ⟨p0, p1, p2, p3, p4, p5, p6, p7⟩ := U HS13 w' hw;rw [f0] at p1;rw [f1] at p3;rw [f2] at p5;exact ⟨p0, ⟨p1, p3, p5⟩, p6, p7⟩
    have HW7 : Hid (WFr w4 w4.drew) := (WFr.of (Below.refl _ w4)).drew;clear f0 f1 f2;go_wp2;obtain ⟨p0, ⟨p1, p2, p4⟩, p6, p7⟩ := U HSZ _ (U HW7);have hgl := World.block_lt_of_cell? _ _ p1
    go_region_held3 (fun w' => w'.cell? ⟨b4, 0, none⟩ = some (.slice (some ⟨g5, 0, none⟩) 5 cap5) ∧ (w'.cell? ⟨g5, 1, none⟩ = some (.string Y) ∧ w'.cell? ⟨g5, 6, none⟩ = some (.string X) ∧ w'.cell? ⟨g5, 21, none⟩ = some (.string ⟨#[122]⟩)) ∧ w'.cell? ⟨W.heap.size, i, none⟩ = some (.string X) ∧ w'.cell? ⟨W.heap.size, k, none⟩ = some (.string Y))
     (with_reducible first
      | exact U HSZ _ (U HW7)
      | exact U HSZ _ (U HW7).drew
      | exact U HSZ _ hW8
      | assumption)
     ((go_at_call 11; first | with_reducible refine Calls.mono (U HKN _ (U HW7)) ?_ | with_reducible refine Calls.mono (U HKN _ (U HW7).drew) ?_
       rintro e w5 ⟨rfl, h5⟩; first | (have hW8 : WFr w4 w5 := (U HW7).trans h5) | (have hW8 : WFr w4 w5 := (U HW7).drew.trans h5)))
    all_goals (
     go_wp2;go_ret
     exact ⟨rfl, (U HWW _ hW8).bel⟩))
end
end Go.Proofs.YtdliannkiijeiaaGreatDoor
