/- Towards the law: RM RN. -/
import Derived.Deep.RegionHeld3
import Derived.Test.YtdliannkiijeiaaGreatDoorMA
import Derived.Test.YtdliannkiijeiaaGreatDoorNT
set_option linter.unusedSimpArgs false
set_option linter.unusedVariables false
set_option maxRecDepth 100000
set_option maxHeartbeats 8000000
namespace Go.Proofs.YtdliannkiijeiaaGreatDoor
section
open Go.RowKit Go.Shelf
def sgL : List (List Int) := [[124, 124], [38, 38], [124], [94], [38], [61, 61, 61], [33, 61, 61], [60], [60, 61], [62], [62, 61], [105, 110], [60, 60], [62, 62], [62, 62, 62], [43], [45], [42], [37]]
def lvL : List Int := [2, 3, 4, 5, 6, 7, 7, 8, 8, 8, 8, 8, 9, 9, 9, 10, 10, 11, 11]
def leftB (i k : Nat) : List Int := [120, 32] ++ sgL.getD i [] ++ [32, 121, 32] ++ sgL.getD k [] ++ [32, 122]
def leftOk (i k : Nat) (t : List PN) : Bool := decide (t.length = 5) && (if lvL.getD i 0 < lvL.getD k 0 then decide ((t.getD 0 pn0).text = sgL.getD i []) && decide ((t.getD 1 pn0).kind = 17) && decide ((t.getD 2 pn0).text = sgL.getD k []) else decide ((t.getD 0 pn0).text = sgL.getD k []) && decide ((t.getD 1 pn0).text = sgL.getD i []) && decide ((t.getD 4 pn0).text = [122]))
def leftC (i k : Nat) : Bool := match ansB (leftB i k) 40 .expr with
 | some t => leftOk i k t
 | none => false
theorem left_all : ((List.range 19).all fun i => (List.range 19).all fun k => leftC i k) = true := by decide +kernel
theorem left_ex {i k : Nat} (hi : i < 19) (hk : k < 19) : ∃ t, ansB (leftB i k) 40 .expr = some t ∧ leftOk i k t = true := by
 have h := List.all_eq_true.1 (List.all_eq_true.1 left_all i (List.mem_range.2 hi)) k (List.mem_range.2 hk);unfold leftC at h;split at h
 · exact ⟨_, ‹_›, h⟩
 · cases h
theorem conv_ex (s : ByteArray) (hs : s.size ≤ 4000) (hp : 0 < s.size) : ∃ F : World → Nat × World, ∀ w, (convert 9 22 (.string s)).run Tryz.prog w = .ok (.slice (some ⟨w.heap.size, 0, none⟩) s.size (F w).1) (F w).2 ∧ Below w.heap.size w (F w).2 ∧ (F w).2.heap.size = w.heap.size + 1 ∧ ∀ w', Below (F w).2.heap.size (F w).2 w' → Sl w' w.heap.size (.slice (some ⟨w.heap.size, 0, none⟩) s.size (F w).1) s.size (gS s) := by
 have h : ∀ w, ∃ x : Nat × World, (convert 9 22 (.string s)).run Tryz.prog w = .ok (.slice (some ⟨w.heap.size, 0, none⟩) s.size x.1) x.2 ∧ Below w.heap.size w x.2 ∧ x.2.heap.size = w.heap.size + 1 ∧ ∀ w', Below x.2.heap.size x.2 w' → Sl w' w.heap.size (.slice (some ⟨w.heap.size, 0, none⟩) s.size x.1) s.size (gS s) := fun w => by
  obtain ⟨cap, C, fr, h1, h2, h3, h4⟩ := conv_str s w (by omega);refine ⟨(cap, w.drew.alloc (.cells C 5 fr)), h1, (Below.refl _ w).drew.alloc NL _, by simp, fun w' hw => .inr ⟨0, cap, rfl, hp, h2, h3, fun j hj => ?_⟩⟩;have e : w'.heap[w.heap.size]? = some (.cells C 5 fr) := (hw.block _ (by simp)).trans (al_at w.drew _);rw [Nat.zero_add];simp [World.cell?, e, h4 j hj]
 exact ⟨fun w => Classical.choose (h w), fun w => Classical.choose_spec (h w)⟩
def sgA : List ByteArray := [⟨#[124, 124]⟩, ⟨#[38, 38]⟩, ⟨#[124]⟩, ⟨#[94]⟩, ⟨#[38]⟩, ⟨#[61, 61, 61]⟩, ⟨#[33, 61, 61]⟩, ⟨#[60]⟩, ⟨#[60, 61]⟩, ⟨#[62]⟩, ⟨#[62, 61]⟩, ⟨#[105, 110]⟩, ⟨#[60, 60]⟩, ⟨#[62, 62]⟩, ⟨#[62, 62, 62]⟩, ⟨#[43]⟩, ⟨#[45]⟩, ⟨#[42]⟩, ⟨#[37]⟩]
def leftS (i k : Nat) : ByteArray := ((((⟨#[120, 32]⟩ : ByteArray) ++ sgA.getD i default) ++ ⟨#[32, 121, 32]⟩) ++ sgA.getD k default) ++ ⟨#[32, 122]⟩
theorem left_facts : ((List.range 19).all fun i => (List.range 19).all fun k => decide ((leftS i k).data.toList.map (fun b => (b.toNat : Int)) = leftB i k) && decide ((sgA.getD i default).data.toList.map (fun b => (b.toNat : Int)) = sgL.getD i [])) = true := by decide +kernel
theorem mod19 (a : Int) : ∃ i : Nat, i < 19 ∧ (Int.tmod a 19 = (i : Int) ∨ (Int.tmod a 19 < 0 ∧ Int.tmod a 19 = (i : Int) - 19)) := by
 have h1 := Int.tmod_lt_of_pos a (show (0 : Int) < 19 by decide)
 have h2 : -19 < Int.tmod a 19 := by
  have := Int.lt_tmod_of_pos a (show (0 : Int) < 19 by decide);omega
 by_cases h : 0 ≤ Int.tmod a 19
 · exact ⟨(Int.tmod a 19).toNat, by omega, .inl (by omega)⟩
 · exact ⟨(Int.tmod a 19 + 19).toNat, by omega, .inr ⟨by omega, by omega⟩⟩
theorem left_str {i k : Nat} (hi : i < 19) (hk : k < 19) : (leftS i k).size = (leftB i k).length ∧ (∀ j, gS (leftS i k) j = gOf (leftB i k) j) := by
 have h := List.all_eq_true.1 (List.all_eq_true.1 left_facts i (List.mem_range.2 hi)) k (List.mem_range.2 hk);simp only [Bool.and_eq_true, decide_eq_true_eq] at h;rw [← h.1];refine ⟨by rw [List.length_map, Array.length_toList]; rfl, fun j => ?_⟩;unfold gS gOf;rw [List.getD_eq_getElem?_getD, List.getElem?_map, Array.getElem?_toList];cases (leftS i k).data[j]? with
 | none => rfl
 | some x => rfl
theorem left_sg {i : Nat} (hi : i < 19) : (sgA.getD i default).data.toList.map (fun b => (b.toNat : Int)) = sgL.getD i [] := by
 have h := List.all_eq_true.1 (List.all_eq_true.1 left_facts i (List.mem_range.2 hi)) 0 (List.mem_range.2 (by omega));simp only [Bool.and_eq_true, decide_eq_true_eq] at h;exact h.2
theorem left_bys {i k : Nat} (hi : i < 19) (hk : k < 19) : Bys (leftB i k) := by
 have h := List.all_eq_true.1 (List.all_eq_true.1 left_facts i (List.mem_range.2 hi)) k (List.mem_range.2 hk);simp only [Bool.and_eq_true, decide_eq_true_eq] at h;rw [← h.1];intro z hz;obtain ⟨b, _, rfl⟩ := List.mem_map.1 hz;have := b.toNat_lt;omega
theorem sgL_len (j : Nat) : (sgL.getD j []).length ≤ 3 := by
 rw [List.getD_eq_getElem?_getD];cases e : sgL[j]? with
 | none => simp
 | some l =>
   have hm := List.mem_of_getElem? e;simp [sgL] at hm;rcases hm with rfl | rfl | rfl | rfl | rfl | rfl | rfl | rfl | rfl | rfl | rfl | rfl | rfl | rfl | rfl | rfl | rfl | rfl | rfl <;> simp
theorem left_len {i k : Nat} : (leftB i k).length ≤ 4000 := by
 have h := sgL_len;have h1 := h i;have h2 := h k;simp only [leftB, List.length_append, List.length_cons, List.length_nil];omega
theorem left_read {i k : Nat} (hi : i < 19) (hk : k < 19) : ∃ (N : Nat) (F : World → Nat × World) (t : List PN), leftOk i k t = true ∧ (∀ w, (convert 9 22 (.string (leftS i k))).run Tryz.prog w = .ok (.slice (some ⟨w.heap.size, 0, none⟩) N (F w).1) (F w).2) ∧ (∀ w, Below w.heap.size w (F w).2) ∧ ∀ w w', Below (F w).2.heap.size (F w).2 w' → ErrG w' 1 → ErrG w' 2 → Calls Tryz.prog 15 #[.slice (some ⟨w.heap.size, 0, none⟩) N (F w).1] w' (AnsQ (.tree t) w') := by
 obtain ⟨t, ht, hok⟩ := left_ex hi hk;obtain ⟨hsz, hgs⟩ := left_str hi hk;have hp : 0 < (leftB i k).length := by simp [leftB]
 obtain ⟨F, hF⟩ := conv_ex (leftS i k) (by rw [hsz]; exact left_len) (by rw [hsz]; exact hp);have hfun : gS (leftS i k) = gOf (leftB i k) := funext hgs;rw [hfun, hsz] at hF;refine ⟨(leftB i k).length, F, t, hok, fun w => (hF w).1, fun w => (hF w).2.1, fun w w' hw h1 h2 => ?_⟩;have hsz' : w.heap.size < w'.heap.size := Nat.lt_of_lt_of_le (by rw [(hF w).2.2.1]; omega) hw.size;exact read_expr ht (left_bys hi hk) left_len (fun w'' hw'' => (hF w).2.2.2 w'' (hw.trans (hw''.mono hw.size))) hsz' (fun h => by cases h) h1 h2
theorem left_tree {i k : Nat} {t : List PN} {w : World} {tvv : Value} (h : leftOk i k t = true) (hN : NdRow (fun _ => False) w tvv t) : ∃ g cap, tvv = .slice (some ⟨g, 0, none⟩) 5 cap ∧ 5 ≤ cap ∧ cap ≤ 9223372036854775807 ∧ ∀ j, j < 5 → w.cell? ⟨g, j * 5, none⟩ = some (.int .i64 (t.getD j pn0).kind) ∧ w.cell? ⟨g, j * 5 + 1, none⟩ = some (.string (strOfNums (t.getD j pn0).text)) := by
 have hl : t.length = 5 := by
  simp only [leftOk, Bool.and_eq_true, decide_eq_true_eq] at h;exact h.1
 have hg : ∀ j, j < 5 → t[j]? = some (t.getD j pn0) := fun j hj => by rw [List.getD_eq_getElem?_getD, List.getElem?_eq_getElem (by omega)]; rfl
 obtain ⟨g, cap, kv, e, q1, q2, _, a0, a1, _⟩ := nd_five hN (hg 0 (by omega));rw [hl] at e q1;refine ⟨g, cap, e, q1, q2, fun j hj => ?_⟩;obtain ⟨g', cap', kv', e', _, _, _, b0, b1, _⟩ := nd_five hN (hg j hj);rw [hl, e] at e';cases e';exact ⟨b0, b1⟩
theorem get19 {i : Nat} (hi : i < 19) : (sgA.map Value.string)[i]? = some (.string (sgA.getD i default)) ∧ (lvL.map (Value.int .i64))[i]? = some (.int .i64 (lvL.getD i 0)) := by
 have h1 : i < sgA.length := hi;have h2 : i < lvL.length := hi;rw [List.getElem?_map, List.getElem?_map, List.getD_eq_getElem?_getD, List.getD_eq_getElem?_getD, List.getElem?_eq_getElem h1, List.getElem?_eq_getElem h2];exact ⟨rfl, rfl⟩
end
end Go.Proofs.YtdliannkiijeiaaGreatDoor
