/- Merged: RS, RN. -/
import Derived.BigQuiet
import Derived.Deep.AppendLies
import Derived.Deep.QuietTactic
import Derived.Deep.RegionWith
import Derived.LoopN
import Derived.WalkMore
import Derived.Test.YtpdkeggiokebmaaDoorHH
import Derived.Test.YtpdkeggiokebmaaDoorHJ
import Derived.Test.YtpdkeggiokebmaaDoorN3
import Derived.Test.YtpdkeggiokebmaaDoorXP
/- The reference's signs, and how they are the longest. -/
namespace Go.Proofs.YtpdkeggiokebmaaDoor
set_option linter.unusedSimpArgs false
set_option linter.unusedVariables false
open Go.RowKit Go.Shelf

/-- The reference's signs, the longest first. -/
def sgnR : List ByteArray := [⟨#[61, 61, 61]⟩, ⟨#[33, 61, 61]⟩, ⟨#[62, 62, 62]⟩, ⟨#[43, 61]⟩, ⟨#[45, 61]⟩, ⟨#[42, 61]⟩, ⟨#[37, 61]⟩, ⟨#[61, 62]⟩, ⟨#[60, 61]⟩, ⟨#[62, 61]⟩, ⟨#[60, 60]⟩, ⟨#[62, 62]⟩, ⟨#[38, 38]⟩, ⟨#[124, 124]⟩, ⟨#[123]⟩, ⟨#[125]⟩, ⟨#[40]⟩, ⟨#[41]⟩, ⟨#[91]⟩, ⟨#[93]⟩, ⟨#[46]⟩, ⟨#[44]⟩, ⟨#[59]⟩, ⟨#[58]⟩, ⟨#[63]⟩, ⟨#[61]⟩, ⟨#[43]⟩, ⟨#[45]⟩, ⟨#[42]⟩, ⟨#[37]⟩, ⟨#[33]⟩, ⟨#[126]⟩, ⟨#[60]⟩, ⟨#[62]⟩, ⟨#[38]⟩, ⟨#[124]⟩, ⟨#[94]⟩]
set_option maxRecDepth 100000 in
set_option maxHeartbeats 1000000 in
theorem signs_any (w : World) : Calls Tryd.prog 46 #[] w fun e w' => e = .returned (.slice (some ⟨w.heap.size, 0, none⟩) 37 37) ∧ Txts w' w.heap.size 0 sgnR ∧ Below w.heap.size w w' := by
  go_enter Tryd.func46, Tryd.ntmps46
  go_wp2
  go_ret
  refine ⟨rfl, fun j s hj => ?_, (Below.refl _ w).alloc (Nat.le_refl _) _⟩
  rw [Lib.cell_of_heap (World.alloc_heap_new w _), Nat.zero_add]
  show ((sgnR.map Value.string).toArray)[j]? = some (.string s)
  simp [hj]
theorem sgnR_in : ∀ s ∈ sgnR, (s.size = 1 ∨ s.size = 2 ∨ s.size = 3) ∧ hasD (sgnL s.size) s = true := by decide +kernel
theorem sgnR_ord : ∀ j : Fin 37, ∀ k : Fin 37, j ≤ k → (sgnR[k.val]?.getD ⟨#[]⟩).size ≤ (sgnR[j.val]?.getD ⟨#[]⟩).size := by decide +kernel
theorem sgnL_in1 : ∀ s ∈ sgnL 1, hasD sgnR s = true ∧ s.size = 1 := by decide +kernel
theorem sgnL_in2 : ∀ s ∈ sgnL 2, hasD sgnR s = true ∧ s.size = 2 := by decide +kernel
theorem sgnL_in3 : ∀ s ∈ sgnL 3, hasD sgnR s = true ∧ s.size = 3 := by decide +kernel
theorem hasD_mem {l : List ByteArray} {s : ByteArray} (h : hasD l s = true) : s ∈ l := by
  obtain ⟨s', hs', he⟩ := List.any_eq_true.1 h
  have e : s = s' := by
    apply ByteArray.ext
    exact Array.toList_inj.1 (beq_iff_eq.1 he)
  rw [e]; exact hs'
theorem sgnL_in {n : Nat} (h : n = 1 ∨ n = 2 ∨ n = 3) : ∀ s ∈ sgnL n, s ∈ sgnR ∧ s.size = n := by
  rcases h with rfl | rfl | rfl
  · exact fun s hs => ⟨hasD_mem (sgnL_in1 s hs).1, (sgnL_in1 s hs).2⟩
  · exact fun s hs => ⟨hasD_mem (sgnL_in2 s hs).1, (sgnL_in2 s hs).2⟩
  · exact fun s hs => ⟨hasD_mem (sgnL_in3 s hs).1, (sgnL_in3 s hs).2⟩
theorem lsgN_spec (g : Nat → Int) : ∀ m, (lsgN g m ≠ 0 → hasT (sgnL (lsgN g m)) (strOfNums (upto g (lsgN g m))) = true) ∧ ∀ L, lsgN g m < L → L ≤ m → hasT (sgnL L) (strOfNums (upto g L)) = false
  | 0 => ⟨fun h => absurd rfl h, fun L h1 h2 => by have : L = 0 := by omega
                                                   subst this; exact absurd h1 (by simp [lsgN])⟩
  | m + 1 => by
    simp only [lsgN]
    by_cases h : hasT (sgnL (m + 1)) (strOfNums (upto g (m + 1))) = true
    · rw [if_pos h]
      exact ⟨fun _ => h, fun L h1 h2 => by omega⟩
    · rw [if_neg h]
      obtain ⟨h1, h2⟩ := lsgN_spec g m
      refine ⟨h1, fun L h3 h4 => ?_⟩
      by_cases hL : L = m + 1
      · subst hL; simpa using h
      · exact h2 L h3 (by omega)
/-- Does a sign stand at a place? -/
def mtch (g : Nat → Int) (len at' : Nat) (s : ByteArray) : Prop := at' + s.size ≤ len ∧ ((strOfNums (sub g at' (at' + s.size))).toList == s.toList) = true
theorem mtch_yes {g : Nat → Int} {len at' k : Nat} {s : ByteArray} (hk : sgnR[k]? = some s) (hm : mtch g len at' s) (hno : ∀ j s', j < k → sgnR[j]? = some s' → ¬ mtch g len at' s') : sgN g len at' = s.size ∧ s = strOfNums (sub g at' (at' + s.size)) ∧ s.size ≠ 0 := by
  obtain ⟨hsz, hD⟩ := sgnR_in s (List.mem_of_getElem? hk)
  have hkl : k < 37 := (List.getElem?_eq_some_iff.1 hk).1
  have heq : (strOfNums (sub g at' (at' + s.size))).toList = s.toList := beq_iff_eq.1 hm.2
  have hs : s = strOfNums (sub g at' (at' + s.size)) := by
    apply ByteArray.ext
    apply Array.toList_inj.1
    rw [← ba_toList, ← ba_toList]
    exact heq.symm
  obtain ⟨h1, h2⟩ := lsgN_spec (fun j => g (at' + j)) (min 3 (len - at'))
  have hle := hm.1
  have hT : hasT (sgnL s.size) (strOfNums (upto (fun j => g (at' + j)) s.size)) = true := by
    rw [← sub_upto, ← hs, hasD_eq]
    exact hD
  have hge : s.size ≤ sgN g len at' := by
    rcases Nat.lt_or_ge (sgN g len at') s.size with h | h
    · have := h2 s.size h (by omega)
      rw [hT] at this
      exact absurd this (by decide)
    · exact h
  refine ⟨?_, hs, by omega⟩
  rcases Nat.lt_or_ge s.size (sgN g len at') with h | h
  · exfalso
    have hn := sgN_le g len at'
    have hb := h1 (show lsgN _ _ ≠ 0 by have : sgN g len at' ≠ 0 := by omega
                                        exact this)
    have hb : hasT (sgnL (sgN g len at')) (strOfNums (upto (fun j => g (at' + j)) (sgN g len at'))) = true := hb
    obtain ⟨s', hs', he'⟩ := List.any_eq_true.1 hb
    obtain ⟨hin, hsz'⟩ := sgnL_in (by omega) s' hs'
    obtain ⟨j, hj⟩ := List.getElem?_of_mem hin
    have hjl : j < 37 := (List.getElem?_eq_some_iff.1 hj).1
    have hjk : j < k := by
      rcases Nat.lt_or_ge j k with h | h'
      · exact h
      · exfalso
        have := sgnR_ord ⟨k, hkl⟩ ⟨j, hjl⟩ h'
        simp only [hj, hk, Option.getD_some] at this
        omega
    refine hno j s' hjk hj ⟨by omega, ?_⟩
    rw [hsz', sub_upto]
    exact he'
  · omega
theorem mtch_none {g : Nat → Int} {len at' : Nat} (hno : ∀ j s', j < 37 → sgnR[j]? = some s' → ¬ mtch g len at' s') : sgN g len at' = 0 := by
  rcases Nat.eq_zero_or_pos (sgN g len at') with h | h
  · exact h
  · exfalso
    have hn := sgN_le g len at'
    have hb : hasT (sgnL (sgN g len at')) (strOfNums (upto (fun j => g (at' + j)) (sgN g len at'))) = true := (lsgN_spec (fun j => g (at' + j)) (min 3 (len - at'))).1 (show sgN g len at' ≠ 0 by omega)
    obtain ⟨s', hs', he'⟩ := List.any_eq_true.1 hb
    obtain ⟨hin, hsz'⟩ := sgnL_in (by omega) s' hs'
    obtain ⟨j, hj⟩ := List.getElem?_of_mem hin
    refine hno j s' (List.getElem?_eq_some_iff.1 hj).1 hj ⟨by omega, ?_⟩
    rw [hsz', sub_upto]
    exact he'
theorem Opn.below {W W' : World} {ov : Value} {bs : List Bool} (h : Opn W ov bs) (hb : Below W.heap.size W W') : Opn W' ov bs := by
  obtain ⟨a, cap, h1, h2, h3, h4⟩ := h
  refine ⟨a, cap, h1, h2, h3, fun hp => ?_⟩
  obtain ⟨b, o, ha, hc⟩ := h4 hp
  refine ⟨b, o, ha, fun j hj => ?_⟩
  have := hc j hj
  rw [World.cell?_of_block (w := W) (hb.block b (World.block_lt_of_cell? W _ this))]
  exact this
/-- A row of brackets in memory: nil, or cells. -/
def HOL (W : World) (hv : Value) (bs : List Bool) : Prop :=
  (hv = .slice none 0 0 ∧ bs = []) ∨ ∃ b o cap, hv = .slice (some ⟨b, o, none⟩) bs.length cap ∧ bs.length ≤ cap ∧ cap ≤ maxLen ∧ (∀ j, j < bs.length → W.cell? ⟨b, o + j, none⟩ = some (.bool (bs.getD j false))) ∧ ∃ C fr, W.heap[b]? = some (.cells C 4 fr)
theorem HOL.opn {W : World} {hv : Value} {bs : List Bool} (h : HOL W hv bs) : Opn W hv bs := by
  rcases h with ⟨rfl, rfl⟩ | ⟨b, o, cap, rfl, h1, h2, h3, _⟩
  · exact ⟨none, 0, rfl, Nat.le_refl _, Nat.zero_le _, fun h => absurd h (by simp)⟩
  · exact ⟨_, cap, rfl, h1, h2, fun _ => ⟨b, o, rfl, h3⟩⟩
theorem HOL.below {W W' : World} {hv : Value} {bs : List Bool} (h : HOL W hv bs) (hb : Below W.heap.size W W') : HOL W' hv bs := by
  rcases h with h | ⟨b, o, cap, h0, h1, h2, h3, C, fr, h4⟩
  · exact .inl h
  · refine .inr ⟨b, o, cap, h0, h1, h2, fun j hj => ?_, C, fr, (hb.block b (Array.getElem?_eq_some_iff.1 h4).1).trans h4⟩
    have := h3 j hj
    rw [World.cell?_of_block (w := W) (hb.block b (World.block_lt_of_cell? W _ this))]
    exact this
theorem own_hol {W : World} {B : Nat} {v : Value} {bs : List Bool} (h : W.ownsRow B 4 1 v bs.length (bs.map Value.bool)) : HOL W v bs := by
  rcases h.2 with ⟨h0, hn⟩ | ⟨g, cap, cur, hv, hg, hh, h1, h2, h3, h4⟩
  · exact .inl ⟨h0, List.length_eq_zero_iff.1 hn⟩
  · refine .inr ⟨g, 0, cap, hv, h1, h2, fun j hj => ?_, cur, _, hh⟩
    rw [Lib.cell_of_heap hh, Nat.zero_add]
    have e := congrArg (fun l : List Value => l[j]?) h4
    simp only [Nat.mul_one, List.getElem?_take, hj, if_true, List.getElem?_map] at e
    rw [List.getElem?_eq_getElem hj] at e
    rw [List.getD_eq_getElem?_getD, List.getElem?_eq_getElem hj]
    simpa using e
theorem empty_ownsB (w : World) : (w.alloc (.cells #[] 4)).ownsRow w.heap.size 4 1 (.slice (some ⟨w.heap.size, 0, none⟩) 0 0) 0 [] :=
  ⟨rfl, .inr ⟨w.heap.size, 0, #[], rfl, Nat.le_refl _, World.alloc_heap_new w _, Nat.le_refl _, Nat.zero_le _, rfl, rfl⟩⟩
/-- What the reference's next gives. -/
def RNV (W : World) (at' : Nat) (q : Option (Int × List Int × Nat × List Bool)) (x : Ending) (W' : World) : Prop := match q with
  | none => (∃ k S y z hv, x = .returned (.tuple #[tokV k S y z, hv, .bool false])) ∧ Below W.heap.size W W'
  | some (k, t, e, bs') => (∃ hv, x = .returned (.tuple #[tokV k (strOfNums t) at' (e : Int), hv, .bool true]) ∧ HOL W' hv bs') ∧ Below W.heap.size W W'
end Go.Proofs.YtpdkeggiokebmaaDoor

/- The reference's next. -/
namespace Go.Proofs.YtpdkeggiokebmaaDoor
set_option linter.unusedSimpArgs false
set_option linter.unusedVariables false
open Go.RowKit Go.Shelf

attribute [local go_sem] tokV
set_option maxRecDepth 100000 in
set_option maxHeartbeats 4000000 in
theorem rnext_num (c : Nat) (a : Option Addr) (len cap : Nat) (g : Nat → Int) (hg : ∀ j, 0 ≤ g j ∧ g j ≤ 255) (at' : Nat) (hv : Value) (bs : List Bool) (W : World) (hS : Sl W c (.slice a len cap) len g) (hc : c < W.heap.size) (hO : HOL W hv bs) (hat : at' < len) (hlen : len ≤ 1099511627776) (hbl : bs.length ≤ 1099511627776) (hL : isL (g at') = false) (hD : isD (g at') = true) :
    Calls Tryd.prog 32 #[.slice a len cap, .int .i64 (at' : Int), hv] W (RNV W at' (if numOk g len at' = true then some (3, sub g at' (numEnd g len at'), numEnd g len at', bs) else none)) := by
  have HO := hide hO
  obtain ⟨a2, cap2, rfl, ho1, ho2, ho3⟩ := hO.opn
  clear hO
  unfold maxLen at ho2
  obtain ⟨W1, hW1⟩ : ∃ W1, W.alloc (.cells #[.int .i64 0, .string ⟨#[]⟩, .int .i64 0, .int .i64 0] 33) = W1 := ⟨_, rfl⟩
  have hB1 : Below W.heap.size W W1 := by rw [← hW1]; exact (Below.refl _ W).alloc (Nat.le_refl _) _
  have hz1 : W1.heap.size = W.heap.size + 1 := by rw [← hW1]; simp
  have hr1 : W1.heap[W.heap.size]? = some (.cells #[.int .i64 0, .string ⟨#[]⟩, .int .i64 0, .int .i64 0] 33) := by rw [← hW1]; exact World.alloc_heap_new W _
  have hS1 := hS.keep (B := W1) (fun k e => by subst e; exact hB1.block k hc)
  obtain ⟨off, rfl, h1, h2, hcs⟩ := unhide (sl_cells hS1) (by omega)
  unfold maxLen at h2
  have hck := hcs at' hat
  have n1 : (at' : Int) < len := by omega
  have HCS := hide hcs
  have HS1 := hide hS1
  clear hS hS1 hcs
  have HN := hide (rnumber_any c _ len cap g at' W1 (unhide HS1) (by omega) hat hD hlen)
  by_cases hk : numOk g len at' = true
  · rw [if_pos hk]
    have hT : numT g len at' = tokV 3 (strOfNums (sub g at' (numEnd g len at'))) at' (numEnd g len at') := by unfold numT; rw [if_pos hk]
    rw [hT, hk] at HN
    obtain ⟨S, hSx⟩ : ∃ S, strOfNums (sub g at' (numEnd g len at')) = S := ⟨_, rfl⟩
    obtain ⟨e', he'⟩ : ∃ e', numEnd g len at' = e' := ⟨_, rfl⟩
    rw [hSx, he'] at HN
    have HSX := hide hSx
    have HEX := hide he'
    clear hT hSx he' hk
    go_enter Tryd.func32, Tryd.ntmps32
    go_wp2_with (first | (go_at_call 40; refine (rLetter_any _ _).mono ?_; rintro x w' ⟨rfl, hw⟩; subst w') | (go_at_call 41; refine (rDigit_any _ _).mono ?_; rintro x w' ⟨rfl, hw⟩; subst w') | (go_at_call 43; refine (unhide HN).mono ?_; rintro x W2 ⟨rfl, hB2⟩; obtain ⟨W3, hW3⟩ : ∃ W3, W2.alloc (.cells #[Value.int .i64 3, .string S, .int .i64 (at' : Int), .int .i64 (e' : Int)] 33) = W3 := ⟨_, rfl⟩; have hz2 := hB2.size; have hz3 : W3.heap.size = W2.heap.size + 1 := (by rw [← hW3]; simp); have hB3 : Below W2.heap.size W2 W3 := (by rw [← hW3]; exact (Below.refl _ _).alloc (Nat.le_refl _) _); have hr5 : W3.heap[W.heap.size]? = some (.cells #[.int .i64 0, .string ⟨#[]⟩, .int .i64 0, .int .i64 0] 33) := (hB3.block W.heap.size (by omega)).trans ((hB2.block W.heap.size (by omega)).trans hr1); obtain ⟨d0, d1, d2, d3⟩ := tok_cells hr5; have d4 := Lib.frozen_of_heap hr5; have d5 : W3.shape? W.heap.size = some (33, 4) := (by simp [World.shape?, hr5]); have ht3 : W3.heap[W2.heap.size]? = some (.cells #[Value.int .i64 3, .string S, .int .i64 (at' : Int), .int .i64 (e' : Int)] 33) := (by rw [← hW3]; exact World.alloc_heap_new _ _); obtain ⟨t0, t1, t2, t3⟩ := tok_cells ht3; have t4 := Lib.frozen_of_heap ht3; have t5 : W3.shape? W2.heap.size = some (33, 4) := (by simp [World.shape?, ht3])))
    have hB6 := put4_below (W := W3) (Nat.le_refl W.heap.size) (.int .i64 3) (.string S) ((.int .i64 (at' : Int))) ((.int .i64 (e' : Int)))
    have hr6 := put4_heap hr5 (.int .i64 3) (.string S) ((.int .i64 (at' : Int))) ((.int .i64 (e' : Int)))
    obtain ⟨W6, hW6⟩ : ∃ W6, ((((W3.setCell ⟨W.heap.size, 0, none⟩ (.int .i64 3)).setCell ⟨W.heap.size, 1, none⟩ (.string S)).setCell ⟨W.heap.size, 2, none⟩ ((.int .i64 (at' : Int)))).setCell ⟨W.heap.size, 3, none⟩ ((.int .i64 (e' : Int)))) = W6 := ⟨_, rfl⟩
    rw [hW6] at hB6 hr6 ⊢
    clear hW6
    obtain ⟨e0, e1, e2, e3⟩ := tok_cells hr6
    have hBF : Below W.heap.size W W6 := ((hB1.trans (hB2.mono hB1.size)).trans (hB3.mono (by omega))).trans hB6
    try rw [Exit.noGoto_ret]
    refine bodyPost_ret (v := .tuple #[.agg #[.int .i64 3, .string S, (.int .i64 (at' : Int)), (.int .i64 (e' : Int))], .slice a2 bs.length cap2, .bool true]) ?_ rfl ⟨⟨_, by rw [show strOfNums (sub g at' (numEnd g len at')) = S from unhide HSX, show numEnd g len at' = e' from unhide HEX]; rfl, (unhide HO).below hBF⟩, hBF⟩
    clear d0 d1 d2 d3 d4 d5 t0 t1 t2 t3 t4 t5
    simp [results, Tryd.results32, go_sem, e0, e1, e2, e3]
  · rw [if_neg hk]
    have hk0 : numOk g len at' = false := by simpa using hk
    have hT : numT g len at' = tokV 0 ⟨#[]⟩ 0 0 := by unfold numT; rw [if_neg hk]
    have HN : Hid (Calls Tryd.prog 43 #[.slice (some ⟨c, off, none⟩) len cap, .int .i64 (at' : Int)] W1 fun x W' => (∃ k S y z, x = .returned (.tuple #[tokV k S y z, .bool false])) ∧ Below W1.heap.size W1 W') := (unhide HN).mono fun x W' hx => ⟨⟨0, ⟨#[]⟩, 0, 0, by rw [hx.1, hT, hk0]⟩, hx.2⟩
    clear hT hk hk0
    go_enter Tryd.func32, Tryd.ntmps32
    go_wp2_with (first | (go_at_call 40; refine (rLetter_any _ _).mono ?_; rintro x w' ⟨rfl, hw⟩; subst w') | (go_at_call 41; refine (rDigit_any _ _).mono ?_; rintro x w' ⟨rfl, hw⟩; subst w') | (go_at_call 43; refine (unhide HN).mono ?_; rintro x W2 ⟨⟨k, S, y, z, rfl⟩, hB2⟩; obtain ⟨W3, hW3⟩ : ∃ W3, W2.alloc (.cells #[Value.int .i64 k, .string S, .int .i64 y, .int .i64 z] 33) = W3 := ⟨_, rfl⟩; have hz2 := hB2.size; have hz3 : W3.heap.size = W2.heap.size + 1 := (by rw [← hW3]; simp); have hB3 : Below W2.heap.size W2 W3 := (by rw [← hW3]; exact (Below.refl _ _).alloc (Nat.le_refl _) _); have hr5 : W3.heap[W.heap.size]? = some (.cells #[.int .i64 0, .string ⟨#[]⟩, .int .i64 0, .int .i64 0] 33) := (hB3.block W.heap.size (by omega)).trans ((hB2.block W.heap.size (by omega)).trans hr1); obtain ⟨d0, d1, d2, d3⟩ := tok_cells hr5; have d4 := Lib.frozen_of_heap hr5; have d5 : W3.shape? W.heap.size = some (33, 4) := (by simp [World.shape?, hr5]); have ht3 : W3.heap[W2.heap.size]? = some (.cells #[Value.int .i64 k, .string S, .int .i64 y, .int .i64 z] 33) := (by rw [← hW3]; exact World.alloc_heap_new _ _); obtain ⟨t0, t1, t2, t3⟩ := tok_cells ht3; have t4 := Lib.frozen_of_heap ht3; have t5 : W3.shape? W2.heap.size = some (33, 4) := (by simp [World.shape?, ht3])))
    have hB6 := put4_below (W := W3) (Nat.le_refl W.heap.size) (.int .i64 k) (.string S) ((.int .i64 y)) ((.int .i64 z))
    have hr6 := put4_heap hr5 (.int .i64 k) (.string S) ((.int .i64 y)) ((.int .i64 z))
    obtain ⟨W6, hW6⟩ : ∃ W6, ((((W3.setCell ⟨W.heap.size, 0, none⟩ (.int .i64 k)).setCell ⟨W.heap.size, 1, none⟩ (.string S)).setCell ⟨W.heap.size, 2, none⟩ ((.int .i64 y))).setCell ⟨W.heap.size, 3, none⟩ ((.int .i64 z))) = W6 := ⟨_, rfl⟩
    rw [hW6] at hB6 hr6 ⊢
    clear hW6
    obtain ⟨e0, e1, e2, e3⟩ := tok_cells hr6
    have hBF : Below W.heap.size W W6 := ((hB1.trans (hB2.mono hB1.size)).trans (hB3.mono (by omega))).trans hB6
    try rw [Exit.noGoto_ret]
    refine bodyPost_ret (v := .tuple #[.agg #[.int .i64 k, .string S, (.int .i64 y), (.int .i64 z)], .slice a2 bs.length cap2, .bool false]) ?_ rfl ⟨⟨_, _, _, _, _, rfl⟩, hBF⟩
    clear d0 d1 d2 d3 d4 d5 t0 t1 t2 t3 t4 t5
    simp [results, Tryd.results32, go_sem, e0, e1, e2, e3]
set_option maxRecDepth 100000 in
set_option maxHeartbeats 4000000 in
theorem rnext_q34 (c : Nat) (a : Option Addr) (len cap : Nat) (g : Nat → Int) (hg : ∀ j, 0 ≤ g j ∧ g j ≤ 255) (at' : Nat) (hv : Value) (bs : List Bool) (W : World) (hS : Sl W c (.slice a len cap) len g) (hc : c < W.heap.size) (hO : HOL W hv bs) (hat : at' < len) (hlen : len ≤ 1099511627776) (hbl : bs.length ≤ 1099511627776) (q1 : g at' = 34) :
    Calls Tryd.prog 32 #[.slice a len cap, .int .i64 (at' : Int), hv] W (RNV W at' ((quoP g len (g at') at').map fun y => (y.1, y.2.1, y.2.2, bs))) := by
  have HO := hide hO
  obtain ⟨a2, cap2, rfl, ho1, ho2, ho3⟩ := hO.opn
  clear hO
  unfold maxLen at ho2
  obtain ⟨W1, hW1⟩ : ∃ W1, W.alloc (.cells #[.int .i64 0, .string ⟨#[]⟩, .int .i64 0, .int .i64 0] 33) = W1 := ⟨_, rfl⟩
  have hB1 : Below W.heap.size W W1 := by rw [← hW1]; exact (Below.refl _ W).alloc (Nat.le_refl _) _
  have hz1 : W1.heap.size = W.heap.size + 1 := by rw [← hW1]; simp
  have hr1 : W1.heap[W.heap.size]? = some (.cells #[.int .i64 0, .string ⟨#[]⟩, .int .i64 0, .int .i64 0] 33) := by rw [← hW1]; exact World.alloc_heap_new W _
  have hS1 := hS.keep (B := W1) (fun k e => by subst e; exact hB1.block k hc)
  obtain ⟨off, rfl, h1, h2, hcs⟩ := unhide (sl_cells hS1) (by omega)
  unfold maxLen at h2
  have hck := hcs at' hat
  have n1 : (at' : Int) < len := by omega
  have HCS := hide hcs
  have HS1 := hide hS1
  clear hS hS1 hcs
  have HN0 := hide (rquoted_any c _ len cap g hg at' W1 (unhide HS1) (by omega) hat (by omega) hlen)
  unfold quoP
  obtain ⟨q, hq⟩ : ∃ q, quoI g len (g at') (at' + 1) = q := ⟨_, rfl⟩
  rw [hq] at HN0 ⊢
  rw [q1] at hck
  have hL : isL 34 = false := by decide
  have hD : isD 34 = false := by decide
  clear hq q1
  cases q with
  | none =>
    have HN : Hid (Calls Tryd.prog 44 #[.slice (some ⟨c, off, none⟩) len cap, .int .i64 (at' : Int)] W1 fun x W' => (∃ k S y z, x = .returned (.tuple #[tokV k S y z, .bool false])) ∧ Below W1.heap.size W1 W') := unhide HN0
    clear HN0
    go_enter Tryd.func32, Tryd.ntmps32
    go_wp2_with (first | (go_at_call 40; refine (rLetter_any _ _).mono ?_; rintro x w' ⟨rfl, hw⟩; subst w') | (go_at_call 41; refine (rDigit_any _ _).mono ?_; rintro x w' ⟨rfl, hw⟩; subst w') | (go_at_call 44; refine (unhide HN).mono ?_; rintro x W2 ⟨⟨k, S, y, z, rfl⟩, hB2⟩; obtain ⟨W3, hW3⟩ : ∃ W3, W2.alloc (.cells #[Value.int .i64 k, .string S, .int .i64 y, .int .i64 z] 33) = W3 := ⟨_, rfl⟩; have hz2 := hB2.size; have hz3 : W3.heap.size = W2.heap.size + 1 := (by rw [← hW3]; simp); have hB3 : Below W2.heap.size W2 W3 := (by rw [← hW3]; exact (Below.refl _ _).alloc (Nat.le_refl _) _); have hr5 : W3.heap[W.heap.size]? = some (.cells #[.int .i64 0, .string ⟨#[]⟩, .int .i64 0, .int .i64 0] 33) := (hB3.block W.heap.size (by omega)).trans ((hB2.block W.heap.size (by omega)).trans hr1); obtain ⟨d0, d1, d2, d3⟩ := tok_cells hr5; have d4 := Lib.frozen_of_heap hr5; have d5 : W3.shape? W.heap.size = some (33, 4) := (by simp [World.shape?, hr5]); have ht3 : W3.heap[W2.heap.size]? = some (.cells #[Value.int .i64 k, .string S, .int .i64 y, .int .i64 z] 33) := (by rw [← hW3]; exact World.alloc_heap_new _ _); obtain ⟨t0, t1, t2, t3⟩ := tok_cells ht3; have t4 := Lib.frozen_of_heap ht3; have t5 : W3.shape? W2.heap.size = some (33, 4) := (by simp [World.shape?, ht3])))
    have hB6 := put4_below (W := W3) (Nat.le_refl W.heap.size) (.int .i64 k) (.string S) ((.int .i64 y)) ((.int .i64 z))
    have hr6 := put4_heap hr5 (.int .i64 k) (.string S) ((.int .i64 y)) ((.int .i64 z))
    obtain ⟨W6, hW6⟩ : ∃ W6, ((((W3.setCell ⟨W.heap.size, 0, none⟩ (.int .i64 k)).setCell ⟨W.heap.size, 1, none⟩ (.string S)).setCell ⟨W.heap.size, 2, none⟩ ((.int .i64 y))).setCell ⟨W.heap.size, 3, none⟩ ((.int .i64 z))) = W6 := ⟨_, rfl⟩
    rw [hW6] at hB6 hr6 ⊢
    clear hW6
    obtain ⟨e0, e1, e2, e3⟩ := tok_cells hr6
    have hBF : Below W.heap.size W W6 := ((hB1.trans (hB2.mono hB1.size)).trans (hB3.mono (by omega))).trans hB6
    try rw [Exit.noGoto_ret]
    refine bodyPost_ret (v := .tuple #[.agg #[.int .i64 k, .string S, (.int .i64 y), (.int .i64 z)], .slice a2 bs.length cap2, .bool false]) ?_ rfl ⟨⟨_, _, _, _, _, rfl⟩, hBF⟩
    clear d0 d1 d2 d3 d4 d5 t0 t1 t2 t3 t4 t5
    simp [results, Tryd.results32, go_sem, e0, e1, e2, e3]
  | some x =>
    obtain ⟨t, e'⟩ := x
    obtain ⟨S, hSx⟩ : ∃ S, strOfNums t = S := ⟨_, rfl⟩
    have HN : Hid (Calls Tryd.prog 44 #[.slice (some ⟨c, off, none⟩) len cap, .int .i64 (at' : Int)] W1 fun x W' => x = .returned (.tuple #[tokV 4 S at' (e' : Int), .bool true]) ∧ Below W1.heap.size W1 W') := by rw [← hSx]; exact unhide HN0
    have HSX := hide hSx
    clear HN0 hSx
    go_enter Tryd.func32, Tryd.ntmps32
    go_wp2_with (first | (go_at_call 40; refine (rLetter_any _ _).mono ?_; rintro x w' ⟨rfl, hw⟩; subst w') | (go_at_call 41; refine (rDigit_any _ _).mono ?_; rintro x w' ⟨rfl, hw⟩; subst w') | (go_at_call 44; refine (unhide HN).mono ?_; rintro x W2 ⟨rfl, hB2⟩; obtain ⟨W3, hW3⟩ : ∃ W3, W2.alloc (.cells #[Value.int .i64 4, .string S, .int .i64 (at' : Int), .int .i64 (e' : Int)] 33) = W3 := ⟨_, rfl⟩; have hz2 := hB2.size; have hz3 : W3.heap.size = W2.heap.size + 1 := (by rw [← hW3]; simp); have hB3 : Below W2.heap.size W2 W3 := (by rw [← hW3]; exact (Below.refl _ _).alloc (Nat.le_refl _) _); have hr5 : W3.heap[W.heap.size]? = some (.cells #[.int .i64 0, .string ⟨#[]⟩, .int .i64 0, .int .i64 0] 33) := (hB3.block W.heap.size (by omega)).trans ((hB2.block W.heap.size (by omega)).trans hr1); obtain ⟨d0, d1, d2, d3⟩ := tok_cells hr5; have d4 := Lib.frozen_of_heap hr5; have d5 : W3.shape? W.heap.size = some (33, 4) := (by simp [World.shape?, hr5]); have ht3 : W3.heap[W2.heap.size]? = some (.cells #[Value.int .i64 4, .string S, .int .i64 (at' : Int), .int .i64 (e' : Int)] 33) := (by rw [← hW3]; exact World.alloc_heap_new _ _); obtain ⟨t0, t1, t2, t3⟩ := tok_cells ht3; have t4 := Lib.frozen_of_heap ht3; have t5 : W3.shape? W2.heap.size = some (33, 4) := (by simp [World.shape?, ht3])))
    have hB6 := put4_below (W := W3) (Nat.le_refl W.heap.size) (.int .i64 4) (.string S) ((.int .i64 (at' : Int))) ((.int .i64 (e' : Int)))
    have hr6 := put4_heap hr5 (.int .i64 4) (.string S) ((.int .i64 (at' : Int))) ((.int .i64 (e' : Int)))
    obtain ⟨W6, hW6⟩ : ∃ W6, ((((W3.setCell ⟨W.heap.size, 0, none⟩ (.int .i64 4)).setCell ⟨W.heap.size, 1, none⟩ (.string S)).setCell ⟨W.heap.size, 2, none⟩ ((.int .i64 (at' : Int)))).setCell ⟨W.heap.size, 3, none⟩ ((.int .i64 (e' : Int)))) = W6 := ⟨_, rfl⟩
    rw [hW6] at hB6 hr6 ⊢
    clear hW6
    obtain ⟨e0, e1, e2, e3⟩ := tok_cells hr6
    have hBF : Below W.heap.size W W6 := ((hB1.trans (hB2.mono hB1.size)).trans (hB3.mono (by omega))).trans hB6
    try rw [Exit.noGoto_ret]
    refine bodyPost_ret (v := .tuple #[.agg #[.int .i64 4, .string S, (.int .i64 (at' : Int)), (.int .i64 (e' : Int))], .slice a2 bs.length cap2, .bool true]) ?_ rfl ⟨⟨_, by dsimp only [Option.map]; rw [show strOfNums t = S from unhide HSX]; rfl, (unhide HO).below hBF⟩, hBF⟩
    clear d0 d1 d2 d3 d4 d5 t0 t1 t2 t3 t4 t5
    simp [results, Tryd.results32, go_sem, e0, e1, e2, e3]
set_option maxRecDepth 100000 in
set_option maxHeartbeats 4000000 in
theorem rnext_q39 (c : Nat) (a : Option Addr) (len cap : Nat) (g : Nat → Int) (hg : ∀ j, 0 ≤ g j ∧ g j ≤ 255) (at' : Nat) (hv : Value) (bs : List Bool) (W : World) (hS : Sl W c (.slice a len cap) len g) (hc : c < W.heap.size) (hO : HOL W hv bs) (hat : at' < len) (hlen : len ≤ 1099511627776) (hbl : bs.length ≤ 1099511627776) (q1 : g at' = 39) :
    Calls Tryd.prog 32 #[.slice a len cap, .int .i64 (at' : Int), hv] W (RNV W at' ((quoP g len (g at') at').map fun y => (y.1, y.2.1, y.2.2, bs))) := by
  have HO := hide hO
  obtain ⟨a2, cap2, rfl, ho1, ho2, ho3⟩ := hO.opn
  clear hO
  unfold maxLen at ho2
  obtain ⟨W1, hW1⟩ : ∃ W1, W.alloc (.cells #[.int .i64 0, .string ⟨#[]⟩, .int .i64 0, .int .i64 0] 33) = W1 := ⟨_, rfl⟩
  have hB1 : Below W.heap.size W W1 := by rw [← hW1]; exact (Below.refl _ W).alloc (Nat.le_refl _) _
  have hz1 : W1.heap.size = W.heap.size + 1 := by rw [← hW1]; simp
  have hr1 : W1.heap[W.heap.size]? = some (.cells #[.int .i64 0, .string ⟨#[]⟩, .int .i64 0, .int .i64 0] 33) := by rw [← hW1]; exact World.alloc_heap_new W _
  have hS1 := hS.keep (B := W1) (fun k e => by subst e; exact hB1.block k hc)
  obtain ⟨off, rfl, h1, h2, hcs⟩ := unhide (sl_cells hS1) (by omega)
  unfold maxLen at h2
  have hck := hcs at' hat
  have n1 : (at' : Int) < len := by omega
  have HCS := hide hcs
  have HS1 := hide hS1
  clear hS hS1 hcs
  have HN0 := hide (rquoted_any c _ len cap g hg at' W1 (unhide HS1) (by omega) hat (by omega) hlen)
  unfold quoP
  obtain ⟨q, hq⟩ : ∃ q, quoI g len (g at') (at' + 1) = q := ⟨_, rfl⟩
  rw [hq] at HN0 ⊢
  rw [q1] at hck
  have hL : isL 39 = false := by decide
  have hD : isD 39 = false := by decide
  clear hq q1
  cases q with
  | none =>
    have HN : Hid (Calls Tryd.prog 44 #[.slice (some ⟨c, off, none⟩) len cap, .int .i64 (at' : Int)] W1 fun x W' => (∃ k S y z, x = .returned (.tuple #[tokV k S y z, .bool false])) ∧ Below W1.heap.size W1 W') := unhide HN0
    clear HN0
    go_enter Tryd.func32, Tryd.ntmps32
    go_wp2_with (first | (go_at_call 40; refine (rLetter_any _ _).mono ?_; rintro x w' ⟨rfl, hw⟩; subst w') | (go_at_call 41; refine (rDigit_any _ _).mono ?_; rintro x w' ⟨rfl, hw⟩; subst w') | (go_at_call 44; refine (unhide HN).mono ?_; rintro x W2 ⟨⟨k, S, y, z, rfl⟩, hB2⟩; obtain ⟨W3, hW3⟩ : ∃ W3, W2.alloc (.cells #[Value.int .i64 k, .string S, .int .i64 y, .int .i64 z] 33) = W3 := ⟨_, rfl⟩; have hz2 := hB2.size; have hz3 : W3.heap.size = W2.heap.size + 1 := (by rw [← hW3]; simp); have hB3 : Below W2.heap.size W2 W3 := (by rw [← hW3]; exact (Below.refl _ _).alloc (Nat.le_refl _) _); have hr5 : W3.heap[W.heap.size]? = some (.cells #[.int .i64 0, .string ⟨#[]⟩, .int .i64 0, .int .i64 0] 33) := (hB3.block W.heap.size (by omega)).trans ((hB2.block W.heap.size (by omega)).trans hr1); obtain ⟨d0, d1, d2, d3⟩ := tok_cells hr5; have d4 := Lib.frozen_of_heap hr5; have d5 : W3.shape? W.heap.size = some (33, 4) := (by simp [World.shape?, hr5]); have ht3 : W3.heap[W2.heap.size]? = some (.cells #[Value.int .i64 k, .string S, .int .i64 y, .int .i64 z] 33) := (by rw [← hW3]; exact World.alloc_heap_new _ _); obtain ⟨t0, t1, t2, t3⟩ := tok_cells ht3; have t4 := Lib.frozen_of_heap ht3; have t5 : W3.shape? W2.heap.size = some (33, 4) := (by simp [World.shape?, ht3])))
    have hB6 := put4_below (W := W3) (Nat.le_refl W.heap.size) (.int .i64 k) (.string S) ((.int .i64 y)) ((.int .i64 z))
    have hr6 := put4_heap hr5 (.int .i64 k) (.string S) ((.int .i64 y)) ((.int .i64 z))
    obtain ⟨W6, hW6⟩ : ∃ W6, ((((W3.setCell ⟨W.heap.size, 0, none⟩ (.int .i64 k)).setCell ⟨W.heap.size, 1, none⟩ (.string S)).setCell ⟨W.heap.size, 2, none⟩ ((.int .i64 y))).setCell ⟨W.heap.size, 3, none⟩ ((.int .i64 z))) = W6 := ⟨_, rfl⟩
    rw [hW6] at hB6 hr6 ⊢
    clear hW6
    obtain ⟨e0, e1, e2, e3⟩ := tok_cells hr6
    have hBF : Below W.heap.size W W6 := ((hB1.trans (hB2.mono hB1.size)).trans (hB3.mono (by omega))).trans hB6
    try rw [Exit.noGoto_ret]
    refine bodyPost_ret (v := .tuple #[.agg #[.int .i64 k, .string S, (.int .i64 y), (.int .i64 z)], .slice a2 bs.length cap2, .bool false]) ?_ rfl ⟨⟨_, _, _, _, _, rfl⟩, hBF⟩
    clear d0 d1 d2 d3 d4 d5 t0 t1 t2 t3 t4 t5
    simp [results, Tryd.results32, go_sem, e0, e1, e2, e3]
  | some x =>
    obtain ⟨t, e'⟩ := x
    obtain ⟨S, hSx⟩ : ∃ S, strOfNums t = S := ⟨_, rfl⟩
    have HN : Hid (Calls Tryd.prog 44 #[.slice (some ⟨c, off, none⟩) len cap, .int .i64 (at' : Int)] W1 fun x W' => x = .returned (.tuple #[tokV 4 S at' (e' : Int), .bool true]) ∧ Below W1.heap.size W1 W') := by rw [← hSx]; exact unhide HN0
    have HSX := hide hSx
    clear HN0 hSx
    go_enter Tryd.func32, Tryd.ntmps32
    go_wp2_with (first | (go_at_call 40; refine (rLetter_any _ _).mono ?_; rintro x w' ⟨rfl, hw⟩; subst w') | (go_at_call 41; refine (rDigit_any _ _).mono ?_; rintro x w' ⟨rfl, hw⟩; subst w') | (go_at_call 44; refine (unhide HN).mono ?_; rintro x W2 ⟨rfl, hB2⟩; obtain ⟨W3, hW3⟩ : ∃ W3, W2.alloc (.cells #[Value.int .i64 4, .string S, .int .i64 (at' : Int), .int .i64 (e' : Int)] 33) = W3 := ⟨_, rfl⟩; have hz2 := hB2.size; have hz3 : W3.heap.size = W2.heap.size + 1 := (by rw [← hW3]; simp); have hB3 : Below W2.heap.size W2 W3 := (by rw [← hW3]; exact (Below.refl _ _).alloc (Nat.le_refl _) _); have hr5 : W3.heap[W.heap.size]? = some (.cells #[.int .i64 0, .string ⟨#[]⟩, .int .i64 0, .int .i64 0] 33) := (hB3.block W.heap.size (by omega)).trans ((hB2.block W.heap.size (by omega)).trans hr1); obtain ⟨d0, d1, d2, d3⟩ := tok_cells hr5; have d4 := Lib.frozen_of_heap hr5; have d5 : W3.shape? W.heap.size = some (33, 4) := (by simp [World.shape?, hr5]); have ht3 : W3.heap[W2.heap.size]? = some (.cells #[Value.int .i64 4, .string S, .int .i64 (at' : Int), .int .i64 (e' : Int)] 33) := (by rw [← hW3]; exact World.alloc_heap_new _ _); obtain ⟨t0, t1, t2, t3⟩ := tok_cells ht3; have t4 := Lib.frozen_of_heap ht3; have t5 : W3.shape? W2.heap.size = some (33, 4) := (by simp [World.shape?, ht3])))
    have hB6 := put4_below (W := W3) (Nat.le_refl W.heap.size) (.int .i64 4) (.string S) ((.int .i64 (at' : Int))) ((.int .i64 (e' : Int)))
    have hr6 := put4_heap hr5 (.int .i64 4) (.string S) ((.int .i64 (at' : Int))) ((.int .i64 (e' : Int)))
    obtain ⟨W6, hW6⟩ : ∃ W6, ((((W3.setCell ⟨W.heap.size, 0, none⟩ (.int .i64 4)).setCell ⟨W.heap.size, 1, none⟩ (.string S)).setCell ⟨W.heap.size, 2, none⟩ ((.int .i64 (at' : Int)))).setCell ⟨W.heap.size, 3, none⟩ ((.int .i64 (e' : Int)))) = W6 := ⟨_, rfl⟩
    rw [hW6] at hB6 hr6 ⊢
    clear hW6
    obtain ⟨e0, e1, e2, e3⟩ := tok_cells hr6
    have hBF : Below W.heap.size W W6 := ((hB1.trans (hB2.mono hB1.size)).trans (hB3.mono (by omega))).trans hB6
    try rw [Exit.noGoto_ret]
    refine bodyPost_ret (v := .tuple #[.agg #[.int .i64 4, .string S, (.int .i64 (at' : Int)), (.int .i64 (e' : Int))], .slice a2 bs.length cap2, .bool true]) ?_ rfl ⟨⟨_, by dsimp only [Option.map]; rw [show strOfNums t = S from unhide HSX]; rfl, (unhide HO).below hBF⟩, hBF⟩
    clear d0 d1 d2 d3 d4 d5 t0 t1 t2 t3 t4 t5
    simp [results, Tryd.results32, go_sem, e0, e1, e2, e3]
end Go.Proofs.YtpdkeggiokebmaaDoor
