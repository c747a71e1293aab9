/- Values as the heap counts them; what is told and thrown. -/
import Derived.Deep.RegionLaw
import Derived.Deep.RegionWith
import Derived.Test.YtdgocaokmmhenaaGreatDoorSh
import Derived.Test.YtdgocaokmmhenaaGreatDoorH6
namespace Go.Proofs.YtdgocaokmmhenaaGreatDoor
set_option linter.unusedSimpArgs false
set_option linter.unusedVariables false
set_option maxRecDepth 100000
open Go.RowKit Go.Shelf

variable {w W : World} {l : Ly} {hb : Nat} {H : PH}
theorem clone38 (s : ByteArray) (w : World) (h : s.size ≤ 281474976710656) : Calls Tryz.prog 64 #[.string s] w fun e w' => e = .returned (.string s) ∧ Below w.heap.size w w' :=
  AnyPu.stringslite_Clone Tryz.clone_lays s w h
theorem clone21 (s : ByteArray) (w : World) (h : s.size ≤ 281474976710656) : Calls Tryz.prog 37 #[.string s] w fun e w' => e = .returned (.string s) ∧ Below w.heap.size w w' := by
  have hh := hide h
  clear h
  go_enter Tryz.func37, Tryz.ntmps37
  go_wp2_with (go_at_call 64; refine (clone38 s _ (unhide hh)).mono ?_; rintro e w1 ⟨rfl, hb⟩)
  go_ret
  exact ⟨rfl, hb⟩
theorem number_any (n : Int) : Ret 67 #[.int .i64 n] (.agg (Vc 3 n ByteArray.empty)) := by
  intro W
  go_enter Tryz.func67, Tryz.ntmps67
  go_wp2
  refine bodyPost_ret (by simp [results, Tryz.results67, go_sem]; rfl) rfl ⟨rfl, below_one _ _⟩
theorem words_any (t : ByteArray) : Ret 68 #[.string t] (.agg (Vc 4 0 t)) := by
  intro W
  go_enter Tryz.func68, Tryz.ntmps68
  go_wp2
  refine bodyPost_ret (by first | (simp [results, Tryz.results68, go_sem]; done) | (simp [results, Tryz.results68, go_sem]; rfl)) rfl ⟨rfl, below_one _ _⟩
theorem boolean_any (b : Bool) : Ret 65 #[.bool b] (.agg (Vc 2 (bI b) ByteArray.empty)) := by
  intro W
  cases b
  all_goals
    go_enter Tryz.func65, Tryz.ntmps65
    go_wp2
    refine bodyPost_ret (by simp [results, Tryz.results65, go_sem]; rfl) rfl ⟨rfl, below_two _ _ _⟩
/-- What Truth answers. -/
def truP (k n : Int) (t : ByteArray) : Bool := if k = 2 ∨ k = 3 then n != 0 else if k = 4 then !t.toList.isEmpty else k == 5
theorem Truth_two (n : Int) (t : ByteArray) : Ret 66 #[.agg (Vc 2 n t)] (.bool (n != 0)) := by
  intro W
  unfold Vc
  go_enter Tryz.func66, Tryz.ntmps66
  go_wp2
  go_ret
  exact ⟨rfl, below_one _ _⟩
/-- A value with its text copied. -/
theorem copied_any (k n : Int) (t : ByteArray) (ht : t.size ≤ 281474976710656) : Ret 40 #[.agg (Vc k n t)] (.agg (Vc k n t)) := by
  intro W
  unfold Vc
  obtain ⟨W2, hW2, b1, b2, hb, hz⟩ := two_boxes W k n t
  obtain ⟨c0, c1, c2, f0, f1, f2, lt⟩ := b1.all
  have B1 := hide b1
  have B2 := hide b2
  have HB := hide hb
  have HZ := hide hz
  have HT := hide ht
  clear b1 b2 hb hz ht
  go_enter Tryz.func40, Tryz.ntmps40
  go_wp2_with (go_at_call 37; refine (clone21 _ _ (unhide HT)).mono ?_; rintro e w1 ⟨rfl, hb1⟩; have hz := unhide HZ; have E1 := hide ((unhide B1).below hb1 (by omega)); have E2 := hide ((unhide B2).below hb1 (by omega)); obtain ⟨c0, c1, c2, f0, f1, f2, lt⟩ := (unhide E1).all; obtain ⟨d0, d1, d2, g0, g1, g2, lt'⟩ := (unhide E2).all; have HB1 := hide ((unhide HB).trans (hb1.mono (by omega))))
  exact ret_v Tryz.results40 rfl ((unhide E2).other (by omega) _) rfl ((unhide HB1).setCell (Nat.le_refl _) _) (by omega) rfl
/-- What is told: the value, no text, no fault. -/
theorem told_any (k n : Int) (t : ByteArray) (ht : t.size ≤ 281474976710656) : Ret 47 #[.agg (Vc k n t)] (Tr k n t ⟨#[]⟩ 0) := by
  intro W
  have HC := hide (copied_any k n t ht)
  unfold Tr
  unfold Vc at HC ⊢
  obtain ⟨W2, hW2, b1, b2, hb, hz⟩ := two_boxes W k n t
  obtain ⟨c0, c1, c2, f0, f1, f2, lt⟩ := b1.all
  have B1 := hide b1
  have B2 := hide b2
  have HB := hide hb
  have HZ := hide hz
  clear b1 b2 hb hz ht
  go_enter Tryz.func47, Tryz.ntmps47
  go_wp2_with (go_at_call 40; refine (unhide HC _).mono ?_; rintro e w1 ⟨rfl, hb1⟩; have hz := unhide HZ; have E2 := hide ((unhide B2).below hb1 (by omega)); obtain ⟨d0, d1, d2, g0, g1, g2, lt'⟩ := (unhide E2).all; have HB1 := hide ((unhide HB).trans (hb1.mono (by omega))))
  exact ret_vsf Tryz.results47 rfl rfl rfl (unhide E2) rfl (unhide HB1) (by omega) rfl
theorem two_zero (W : World) : ∃ W2, (W.alloc (.cells #[.int .i64 0, .int .i64 0, .string ⟨#[]⟩] 23)).alloc (.cells #[.int .i64 0, .int .i64 0, .string ⟨#[]⟩] 23) = W2 ∧ Bv W2 W.heap.size 0 0 ⟨#[]⟩ ∧ Bv W2 (W.heap.size + 1) 0 0 ⟨#[]⟩ ∧ Below W.heap.size W W2 ∧ W2.heap.size = W.heap.size + 2 := two_boxes W 0 0 ⟨#[]⟩
/-- What is thrown. -/
theorem threw_any (s : ByteArray) (h : s.size ≤ 281474976710656) : Ret 46 #[.string s] (Tr 0 0 ByteArray.empty s 1) := by
  intro W
  obtain ⟨W2, hW2, b1, b2, hb, hz⟩ := two_zero W
  obtain ⟨c0, c1, c2, f0, f1, f2, lt⟩ := b2.all
  obtain ⟨d0, d1, d2, g0, g1, g2, lt'⟩ := b1.all
  have B1 := hide b1
  have B2 := hide b2
  have HB := hide hb
  have HZ := hide hz
  have HH := hide h
  clear b1 b2 hb hz h
  go_enter Tryz.func46, Tryz.ntmps46
  go_wp2
  go_region_law (go_simp; go_at_call 37; refine (clone21 _ _ (unhide HH)).mono ?_; rintro e w1 ⟨rfl, hb1⟩; have hz := unhide HZ; have hb2 : Below W2.heap.size W2 w1 := (Below.refl _ W2).drew.trans hb1; have E1 := hide ((unhide B1).below hb2 (by omega)); have E2 := hide ((unhide B2).below hb2 (by omega)); obtain ⟨x0, x1, x2, y0, y1, y2, ly⟩ := (unhide E1).all; obtain ⟨u0, u1, u2, v0, v1, v2, lv⟩ := (unhide E2).all; have HB1 := hide ((unhide HB).trans (hb2.mono (by omega))); clear hb1 hb2)
  all_goals (
    go_wp2
    have hz := unhide HZ
    exact ret_vsf Tryz.results46 rfl rfl rfl (unhide E1) rfl (unhide HB1) (by omega) rfl)
theorem threwB_any (s : ByteArray) (h : s.size ≤ 281474976710656) : Ret 55 #[.string s] (.tuple #[.bool false, .string s, .int .i64 1]) := by
  intro W
  have HH := hide h
  clear h
  go_enter Tryz.func55, Tryz.ntmps55
  go_wp2_with (go_at_call 37; refine (clone21 _ _ (unhide HH)).mono ?_; rintro e w1 ⟨rfl, hb1⟩)
  refine bodyPost_ret (by simp [results, Tryz.results55, go_sem]) rfl ⟨rfl, hb1⟩
/-- A value as it counts here, where it is no thing's. -/
theorem settled_2 (hp : Value) (n : Int) (t : ByteArray) (b : Bool) (hn : (n != 0) = b) : Ret 41 #[hp, .agg (Vc 2 n t)] (.agg (Vc 2 (bI b) ByteArray.empty)) := by
  intro W
  have HT := hide (Truth_two n t)
  rw [hn] at HT
  unfold Vc at HT
  unfold Vc
  obtain ⟨W2, hW2, b1, b2, hb, hz⟩ := two_boxes W 2 n t
  obtain ⟨c0, c1, c2, f0, f1, f2, lt⟩ := b1.all
  have B1 := hide b1
  have B2 := hide b2
  have HB := hide hb
  have HZ := hide hz
  clear b1 b2 hb hz
  go_enter Tryz.func41, Tryz.ntmps41
  go_wp2_with (first
    | (go_at_call 66; refine (unhide HT _).mono ?_; rintro e w3 ⟨rfl, hb3⟩; have B2 := hide ((unhide B2).below hb3 (by have := unhide HZ; omega)); have HZ3 := hide hb3.size; have HB := hide ((unhide HB).trans (hb3.mono (by have := unhide HZ; omega))); clear hb3)
    | (go_at_call 65; refine (boolean_any _ _).mono ?_; rintro e w1 ⟨rfl, hb'⟩; unfold Vc; have hz := unhide HZ; have hz3 := unhide HZ3; have E2 := hide ((unhide B2).below hb' (by omega)); obtain ⟨d0, d1, d2, g0, g1, g2, lt'⟩ := (unhide E2).all))
  have hz := unhide HZ
  have hz3 := unhide HZ3
  exact ret_v Tryz.results41 rfl (unhide E2) rfl ((unhide HB).trans (hb'.mono (by omega))) (by omega) rfl
theorem settled_none (hp : Value) {k n : Int} {t : ByteArray} (h : k ≠ 1 ∧ k ≠ 2 ∧ k ≠ 3 ∧ k ≠ 4 ∧ k ≠ 5) : Ret 41 #[hp, .agg (Vc k n t)] (.agg (Vc 0 0 ByteArray.empty)) := by
  intro W
  obtain ⟨h1, h2, h3, h4, h5⟩ := h
  have e1 : (k == 1) = false := by simp [h1]
  have e2 : (k == 2) = false := by simp [h2]
  have e3 : (k == 3) = false := by simp [h3]
  have e4 : (k == 4) = false := by simp [h4]
  have e5 : (k == 5) = false := by simp [h5]
  clear h1 h2 h3 h4 h5
  unfold Vc
  go_enter Tryz.func41, Tryz.ntmps41
  go_wp2
  refine bodyPost_ret (by simp [results, Tryz.results41, go_sem]; rfl) rfl ⟨rfl, below_two _ _ _⟩
theorem settled_1 (hp : Value) (n : Int) (t : ByteArray) : Ret 41 #[hp, .agg (Vc 1 n t)] (.agg (Vc 1 0 ByteArray.empty)) := by
  intro W
  unfold Vc
  go_enter Tryz.func41, Tryz.ntmps41
  go_wp2
  refine bodyPost_ret (by simp [results, Tryz.results41, go_sem]; rfl) rfl ⟨rfl, below_two _ _ _⟩
theorem settled_4 (hp : Value) (n : Int) (t : ByteArray) : Ret 41 #[hp, .agg (Vc 4 n t)] (.agg (Vc 4 0 t)) := by
  intro W
  unfold Vc
  obtain ⟨W2, hW2, b1, b2, hb, hz⟩ := two_boxes W 4 n t
  obtain ⟨c0, c1, c2, f0, f1, f2, lt⟩ := b1.all
  have B2 := hide b2
  have HB := hide hb
  have HZ := hide hz
  clear b1 b2 hb hz
  go_enter Tryz.func41, Tryz.ntmps41
  go_wp2_with (go_at_call 68; refine (words_any _ _).mono ?_; rintro e w1 ⟨rfl, hb'⟩; unfold Vc; have hz := unhide HZ; have E2 := hide ((unhide B2).below hb' (by omega)); obtain ⟨d0, d1, d2, g0, g1, g2, lt'⟩ := (unhide E2).all)
  have hz := unhide HZ
  exact ret_v Tryz.results41 rfl (unhide E2) rfl ((unhide HB).trans (hb'.mono (by omega))) (by omega) rfl
theorem clamp_eq (n : Int) : min (max n (-9007199254740991)) 9007199254740991 = clampN n := by unfold clampN; split; omega; split <;> omega
theorem settled_3 (hp : Value) (n : Int) (t : ByteArray) (m : Int) (hm : clampN n = m) : Ret 41 #[hp, .agg (Vc 3 n t)] (.agg (Vc 3 m ByteArray.empty)) := by
  intro W
  have HQ := hide ((clamp_eq n).trans hm)
  unfold Vc
  obtain ⟨W2, hW2, b1, b2, hb, hz⟩ := two_boxes W 3 n t
  obtain ⟨c0, c1, c2, f0, f1, f2, lt⟩ := b1.all
  have B2 := hide b2
  have HB := hide hb
  have HZ := hide hz
  have HN : Hid (Ret 67 #[.int .i64 m] (.agg (Vc 3 m ByteArray.empty))) := number_any m
  unfold Vc at HN
  clear b1 b2 hb hz hm
  go_enter Tryz.func41, Tryz.ntmps41
  go_wp2_with (go_at_call 67; rw [unhide HQ]; refine (unhide HN _).mono ?_; rintro e w1 ⟨rfl, hb'⟩; have hz := unhide HZ; have E2 := hide ((unhide B2).below hb' (by omega)); obtain ⟨d0, d1, d2, g0, g1, g2, lt'⟩ := (unhide E2).all)
  have hz := unhide HZ
  exact ret_v Tryz.results41 rfl (unhide E2) rfl ((unhide HB).trans (hb'.mono (by omega))) (by omega) rfl
/-- Is there a thing of that number? -/
def isTh (H : PH) (n : Int) : Bool := decide (0 ≤ n ∧ n < H.ths.length)
theorem thR_is (l : Ly) (H : PH) (n : Int) : ∃ x, thR l H n = .tuple #[x, .bool (isTh H n)] := by
  unfold thR isTh
  split
  · exact ⟨_, by rw [decide_eq_false (by omega)]⟩
  · cases hi : H.ths[n.toNat]? with
    | none => exact ⟨_, by rw [decide_eq_false (by have := List.getElem?_eq_none_iff.1 hi; omega)]⟩
    | some t => exact ⟨_, by rw [decide_eq_true (by have := (List.getElem?_eq_some_iff.1 hi).1; omega)]⟩
theorem settled_5 (h : HAt W l hb H) (n : Int) (t : ByteArray) (k' n' : Int) (he : (if isTh H n then ((5 : Int), n) else (0, 0)) = (k', n')) : Calls Tryz.prog 41 #[ptr hb, .agg (Vc 5 n t)] W fun e w' => e = .returned (.agg (Vc k' n' ByteArray.empty)) ∧ Below W.heap.size W w' := by
  unfold Vc
  obtain ⟨W2, hW2, b1, b2, hb', hz⟩ := two_boxes W 5 n t
  obtain ⟨c0, c1, c2, f0, f1, f2, lt⟩ := b1.all
  have HT := hide (thing_any (h.below hb') n)
  obtain ⟨x, hx⟩ := thR_is l H n
  rw [hx] at HT
  have B1 := hide b1
  have B2 := hide b2
  have HB := hide hb'
  have HZ := hide hz
  clear b1 b2 hb' hz h hx
  unfold ptr at HT ⊢
  cases hi : isTh H n with
  | true =>
    rw [hi] at he HT
    simp at he
    obtain ⟨rfl, rfl⟩ := he
    go_enter Tryz.func41, Tryz.ntmps41
    go_wp2_with (go_at_call 61; refine (unhide HT).mono ?_; rintro e w1 ⟨rfl, hb'⟩; have hz := unhide HZ; have E1 := hide ((unhide B1).below hb' (by omega)); have E2 := hide ((unhide B2).below hb' (by omega)); obtain ⟨d0, d1, d2, g0, g1, g2, lt'⟩ := (unhide E2).all; obtain ⟨x0, x1, x2, y0, y1, y2, ly⟩ := (unhide E1).all)
    have hz := unhide HZ
    exact ret_v Tryz.results41 rfl (unhide E2) rfl ((unhide HB).trans (hb'.mono (by omega))) (by omega) rfl
  | false =>
    rw [hi] at he HT
    simp at he
    obtain ⟨rfl, rfl⟩ := he
    go_enter Tryz.func41, Tryz.ntmps41
    go_wp2_with (go_at_call 61; refine (unhide HT).mono ?_; rintro e w1 ⟨rfl, hb'⟩; have hz := unhide HZ; have E1 := hide ((unhide B1).below hb' (by omega)); have E2 := hide ((unhide B2).below hb' (by omega)); obtain ⟨d0, d1, d2, g0, g1, g2, lt'⟩ := (unhide E2).all; obtain ⟨x0, x1, x2, y0, y1, y2, ly⟩ := (unhide E1).all)
    have hz := unhide HZ
    exact ret_v Tryz.results41 rfl (unhide E2) rfl ((unhide HB).trans (hb'.mono (by omega))) (by omega) rfl
/-- A value as it counts. -/
def stl (H : PH) (v : PV) : PV := if v.k = 1 then ⟨1, 0, ByteArray.empty⟩ else if v.k = 2 then ⟨2, bI (v.n != 0), ByteArray.empty⟩ else if v.k = 3 then ⟨3, clampN v.n, ByteArray.empty⟩ else if v.k = 4 then ⟨4, 0, v.t⟩ else if v.k = 5 ∧ isTh H v.n = true then ⟨5, v.n, ByteArray.empty⟩ else PV.und
theorem settled_any (h : HAt W l hb H) (v : PV) : Calls Tryz.prog 41 #[ptr hb, v.agg] W fun e w' => e = .returned (stl H v).agg ∧ Below W.heap.size W w' := by
  obtain ⟨k, n, t⟩ := v
  unfold stl PV.agg
  by_cases h1 : k = 1
  · subst h1; exact settled_1 _ n t W
  by_cases h2 : k = 2
  · subst h2; exact settled_2 _ n t _ rfl W
  by_cases h3 : k = 3
  · subst h3; exact settled_3 _ n t _ rfl W
  by_cases h4 : k = 4
  · subst h4; exact settled_4 _ n t W
  by_cases h5 : k = 5
  · subst h5
    cases hi : isTh H n
    · have := settled_5 h n t 0 0 (by rw [hi]; rfl)
      simpa [hi, PV.und] using this
    · have := settled_5 h n t 5 n (by rw [hi]; rfl)
      simpa [hi] using this
  · have := settled_none (ptr hb) (n := n) (t := t) ⟨h1, h2, h3, h4, h5⟩ W
    simpa [h1, h2, h3, h4, h5, PV.und] using this
end Go.Proofs.YtdgocaokmmhenaaGreatDoor
