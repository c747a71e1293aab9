/- The law LexJoins (P2.1) holds: the tokens of two texts (the law asks it of up to 1496 bytes in all), one behind the other with a line's end between, are those of the first and those of the second, if no bracket of a template is open between; no condition. -/
import Derived.SevenTiedAt
import Derived.Test.YtpdkeggiokebmaaDoorCards
import Derived.Test.YtpdkeggiokebmaaDoorG0
import Derived.Test.YtpdkeggiokebmaaDoorHS
namespace Go.Proofs.YtpdkeggiokebmaaDoor
set_option linter.unusedSimpArgs false
set_option linter.unusedVariables false
open Go.ChangeShapes Go.WideShapes Go.ChangeAt Go.RowKit

theorem bytes5 : Tryd.prog.bytesOf 5 = 1 := by kernel_rfl
theorem row_weight {H : Type} (xs ys : List (DataW H)) : (xs.length + ys.length) * Tryd.prog.bytesOf 5 ∈ DataW.weights Tryd.prog 22 (.slice xs ys) := by
  simp [DataW.weights, Tryd.underlying22]
set_option maxHeartbeats 2000000 in
theorem lexJoins_big (a b : Option Addr) (la capa lb capb : Nat) (W : World) (hbig : 1496 < la + lb) (h1 : la ≤ 140737488351232) (h2 : lb ≤ 140737488351232) : Calls Tryd.prog 8 #[.slice a la capa, .slice b lb capb] W fun e w' => e = .returned (.bool true) ∧ Below W.heap.size W w' := by
  have hl' : (1496 : Int) < (la : Int) + lb := by omega
  have hld : decide ((1496 : Int) < (la : Int) + lb) = true := by simpa using hl'
  go_enter Tryd.func8, Tryd.ntmps8
  go_wp2
  go_ret
  exact ⟨rfl, Below.refl _ _⟩
set_option maxRecDepth 100000 in
theorem lexJoins_lifted (os : Os) (started : os.Started) (H : Type) (enc : TypeId × Value → H) :
    ReturnsInHanded {} Tryd.checked os 8 .any (fun w args => (Rows.lexJoinsSpec.pre enc Tryd.prog Tryd.f8 [] false w args ∧ laidMetH Tryd.prog laid5 w) ∧ sizedMet enc Tryd.prog Tryd.f8 (OpenSpec.ofChange Rows.lexJoinsSpec) false w args)
      (Rows.lexJoinsSpec.post enc Tryd.prog Tryd.f8 false true false false) := by
  refine returnsInHanded_of_change_and (C := Tryd.checked) (X := fun w _ => laidMetH Tryd.prog laid5 w) (fun _ _ _ hh h => h.of_heap hh) own started (by kernel_rfl) Tryd.func8
    (ChangeSpec.witness_shaped (enc := enc) (C := Tryd.checked) (os := os) (X := fun w _ => laidMetH Tryd.prog laid5 w) false (World.doorLaid Tryd.prog 60 os) #[.slice none 0 0, .slice none 0 0] 8 rfl (World.shaped_of_RefB (by kernel_rfl) (by kernel_rfl)) (by kernel_rfl) (by kernel_rfl) (by kernel_rfl) (door_met5 os _)) ?_
  intro W base args ds gs before hval0 hW _ hsz hL _
  have hval : ∀ (j : Nat) t v, Tryd.f8.params[j]? = some t → args[j]? = some v → Value.okWide Tryd.prog W .any base t v := hval0
  have hW' := hW
  obtain ⟨p, q, hA0, hV, rfl, hfz, hnd⟩ := hW
  have hA : DataW.TrodAll enc Tryd.prog W 0 (fun _ => true) true Tryd.f8.params.toList args.toList ds p := hA0
  rw [Tryd.params8] at hA hval hsz
  obtain ⟨v0, v1, d0, d1, p0, p1, rfl, rfl, rfl, h0, h1⟩ := trodAll_two hA
  obtain ⟨rfl, rfl⟩ := trodVars_none hV
  obtain ⟨a0, len0, cap0, rfl⟩ := okWide_slice Tryd.underlying22 (hval 0 22 v0 rfl rfl)
  obtain ⟨a1, len1, cap1, rfl⟩ := okWide_slice Tryd.underlying22 (hval 1 22 v1 rfl rfl)
  have k0 := h0
  have k1 := h1
  have lt0 : ∀ x ∈ p0, x.block < W.heap.size := by obtain ⟨m, hm⟩ := k0; exact DataW.trod_lt m _ _ _ hm
  have lt1 : ∀ x ∈ p1, x.block < W.heap.size := by obtain ⟨m, hm⟩ := k1; exact DataW.trod_lt m _ _ _ hm
  obtain ⟨z0, w0, l0⟩ : ∃ zs, IsRow W a0 len0 cap0 zs ∧ len0 ≤ 140737488351232 := by
    obtain ⟨fuel, hf⟩ := h0
    rcases open_ints Tryd.underlying22 Tryd.underlying5 (by kernel_rfl) hf with ⟨hcs, _⟩ | ⟨x, l, c, zs, hcs, _, hl, hm, hz, hx, hcell, hwz⟩
    · simp [Value.cells] at hcs
      obtain ⟨rfl, rfl, rfl⟩ := hcs
      exact ⟨[], .inl ⟨rfl, rfl, rfl, rfl⟩, Nat.zero_le _⟩
    · simp [Value.cells] at hcs
      obtain ⟨rfl, rfl, rfl⟩ := hcs
      refine ⟨zs, .inr ⟨_, rfl, hl, hm, by simpa using hz, hcell, hwz⟩, ?_⟩
      have hd : d0 = _ := congrArg Prod.fst hx
      subst hd
      have h := List.all_eq_true.1 hsz _ (DataW.weights_mem_each (j := 0) rfl rfl _ (row_weight _ _))
      have h' : ((lits .u8 (zs.take len0) : List (DataW H)).length + (lits .u8 (zs.drop len0) : List (DataW H)).length) * Tryd.prog.bytesOf 5 ≤ reachBytes := by simpa using h
      have hr : reachBytes = 140737488351232 := rfl
      have hz' : zs.length = cap0 := by simpa using hz
      rw [bytes5, Nat.mul_one, hr] at h'
      simp only [lits, List.length_map, List.length_take, List.length_drop] at h'
      omega
  obtain ⟨z1, w1, l1⟩ : ∃ zs, IsRow W a1 len1 cap1 zs ∧ len1 ≤ 140737488351232 := by
    obtain ⟨fuel, hf⟩ := h1
    rcases open_ints Tryd.underlying22 Tryd.underlying5 (by kernel_rfl) hf with ⟨hcs, _⟩ | ⟨x, l, c, zs, hcs, _, hl, hm, hz, hx, hcell, hwz⟩
    · simp [Value.cells] at hcs
      obtain ⟨rfl, rfl, rfl⟩ := hcs
      exact ⟨[], .inl ⟨rfl, rfl, rfl, rfl⟩, Nat.zero_le _⟩
    · simp [Value.cells] at hcs
      obtain ⟨rfl, rfl, rfl⟩ := hcs
      refine ⟨zs, .inr ⟨_, rfl, hl, hm, by simpa using hz, hcell, hwz⟩, ?_⟩
      have hd : d1 = _ := congrArg Prod.fst hx
      subst hd
      have h := List.all_eq_true.1 hsz _ (DataW.weights_mem_each (j := 1) rfl rfl _ (row_weight _ _))
      have h' : ((lits .u8 (zs.take len1) : List (DataW H)).length + (lits .u8 (zs.drop len1) : List (DataW H)).length) * Tryd.prog.bytesOf 5 ≤ reachBytes := by simpa using h
      have hr : reachBytes = 140737488351232 := rfl
      have hz' : zs.length = cap1 := by simpa using hz
      rw [bytes5, Nat.mul_one, hr] at h'
      simp only [lits, List.length_map, List.length_take, List.length_drop] at h'
      omega
  clear hA0 hval0
  have hE := err_vars hL
  have hpos : 0 < W.heap.size := Nat.lt_trans (by decide) hE.2.lt
  have hnil : ∀ {a : Option Addr} {len cap : Nat} {zs : List Int}, IsRow W a len cap zs → a = none → cap = 0 := fun {a len cap zs} w h => by
    rcases w with ⟨_, _, h, _⟩ | ⟨x, h', _⟩
    · exact h
    · rw [h] at h'; cases h'
  have walk : Calls Tryd.prog 8 #[.slice a0 len0 cap0, .slice a1 len1 cap1] W fun e w' => e = .returned (.bool true) ∧ Below W.heap.size W w' := by
    obtain ⟨b, hb, hS, hR⟩ := w0.view hpos
    obtain ⟨b', hb', hS', hR'⟩ := w1.view hpos
    by_cases hbig : 1496 < len0 + len1
    · exact lexJoins_big a0 a1 len0 cap0 len1 cap1 W hbig l0 l1
    · exact lexJoins_small a0 a1 len0 cap0 b len1 cap1 b' (gZ z0) (gZ z1) w0.bd w1.bd W (by omega) hS hb hR (hnil w0) hS' hb' hR' (hnil w1) hE.1 hE.2
  refine walk.mono fun e W' ⟨he, bel⟩ => ?_
  subst he
  exact ⟨_, rfl, _, _, _, [], _, [], hW', trodAll_mk1 (shut_bool Tryd.underlying4 _), trodAll_mk2 (Below.trod laidOut (by kernel_rfl) (of_decide_eq_true (by kernel_rfl)) k0 bel lt0) (Below.trod laidOut (by kernel_rfl) (of_decide_eq_true (by kernel_rfl)) k1 bel lt1), rfl, bel.frame _, fun h => by cases h⟩

theorem lexJoins_holds : Rows.LexJoinsSaid :=
  OpenClaim.holds_of_wide 8 Tryd.f8 rfl rfl rfl rfl rfl rfl rfl ⟨rfl, rfl, rfl, rfl, rfl⟩ rfl rfl rfl rfl rfl (by kernel_rfl) Tryd.func8 (by kernel_rfl)
    (of_decide_eq_true (by kernel_rfl)) (by unfold Func.isWrapper; first | (rw [if_pos (by decide +kernel)]; kernel_rfl) | (rw [if_neg (by decide +kernel)]; exact ⟨rfl, rfl⟩))
    (fun os started H enc _ => lexJoins_lifted os started H enc)

theorem lexJoins_card_holds : Rows.LexJoinsCardSaid :=
  Claim7.holds_tied_plain_at .later [] [.data, .data, .data, .sentinel, .sentinel] true (true, "e42a534f9b60fb14f12432ce35a86db71f46b58ebc9cc3127765351afa599966") true
    lexJoins_holds (fun _ h => by cases h) (by kernel_rfl) (fun _ h => by cases h) lexJoins_row_tie rfl ⟨rfl, rfl⟩ (by kernel_rfl) rfl
    (fun f fn hf hfn => by
      obtain rfl : f = 8 := Option.some.inj ((show Tryd.prog.funcNamed "shuck/shucklaw2.LexJoins" = some 8 by kernel_rfl).symm.trans hf) |>.symm
      obtain rfl : fn = Tryd.f8 := (Option.some.inj (Tryd.func8.symm.trans hfn)).symm
      exact ⟨by kernel_rfl, fun j t ht => by
        rw [Tryd.params8] at ht
        have hm : t ∈ [22, 22] := by simpa using Array.mem_of_getElem? ht
        have hall : ([22, 22].all fun u => !Tryd.prog.wantsStandIn u) = true := by kernel_rfl
        exact (show Tryd.prog.wantsStandIn t = false by simpa using List.all_eq_true.1 hall t hm)⟩)
    (by kernel_rfl)
end Go.Proofs.YtpdkeggiokebmaaDoor
