/- The law ParsePlaces (P4.5) holds: in the tree of any text (the law asks it of up to 800 bytes) no node stands behind its kids, and each lies in the text; no condition. -/
import Derived.SevenTiedAt
import Derived.Test.YtdliannkiijeiaaGreatDoorCards
import Derived.Test.YtdliannkiijeiaaGreatDoorMEV
import Derived.Test.YtdliannkiijeiaaGreatDoorMGA
import Derived.Test.YtdliannkiijeiaaGreatDoorMPZ
set_option linter.unusedSimpArgs false
set_option linter.unusedVariables false
set_option maxRecDepth 100000
set_option maxHeartbeats 8000000
namespace Go.Proofs.YtdliannkiijeiaaGreatDoor
section
open Go.ChangeShapes Go.WideShapes Go.ChangeAt Go.RowKit
theorem Sl.bel {W w : World} {b len : Nat} {v : Value} {g : Nat → Int} (h : Sl W b v len g) (hw : Below W.heap.size W w) (hb : b < W.heap.size) : Sl w b v len g := by
 rcases h with h | ⟨off, cap, e, h1, h2, h3, hc⟩
 · exact .inl h
 · exact .inr ⟨off, cap, e, h1, h2, h3, fun j hj => (hw.cell (p := ⟨b, off + j, none⟩) hb).trans (hc j hj)⟩
theorem parsePlaces_big (a : Option Addr) (len cap : Nat) (W : World) (hbig : 800 < len) (hl : len ≤ maxLen) : Calls Tryz.prog 6 #[.slice a len cap] W fun e w' => e = .returned (.bool true) ∧ Below W.heap.size W w' := by
 unfold maxLen at hl;have hl' : (800 : Int) < len := by omega
 have hld : decide ((800 : Int) < len) = true := by simpa using hl'
 go_enter Tryz.func6, Tryz.ntmps6;go_wp2;go_ret;exact ⟨rfl, Below.refl _ _⟩
theorem parsePlaces_lifted (os : Os) (started : os.Started) (H : Type) (enc : TypeId × Value → H) :
 ReturnsInHanded {} Tryz.checked os 6 .any (fun w args => (Rows.parsePlacesSpec.pre enc Tryz.prog Tryz.f6 [] false w args ∧ laidMetH Tryz.prog laid5 w) ∧ sizedMet enc Tryz.prog Tryz.f6 (OpenSpec.ofChange Rows.parsePlacesSpec) false w args)
  (Rows.parsePlacesSpec.post enc Tryz.prog Tryz.f6 false true false false) := by
 refine returnsInHanded_of_change_and (C := Tryz.checked) (X := fun w _ => laidMetH Tryz.prog laid5 w) (fun _ _ _ hh h => h.of_heap hh) own started (by kernel_rfl) Tryz.func6
  (ChangeSpec.witness_shaped (enc := enc) (C := Tryz.checked) (os := os) (X := fun w _ => laidMetH Tryz.prog laid5 w) false (World.doorLaid Tryz.prog 90 os) #[.slice none 0 0] 8 rfl (World.shaped_of_RefB (by kernel_rfl) (by kernel_rfl)) (by kernel_rfl) (by kernel_rfl) (by kernel_rfl) (door_met5 os _)) ?_
 intro W base args ds gs before hval0 hW _ _ hL _;have hval : ∀ (j : Nat) t v, Tryz.f6.params[j]? = some t → args[j]? = some v → Value.okWide Tryz.prog W .any base t v := hval0;have hW' := hW;obtain ⟨p, q, hA0, hV, rfl, hfz, hnd⟩ := hW;have hA : DataW.TrodAll enc Tryz.prog W 0 (fun _ => true) true Tryz.f6.params.toList args.toList ds p := hA0;rw [Tryz.params6] at hA hval;obtain ⟨v0, d0, rfl, rfl, h0⟩ := trodAll_one hA;obtain ⟨rfl, rfl⟩ := trodVars_none hV;obtain ⟨a0, len0, cap0, rfl⟩ := okWide_slice Tryz.underlying22 (hval 0 22 v0 rfl rfl);have k0 := h0;have lt0 : ∀ x ∈ p, x.block < W.heap.size := by obtain ⟨m, hm⟩ := k0; exact DataW.trod_lt m _ _ _ hm
 obtain ⟨z0, w0⟩ : ∃ zs, IsRow W a0 len0 cap0 zs := by
  obtain ⟨fuel, hf⟩ := h0;rcases open_ints Tryz.underlying22 Tryz.underlying5 (by kernel_rfl) hf with ⟨hcs, _⟩ | ⟨x, l, c, zs, hcs, _, hl, hm, hz, _, hcell, hwz⟩
  · simp [Value.cells] at hcs
    obtain ⟨rfl, rfl, rfl⟩ := hcs;exact ⟨[], .inl ⟨rfl, rfl, rfl, rfl⟩⟩
  · simp [Value.cells] at hcs
    obtain ⟨rfl, rfl, rfl⟩ := hcs;exact ⟨zs, .inr ⟨_, rfl, hl, hm, by simpa using hz, hcell, hwz⟩⟩
 clear hA0 hval0;have hE := err_vars hL;have hpos : 0 < W.heap.size := Nat.lt_trans (by decide) hE.2.lt
 have walk : Calls Tryz.prog 6 #[.slice a0 len0 cap0] W fun e w' => e = .returned (.bool true) ∧ Below W.heap.size W w' := by
  obtain ⟨b, hb, hS, hR⟩ := w0.view hpos;by_cases hbig : 800 < len0
  · exact parsePlaces_big a0 len0 cap0 W hbig w0.len_le
  · have hS0 : ∀ w, Below W.heap.size W w → Sl w b (.slice a0 len0 cap0) len0 (gZ z0) := fun w hw => hS.bel hw hb
    obtain ⟨r, hr, hok⟩ := prog_any (W := W) w0.bd (by omega) hS0 hb (fun h => by
     rcases w0 with ⟨_, _, h, _⟩ | ⟨x, h', _⟩
     · exact h
     · rw [h] at h'; cases h') hE.1 hE.2
    cases r with
    | tree T => exact places_tree (by omega) hr hok.1 hok.2 hE.1 hE.2
    | bad i c => exact places_bad (by omega) hr hok hE.1 hE.2
 refine walk.mono fun e W' ⟨he, bel⟩ => ?_
 subst he;exact ⟨_, rfl, _, _, _, [], _, [], hW', trodAll_mk1 (shut_bool Tryz.underlying4 _), trodAll_mk1 (Below.trod laidOut (by kernel_rfl) (of_decide_eq_true (by kernel_rfl)) k0 bel lt0), rfl, bel.frame _, fun h => by cases h⟩
theorem parsePlaces_holds : Rows.ParsePlacesSaid :=
 OpenClaim.holds_of_wide 6 Tryz.f6 rfl rfl rfl rfl rfl rfl rfl ⟨rfl, rfl, rfl, rfl, rfl⟩ rfl rfl rfl rfl rfl (by kernel_rfl) Tryz.func6 (by kernel_rfl)
  (of_decide_eq_true (by kernel_rfl)) (by unfold Func.isWrapper; first | (rw [if_pos (by decide +kernel)]; kernel_rfl) | (rw [if_neg (by decide +kernel)]; exact ⟨rfl, rfl⟩))
  (fun os started H enc _ => parsePlaces_lifted os started H enc)
theorem parsePlaces_card_holds : Rows.ParsePlacesCardSaid :=
 Claim7.holds_tied_plain_at .later [] [.data, .data, .data, .sentinel, .sentinel] true (true, "fb54b6211d69dd2612466074cbc86b033849e63d7300648e168139c8ab4651ca") true
  parsePlaces_holds (fun _ h => by cases h) (by kernel_rfl) (fun _ h => by cases h) parsePlaces_row_tie rfl ⟨rfl, rfl⟩ (by kernel_rfl) rfl
  (fun f fn hf hfn => by
   obtain rfl : f = 6 := Option.some.inj ((show Tryz.prog.funcNamed "shuck/shucklaw4.ParsePlaces" = some 6 by kernel_rfl).symm.trans hf) |>.symm;obtain rfl : fn = Tryz.f6 := (Option.some.inj (Tryz.func6.symm.trans hfn)).symm
   exact ⟨by kernel_rfl, fun j t ht => by
    rw [Tryz.params6] at ht;have hm : t ∈ [22] := by simpa using Array.mem_of_getElem? ht
    have hall : ([22].all fun u => !Tryz.prog.wantsStandIn u) = true := by kernel_rfl
    exact (show Tryz.prog.wantsStandIn t = false by simpa using List.all_eq_true.1 hall t hm)⟩)
  (by kernel_rfl)
end
end Go.Proofs.YtdliannkiijeiaaGreatDoor
