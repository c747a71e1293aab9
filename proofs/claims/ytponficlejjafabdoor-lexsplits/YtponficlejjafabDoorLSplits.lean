/- The law LexSplits (P2.3) holds: lex.Split answers as the document's Split at every token, and changes nothing; no condition. -/
import Derived.SevenTiedAt
import Derived.Test.YtponficlejjafabDoorCards
import Derived.Test.YtponficlejjafabDoorXL
import Derived.Test.YtponficlejjafabDoorXH
namespace Go.Proofs.YtponficlejjafabDoor
set_option linter.unusedSimpArgs false
set_option linter.unusedVariables false
open Go.ChangeShapes Go.WideShapes Go.ChangeAt Go.RowKit

set_option maxRecDepth 100000 in
/-- A token that came in: a number, a text, two numbers. -/
theorem open_token {H : Type} {enc : TypeId × Value → H} {W : World} {r : Reach} {b0 base : Nat} {sp : Nat → Bool} {held : Bool} {v : Value} {d : DataW H} {p : List MemPlace} (hval : Value.okWide Tryd.prog W r b0 37 v) (h : DataW.Trod enc Tryd.prog W base sp held 37 v d p) :
    ∃ (k a b : Int) (s : ByteArray), v = .agg #[.int .i64 k, .string s, .int .i64 a, .int .i64 b] ∧ d = .agg [.lit (.int .i64 k), .lit (.string s.data.toList), .lit (.int .i64 a), .lit (.int .i64 b)] := by
  obtain ⟨cs, rfl, hsz⟩ := okWide_struct Tryd.underlying37 hval
  obtain ⟨fuel, hf⟩ := h
  obtain ⟨xs, n, _, hx, hl, hlen, hfs⟩ := DataW.trod_struct Tryd.underlying37 hf
  have c37 : Tryd.prog.cellsOf 37 = 4 := by kernel_rfl
  have c3 : Tryd.prog.cellsOf 3 = 1 := by kernel_rfl
  have c9 : Tryd.prog.cellsOf 9 = 1 := by kernel_rfl
  rw [c37] at hsz
  obtain ⟨l⟩ := cs
  match l, hsz with
  | [v0, v1, v2, v3], _ =>
    have f0 := hfs 0 _ rfl
    have f1 := hfs 1 _ rfl
    have f2 := hfs 2 _ rfl
    have f3 := hfs 3 _ rfl
    simp only [Value.cells, c3, c9, List.drop, List.take] at f0 f1 f2 f3
    match xs, hlen with
    | [y0, y1, y2, y3], _ =>
      simp at f0 f1 f2 f3
      rw [c3] at f0 f2 f3
      rw [c9] at f1
      obtain ⟨k, e0, rfl, _⟩ := DataW.trod_int Tryd.underlying3 f0
      obtain ⟨s, e1, rfl, _⟩ := DataW.trod_string Tryd.underlying9 f1
      obtain ⟨a, e2, rfl, _⟩ := DataW.trod_int Tryd.underlying3 f2
      obtain ⟨b, e3, rfl, _⟩ := DataW.trod_int Tryd.underlying3 f3
      simp at e0 e1 e2 e3 hx
      subst e0 e1 e2 e3
      exact ⟨k, a, b, s, rfl, hx.1⟩

theorem tok_weight {H : Type} (k a b : Int) (s : ByteArray) : s.data.toList.length ∈ DataW.weights Tryd.prog 37 (.agg [.lit (.int .i64 k), .lit (.string s.data.toList), .lit (.int .i64 a), .lit (.int .i64 b)] : DataW H) := by
  simp [DataW.weights, Tryd.underlying37, DataW.weightsEach]

set_option maxRecDepth 100000 in
theorem lexSplits_lifted (os : Os) (started : os.Started) (H : Type) (enc : TypeId × Value → H) :
    ReturnsInHanded {} Tryd.checked os 6 .any (fun w args => (Rows.lexSplitsSpec.pre enc Tryd.prog Tryd.f6 [] false w args ∧ laidMetH Tryd.prog laid5 w) ∧ sizedMet enc Tryd.prog Tryd.f6 (OpenSpec.ofChange Rows.lexSplitsSpec) false w args)
      (Rows.lexSplitsSpec.post enc Tryd.prog Tryd.f6 false true false false) := by
  refine returnsInHanded_of_change_and (C := Tryd.checked) (X := fun w _ => laidMetH Tryd.prog laid5 w) (fun _ _ _ hh h => h.of_heap hh) own started (by kernel_rfl) Tryd.func6
    (ChangeSpec.witness_shaped (enc := enc) (C := Tryd.checked) (os := os) (X := fun w _ => laidMetH Tryd.prog laid5 w) false (World.doorLaid Tryd.prog 60 os) #[.agg #[.int .i64 0, .string ⟨#[]⟩, .int .i64 0, .int .i64 0]] 8 rfl (World.shaped_of_RefB (by kernel_rfl) (by kernel_rfl)) (by kernel_rfl) (by kernel_rfl) (by kernel_rfl) (door_met5 os _)) ?_
  intro W base args ds gs before hval0 hW _ hsz hL _
  have hval : ∀ (j : Nat) t v, Tryd.f6.params[j]? = some t → args[j]? = some v → Value.okWide Tryd.prog W .any base t v := hval0
  have hW' := hW
  obtain ⟨p, q, hA0, hV, rfl, hfz, hnd⟩ := hW
  have hA : DataW.TrodAll enc Tryd.prog W 0 (fun _ => true) true Tryd.f6.params.toList args.toList ds p := hA0
  rw [Tryd.params6] at hA hval hsz
  obtain ⟨v0, d0, rfl, rfl, h0⟩ := trodAll_one hA
  obtain ⟨rfl, rfl⟩ := trodVars_none hV
  have k0 := h0
  have lt0 : ∀ x ∈ p, x.block < W.heap.size := by obtain ⟨m, hm⟩ := k0; exact DataW.trod_lt m _ _ _ hm
  obtain ⟨k, a, b, s, rfl, rfl⟩ := open_token (hval 0 37 v0 rfl rfl) h0
  have hlim : s.size ≤ 281474976710656 := by
    have h := List.all_eq_true.1 hsz s.data.toList.length (DataW.weights_mem_each (j := 0) rfl rfl _ (tok_weight k a b s))
    have h' : s.data.toList.length ≤ reachBytes := by simpa using h
    have hr : reachBytes = 140737488351232 := rfl
    rw [← Lib.size_eq] at h'
    omega
  clear hA0 hval0
  refine (splits_any k a b s W hlim).mono fun e W' ⟨he, bel⟩ => ?_
  subst he
  exact ⟨_, rfl, _, _, _, [], _, [], hW', trodAll_mk1 (shut_bool Tryd.underlying4 _), trodAll_mk1 (Below.trod laidOut (by kernel_rfl) (of_decide_eq_true (by kernel_rfl)) k0 bel lt0), rfl, bel.frame _, fun h => by cases h⟩

theorem lexSplits_holds : Rows.LexSplitsSaid :=
  OpenClaim.holds_of_wide 6 Tryd.f6 rfl rfl rfl rfl rfl rfl rfl ⟨rfl, rfl, rfl, rfl, rfl⟩ rfl rfl rfl rfl rfl (by kernel_rfl) Tryd.func6 (by kernel_rfl)
    (of_decide_eq_true (by kernel_rfl)) (by unfold Func.isWrapper; first | (rw [if_pos (by decide +kernel)]; kernel_rfl) | (rw [if_neg (by decide +kernel)]; exact ⟨rfl, rfl⟩))
    (fun os started H enc _ => lexSplits_lifted os started H enc)

theorem lexSplits_card_holds : Rows.LexSplitsCardSaid :=
  Claim7.holds_tied_plain_at .later [] [.data, .data, .data, .sentinel, .sentinel] true (true, "cb781f9a44b250e70507bf2f9bf90033cda0becf90b50eeafe0ca8c5f4d4d933") true
    lexSplits_holds (fun _ h => by cases h) (by kernel_rfl) (fun _ h => by cases h) lexSplits_row_tie rfl ⟨rfl, rfl⟩ (by kernel_rfl) rfl
    (fun f fn hf hfn => by
      obtain rfl : f = 6 := Option.some.inj ((show Tryd.prog.funcNamed "shuck/shucklaw2.LexSplits" = some 6 by kernel_rfl).symm.trans hf) |>.symm
      obtain rfl : fn = Tryd.f6 := (Option.some.inj (Tryd.func6.symm.trans hfn)).symm
      exact ⟨by kernel_rfl, fun j t ht => by
        rw [Tryd.params6] at ht
        have hm : t ∈ [37] := by simpa using Array.mem_of_getElem? ht
        have hall : ([37].all fun u => !Tryd.prog.wantsStandIn u) = true := by kernel_rfl
        exact (show Tryd.prog.wantsStandIn t = false by simpa using List.all_eq_true.1 hall t hm)⟩)
    (by kernel_rfl)
end Go.Proofs.YtponficlejjafabDoor
