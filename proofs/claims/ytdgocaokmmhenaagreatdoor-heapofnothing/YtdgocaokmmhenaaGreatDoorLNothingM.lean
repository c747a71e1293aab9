/- The law HeapOfNothing (P15.11, W8): a nil Heap and a new one answer one step of any kind as the document's empty one; no condition. -/
import Derived.SevenTiedAt
import Derived.Test.YtdgocaokmmhenaaGreatDoorCards
import Derived.Test.YtdgocaokmmhenaaGreatDoorVL
import Derived.Test.YtdgocaokmmhenaaGreatDoorWD
namespace Go.Proofs.YtdgocaokmmhenaaGreatDoor
set_option linter.unusedSimpArgs false
set_option linter.unusedVariables false
open Go.ChangeShapes Go.WideShapes Go.ChangeAt Go.RowKit Go.ChangeMaps

theorem open_field {H : Type} {enc : TypeId × Value → H} {W : World} {base : Nat} {sp : Nat → Bool} {held : Bool} {fuel : Nat} {v0 v1 v2 : Value} {y : DataW H × List MemPlace} (hf : DataW.trod enc Tryz.prog W base sp held fuel 23 [v0, v1, v2] = some y) :
    ∃ (k n : Int) (t : ByteArray), v0 = .int .i64 k ∧ v1 = .int .i64 n ∧ v2 = .string t ∧ y.1 = .agg [.lit (.int .i64 k), .lit (.int .i64 n), .lit (.string t.data.toList)] := by
  obtain ⟨xs, m, _, hx, hl, hlen, hfs⟩ := DataW.trod_struct Tryz.underlying23 hf
  have c3 : Tryz.prog.cellsOf 3 = 1 := by kernel_rfl
  have c9 : Tryz.prog.cellsOf 9 = 1 := by kernel_rfl
  have f0 := hfs 0 _ rfl
  have f1 := hfs 1 _ rfl
  have f2 := hfs 2 _ rfl
  try simp only [c3, c9, List.drop, List.take] at f0 f1 f2
  match xs, hlen with
  | [y0, y1, y2], _ =>
    simp at f0 f1 f2
    rw [c3] at f0 f1
    rw [c9] at f2
    obtain ⟨k, e0, rfl, w0⟩ := DataW.trod_int Tryz.underlying3 f0
    obtain ⟨n, e1, rfl, w1⟩ := DataW.trod_int Tryz.underlying3 f1
    obtain ⟨s, e2, rfl, _⟩ := DataW.trod_string Tryz.underlying9 f2
    simp at e0 e1 e2 hx
    subst e0 e1 e2
    exact ⟨k, n, s, rfl, rfl, rfl, by rw [hx]⟩
def Vd {H : Type} (k n : Int) (t : ByteArray) : DataW H := .agg [.lit (.int .i64 k), .lit (.int .i64 n), .lit (.string t.data.toList)]
set_option maxRecDepth 100000 in
/-- A step that came in. -/
theorem open_step {H : Type} {enc : TypeId × Value → H} {W : World} {r : Reach} {b0 base : Nat} {sp : Nat → Bool} {held : Bool} {v : Value} {d : DataW H} {p : List MemPlace} (hval : Value.okWide Tryz.prog W r b0 25 v) (h : DataW.Trod enc Tryz.prog W base sp held 25 v d p) :
    ∃ (k n m vk vn : Int) (vt : ByteArray) (wk wn : Int) (wt : ByteArray) (xk xn : Int) (xt key : ByteArray), v = .agg (Sc k n m vk vn vt wk wn wt xk xn xt key) ∧ d = .agg [.lit (.int .i64 k), .lit (.int .i64 n), .lit (.int .i64 m), Vd vk vn vt, Vd wk wn wt, Vd xk xn xt, .lit (.string key.data.toList)] := by
  obtain ⟨cs, rfl, hsz⟩ := okWide_struct Tryz.underlying25 hval
  obtain ⟨fuel, hf⟩ := h
  obtain ⟨xs, mm, _, hx, hl, hlen, hfs⟩ := DataW.trod_struct Tryz.underlying25 hf
  have c25 : Tryz.prog.cellsOf 25 = 13 := by kernel_rfl
  have c23 : Tryz.prog.cellsOf 23 = 3 := by kernel_rfl
  have c3 : Tryz.prog.cellsOf 3 = 1 := by kernel_rfl
  have c9 : Tryz.prog.cellsOf 9 = 1 := by kernel_rfl
  rw [c25] at hsz
  obtain ⟨l⟩ := cs
  match l, hsz with
  | [v0, v1, v2, v3, v4, v5, v6, v7, v8, v9, v10, v11, v12], _ =>
    have f0 := hfs 0 _ rfl
    have f1 := hfs 1 _ rfl
    have f2 := hfs 2 _ rfl
    have f3 := hfs 3 _ rfl
    have f4 := hfs 4 _ rfl
    have f5 := hfs 5 _ rfl
    have f6 := hfs 6 _ rfl
    simp only [Value.cells, c3, c9, c23, List.drop, List.take] at f0 f1 f2 f3 f4 f5 f6
    match xs, hlen with
    | [y0, y1, y2, y3, y4, y5, y6], _ =>
      simp at f0 f1 f2 f3 f4 f5 f6
      rw [c3] at f0 f1 f2
      rw [c9] at f6
      rw [c23] at f3 f4 f5
      obtain ⟨k, e0, rfl, _⟩ := DataW.trod_int Tryz.underlying3 f0
      obtain ⟨n, e1, rfl, _⟩ := DataW.trod_int Tryz.underlying3 f1
      obtain ⟨m, e2, rfl, _⟩ := DataW.trod_int Tryz.underlying3 f2
      obtain ⟨vk, vn, vt, rfl, rfl, rfl, g3⟩ := open_field f3
      obtain ⟨wk, wn, wt, rfl, rfl, rfl, g4⟩ := open_field f4
      obtain ⟨xk, xn, xt, rfl, rfl, rfl, g5⟩ := open_field f5
      obtain ⟨s, e6, rfl, _⟩ := DataW.trod_string Tryz.underlying9 f6
      simp at e0 e1 e2 e6 hx
      subst e0 e1 e2 e6
      refine ⟨k, n, m, vk, vn, vt, wk, wn, wt, xk, xn, xt, s, rfl, ?_⟩
      rw [hx.1, g3, g4, g5]
      rfl
theorem step_weight {H : Type} (k n m vk vn : Int) (vt : ByteArray) (wk wn : Int) (wt : ByteArray) (xk xn : Int) (xt key s : ByteArray) (hs : s = vt ∨ s = wt ∨ s = xt ∨ s = key) : s.data.toList.length ∈ DataW.weights Tryz.prog 25 (.agg [.lit (.int .i64 k), .lit (.int .i64 n), .lit (.int .i64 m), Vd vk vn vt, Vd wk wn wt, Vd xk xn xt, .lit (.string key.data.toList)] : DataW H) := by
  rcases hs with rfl | rfl | rfl | rfl <;> simp [DataW.weights, Vd, Tryz.underlying25, Tryz.underlying23, DataW.weightsEach]

set_option maxRecDepth 100000 in
theorem heapOfNothing_lifted (os : Os) (started : os.Started) (H : Type) (enc : TypeId × Value → H) :
    ReturnsInHanded {} Tryz.checked os 3 .any (fun w args => (Rows.heapOfNothingSpec.pre enc Tryz.prog Tryz.f3 [] false w args ∧ laidMetH Tryz.prog laid3 w) ∧ sizedMet enc Tryz.prog Tryz.f3 (OpenSpec.ofChange Rows.heapOfNothingSpec) false w args)
      (Rows.heapOfNothingSpec.post enc Tryz.prog Tryz.f3 false true false false) := by
  refine returnsInHanded_of_change_and (C := Tryz.checked) (X := fun w _ => laidMetH Tryz.prog laid3 w) (fun _ _ _ hh h => h.of_heap hh) own started (by kernel_rfl) Tryz.func3
    (ChangeSpec.witness_shaped (enc := enc) (C := Tryz.checked) (os := os) (X := fun w _ => laidMetH Tryz.prog laid3 w) false (World.doorLaid Tryz.prog 24 os) #[.agg #[.int .i64 0, .int .i64 0, .int .i64 0, .int .i64 0, .int .i64 0, .string ⟨#[]⟩, .int .i64 0, .int .i64 0, .string ⟨#[]⟩, .int .i64 0, .int .i64 0, .string ⟨#[]⟩, .string ⟨#[]⟩]] 8 rfl (World.shaped_of_RefB (by kernel_rfl) (by kernel_rfl)) (by kernel_rfl) (by kernel_rfl) (by kernel_rfl) (door_met os _)) ?_
  intro W base args ds gs before hval0 hW _ hsz hL _
  have hval : ∀ (j : Nat) t v, Tryz.f3.params[j]? = some t → args[j]? = some v → Value.okWide Tryz.prog W .any base t v := hval0
  have hW' := hW
  obtain ⟨p, q, hA0, hV, rfl, hfz, hnd⟩ := hW
  have hA : DataW.TrodAll enc Tryz.prog W 0 (fun _ => true) true Tryz.f3.params.toList args.toList ds p := hA0
  rw [Tryz.params3] at hA hval hsz
  obtain ⟨v0, d0, rfl, rfl, h0⟩ := trodAll_one hA
  obtain ⟨rfl, rfl⟩ := trodVars_none hV
  have k0 := h0
  have lt0 : ∀ x ∈ p, x.block < W.heap.size := by obtain ⟨m, hm⟩ := k0; exact DataW.trod_lt m _ _ _ hm
  obtain ⟨k, n, m, vk, vn, vt, wk, wn, wt, xk, xn, xt, key, rfl, rfl⟩ := open_step (hval 0 25 v0 rfl rfl) h0
  have wgt : ∀ s : ByteArray, (s = vt ∨ s = wt ∨ s = xt ∨ s = key) → s.size ≤ 140737488355328 := fun s hs => by
    have h := List.all_eq_true.1 hsz s.data.toList.length (DataW.weights_mem_each (j := 0) rfl rfl _ (step_weight k n m vk vn vt wk wn wt xk xn xt key s hs))
    have h' : s.data.toList.length ≤ reachBytes := by simpa using h
    have hr : reachBytes = 140737488351232 := rfl
    rw [← Lib.size_eq] at h'
    omega
  clear hA0 hval0
  have walk : Calls Tryz.prog 3 #[.agg (Sc k n m vk vn vt wk wn wt xk xn xt key)] W fun e w' => e = .returned (.bool true) ∧ Below W.heap.size W w' := nothing_any W (tab_is hL) (wgt vt (.inl rfl)) (wgt wt (.inr (.inl rfl))) (wgt xt (.inr (.inr (.inl rfl)))) (wgt key (.inr (.inr (.inr rfl))))
  refine walk.mono fun e W' ⟨he, bel⟩ => ?_
  subst he
  exact ⟨_, rfl, _, _, _, [], _, [], hW', trodAll_mk1 (shut_bool Tryz.underlying4 _), trodAll_mk1 (Below.trod laidOut (by kernel_rfl) (of_decide_eq_true (by kernel_rfl)) k0 bel lt0), rfl, bel.frame _, fun h => by cases h⟩

theorem heapOfNothing_holds : Rows.HeapOfNothingSaid :=
  OpenClaim.holds_of_wide 3 Tryz.f3 rfl rfl rfl rfl rfl rfl rfl ⟨rfl, rfl, rfl, rfl, rfl⟩ rfl rfl rfl rfl rfl (by kernel_rfl) Tryz.func3 (by kernel_rfl)
    (of_decide_eq_true (by kernel_rfl)) (by unfold Func.isWrapper; first | (rw [if_pos (by decide +kernel)]; kernel_rfl) | (rw [if_neg (by decide +kernel)]; exact ⟨rfl, rfl⟩))
    (fun os started H enc _ => heapOfNothing_lifted os started H enc)

theorem heapOfNothing_card_holds : Rows.HeapOfNothingCardSaid :=
  Claim7.holds_tied_plain_at .later [] [.data, .data, .data] true (true, "0b733547a6e23fd54300b724370646ee84b3b94bd093d0607e989f8fdb0a0582") true
    heapOfNothing_holds (fun _ h => by cases h) (by kernel_rfl) (fun _ h => by cases h) heapOfNothing_row_tie rfl ⟨rfl, rfl⟩ (by kernel_rfl) rfl
    (fun f fn hf hfn => by
      obtain rfl : f = 3 := Option.some.inj ((show Tryz.prog.funcNamed "shuck/shucklaw15.HeapOfNothing" = some 3 by kernel_rfl).symm.trans hf) |>.symm
      obtain rfl : fn = Tryz.f3 := (Option.some.inj (Tryz.func3.symm.trans hfn)).symm
      exact ⟨by kernel_rfl, fun j t ht => by
        rw [Tryz.params3] at ht
        have hm : t ∈ [25] := by simpa using Array.mem_of_getElem? ht
        have hall : ([25].all fun u => !Tryz.prog.wantsStandIn u) = true := by kernel_rfl
        exact (show Tryz.prog.wantsStandIn t = false by simpa using List.all_eq_true.1 hall t hm)⟩)
    (by kernel_rfl)
end Go.Proofs.YtdgocaokmmhenaaGreatDoor
