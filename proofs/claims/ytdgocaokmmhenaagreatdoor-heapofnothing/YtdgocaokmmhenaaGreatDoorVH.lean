/- said, Text; known answers true. -/
import Derived.Test.YtdgocaokmmhenaaGreatDoorV2
namespace Go.Proofs.YtdgocaokmmhenaaGreatDoor
set_option linter.unusedSimpArgs false
set_option linter.unusedVariables false
set_option maxRecDepth 100000
open Go.RowKit Go.Shelf

/-- In every world above A the call answers this, and turns nothing that lay there. -/
def RetA (A : World) (f : FuncId) (args : Array Value) (v : Value) : Prop := ∀ W, Below A.heap.size A W → Calls Tryz.prog f args W fun e w' => e = .returned v ∧ Below W.heap.size W w'
theorem Ret.at {f : FuncId} {args : Array Value} {v : Value} (h : Ret f args v) (A : World) : RetA A f args v := fun W _ => h W
theorem Below.upp {A W w : World} (h : Below A.heap.size A W) (k : Below W.heap.size W w) : Below A.heap.size A w := h.trans (k.mono h.size)
def trueT : ByteArray := ⟨#[116, 114, 117, 101]⟩
def falseT : ByteArray := ⟨#[102, 97, 108, 115, 101]⟩
def undefT : ByteArray := ⟨#[117, 110, 100, 101, 102, 105, 110, 101, 100]⟩
def nullT : ByteArray := ⟨#[110, 117, 108, 108]⟩
def boolT (b : Bool) : ByteArray := if b then trueT else falseT
theorem fbool_81 (b : Bool) : Ret 83 #[.bool b] (.string (boolT b)) := by
  intro W
  cases b
  all_goals
    go_enter Tryz.func83, Tryz.ntmps83
    go_wp2
    go_ret
    exact ⟨rfl, Below.refl _ _⟩
theorem fbool_72 (b : Bool) : Ret 76 #[.bool b] (.string (boolT b)) := by
  intro W
  obtain ⟨s, hs⟩ : ∃ s, boolT b = s := ⟨_, rfl⟩
  have H := hide (fbool_81 b)
  rw [hs] at H ⊢
  clear hs
  go_enter Tryz.func76, Tryz.ntmps76
  go_wp2_with (go_at_call 83; refine (unhide H _).mono ?_; rintro e w1 ⟨rfl, hb⟩)
  go_ret
  exact ⟨rfl, hb⟩
theorem said_0 (n : Int) (t : ByteArray) : Ret 69 #[.agg (Vc 0 n t)] (.string undefT) := by
  intro W
  unfold Vc
  go_enter Tryz.func69, Tryz.ntmps69
  go_wp2
  go_ret
  exact ⟨rfl, below_one _ _⟩
theorem said_1 (n : Int) (t : ByteArray) : Ret 69 #[.agg (Vc 1 n t)] (.string nullT) := by
  intro W
  unfold Vc
  go_enter Tryz.func69, Tryz.ntmps69
  go_wp2
  go_ret
  exact ⟨rfl, below_one _ _⟩
theorem said_text (k n : Int) (t : ByteArray) (h : k = 4 ∨ k = 5) : Ret 69 #[.agg (Vc k n t)] (.string t) := by
  intro W
  unfold Vc
  rcases h with rfl | rfl
  all_goals
    go_enter Tryz.func69, Tryz.ntmps69
    go_wp2
    go_ret
    exact ⟨rfl, below_one _ _⟩
theorem said_2 (n : Int) (t : ByteArray) (b : Bool) (hn : (n != 0) = b) : Ret 69 #[.agg (Vc 2 n t)] (.string (boolT b)) := by
  intro W
  obtain ⟨s, hs⟩ : ∃ s, boolT b = s := ⟨_, rfl⟩
  have H := hide (fbool_72 b)
  rw [hs] at H ⊢
  have HB := hide (below_one W (.cells #[.int .i64 2, .int .i64 n, .string t] 23))
  unfold Vc
  clear hs
  go_enter Tryz.func69, Tryz.ntmps69
  go_wp2_with (go_at_call 76; refine (unhide H _).mono ?_; rintro e w1 ⟨rfl, hb⟩)
  go_ret
  exact ⟨rfl, Below.upp (unhide HB) hb⟩
theorem vsaid_3 (A : World) (n : Int) (t s : ByteArray) (HI : RetA A 77 #[.int .i64 n] (.string s)) : RetA A 69 #[.agg (Vc 3 n t)] (.string s) := by
  intro W hA
  have HB := hide (below_one W (.cells #[.int .i64 3, .int .i64 n, .string t] 23))
  have H := hide (HI _ (Below.upp hA (unhide HB)))
  unfold Vc
  clear HI hA
  go_enter Tryz.func69, Tryz.ntmps69
  go_wp2_with (go_at_call 77; refine (unhide H).mono ?_; rintro e w1 ⟨rfl, hb⟩)
  go_ret
  exact ⟨rfl, Below.upp (unhide HB) hb⟩
theorem Text_A (A : World) (k n k' n' : Int) (t t' s : ByteArray) (HS : Ret 70 #[.agg (Vc k n t)] (.agg (Vc k' n' t'))) (HX : RetA A 69 #[.agg (Vc k' n' t')] (.string s)) (hs : s.size ≤ 281474976710656) : RetA A 43 #[.agg (Vc k n t)] (.string s) := by
  intro W hA
  unfold Vc at HS HX ⊢
  have HB := hide (below_one W (.cells #[.int .i64 k, .int .i64 n, .string t] 23))
  have HA := hide (Below.upp hA (unhide HB))
  have H1 := hide HS
  have H2 := hide HX
  have H3 := hide hs
  clear HS HX hs hA
  go_enter Tryz.func43, Tryz.ntmps43
  go_wp2_with (first | (go_at_call 70; refine (unhide H1 _).mono ?_; rintro e w1 ⟨rfl, hb1⟩; have HB1 := hide (Below.upp (unhide HB) hb1); have HA1 := hide (Below.upp (unhide HA) hb1)) | (go_at_call 69; refine (unhide H2 _ (unhide HA1)).mono ?_; rintro e w2 ⟨rfl, hb2⟩; have HB2 := hide (Below.upp (unhide HB1) hb2)) | (go_at_call 37; refine (clone52 _ _ (unhide H3)).mono ?_; rintro e w3 ⟨rfl, hb3⟩; have HB3 := hide (Below.upp (unhide HB2) hb3)))
  go_ret
  exact ⟨rfl, unhide HB3⟩
theorem itoa_5 : Ret 77 #[.int .i64 5] (.string ⟨#[53]⟩) := by
  intro W
  have := Tryz.strconv_Itoa_small 5 (by decide) W
  refine this.mono ?_
  rintro e w ⟨rfl, rfl⟩
  exact ⟨by rw [show Lib.decDigits 5 = [53] from by simp [Lib.decDigits]], Below.refl _ _⟩
theorem Text_5 : Ret 43 #[.agg (Vc 3 5 ByteArray.empty)] (.string ⟨#[53]⟩) := fun W =>
  Text_A W 3 5 3 5 _ ByteArray.empty _ (vsettled_any 3 5 ByteArray.empty) (vsaid_3 W 5 _ _ (itoa_5.at W)) (by decide) W (Below.refl _ _)
end Go.Proofs.YtdgocaokmmhenaaGreatDoor
