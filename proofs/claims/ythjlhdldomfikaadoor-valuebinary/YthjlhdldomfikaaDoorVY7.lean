/- value.Binary at the signs of order, of two texts and of two numbers; yes. -/
import Derived.Test.YthjlhdldomfikaaDoorVY2
import Derived.Test.YthjlhdldomfikaaDoorVI
namespace Go.Proofs.YthjlhdldomfikaaDoor
set_option linter.unusedSimpArgs false
set_option linter.unusedVariables false
set_option maxRecDepth 100000
set_option maxHeartbeats 1000000
open Go.RowKit Go.Shelf

/-- A truth. -/
def tB (b : Bool) : R5 := ⟨2, bI b, ByteArray.empty, ⟨#[]⟩, 0⟩
theorem set_txt (n : Int) (a : ByteArray) : Ret 20 #[.agg (Vc 4 n a)] (.agg (Vc 4 0 a)) := by
  have h := settled_any 4 n a
  have e : Sv 4 n a = .agg (Vc 4 0 a) := by simp [Sv, stlK, stlN, stlT]
  rw [e] at h
  exact h
/-- What the five signs tell of an order o and of sameness. -/
def ordB (op : ByteArray) (o : Int) (same : Bool) (b : Bool) : Prop :=
  (op = ⟨#[60]⟩ ∧ b = decide (o < 0)) ∨ (op = ⟨#[60, 61]⟩ ∧ b = decide (o ≤ 0)) ∨ (op = ⟨#[62]⟩ ∧ b = decide (0 < o)) ∨ (op = ⟨#[62, 61]⟩ ∧ b = decide (0 ≤ o)) ∨ (op = ⟨#[61, 61, 61]⟩ ∧ b = same)
theorem bin_txt (op : ByteArray) (n n' : Int) (s t : ByteArray) (hs : s.size ≤ 281474976710656) (ht : t.size ≤ 281474976710656) (b : Bool) (hop : ordB op (cmpF s t (s.size + 1) 0 0) (eqV 4 0 s 4 0 t) b) :
    Ret 12 #[.string op, .agg (Vc 4 n s), .agg (Vc 4 n' t)] (tB b).tr := by
  have HC := compared_any s t hs ht
  obtain ⟨o, ho⟩ : ∃ o, cmpF s t (s.size + 1) 0 0 = o := ⟨_, rfl⟩
  rw [ho] at HC hop
  clear ho hs ht
  have h44 := fun h : op = ⟨#[60]⟩ => ordered_txt 44 enter44 0 0 o _ s t HC (ask44 o)
  have h45 := fun h : op = ⟨#[60, 61]⟩ => ordered_txt 45 enter45 0 0 o _ s t HC (ask45 o)
  have h46 := fun h : op = ⟨#[62]⟩ => ordered_txt 46 enter46 0 0 o _ s t HC (ask46 o)
  have h47 := fun h : op = ⟨#[62, 61]⟩ => ordered_txt 47 enter47 0 0 o _ s t HC (ask47 o)
  refine bin_gen op 4 n 4 n' 4 0 4 0 s t s t (set_txt n s) (set_txt n' t) (tB b) ?_ ?_ ?_ ?_ ?_ ?_ ?_ ?_ ?_ ?_ ?_ ?_ ?_ ?_ ?_ ?_ ?_
  case refine_17 =>
    intro a0 a1 a2 a3 a4 a5 a6 a7 a8 a9 a10 a11 a12 a13 a14 a15
    rcases hop with ⟨rfl, -⟩ | ⟨rfl, -⟩ | ⟨rfl, -⟩ | ⟨rfl, -⟩ | ⟨rfl, -⟩
    · exact absurd rfl a12
    · exact absurd rfl a13
    · exact absurd rfl a14
    · exact absurd rfl a15
    · exact absurd rfl a0
  all_goals
    intro h
    rcases hop with ⟨rfl, rfl⟩ | ⟨rfl, rfl⟩ | ⟨rfl, rfl⟩ | ⟨rfl, rfl⟩ | ⟨rfl, rfl⟩ <;> first
      | (exact absurd (congrArg (fun x : ByteArray => x.data.toList.map UInt8.toNat) h) (by decide))
      | rfl
      | exact h44 rfl
      | exact h45 rfl
      | exact h46 rfl
      | exact h47 rfl
theorem bin_nums (op : ByteArray) (n n' : Int) (s t : ByteArray) (b : Bool) (hop : ordB op (cmpP (clampN n) (clampN n')) (eqV 3 (clampN n) ByteArray.empty 3 (clampN n') ByteArray.empty) b) :
    Ret 12 #[.string op, .agg (Vc 3 n s), .agg (Vc 3 n' t)] (tB b).tr := by
  have h := Binary_num op n n' s t
  rcases hop with ⟨rfl, rfl⟩ | ⟨rfl, rfl⟩ | ⟨rfl, rfl⟩ | ⟨rfl, rfl⟩ | ⟨rfl, rfl⟩
  · rw [binN_12] at h; exact h
  · rw [binN_13] at h; exact h
  · rw [binN_14] at h; exact h
  · rw [binN_15] at h; exact h
  · rw [binN_0, ← eqV_num] at h; exact h
theorem yes_any (b : Bool) : Ret 19 #[.agg (Vc 2 (bI b) ByteArray.empty), .string ⟨#[]⟩, .int .i64 0] (.bool b) := by
  intro W
  cases b
  all_goals
    simp only [bI, Vc]
    go_enter Tryd.func19, Tryd.ntmps19
    go_wp2
    go_ret
    exact ⟨rfl, below_one _ _⟩
end Go.Proofs.YthjlhdldomfikaaDoor
