/- The reference's Digits and Text; strconv.Itoa where its table lies. -/
import Derived.Lib.LaidTab
import Derived.Test.YtdgocaokmmhenaaGreatDoorVT
import Derived.Test.YtdgocaokmmhenaaGreatDoorVP
namespace Go.Proofs.YtdgocaokmmhenaaGreatDoor
set_option linter.unusedSimpArgs false
set_option linter.unusedVariables false
set_option maxRecDepth 100000
set_option maxHeartbeats 4000000
open Go.RowKit Go.Shelf

def itoaT (n : Int) : ByteArray := ⟨(Lib.itoa n).toArray⟩
theorem digits_negw (n : Int) (h : n < 0) (h1 : -9007199254740991 ≤ n) (s : ByteArray) (hsz : (s.size : Int) ≤ 9007199254740993) (HH : Hid (Ret 85 #[.int .u64 (-(n + 1) + 1)] (.string s))) : Ret 82 #[.int .i64 n] (.string (⟨#[45]⟩ ++ s)) := by
  intro W
  go_enter Tryz.func82, Tryz.ntmps82
  go_wp2_with (go_at_call 85; refine (unhide HH _).mono ?_; rintro e w1 ⟨rfl, hb⟩)
  go_ret
  exact ⟨rfl, hb⟩
theorem digits_len (n : Nat) : (Lib.decDigits n).length ≤ n + 1 := by
  induction n using Nat.strongRecOn with
  | ind n ih =>
    by_cases h : n < 10
    · rw [digits_one n h]; simp
    · rw [digits_step n h]
      have := ih (n / 10) (by omega)
      simp
      omega
theorem digits_neg (n : Int) (h : n < 0) (h1 : -9007199254740991 ≤ n) : Ret 82 #[.int .i64 n] (.string (itoaT n)) := by
  have e : itoaT n = ⟨#[45]⟩ ++ ⟨(Lib.decDigits n.natAbs).toArray⟩ := by
    unfold itoaT Lib.itoa
    rw [if_pos h]
    exact (app_eq (x := 45) (acc := ⟨(Lib.decDigits n.natAbs).toArray⟩) (by rw [ByteArray.toList_eq])).symm
  rw [e]
  have H := natural_any n.natAbs (by omega)
  rw [show ((n.natAbs : Nat) : Int) = -(n + 1) + 1 by omega] at H
  have hl := digits_len n.natAbs
  refine digits_negw n h h1 _ ?_ (hide H)
  show (((Lib.decDigits n.natAbs).toArray.size : Nat) : Int) ≤ 9007199254740993
  have hl2 : (Lib.decDigits n.natAbs).toArray.size = (Lib.decDigits n.natAbs).length := by simp
  rw [hl2]
  omega
theorem digits_pos (n : Int) (h : 0 ≤ n) (h1 : n ≤ 9007199254740991) : Ret 82 #[.int .i64 n] (.string (itoaT n)) := by
  intro W
  have H := natural_any n.toNat (by omega)
  rw [show ((n.toNat : Nat) : Int) = n by omega] at H
  have e : itoaT n = ⟨(Lib.decDigits n.toNat).toArray⟩ := by
    unfold itoaT Lib.itoa
    rw [if_neg (by omega)]
  rw [e]
  have HH := hide H
  clear H e
  go_enter Tryz.func82, Tryz.ntmps82
  go_wp2_with (go_at_call 85; refine (unhide HH _).mono ?_; rintro e w1 ⟨rfl, hb⟩)
  go_ret
  exact ⟨rfl, hb⟩
theorem tab_up {A W : World} {name : String} {k : IntKind} {zs : List Int} (h : Lib.TabIs Tryz.prog A name k zs) (hz : zs ≠ []) (hb : Below A.heap.size A W) : Lib.TabIs Tryz.prog W name k zs := by
  unfold Lib.TabIs World.var? at h ⊢
  cases hg : Tryz.prog.globalNamed name with
  | none => rw [hg] at h; cases h
  | some g =>
    rw [hg] at h
    simp only [Option.bind_some] at h ⊢
    have hlt : g < A.heap.size := by
      rcases Nat.lt_or_ge g A.heap.size with h' | h'
      · exact h'
      · rw [Array.getElem?_eq_none h'] at h; cases h
    rw [hb.block g hlt]
    exact h
theorem itoa_A (A : World) (n : Int) (h0 : -9007199254740991 ≤ n) (h1 : n ≤ 9007199254740991) (hT : Lib.TabIs Tryz.prog A "internal/strconv.uint64pow10" .u64 Lib.pow10Tab) : RetA A 77 #[.int .i64 n] (.string (itoaT n)) := by
  intro W hA
  have := Tryz.strconv_Itoa n (by omega) (by omega) W (tab_up hT (by decide) hA)
  refine this.mono ?_
  rintro e w ⟨rfl, k, os, rfl⟩
  refine ⟨rfl, ?_⟩
  have hh : ∀ j, j < W.heap.size → (Sort.grow (W.drewN k) os).heap[j]? = W.heap[j]? := fun j hj => Sort.heap_grow_old (W.drewN k) os hj
  exact ⟨rfl, rfl, rfl, by rw [Sort.size_grow]; exact Nat.le_add_right _ _, hh⟩
end Go.Proofs.YtdgocaokmmhenaaGreatDoor
