/- What the law ValueJoins asks, each in every world above one where the table of powers lies. -/
import Derived.Lib.LaidTab
import Derived.Lib.ItoaNum
import Derived.Stop.LaidErr
import Derived.Test.YthjlhdldomfikabDoorBJ2
import Derived.Test.YthjlhdldomfikabDoorVP
import Derived.Test.YthjlhdldomfikabDoorVL
namespace Go.Proofs.YthjlhdldomfikabDoor
set_option linter.unusedSimpArgs false
set_option linter.unusedVariables false
set_option maxRecDepth 100000
open Go.RowKit Go.Shelf

theorem num_any (n : Int) : Ret 9 #[.int .i64 n] (.agg (Vc 3 n ByteArray.empty)) := by
  intro W
  go_enter Tryd.func9, Tryd.ntmps9
  go_wp2
  refine bodyPost_ret (by simp [results, Tryd.results9, go_sem]; rfl) rfl ⟨rfl, below_one _ _⟩
theorem digits_step (c : Nat) (h : ¬ c < 10) : Lib.decDigits c = Lib.decDigits (c / 10) ++ [UInt8.ofNat (48 + c % 10)] := by
  rw [Lib.decDigits]; simp [h]
theorem digits_one (c : Nat) (h : c < 10) : Lib.decDigits c = [UInt8.ofNat (48 + c)] := by
  rw [Lib.decDigits]; simp [h]
theorem digits_few (k : Nat) : ∀ n, n < 10 ^ (k + 1) → (Lib.decDigits n).length ≤ k + 1 ∧ 0 < (Lib.decDigits n).length := by
  induction k with
  | zero => intro n h; rw [digits_one n (by omega)]; simp
  | succ k ih =>
    intro n h
    by_cases h1 : n < 10
    · rw [digits_one n h1]; simp
    · rw [digits_step n h1]
      have h2 := ih (n / 10) (by rw [Nat.pow_succ] at h; omega)
      simp
      omega
def itoaT (n : Int) : ByteArray := ⟨(Lib.itoa n).toArray⟩
theorem itoa_size (n : Int) (h0 : -9007199254740991 ≤ n) (h1 : n ≤ 9007199254740991) : (itoaT n).size ≤ 17 ∧ 0 < (itoaT n).size := by
  have e : (itoaT n).size = (Lib.itoa n).length := by show (Lib.itoa n).toArray.size = _; simp
  rw [e]
  unfold Lib.itoa
  by_cases h : n < 0
  · rw [if_pos h]
    have := digits_few 15 n.natAbs (by omega)
    simp
    omega
  · rw [if_neg h]
    have := digits_few 15 n.toNat (by omega)
    omega
theorem tab_up {A W : World} {name : String} {k : IntKind} {zs : List Int} (h : Lib.TabIs Tryd.prog A name k zs) (hz : zs ≠ []) (hb : Below A.heap.size A W) : Lib.TabIs Tryd.prog W name k zs := by
  unfold Lib.TabIs World.var? at h ⊢
  cases hg : Tryd.prog.globalNamed name with
  | none => rw [hg] at h; cases h
  | some g =>
    rw [hg] at h
    simp only [Option.bind_some] at h ⊢
    have hlt : g < A.heap.size := by
      rcases Nat.lt_or_ge g A.heap.size with h' | h'
      · exact h'
      · rw [Array.getElem?_eq_none h'] at h; cases h
    rw [hb.block g hlt]
    exact h
theorem itoa_A (A : World) (n : Int) (h0 : -9007199254740991 ≤ n) (h1 : n ≤ 9007199254740991) (hT : Lib.TabIs Tryd.prog A "internal/strconv.uint64pow10" .u64 Lib.pow10Tab) : RetA A 52 #[.int .i64 n] (.string (itoaT n)) := by
  intro W hA
  have := Tryd.strconv_Itoa n (by omega) (by omega) W (tab_up hT (by decide) hA)
  refine this.mono ?_
  rintro e w ⟨rfl, k, os, rfl⟩
  refine ⟨rfl, ?_⟩
  have hh : ∀ j, j < W.heap.size → (Sort.grow (W.drewN k) os).heap[j]? = W.heap[j]? := fun j hj => Sort.heap_grow_old (W.drewN k) os hj
  exact ⟨rfl, rfl, rfl, by rw [Sort.size_grow]; exact Nat.le_add_right _ _, hh⟩
theorem tab_is {W : World} (h : laidMetH Tryd.prog laid3 W) : Lib.TabIs Tryd.prog W "internal/strconv.uint64pow10" .u64 Lib.pow10Tab := by
  rw [MakeChecks.laidMetH_plain _ _ _ (by kernel_rfl)] at h
  have h2 := h.tail.tail
  exact Lib.tabIs_of_head (g := 1) (t := 84) (e := 51) (n := 20) (zs := Lib.pow10Tab) (by kernel_rfl) (by kernel_rfl) (by kernel_rfl) Tryd.underlying51 (by kernel_rfl) (by kernel_rfl) h2
variable {A : World} {n : Int}
theorem settled_txt (a : ByteArray) : Ret 12 #[.agg (Vc 4 0 a)] (.agg (Vc 4 0 a)) := by
  have h := settled_any 4 0 a
  have e : Sv 4 0 a = .agg (Vc 4 0 a) := by simp [Sv, stlK, stlN, stlT]
  rw [e] at h
  exact h
theorem settled_num (h0 : -9007199254740991 ≤ n) (h1 : n ≤ 9007199254740991) : Ret 12 #[.agg (Vc 3 n ByteArray.empty)] (.agg (Vc 3 n ByteArray.empty)) := by
  have h := settled_any 3 n ByteArray.empty
  have e : Sv 3 n ByteArray.empty = .agg (Vc 3 n ByteArray.empty) := by simp [Sv, stlK, stlN, stlT, clamp_of n ⟨h0, h1⟩]
  rw [e] at h
  exact h
theorem said_num (h0 : -9007199254740991 ≤ n) (h1 : n ≤ 9007199254740991) (hT : Lib.TabIs Tryd.prog A "internal/strconv.uint64pow10" .u64 Lib.pow10Tab) : RetA A 36 #[.agg (Vc 3 n ByteArray.empty)] (.string (itoaT n)) := said_3 A n _ _ (itoa_A A n h0 h1 hT)
theorem said_txt (a : ByteArray) : RetA A 36 #[.agg (Vc 4 0 a)] (.string a) := (said_text 4 0 a (.inl rfl)).at A
theorem plus_tn (h0 : -9007199254740991 ≤ n) (h1 : n ≤ 9007199254740991) (hT : Lib.TabIs Tryd.prog A "internal/strconv.uint64pow10" .u64 Lib.pow10Tab) (a : ByteArray) (ha : a.size ≤ 5000) : RetA A 8 #[.string ⟨#[43]⟩, .agg (Vc 4 0 a), .agg (Vc 3 n ByteArray.empty)] (Tr 4 0 (a ++ itoaT n) ⟨#[]⟩ 0) := by
  have hs := itoa_size n h0 h1
  exact bin_plus A _ rfl 4 0 3 n 4 0 3 n a _ a _ (settled_txt a) (settled_num h0 h1) ⟨4, 0, a ++ itoaT n, ⟨#[]⟩, 0⟩ (plus_txt A 4 0 3 n a _ a (itoaT n) (.inr (.inr ⟨rfl, rfl⟩)) (said_txt a) (said_num h0 h1 hT) (by omega) (by omega))
theorem plus_nt (h0 : -9007199254740991 ≤ n) (h1 : n ≤ 9007199254740991) (hT : Lib.TabIs Tryd.prog A "internal/strconv.uint64pow10" .u64 Lib.pow10Tab) (a : ByteArray) (ha : a.size ≤ 5000) : RetA A 8 #[.string ⟨#[43]⟩, .agg (Vc 3 n ByteArray.empty), .agg (Vc 4 0 a)] (Tr 4 0 (itoaT n ++ a) ⟨#[]⟩ 0) := by
  have hs := itoa_size n h0 h1
  exact bin_plus A _ rfl 3 n 4 0 3 n 4 0 _ a _ a (settled_num h0 h1) (settled_txt a) ⟨4, 0, itoaT n ++ a, ⟨#[]⟩, 0⟩ (plus_txt A 3 n 4 0 _ a (itoaT n) a (.inl ⟨rfl, rfl⟩) (said_num h0 h1 hT) (said_txt a) (by omega) (by omega))
theorem plus_tt (a b : ByteArray) (ha : 0 < a.size + b.size) (hb : a.size + b.size ≤ 65536) : RetA A 8 #[.string ⟨#[43]⟩, .agg (Vc 4 0 a), .agg (Vc 4 0 b)] (Tr 4 0 (a ++ b) ⟨#[]⟩ 0) :=
  bin_plus A _ rfl 4 0 4 0 4 0 4 0 a b a b (settled_txt a) (settled_txt b) ⟨4, 0, a ++ b, ⟨#[]⟩, 0⟩ (plus_txt A 4 0 4 0 a b a b (.inr (.inl ⟨rfl, rfl⟩)) (said_txt a) (said_txt b) ha hb)
theorem text_num (h0 : -9007199254740991 ≤ n) (h1 : n ≤ 9007199254740991) (hT : Lib.TabIs Tryd.prog A "internal/strconv.uint64pow10" .u64 Lib.pow10Tab) : RetA A 11 #[.agg (Vc 3 n ByteArray.empty)] (.string (itoaT n)) :=
  Text_A A 3 n 3 n _ _ _ (settled_num h0 h1) (said_num h0 h1 hT) (by have := itoa_size n h0 h1; omega)
end Go.Proofs.YthjlhdldomfikabDoor
