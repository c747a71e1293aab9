/- The lines that text.Lines hands on, compared one by one and put together, as shucklaw1.TextLines does it. -/
import Derived.Test.YtponficlejjafaaDoorK6z
namespace Go.Proofs.YtponficlejjafaaDoor
set_option linter.unusedSimpArgs false
set_option linter.unusedVariables false
open Go.RowKit Go.Shelf
theorem ba_loop (s : ByteArray) : ∀ (k i : Nat) (acc : List UInt8), k = s.size - i → ByteArray.toList.loop s i acc = acc.reverse ++ (s.data.toList.drop i)
  | 0, i, acc, h => by
    rw [ByteArray.toList.loop]
    have hi : ¬ i < s.size := by omega
    rw [if_neg hi, List.drop_eq_nil_of_le (by show s.data.toList.length ≤ i; have : s.data.toList.length = s.size := rfl; omega)]
    simp
  | k + 1, i, acc, h => by
    rw [ByteArray.toList.loop]
    have hi : i < s.size := by omega
    rw [if_pos hi, ba_loop s k (i + 1) _ (by omega)]
    have hl : i < s.data.toList.length := hi
    rw [List.drop_eq_getElem_cons hl]
    have : s.get! i = s.data.toList[i] := by
      show s.data[i]! = _
      rw [getElem!_pos s.data i hi]
      simp
    simp [this]
theorem ba_toList (s : ByteArray) : s.toList = s.data.toList := by
  rw [ByteArray.toList, ba_loop s s.size 0 [] (by omega)]
  simp

theorem nums_size_eq {xs ys : List Int} (h : ((strOfNums xs).toList == (strOfNums ys).toList) = true) : xs.length = ys.length := by
  have h1 := eq_of_beq h
  rw [ba_toList, ba_toList] at h1
  have h2 := congrArg List.length h1
  have e : ∀ zs : List Int, (strOfNums zs).data.toList.length = zs.length := fun zs => by
    have := strOfNums_size zs
    exact this
  rw [e, e] at h2
  exact h2
theorem fitsL_yes {g : Nat → Int} {len n : Nat} {x : Nat × Nat} (hs : Sp len x) (h : fitsL g (allL g len) n x.1 (strOfNums (sub g x.1 x.2)) = true) : (allL g len)[n]? = some x := by
  cases hx : (allL g len)[n]? with
  | none => simp [fitsL, hx] at h
  | some y =>
    have hym := allL_mem (List.mem_of_getElem? hx)
    simp only [fitsL, hx, Bool.and_eq_true, decide_eq_true_eq] at h
    have h2 := nums_size_eq h.2
    rw [sub_length, sub_length] at h2
    have h3 := hs.1
    obtain ⟨y1, y2⟩ := y
    obtain ⟨x1, x2⟩ := x
    simp only at h h2 h3 hym
    have : x2 = y2 := by omega
    rw [h.1, this]
theorem fitsL_of {g : Nat → Int} {len n : Nat} {x : Nat × Nat} (h : (allL g len)[n]? = some x) : fitsL g (allL g len) n x.1 (strOfNums (sub g x.1 x.2)) = true := by
  simp [fitsL, h]
theorem prefix_snoc {α : Type} {pre l : List α} {x : α} (h : pre <+: l) (hx : l[pre.length]? = some x) : pre ++ [x] <+: l := by
  obtain ⟨t, rfl⟩ := h
  rw [List.getElem?_append_right (Nat.le_refl _), Nat.sub_self] at hx
  cases t with
  | nil => simp at hx
  | cons y t =>
    simp at hx
    subst hx
    exact ⟨t, by simp⟩
theorem prefix_snoc_inv {α : Type} {pre l : List α} {x : α} (hx : pre ++ [x] <+: l) : l[pre.length]? = some x := by
  obtain ⟨t, rfl⟩ := hx
  simp
theorem jn_bound (g : Nat → Int) (len : Nat) : ∀ (n : Nat) (l : List (Nat × Nat)), l.length = n → (∀ x ∈ l, x.2 ≤ len) → (jn g l).2.length ≤ n * (len + 1)
  | 0, l, h, _ => by obtain rfl := List.length_eq_zero_iff.1 h; simp [jn]
  | n + 1, l, h, hm => by
    have hne : l ≠ [] := by intro e; subst e; simp at h
    have hx := hm (l.getLast hne) (List.getLast_mem hne)
    have ih := jn_bound g len n l.dropLast (by simp [h]) (fun x hx => hm x (List.dropLast_subset l hx))
    rw [← List.dropLast_concat_getLast hne, jn_snoc]
    have hs := sub_length g (l.getLast hne).1 (l.getLast hne).2
    have e : (n + 1) * (len + 1) = n * (len + 1) + (len + 1) := Nat.succ_mul _ _
    simp only [List.length_append]
    split <;> (try simp only [List.length_append, List.length_singleton]) <;> omega
theorem ten_nums : (⟨#[10]⟩ : ByteArray) = strOfNums [10] := rfl
theorem whole_snoc (g : Nat → Int) (pre : List (Nat × Nat)) (x : Nat × Nat) : (if 0 < pre.length then strOfNums (jn g pre).2 ++ ⟨#[10]⟩ else strOfNums (jn g pre).2) ++ strOfNums (sub g x.1 x.2) = strOfNums (jn g (pre ++ [x])).2 := by
  rw [jn_snoc, jn_fst, ten_nums]
  by_cases h : 0 < pre.length
  · simp only [if_pos h, nums_append]
  · simp only [if_neg h, nums_append]

theorem enter24 : ∀ args w, (callFunc 24 args).run Tryd.prog w = .ok (.enter 24 args) w := enters_of Tryd.func24 (by kernel_rfl) rfl

theorem cl_run {g : Nat → Int} (hg : ∀ j, 0 ≤ g j ∧ g j ≤ 255) {len cap Bo Bn Bw Bb Bs Bk c b base : Nat} {a : Option Addr} {v sv : Value} {W : World} (hlen : len ≤ 4000)
    (ho : Boxed W Bo 4 (.bool true)) (hn : Boxed W Bn 3 (.int .i64 0)) (hw : Boxed W Bw 43 v) (hbb : Boxed W Bb 22 (.slice a len cap)) (hs : Boxed W Bs 9 (.string ⟨#[]⟩)) (hSb : Sl W b (.slice a len cap) len g)
    (hown : W.ownsRow base 48 2 v (allL g len).length (rows2 (allL g len))) (hBk : Boxed W Bk 22 sv) (hS : Sl W c sv len g) (hc : c < W.heap.size) (hbl : b < W.heap.size)
    (d1 : Bo ≠ Bn) (d2 : Bo ≠ Bs) (d3 : Bn ≠ Bs) (e1 : ¬ (Bw = Bo ∨ Bw = Bn ∨ Bw = Bs)) (e2 : ¬ (Bb = Bo ∨ Bb = Bn ∨ Bb = Bs)) (e3 : ¬ (b = Bo ∨ b = Bn ∨ b = Bs)) (e4 : ¬ (Bk = Bo ∨ Bk = Bn ∨ Bk = Bs)) (e5 : ¬ (c = Bo ∨ c = Bn ∨ c = Bs)) :
    Calls Tryd.prog 35 #[.func (.func 24) #[] #[.pointer (some ⟨Bo, 0, none⟩), .pointer (some ⟨Bn, 0, none⟩), .pointer (some ⟨Bw, 0, none⟩), .pointer (some ⟨Bb, 0, none⟩), .pointer (some ⟨Bs, 0, none⟩)], .pointer (some ⟨Bk, 0, none⟩)] W fun e A =>
      (∃ u, e = .returned u) ∧ Fr (fun k => k = Bo ∨ k = Bn ∨ k = Bs) W A ∧ Boxed A Bo 4 (.bool true) ∧ Boxed A Bn 3 (.int .i64 ((allL g len).length : Int)) ∧ Boxed A Bs 9 (.string (strOfNums (upto g len))) := by
  have hll := allL_length g len
  have nv : ∀ k, v.ownBlock = some k → ¬ (k = Bo ∨ k = Bn ∨ k = Bs) := by
    rintro k hk (rfl | rfl | rfl)
    · exact ho.not_row (by decide) hown hk.symm
    · exact hn.not_row (by decide) hown hk.symm
    · exact hs.not_row (by decide) hown hk.symm
  refine (lines1_any enter24 hg hBk hS hc
    (fun pre A => pre <+: allL g len ∧ Boxed A Bo 4 (.bool true) ∧ Boxed A Bn 3 (.int .i64 (pre.length : Int)) ∧ Boxed A Bs 9 (.string (strOfNums (jn g pre).2)) ∧ Fr (fun k => k = Bo ∨ k = Bn ∨ k = Bs) W A)
    (fun pre A => ¬ pre <+: allL g len) ?_ (fun pre A B h _ => h) ?_ ⟨List.nil_prefix, ho, hn, hs, Fr.refl _ _⟩).mono ?_
  · rintro pre A B ⟨h1, h2, h3, h4, h5⟩ hb
    exact ⟨h1, boxed_below h2 hb ho.lt, boxed_below h3 hb hn.lt, boxed_below h4 hb hs.lt, h5.below hb⟩
  · rintro pre x A hsp ⟨h1, h2, h3, h4, h5⟩ hl hsz
    have a1 := ho.lt
    have a2 := hn.lt
    have a3 := hs.lt
    have hpm : ∀ y ∈ pre, y.2 ≤ len := fun y hy => (allL_mem (h1.subset hy)).2
    have hjb := jn_bound g len pre.length pre rfl hpm
    have q0 : (strOfNums (jn g pre).2).size ≤ 1099511627776 := by
      rw [strOfNums_size]
      have : pre.length * (len + 1) ≤ 4001 * 4001 := Nat.mul_le_mul (by omega) (by omega)
      omega
    have q1 : (strOfNums (sub g x.1 x.2)).size ≤ 1099511627776 := by
      rw [strOfNums_size, sub_length]
      have := hsp.2
      omega
    refine (cl24_reg Bo Bn Bw Bb Bs pre.length v a len cap base b g (by omega) x.1 _ _ A (by omega) h2 h3 (boxed_fr hw h5 e1) (boxed_fr hbb h5 e2) h4 (hSb.keep (fun k e => by subst e; exact h5.block _ hbl e3)) (ownsRow_fr hown h5 nv) d1 d2 d3 (fun e => e1 (.inl e)) (fun e => e2 (.inl e)) (fun e => e3 (.inl e)) q0 q1).mono ?_
    rintro e A' ⟨rfl, hF, hK, b1, b2, b3⟩
    refine ⟨hK, ?_, ?_⟩
    · intro k hk
      rcases hk with ⟨hk1, hk2⟩ | rfl | rfl
      · exact hF.block k hk2 (by rintro (h | h | h) <;> omega)
      · exact hF.block _ (Nat.lt_of_lt_of_le hBk.lt hsz) e4
      · exact hF.block _ (Nat.lt_of_lt_of_le hc hsz) e5
    rw [whole_snoc] at b3
    cases hf : fitsL g (allL g len) pre.length x.1 (strOfNums (sub g x.1 x.2)) with
    | true =>
      rw [hf] at b1
      refine .inl ⟨rfl, prefix_snoc h1 (fitsL_yes hsp hf), b1, ?_, b3, h5.trans hF⟩
      have : ((pre ++ [x]).length : Int) = (pre.length : Int) + 1 := by simp
      rw [this]
      exact b2
    | false =>
      refine .inr ⟨rfl, fun hp => ?_⟩
      rw [fitsL_of (prefix_snoc_inv hp)] at hf
      cases hf
  · rintro e A ⟨he, ⟨h1, h2, h3, h4, h5⟩ | ⟨pre, ⟨hp, _⟩, hx⟩⟩
    · rw [jn_all] at h4
      exact ⟨he, h5, h2, h3, h4⟩
    · exact absurd hp hx
end Go.Proofs.YtponficlejjafaaDoor
