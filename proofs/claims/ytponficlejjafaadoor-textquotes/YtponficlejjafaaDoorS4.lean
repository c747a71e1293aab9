/- The two turns and the counted turn of shucklaw1.TextRunes. -/
import Derived.Test.YtponficlejjafaaDoorS3
namespace Go.Proofs.YtponficlejjafaaDoor
set_option linter.unusedSimpArgs false
set_option linter.unusedVariables false
open Go.RowKit Go.Shelf

theorem enter16 : ∀ args w, (callFunc 16 args).run Tryd.prog w = .ok (.enter 16 args) w := enters_of Tryd.func16 (by kernel_rfl) rfl
theorem enter18 : ∀ args w, (callFunc 18 args).run Tryd.prog w = .ok (.enter 18 args) w := enters_of Tryd.func18 (by kernel_rfl) rfl

theorem outer_run {g : Nat → Int} (hg : ∀ j, 0 ≤ g j ∧ g j ≤ 255) {len m Bo Bn Bw Bs Bi Bk c base : Nat} {stop : Int} {v sv : Value} {W : World} (hlen : len ≤ 1048576) (hm : Runes g len m)
    (ho : Boxed W Bo 4 (.bool true)) (hn : Boxed W Bn 3 (.int .i64 0)) (hw : Boxed W Bw 32 v) (hown : W.ownsRow base 26 4 v m (rows4 g len m)) (hs : Boxed W Bs 3 (.int .i64 stop)) (hi : Boxed W Bi 35 (.func (.func 33) #[] #[.pointer (some ⟨Bk, 0, none⟩)])) (hBk : Boxed W Bk 22 sv) (hS : Sl W c sv len g) (hc : c < W.heap.size)
    (d1 : Bo ≠ Bn) (d2 : Bw ≠ Bo) (d3 : Bs ≠ Bo) (d4 : Bi ≠ Bo) (d5 : Bk ≠ Bo) (d6 : c ≠ Bo) (d7 : Bw ≠ Bn) (d8 : Bs ≠ Bn) (d9 : Bi ≠ Bn) (d10 : Bk ≠ Bn) (d11 : c ≠ Bn) :
    Calls Tryd.prog 33 #[.func (.func 16) #[] #[.pointer (some ⟨Bo, 0, none⟩), .pointer (some ⟨Bn, 0, none⟩), .pointer (some ⟨Bw, 0, none⟩), .pointer (some ⟨Bs, 0, none⟩), .pointer (some ⟨Bi, 0, none⟩)], .pointer (some ⟨Bk, 0, none⟩)] W fun e A =>
      (∃ u, e = .returned u) ∧ Fr (fun k => k = Bo ∨ k = Bn) W A ∧ Boxed A Bo 4 (.bool true) ∧ Boxed A Bn 3 (.int .i64 (m : Int)) := by
  have hml := hm.le
  have nv : ∀ k, v.ownBlock = some k → ¬ (k = Bo ∨ k = Bn) := by
    rintro k hk (rfl | rfl)
    · exact ho.not_row (by decide) hown hk.symm
    · exact hn.not_row (by decide) hown hk.symm
  refine (runes1_any enter16 hg hBk hS hc
    (fun pre A => SoFar g len m pre ∧ Boxed A Bo 4 (.bool true) ∧ Boxed A Bn 3 (.int .i64 (pre.length : Int)) ∧ Fr (fun k => k = Bo ∨ k = Bn) W A)
    (fun pre A => ¬ SoFar g len m pre) ?_ (fun pre A B h _ => h) ?_ ⟨soFar_nil _ _ _, ho, hn, Fr.refl _ _⟩).mono ?_
  · rintro pre A B ⟨h1, h3, h4, h5⟩ hb
    exact ⟨h1, boxed_below h3 hb ho.lt, boxed_below h4 hb hn.lt, h5.below hb⟩
  · rintro pre x A ⟨h1, h3, h4, h5⟩ hl hsz
    have a1 := ho.lt
    have a2 := hn.lt
    refine (out16 (x := x) hg hlen hm h1.2 h3 h4 (boxed_fr hw h5 (by rintro (h | h) <;> omega)) (ownsRow_fr hown h5 nv) (boxed_fr hs h5 (by rintro (h | h) <;> omega)) (boxed_fr hi h5 (by rintro (h | h) <;> omega)) (boxed_fr hBk h5 (by rintro (h | h) <;> omega))
      (hS.keep (fun k e => by subst e; exact h5.block k hc (by rintro (h | h) <;> omega))) (Nat.lt_of_lt_of_le hc hsz) d1 d2 d3 d4 d5 d6 d7 d8).mono ?_
    rintro e A' ⟨rfl, hF, hb1, hb2⟩
    refine ⟨hF.others (fun k o hk ho' => by rcases hk with rfl | rfl; exact boxed_cells h3 ho'; exact boxed_cells h4 ho'), fun k hk => ?_, ?_⟩
    · have hkl : k < A.heap.size := by rcases hk with ⟨_, h⟩ | rfl | rfl; exact h; exact Nat.lt_of_lt_of_le hBk.lt hsz; exact Nat.lt_of_lt_of_le hc hsz
      exact hF.block k hkl (by rintro (h | h) <;> (rcases hk with ⟨h', _⟩ | h' | h' <;> omega))
    · cases hf : fits g len m pre.length x with
      | true =>
        rw [hf] at hb1
        refine .inl ⟨rfl, (soFar_snoc h1).1 hf, hb1, ?_, h5.trans (hF.mono (fun k _ h => h))⟩
        rw [List.length_append, List.length_singleton, Int.natCast_add]
        exact hb2
      | false => exact .inr ⟨rfl, (soFar_snoc h1).2 hf⟩
  · rintro e A ⟨he, ⟨m', hm', h1, h3, h4, h5⟩ | ⟨k, hk, h1⟩⟩
    · obtain rfl := hm'.unique hm
      rw [upto_length] at h4
      exact ⟨he, h5, h3, h4⟩
    · exact absurd (soFar_upto hm hk) h1

/-- How many runes a loop meets that is left behind stop of them. -/
def Met (m : Nat) (stop : Int) (n : Nat) : Prop := (n = m ∧ (m = 0 ∨ (m : Int) ≤ stop)) ∨ (1 ≤ n ∧ n ≤ m ∧ stop < n ∧ (n = 1 ∨ (n : Int) ≤ stop + 1))

theorem count_run {g : Nat → Int} (hg : ∀ j, 0 ≤ g j ∧ g j ≤ 255) {len m Bn Bs Bk c : Nat} {stop : Int} {sv : Value} {W : World} (hlen : len ≤ 1048576) (hm : Runes g len m)
    (hn : Boxed W Bn 3 (.int .i64 0)) (hs : Boxed W Bs 3 (.int .i64 stop)) (hBk : Boxed W Bk 22 sv) (hS : Sl W c sv len g) (hc : c < W.heap.size) (d1 : Bs ≠ Bn) (d2 : Bk ≠ Bn) (d3 : c ≠ Bn) :
    Calls Tryd.prog 33 #[.func (.func 18) #[] #[.pointer (some ⟨Bn, 0, none⟩), .pointer (some ⟨Bs, 0, none⟩)], .pointer (some ⟨Bk, 0, none⟩)] W fun e A =>
      (∃ u, e = .returned u) ∧ Fr (fun k => k = Bn) W A ∧ ∃ n : Nat, Boxed A Bn 3 (.int .i64 (n : Int)) ∧ Met m stop n := by
  have hml := hm.le
  refine (runes1_any enter18 hg hBk hS hc
    (fun pre A => Boxed A Bn 3 (.int .i64 (pre.length : Int)) ∧ (pre.length = 0 ∨ (pre.length : Int) ≤ stop) ∧ Fr (fun k => k = Bn) W A)
    (fun pre A => Boxed A Bn 3 (.int .i64 (pre.length : Int)) ∧ (1 ≤ pre.length ∧ stop < pre.length ∧ (pre.length = 1 ∨ (pre.length : Int) ≤ stop + 1)) ∧ Fr (fun k => k = Bn) W A) ?_ ?_ ?_ ⟨hn, .inl rfl, Fr.refl _ _⟩).mono ?_
  · rintro pre A B ⟨h1, h2, h3⟩ hb
    exact ⟨boxed_below h1 hb hn.lt, h2, h3.below hb⟩
  · rintro pre A B ⟨h1, h2, h3⟩ hb
    exact ⟨boxed_below h1 hb hn.lt, h2, h3.below hb⟩
  · rintro pre x A ⟨h1, h2, h3⟩ hl hsz
    have a2 := hn.lt
    refine (cnt18 Bn Bs pre.length stop x A (by omega) (by omega) h1 (boxed_fr hs h3 d1) d1).mono ?_
    rintro e A' ⟨rfl, rfl⟩
    refine ⟨KeepsOthers.setCell _ _ _, fun k hk => Below.heap_setCell _ _ _ _ (by show k ≠ Bn; rcases hk with ⟨h, _⟩ | rfl | rfl <;> omega), ?_⟩
    have hb : Boxed (A.setCell ⟨Bn, 0, none⟩ (.int .i64 ((pre.length : Int) + 1))) Bn 3 (.int .i64 ((pre ++ [x]).length : Int)) := by
      rw [List.length_append, List.length_singleton, Int.natCast_add]; exact h1.set _
    by_cases hle : (pre.length : Int) + 1 ≤ stop
    · rw [show decide ((pre.length : Int) + 1 ≤ stop) = true from by simpa using hle]
      exact .inl ⟨rfl, hb, .inr (by rw [List.length_append, List.length_singleton]; omega), h3.setCell _ _ rfl⟩
    · rw [show decide ((pre.length : Int) + 1 ≤ stop) = false from by simpa using hle]
      exact .inr ⟨rfl, hb, by rw [List.length_append, List.length_singleton]; omega, h3.setCell _ _ rfl⟩
  · rintro e A ⟨he, ⟨m', hm', h1, h2, h3⟩ | ⟨k, hk, h1, h2, h3⟩⟩
    · obtain rfl := hm'.unique hm
      rw [upto_length] at h1 h2
      exact ⟨he, h3, _, h1, .inl ⟨rfl, h2⟩⟩
    · rw [upto_length] at h1 h2
      have := (soFar_upto hm hk).2
      rw [upto_length] at this
      exact ⟨he, h3, _, h1, .inr ⟨h2.1, this, h2.2.1, h2.2.2⟩⟩
end Go.Proofs.YtponficlejjafaaDoor
