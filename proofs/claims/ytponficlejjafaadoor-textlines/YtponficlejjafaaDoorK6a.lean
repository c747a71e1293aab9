/- The comparing function literal of shucklaw1.TextLines, a case of it. -/
import Derived.StillTailTactics
import Derived.Test.YtponficlejjafaaDoorK6
namespace Go.Proofs.YtponficlejjafaaDoor
set_option linter.unusedSimpArgs false
set_option linter.unusedVariables false
open Go.RowKit Go.Shelf

set_option maxRecDepth 100000 in
set_option maxHeartbeats 1000000 in
theorem cl24_ap (Bo Bn Bw Bb Bs : Nat) (n : Nat) (v : Value) (a : Option Addr) (len cap base b : Nat) (g : Nat → Int) (hlen : len ≤ 1048576) (at' : Nat) (S0 S1 : ByteArray) (A : World) (h1 : n ≤ 1048577)
    (ho : Boxed A Bo 4 (.bool true)) (hn : Boxed A Bn 3 (.int .i64 n)) (hw : Boxed A Bw 43 v) (hbb : Boxed A Bb 22 (.slice a len cap)) (hs : Boxed A Bs 9 (.string S0)) (hS : Sl A b (.slice a len cap) len g)
    (hown : A.ownsRow base 48 2 v (allL g len).length (rows2 (allL g len))) (d1 : Bo ≠ Bn) (d2 : Bo ≠ Bs) (d3 : Bn ≠ Bs) (d4 : Bw ≠ Bo) (d5 : Bb ≠ Bo) (d6 : b ≠ Bo) (q0 : S0.size ≤ 1099511627776) (q1 : S1.size ≤ 1099511627776) (xf xt : Nat) (hx : (allL g len)[n]? = some (xf, xt)) (he' : ((at' : Int) == (xf : Int)) = false) (hp : 0 < n) :
    Calls Tryd.prog 24 #[.int .i64 (at' : Int), .string S1, .pointer (some ⟨Bo, 0, none⟩), .pointer (some ⟨Bn, 0, none⟩), .pointer (some ⟨Bw, 0, none⟩), .pointer (some ⟨Bb, 0, none⟩), .pointer (some ⟨Bs, 0, none⟩)] A (Cl24P Bo Bn Bs n false (S0 ++ ⟨#[10]⟩ ++ S1) A) := by
  have g1 : ¬ 9223372036854775807 < S0.size + 1 := by omega
  have g2 : ¬ 9223372036854775807 < S0.size + 1 + S1.size := by omega
  have g3 : ¬ 9223372036854775807 < S0.size + S1.size := by omega
  have hll := allL_length g len
  have c1 := ho.cell
  have f1 := ho.frozen
  have cn := hn.cell
  have cw := hw.cell
  have cb := hbb.cell
  have hlt : n < (allL g len).length := by
    rcases Nat.lt_or_ge n (allL g len).length with h | h
    · exact h
    · rw [List.getElem?_eq_none h] at hx; cases hx
  have hxm := allL_mem (List.mem_of_getElem? hx)
  have ngw : ∀ ao cv, v = .slice (some ao) (allL g len).length cv → True := fun _ _ _ => trivial
  obtain ⟨gw, cw', hv, hw1, hw2, hc1, hc2⟩ := span_cell hown hx
  subst hv
  have hlt' : (n : Int) < (allL g len).length := by omega
  unfold maxLen at hw2
  have ngw : gw ≠ Bo := by
    intro e
    subst e
    exact ho.not_row (by decide) hown rfl
  clear hxm hx hown hS
  have n0 : (0 : Int) < (n : Int) := by omega
  have n0b : decide ((0 : Int) < (n : Int)) = true := by simpa using n0
  have b1 := hn.other d1.symm (.bool false)
  have b2 := hs.other d2.symm (.bool false)
  have b3 := ho.set (.bool false)
  have z1 := b1.cell
  have z2 := b2.cell
  have z3 := b2.frozen
  have y1 := fun v => (b2.set v).cell
  have y2 := fun v => (b2.set v).frozen
  have y3 := fun v v' => ((b1.other d3 v).other d3 v').cell
  have y4 := fun v v' => ((b1.other d3 v).other d3 v').frozen
  have y5 := fun v v' u => (((b3.other d2 v).other d2 v').other d1 u).cell
  clear ho hn hs hw hbb
  go_enter Tryd.func24, Tryd.ntmps24
  go_wp2
  refine wp_region_still_tail 33 (by kernel_rfl) (by kernel_rfl) ?_
  simp only [List.take_succ_cons, List.take_zero, List.drop_succ_cons, List.drop_zero]
  generalize hq : Act.mk _ _ = q
  repeat (refine wpStill_step (fun K hK => ?_); subst hq; go_simp; generalize hq : Act.mk _ _ = q; refine hK q ?_; clear hK K)
  refine wpStill_nil ?_
  subst hq
  change wpList _ _ _ _ _ (World.drew A)
  go_wp2
  go_ret
  exact ⟨rfl, fr_drew (((((Fr.refl _ A).setCell _ _ (.inl rfl)).setCell _ _ (.inr (.inr rfl))).setCell _ _ (.inr (.inr rfl))).setCell _ _ (.inr (.inl rfl))), ko_drew ((((KeepsOthers.setCell _ _ _).trans (KeepsOthers.setCell _ _ _)).trans (KeepsOthers.setCell _ _ _)).trans (KeepsOthers.setCell _ _ _)), (((b3.other d2 _).other d2 _).other d1 _), ((b1.other d3 _).other d3 _).set _, ((b2.set _).set _).other d3.symm _⟩

set_option maxRecDepth 100000 in
set_option maxHeartbeats 1000000 in
theorem cl24_az (Bo Bn Bw Bb Bs : Nat) (n : Nat) (v : Value) (a : Option Addr) (len cap base b : Nat) (g : Nat → Int) (hlen : len ≤ 1048576) (at' : Nat) (S0 S1 : ByteArray) (A : World) (h1 : n ≤ 1048577)
    (ho : Boxed A Bo 4 (.bool true)) (hn : Boxed A Bn 3 (.int .i64 n)) (hw : Boxed A Bw 43 v) (hbb : Boxed A Bb 22 (.slice a len cap)) (hs : Boxed A Bs 9 (.string S0)) (hS : Sl A b (.slice a len cap) len g)
    (hown : A.ownsRow base 48 2 v (allL g len).length (rows2 (allL g len))) (d1 : Bo ≠ Bn) (d2 : Bo ≠ Bs) (d3 : Bn ≠ Bs) (d4 : Bw ≠ Bo) (d5 : Bb ≠ Bo) (d6 : b ≠ Bo) (q0 : S0.size ≤ 1099511627776) (q1 : S1.size ≤ 1099511627776) (xf xt : Nat) (hx : (allL g len)[n]? = some (xf, xt)) (he' : ((at' : Int) == (xf : Int)) = false) (hp : ¬ 0 < n) :
    Calls Tryd.prog 24 #[.int .i64 (at' : Int), .string S1, .pointer (some ⟨Bo, 0, none⟩), .pointer (some ⟨Bn, 0, none⟩), .pointer (some ⟨Bw, 0, none⟩), .pointer (some ⟨Bb, 0, none⟩), .pointer (some ⟨Bs, 0, none⟩)] A (Cl24P Bo Bn Bs n false (S0 ++ S1) A) := by
  have g1 : ¬ 9223372036854775807 < S0.size + 1 := by omega
  have g2 : ¬ 9223372036854775807 < S0.size + 1 + S1.size := by omega
  have g3 : ¬ 9223372036854775807 < S0.size + S1.size := by omega
  have hll := allL_length g len
  have c1 := ho.cell
  have f1 := ho.frozen
  have cn := hn.cell
  have cw := hw.cell
  have cb := hbb.cell
  have hlt : n < (allL g len).length := by
    rcases Nat.lt_or_ge n (allL g len).length with h | h
    · exact h
    · rw [List.getElem?_eq_none h] at hx; cases hx
  have hxm := allL_mem (List.mem_of_getElem? hx)
  have ngw : ∀ ao cv, v = .slice (some ao) (allL g len).length cv → True := fun _ _ _ => trivial
  obtain ⟨gw, cw', hv, hw1, hw2, hc1, hc2⟩ := span_cell hown hx
  subst hv
  have hlt' : (n : Int) < (allL g len).length := by omega
  unfold maxLen at hw2
  have ngw : gw ≠ Bo := by
    intro e
    subst e
    exact ho.not_row (by decide) hown rfl
  clear hxm hx hown hS
  have n0 : ¬ (0 : Int) < (n : Int) := by omega
  have n0b : decide ((0 : Int) < (n : Int)) = false := by simpa using n0
  have b1 := hn.other d1.symm (.bool false)
  have b2 := hs.other d2.symm (.bool false)
  have b3 := ho.set (.bool false)
  have z1 := b1.cell
  have z2 := b2.cell
  have z3 := b2.frozen
  have y3 := fun v => (b1.other d3 v).cell
  have y4 := fun v => (b1.other d3 v).frozen
  have y5 := fun v u => ((b3.other d2 v).other d1 u).cell
  clear ho hn hs hw hbb
  go_enter Tryd.func24, Tryd.ntmps24
  go_wp2
  refine wp_region_still_tail 33 (by kernel_rfl) (by kernel_rfl) ?_
  simp only [List.take_succ_cons, List.take_zero, List.drop_succ_cons, List.drop_zero]
  generalize hq : Act.mk _ _ = q
  repeat (refine wpStill_step (fun K hK => ?_); subst hq; go_simp; generalize hq : Act.mk _ _ = q; refine hK q ?_; clear hK K)
  refine wpStill_nil ?_
  subst hq
  change wpList _ _ _ _ _ (World.drew A)
  go_wp2
  go_ret
  exact ⟨rfl, fr_drew ((((Fr.refl _ A).setCell _ _ (.inl rfl)).setCell _ _ (.inr (.inr rfl))).setCell _ _ (.inr (.inl rfl))), ko_drew (((KeepsOthers.setCell _ _ _).trans (KeepsOthers.setCell _ _ _)).trans (KeepsOthers.setCell _ _ _)), ((b3.other d2 _).other d1 _), (b1.other d3 _).set _, (b2.set _).other d3.symm _⟩

end Go.Proofs.YtponficlejjafaaDoor
