/- shucklaw1.line: is a line as it should be? -/
import Derived.Deep.QuietTactic
import Derived.BigQuiet
import Derived.Test.YtponficlejjafaaDoorK3
import Derived.Test.YtponficlejjafaaDoorK4
import Derived.Test.YtponficlejjafaaDoorS5
namespace Go.Proofs.YtponficlejjafaaDoor
set_option linter.unusedSimpArgs false
set_option linter.unusedVariables false
open Go.RowKit Go.Shelf

theorem span_cell {w : World} {base n : Nat} {v : Value} {l : List (Nat × Nat)} {x : Nat × Nat} (h : w.ownsRow base 48 2 v l.length (rows2 l)) (hx : l[n]? = some x) :
    ∃ gw cap, v = .slice (some ⟨gw, 0, none⟩) l.length cap ∧ l.length ≤ cap ∧ cap ≤ maxLen ∧ w.cell? ⟨gw, n * 2, none⟩ = some (.int .i64 (x.1 : Int)) ∧ w.cell? ⟨gw, n * 2 + 1, none⟩ = some (.int .i64 (x.2 : Int)) := by
  have hn := (List.getElem?_eq_some_iff.1 hx).1
  have hxe := (List.getElem?_eq_some_iff.1 hx).2
  rcases h.2 with ⟨_, h0⟩ | ⟨gw, cap, cur, rfl, _, _, h1, h2, _, _⟩
  · omega
  · refine ⟨gw, cap, rfl, h1, h2, ?_, ?_⟩
    · have hr := rows2_get l n 0 hn (by decide)
      rw [hxe] at hr
      have := h.cells (g := gw) rfl (n * 2 + 0) _ hr
      rw [Addr.add_lit, Nat.zero_add] at this
      exact this
    · have hr := rows2_get l n 1 hn (by decide)
      rw [hxe] at hr
      have := h.cells (g := gw) rfl (n * 2 + 1) _ hr
      rw [Addr.add_lit, Nat.zero_add] at this
      exact this

set_option maxRecDepth 100000 in
set_option maxHeartbeats 2000000 in
theorem lineOk_any {b base : Nat} {a : Option Addr} {len cap : Nat} {g : Nat → Int} {v : Value} (hg : ∀ j, 0 ≤ g j ∧ g j ≤ 255) (n : Int) (hn1 : -9223372036854775808 ≤ n) (hn2 : n ≤ 9223372036854775807) (w : World) (hlen : len ≤ 1048576) (hS : Sl w b (.slice a len cap) len g) (hb : b < w.heap.size)
    (hown : w.ownsRow base 48 2 v (allL g len).length (rows2 (allL g len))) :
    Calls Tryd.prog 25 #[.slice a len cap, .int .i64 n, v] w fun e w' => e = .returned (.bool true) ∧ Below w.heap.size w w' := by
  have hll := allL_length g len
  have HL := hide (line_any hg n w (by omega) hS hb)
  have HS := hide hS
  have HO := hide hown
  obtain ⟨ao, cv, rfl⟩ := ownsRow_slice hown
  clear hS hown
  by_cases h1 : n < 1
  · have h1b : decide (n < 1) = true := by simpa using h1
    go_enter Tryd.func25, Tryd.ntmps25
    go_wp2_with (go_at_call 37; refine (unhide HL).mono ?_; rintro e w1 ⟨⟨s, er, rfl, hor⟩, hB1⟩; obtain ⟨rfl, rfl⟩ : s = ⟨#[]⟩ ∧ er = 11 := (by rcases hor with ⟨k, x, h2, _⟩ | ⟨_, h2, h3⟩ <;> first | exact ⟨h2, h3⟩ | omega); clear hor)
    go_ret
    exact ⟨rfl, hB1⟩
  · have h1b : decide (n < 1) = false := by simpa using h1
    by_cases h2 : ((allL g len).length : Int) < n
    · have h2b : decide (((allL g len).length : Int) < n) = true := by simpa using h2
      go_enter Tryd.func25, Tryd.ntmps25
      go_wp2_with (go_at_call 37; refine (unhide HL).mono ?_; rintro e w1 ⟨⟨s, er, rfl, hor⟩, hB1⟩; obtain ⟨rfl, rfl⟩ : s = ⟨#[]⟩ ∧ er = 11 := (by rcases hor with ⟨k, x, h3, h4, _⟩ | ⟨_, h3, h4⟩ <;> first | exact ⟨h3, h4⟩ | (have := (List.getElem?_eq_some_iff.1 h4).1; omega)); clear hor)
      go_ret
      exact ⟨rfl, hB1⟩
    · have h2b : decide (((allL g len).length : Int) < n) = false := by simpa using h2
      obtain ⟨k, rfl⟩ : ∃ k : Nat, n = (k : Int) + 1 := ⟨(n - 1).toNat, by omega⟩
      obtain ⟨x, hx⟩ : ∃ x, (allL g len)[k]? = some x := ⟨_, List.getElem?_eq_getElem (by omega)⟩
      have hkl : k < (allL g len).length := (List.getElem?_eq_some_iff.1 hx).1
      have hxm := allL_mem (List.mem_of_getElem? hx)
      obtain ⟨xf, xt⟩ := x
      have HX := hide hx
      obtain ⟨gw, cw, hv, hw1, hw2, hc1, hc2⟩ := span_cell (unhide HO) hx
      cases hv
      have HC1 := hide hc1
      have HC2 := hide hc2
      have HXM := hide hxm
      clear hc1 hc2 hxm hx
      have hk' : (k : Int) < (allL g len).length := by omega
      unfold maxLen at hw2
      go_enter Tryd.func25, Tryd.ntmps25
      go_wp2_with (go_at_call 37; refine (unhide HL).mono ?_; rintro e w1 ⟨⟨s, er, rfl, hor⟩, hB1⟩; obtain ⟨rfl, rfl⟩ : s = strOfNums (sub g xf xt) ∧ er = 0 := (by rcases hor with ⟨k', x', h3, h4, h5, h6⟩ | ⟨h3, _, _⟩ <;> first | (exact absurd h3 (by omega)) | (obtain rfl : k' = k := (by omega); have h7 := h4.symm.trans (unhide HX); cases h7; exact ⟨h5, h6⟩)); clear hor)
      have c1 := (hB1.cell (p := ⟨gw, k * 2, none⟩) (World.block_lt_of_cell? w _ (unhide HC1))).trans (unhide HC1)
      have c2 := (hB1.cell (p := ⟨gw, k * 2 + 1, none⟩) (World.block_lt_of_cell? w _ (unhide HC2))).trans (unhide HC2)
      have hS1 : Sl w1 b (.slice a len cap) len g := (unhide HS).keep (fun k e => by subst e; exact hB1.block k hb)
      obtain ⟨sv', hsl, hcv0⟩ := cut_conv hS1 (unhide HXM).1 (unhide HXM).2
      have hcv : ∀ N, (convert 22 9 sv').run Tryd.prog (w1.drewN N) = .ok (.string (strOfNums (sub g xf xt))) (w1.drewN N) := fun N => hcv0 _ (hS1.keep (fun _ _ => rfl))
      clear hcv0 hS1 HX HL HO h1b h2b hn1 hn2
      go_quiet (fail)
      go_wp2
      go_ret
      exact ⟨rfl, hB1.trans ⟨rfl, rfl, rfl, Nat.le_refl _, fun _ _ => rfl⟩⟩
end Go.Proofs.YtponficlejjafaaDoor
