/- The document's own Lines (package shuckref1): the list of the lines' spans. -/
import Derived.Test.YtponficlejjafaaDoorK1
import Derived.Test.YtponficlejjafaaDoorR3
namespace Go.Proofs.YtponficlejjafaaDoor
set_option linter.unusedSimpArgs false
set_option linter.unusedVariables false
open Go.RowKit Go.Shelf

theorem infoSpan : (Tryd.prog.info? 48).map (fun i => (i.zero, i.size, i.bytes)) = some (some (.agg #[.int .i64 0, .int .i64 0]), 2, 16) := by kernel_rfl
/-- The cells of spans. -/
def row2 (x : Nat × Nat) : List Value := [.int .i64 (x.1 : Int), .int .i64 (x.2 : Int)]
def rows2 (l : List (Nat × Nat)) : List Value := l.flatMap row2
theorem rows2_snoc (l : List (Nat × Nat)) (x : Nat × Nat) : rows2 (l ++ [x]) = rows2 l ++ row2 x := by simp [rows2]
theorem rows2_get : ∀ (l : List (Nat × Nat)) (i j : Nat) (hi : i < l.length), j < 2 → (rows2 l)[i * 2 + j]? = (row2 l[i])[j]?
  | [], i, j, hi, _ => by simp at hi
  | x :: l, 0, j, hi, hj => by
    simp only [rows2, List.flatMap_cons]
    rw [List.getElem?_append_left (by simp [row2]; omega)]
    simp
  | x :: l, i + 1, j, hi, hj => by
    simp only [rows2, List.flatMap_cons]
    rw [List.getElem?_append_right (by simp [row2]; omega)]
    have := rows2_get l i j (by simpa using hi) hj
    simp only [row2, List.length_cons, List.length_nil, List.getElem_cons_succ] at this ⊢
    rw [← this]
    simp only [rows2]
    congr 1
    omega

set_option maxRecDepth 100000 in
set_option maxHeartbeats 2000000 in
theorem rlines_any {b : Nat} {a : Option Addr} {len cap : Nat} {g : Nat → Int} (hg : ∀ j, 0 ≤ g j ∧ g j ≤ 255) (w : World) (hlen : len ≤ 1048576) (hS : Sl w b (.slice a len cap) len g) (hb : b < w.heap.size) :
    Calls Tryd.prog 22 #[.slice a len cap] w fun e w' => ∃ v, e = .returned v ∧ w'.ownsRow w.heap.size 48 2 v (allL g len).length (rows2 (allL g len)) ∧ Below w.heap.size w w' := by
  obtain ⟨i0, hi, hz0, hz1, hz2⟩ := info_parts infoSpan
  have HS := hide hS
  clear hS
  go_enter Tryd.func22, Tryd.ntmps22
  go_wp2
  go_loopw [3, 4, 5] (fun l f p wr => ∃ k : Nat, k ≤ len ∧ p = .int .i64 (k : Int) ∧ f = .int .i64 ((lns g k).2 : Int) ∧ wr.ownsRow w.heap.size 48 2 l (lns g k).1.length (rows2 (lns g k).1) ∧ Below w.heap.size w wr) (fun _ _ p _ => len - (intOf p).toNat)
  case atStart => exact ⟨0, Nat.zero_le _, rfl, rfl, World.ownsRow_nil _ _ _ _, Below.refl _ _⟩
  case round =>
    obtain ⟨k, hk, rfl, rfl, hown, hB⟩ := hrel
    have HO := hide hown
    have hll := lns_length g k
    have hle := lns_le g k
    have hsr := hB.size
    clear hown
    by_cases hlt : k < len
    · have hlt' : (k : Int) < len := by omega
      have hSr : Sl wr b (.slice a len cap) len g := (unhide HS).keep (fun k e => by subst e; exact hB.block k hb)
      obtain ⟨off, cap', hv, h0, h1, h2, hcs⟩ : ∃ off cap', Value.slice a len cap = .slice (some ⟨b, off, none⟩) len cap' ∧ 0 < len ∧ len ≤ cap' ∧ cap' ≤ maxLen ∧ ∀ j, j < len → wr.cell? ⟨b, off + j, none⟩ = some (.int .u8 (g j)) := by
        rcases hSr with ⟨_, _, h, h0⟩ | h
        · omega
        · exact h
      cases hv
      unfold maxLen at h2
      have hci := hcs k hlt
      have hgi := hg k
      clear hcs hSr
      by_cases h10 : g k = 10
      · have hb10 : (g k == 10) = true := by simp [h10]
        have L1 := hide (lns_yes h10)
        clear h10
        go_wp2_with (at_builtin; refine wpList_append_own _ rfl _ _ 43 rfl w.heap.size 48 i0 _ 2 16 Tryd.underlying43 hi hz0 hz1 hz2 rfl (by decide) _ _ _ rfl ((unhide HO).alloc _) ⟨wr.heap.size, 0, none⟩ 1 1 (row2 ((lns g k).2, k)) rfl rfl ?c1 ?c2 ?c3 ?c4 ?c5 ?_)
        case c1 =>
          intro j u hj
          first | (rw [Addr.add_lit, Nat.zero_add, World.cell?_alloc_mark, ← hj]; simp [row2]) | (rw [← hj]; simp [row2])
        case c2 => intro u hu; simp [row2] at hu; rcases hu with rfl | rfl <;> rfl
        case c3 => unfold maxLen; omega
        case c4 => omega
        case c5 => first | omega | (simp; omega) | (rw [World.size_alloc]; omega)
        intro v' w3 hown3 hg3 _
        have hBk : Below w.heap.size w w3 := (hB.alloc hB.size _).grown hg3 (by simp; omega) (fun j hj => ((unhide HO).lt j hj).1)
        have HO3 := hide hown3
        clear hown3 hg3
        go_wp2
        refine ⟨⟨k + 1, hlt, by go_num, by rw [unhide L1]; go_num, ?_, hBk⟩, by simp [intOf]; omega⟩
        rw [unhide L1, rows2_snoc, List.length_append, List.length_singleton]
        exact unhide HO3
      · have hb10 : (g k == 10) = false := by simp [h10]
        have L1 := hide (lns_no h10)
        clear h10
        go_wp2
        refine ⟨⟨k + 1, hlt, by go_num, by rw [unhide L1], ?_, hB⟩, by simp [intOf]; omega⟩
        rw [unhide L1]
        exact unhide HO
    · have hlt' : ¬ (k : Int) < len := by omega
      obtain rfl : k = len := by omega
      go_wp2_with (at_builtin; refine wpList_append_own _ rfl _ _ 43 rfl w.heap.size 48 i0 _ 2 16 Tryd.underlying43 hi hz0 hz1 hz2 rfl (by decide) _ _ _ rfl ((unhide HO).alloc _) ⟨wr.heap.size, 0, none⟩ 1 1 (row2 ((lns g k).2, k)) rfl rfl ?c1 ?c2 ?c3 ?c4 ?c5 ?_)
      case c1 =>
        intro j u hj
        first | (rw [Addr.add_lit, Nat.zero_add, World.cell?_alloc_mark, ← hj]; simp [row2]) | (rw [← hj]; simp [row2])
      case c2 => intro u hu; simp [row2] at hu; rcases hu with rfl | rfl <;> rfl
      case c3 => unfold maxLen; omega
      case c4 => omega
      case c5 => first | omega | (simp; omega) | (rw [World.size_alloc]; omega)
      intro v' w3 hown3 hg3 _
      have hBk : Below w.heap.size w w3 := (hB.alloc hB.size _).grown hg3 (by simp; omega) (fun j hj => ((unhide HO).lt j hj).1)
      have HO3 := hide hown3
      clear hown3 hg3
      go_wp2
      go_ret
      refine ⟨_, rfl, ?_, hBk⟩
      rw [allL, rows2_snoc, List.length_append, List.length_singleton]
      exact unhide HO3
end Go.Proofs.YtponficlejjafaaDoor
