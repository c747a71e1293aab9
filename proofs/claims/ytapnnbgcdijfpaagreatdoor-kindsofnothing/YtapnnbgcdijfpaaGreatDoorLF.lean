/- heavy, of one step. -/
import Derived.Test.YtapnnbgcdijfpaaGreatDoorLE
namespace Go.Proofs.YtapnnbgcdijfpaaGreatDoor
set_option linter.unusedSimpArgs false
set_option linter.unusedVariables false
set_option maxRecDepth 100000
set_option maxHeartbeats 4000000
open Go.RowKit Go.Shelf

/-- The values of a step. -/
structure Sp where
  kind : Int
  tk : Int
  tn : Int
  tt : ByteArray
  pa : Option Addr
  pn : Nat
  pc : Nat
  na : Option Addr
  nn : Nat
  nc : Nat
  ma : Option Addr
  mn : Nat
  mc : Nat
  id : Int
  ia : Option Addr
  il : Nat
  ic : Nat
  node : Int
  va : Option Addr
  vn : Nat
  vc : Nat
  ca : Option Addr
  cn : Nat
  cc : Nat
def Sp.cells (s : Sp) : Array Value := #[.int .i64 s.kind, .int .i64 s.tk, .int .i64 s.tn, .string s.tt, .slice s.pa s.pn s.pc, .slice s.na s.nn s.nc, .slice s.ma s.mn s.mc, .int .i64 s.id, .slice s.ia s.il s.ic, .int .i64 s.node, .slice s.va s.vn s.vc, .slice s.ca s.cn s.cc]
/-- A row of structs whose first field is a text. -/
def StrRow (w : World) (a : Option Addr) (n c k : Nat) : Prop := n ≤ c ∧ c ≤ 9223372036854775807 ∧ (n = 0 ∨ ∃ b o, a = some ⟨b, o, none⟩ ∧ b < w.heap.size ∧ ∀ j, j < n → ∃ s : ByteArray, w.cell? ⟨b, o + j * k, none⟩ = some (.string s))
theorem StrRow.below {w w' : World} {a : Option Addr} {n c k : Nat} (h : StrRow w a n c k) (hb : Below w.heap.size w w') : StrRow w' a n c k := by
  obtain ⟨h1, h2, h3⟩ := h
  refine ⟨h1, h2, ?_⟩
  rcases h3 with h3 | ⟨b, o, e, hl, hc⟩
  · exact .inl h3
  · refine .inr ⟨b, o, e, Nat.lt_of_lt_of_le hl hb.size, fun j hj => ?_⟩
    obtain ⟨s, hs⟩ := hc j hj
    exact ⟨s, (hb.cell (p := ⟨b, _, none⟩) hl).trans hs⟩
theorem info29 : (Tryz.prog.info? 29).map (·.size) = some 12 := by kernel_rfl
theorem one12 (s : Sp) : s.cells.all (·.oneCell') = true := by simp [Sp.cells, Value.oneCell']
def IsB (e : Ending) : Prop := ∃ r, e = .returned (.bool r)
theorem heavy_any (s : Sp) (b : Nat) (W : World) (hb : Bx W b s.cells 29) (hn : StrRow W s.na s.nn s.nc 1) (hp : StrRow W s.ca s.cn s.cc 3) :
    Calls Tryz.prog 9 #[.slice (some ⟨b, 0, none⟩) 1 1] W fun e w' => IsB e ∧ Below W.heap.size W w' := by
  have HRA : Hid (W.rangeAt b 0 s.cells.toList) := fun j v hj => by
    have := hb.cell j (x := v) (by simpa using hj)
    rw [Nat.zero_add]; exact this
  obtain ⟨z29, hz29⟩ : ∃ z29 : Array Value, z29 = #[.int .i64 0, .int .i64 0, .int .i64 0, .string ⟨#[]⟩, .slice none 0 0, .slice none 0 0, .slice none 0 0, .int .i64 0, .slice none 0 0, .int .i64 0, .slice none 0 0, .slice none 0 0] := ⟨_, rfl⟩
  obtain ⟨W1, hW1⟩ : ∃ W1, (W.alloc (.cells z29 29)).setRow W.heap.size s.cells = W1 := ⟨_, rfl⟩
  have hx1 : Bx W1 W.heap.size s.cells 29 := by rw [← hW1]; exact setRow_heap _ _ _ _ _ _ (al_at W _)
  have hb1 : Below W.heap.size W W1 := by rw [← hW1]; exact below_row ((Below.refl _ W).alloc (Nat.le_refl _) _) (Nat.le_refl _) _
  have HN := hide (hn.below hb1)
  have HP := hide (hp.below hb1)
  have HB1 := hide hb1
  have d3 : W1.cell? ⟨W.heap.size, 3, none⟩ = some (.string s.tt) := hx1.cell 3 rfl
  have d4 : W1.cell? ⟨W.heap.size, 4, none⟩ = some (.slice s.pa s.pn s.pc) := hx1.cell 4 rfl
  have d5 : W1.cell? ⟨W.heap.size, 5, none⟩ = some (.slice s.na s.nn s.nc) := hx1.cell 5 rfl
  have d6 : W1.cell? ⟨W.heap.size, 6, none⟩ = some (.slice s.ma s.mn s.mc) := hx1.cell 6 rfl
  have d8 : W1.cell? ⟨W.heap.size, 8, none⟩ = some (.slice s.ia s.il s.ic) := hx1.cell 8 rfl
  have d10 : W1.cell? ⟨W.heap.size, 10, none⟩ = some (.slice s.va s.vn s.vc) := hx1.cell 10 rfl
  have d11 : W1.cell? ⟨W.heap.size, 11, none⟩ = some (.slice s.ca s.cn s.cc) := hx1.cell 11 rfl
  have dl := hx1.lt
  have hbl := hb.lt
  rw [hz29] at hW1
  clear hb hn hp hx1 hb1 hz29
  go_enter Tryz.func9, Tryz.ntmps9
  go_wp2
  refine wp_loop_rounds 2 ?_
  rw [rounds_succ]
  go_wp2_with (first
    | (refine wpList_load_mid rfl 29 _ rfl b 0 rfl s.cells.toList _ (unhide HRA) Tryz.underlying29 rfl info29 ?_)
    | (refine wpList_store_row rfl 29 _ _ rfl W.heap.size _ rfl rfl 29 _ (al_at W _) info29 rfl (one12 s) ?_))
  have hnc := (unhide HN).1
  have hncm := (unhide HN).2.1
  have hcc := (unhide HP).1
  have hccm := (unhide HP).2.1
  go_loop [3, 6] (fun t u => ∃ (z : Int) (j : Nat), j ≤ s.nn ∧ u = .int .i64 (j : Int) ∧ t = .int .i64 z) (fun _ u => s.nn - (intOf u).toNat)
  case atStart => exact ⟨_, 0, Nat.zero_le _, rfl, rfl⟩
  case round =>
    obtain ⟨z, j, hj, rfl, rfl⟩ := hrel
    by_cases hgo : j < s.nn ∧ z ≤ 6000
    · obtain ⟨hjl, hz⟩ := hgo
      rcases (unhide HN).2.2 with h0 | ⟨g, o, hna, hgl, hcell⟩
      · omega
      obtain ⟨x, hx⟩ := hcell j hjl
      rw [Nat.mul_one] at hx
      rw [hna] at d5
      clear hcell hna
      go_wp2
      go_round
      case rel => exact ⟨_, j + 1, by omega, by go_num, rfl⟩
      case measure => simp [intOf]; omega
    · have hcase : (¬ (j : Int) < (s.nn : Int)) ∨ ((j : Int) < (s.nn : Int) ∧ ¬ z ≤ 6000) := by
        by_cases h1 : j < s.nn
        · exact .inr ⟨by omega, fun h => hgo ⟨h1, h⟩⟩
        · exact .inl (by omega)
      clear hgo
      rcases hcase with hA | ⟨hA, hB⟩
      all_goals (
        go_wp2
        go_loop [3, 7] (fun t u => ∃ (z : Int) (j : Nat), j ≤ s.cn ∧ u = .int .i64 (j : Int) ∧ t = .int .i64 z) (fun _ u => s.cn - (intOf u).toNat)
        case atStart => exact ⟨_, 0, Nat.zero_le _, rfl, rfl⟩
        case round =>
          obtain ⟨y, i, hi, rfl, rfl⟩ := hrel
          by_cases hgo : i < s.cn ∧ y ≤ 6000
          · obtain ⟨hil, hy⟩ := hgo
            rcases (unhide HP).2.2 with h0 | ⟨g, o, hca, hgl, hcell⟩
            · omega
            obtain ⟨x, hx⟩ := hcell i hil
            rw [hca] at d11
            clear hcell hca
            go_wp2
            go_round
            case rel => exact ⟨_, i + 1, by omega, by go_num, rfl⟩
            case measure => simp [intOf]; omega
          · have hcase2 : (¬ (i : Int) < (s.cn : Int)) ∨ ((i : Int) < (s.cn : Int) ∧ ¬ y ≤ 6000) := by
              by_cases h1 : i < s.cn
              · exact .inr ⟨by omega, fun h => hgo ⟨h1, h⟩⟩
              · exact .inl (by omega)
            clear hgo
            rcases hcase2 with hC | ⟨hC, hD⟩
            · by_cases hy : y > 6000
              · go_wp2
                go_ret
                exact ⟨⟨_, rfl⟩, unhide HB1⟩
              · go_wp2
                rw [rounds_succ]
                go_wp2
                go_ret
                exact ⟨⟨_, rfl⟩, unhide HB1⟩
            · have hy : y > 6000 := by omega
              go_wp2
              go_ret
              exact ⟨⟨_, rfl⟩, unhide HB1⟩)
end Go.Proofs.YtapnnbgcdijfpaaGreatDoor
