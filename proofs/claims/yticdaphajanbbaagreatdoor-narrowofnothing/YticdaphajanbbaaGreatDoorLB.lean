/- A stable sort leaves a row that is in order. -/
import Derived.Deep.RegionHeld3
import Derived.Test.YticdaphajanbbaaGreatDoorLA
namespace Go.Proofs.YticdaphajanbbaaGreatDoor
set_option linter.unusedSimpArgs false
set_option linter.unusedVariables false
set_option maxRecDepth 100000
set_option maxHeartbeats 4000000
open Go.RowKit Go.Shelf

variable {P : Program} {lo M : Nat} {mo : Option Nat} {dv : Value} {L : List Kt} {W : World}
/-- A row of keys and numbers, as far as it is filled. -/
def F2 (w : World) (g n i : Nat) (f : Nat → ByteArray × Int) : Prop := ∃ cur : Array Value, w.heap[g]? = some (.cells cur 126) ∧ cur.size = n * 2 ∧ ∀ j, j < i → cur[j * 2]? = some (.string (f j).1) ∧ cur[j * 2 + 1]? = some (.int .i64 (f j).2)
theorem F2.keep {w w' : World} {g n i : Nat} {f : Nat → ByteArray × Int} (h : F2 w g n i f) (e : w'.heap[g]? = w.heap[g]?) : F2 w' g n i f := by
  obtain ⟨cur, h1, h2⟩ := h
  exact ⟨cur, e.trans h1, h2⟩
theorem F2.lt {w : World} {g n i : Nat} {f : Nat → ByteArray × Int} (h : F2 w g n i f) : g < w.heap.size := by
  obtain ⟨cur, h1, h2⟩ := h
  exact (Array.getElem?_eq_some_iff.1 h1).1
theorem F2.get {w : World} {g n i : Nat} {f : Nat → ByteArray × Int} (h : F2 w g n i f) {j : Nat} (hj : j < i) : w.cell? ⟨g, j * 2, none⟩ = some (.string (f j).1) ∧ w.cell? ⟨g, j * 2 + 1, none⟩ = some (.int .i64 (f j).2) := by
  obtain ⟨cur, h1, h2, h3⟩ := h
  simp [World.cell?, h1, h3 j hj]
theorem insertion_sorted (g n c : Nat) (f : Nat → ByteArray × Int) (W : World) (h : F2 W g n n f) (hn : 1 ≤ n) (hl : n ≤ 1000000000) (hc : n ≤ c) (hs : ∀ j, j + 1 < n → Op.bytesLess (f (j + 1)).1.toList (f j).1.toList = false) :
    Calls Tryz.prog 130 #[.slice (some ⟨g, 0, none⟩) n c, .int .i64 0, .int .i64 (n : Int), .func (.func 80) #[] #[]] W fun e w' => e = .returned (.tuple #[]) ∧ Below W.heap.size W w' := by
  have H := hide h
  have HS := hide hs
  clear h hs
  go_enter Tryz.func130, Tryz.ntmps130
  go_wp2
  go_loopw [8] (fun u wr => ∃ i : Nat, 1 ≤ i ∧ i ≤ n ∧ u = .int .i64 (i : Int) ∧ Below W.heap.size W wr) (fun u _ => n - (intOf u).toNat)
  case atStart => exact ⟨1, by omega, hn, rfl, Below.refl _ _⟩
  case round =>
    obtain ⟨i, hi1, hi, rfl, hb⟩ := hrel
    have HB := hide hb
    clear hb
    by_cases hil : i < n
    · obtain ⟨k, rfl⟩ : ∃ k, i = k + 1 := ⟨i - 1, by omega⟩
      have hFr : F2 wr g n n f := (unhide H).keep ((unhide HB).block g (unhide H).lt)
      have hgl := hFr.lt
      obtain ⟨a1, a2⟩ := hFr.get (j := k + 1) hil
      obtain ⟨b1, b2⟩ := hFr.get (j := k) (by omega)
      have HSK := hide (unhide HS k hil)
      obtain ⟨s1, hs1⟩ : ∃ s1, (f (k + 1)).1 = s1 := ⟨_, rfl⟩
      obtain ⟨s0, hs0⟩ : ∃ s0, (f k).1 = s0 := ⟨_, rfl⟩
      rw [hs1, hs0] at HSK
      rw [hs1] at a1
      rw [hs0] at b1
      obtain ⟨x1, hx1⟩ : ∃ x1, (f (k + 1)).2 = x1 := ⟨_, rfl⟩
      obtain ⟨x0, hx0⟩ : ∃ x0, (f k).2 = x0 := ⟨_, rfl⟩
      rw [hx1] at a2
      rw [hx0] at b2
      have HSS : Hid (∀ w', Below wr.heap.size wr w' → w'.cell? ⟨g, (k + 1) * 2, none⟩ = some (.string s1) ∧ w'.cell? ⟨g, (k + 1) * 2 + 1, none⟩ = some (.int .i64 x1) ∧ w'.cell? ⟨g, k * 2, none⟩ = some (.string s0) ∧ w'.cell? ⟨g, k * 2 + 1, none⟩ = some (.int .i64 x0)) := fun w' hb => ⟨(hb.cell (p := ⟨g, _, none⟩) hgl).trans a1, (hb.cell (p := ⟨g, _, none⟩) hgl).trans a2, (hb.cell (p := ⟨g, _, none⟩) hgl).trans b1, (hb.cell (p := ⟨g, _, none⟩) hgl).trans b2⟩
      clear hFr hs1 hs0 hx1 hx0
      go_wp2
      have hws1 : IntKind.i64.wrap (((k + 1 : Nat) : Int) - 1) = (k : Int) := by rw [IntKind.wrap_i64]; omega
      have hws2 : IntKind.i64.wrap ((k : Int) + 1 - 1) = (k : Int) := by rw [IntKind.wrap_i64]; omega
      have hws3 : IntKind.i64.wrap (k : Int) = (k : Int) := by rw [IntKind.wrap_i64]; omega
      have hkn : (k : Int) < (n : Int) := by omega
      have hk0 : (0 : Int) ≤ (k : Int) := by omega
      have hk1 : (0 : Int) ≤ (k : Int) + 1 := by omega
      have hk2 : (k : Int) + 1 < (n : Int) := by omega
      have hk3 : ((k : Int) + 1).toNat = k + 1 := by omega
      have hk4 : (0 : Int) < (k : Int) + 1 := by omega
      have hkn2 : k < n := by omega
      refine wp_loop_rounds 1 ?_
      rw [rounds_succ]
      go_wp2
      go_region_held3 (fun w' => w'.cell? ⟨g, (k + 1) * 2, none⟩ = some (.string s1) ∧ w'.cell? ⟨g, (k + 1) * 2 + 1, none⟩ = some (.int .i64 x1) ∧ w'.cell? ⟨g, k * 2, none⟩ = some (.string s0) ∧ w'.cell? ⟨g, k * 2 + 1, none⟩ = some (.int .i64 x0))
        (with_reducible first
          | exact unhide HSS _ (Below.refl _ _)
          | exact unhide HSS _ (Below.refl _ _).drew
          | exact unhide HSS _ hb1
          | assumption)
        ((go_at_call 80; refine (less_no s1 s0 x1 x0 (unhide HSK) _).mono ?_; rintro e w1 ⟨⟨cc, rfl, hcc⟩, h1⟩; have hb1 : Below wr.heap.size wr w1 := (Below.refl _ wr).drew.trans h1; have hcn : ¬ cc < 0 := (by omega); clear h1))
      all_goals (
        have HB1 := hide ((unhide HB).trans (hb1.mono (unhide HB).size))
        clear hb1
        go_wp2
        go_roundw
        case rel => exact ⟨k + 1 + 1, by omega, by omega, by go_num, unhide HB1⟩
        case measure => simp [intOf]; omega)
    · have hie : i = n := by omega
      subst hie
      go_wp2
      refine bodyPost_end (results_none rfl _ _ _) rfl ⟨rfl, unhide HB⟩
theorem stable_sorted (g n c : Nat) (f : Nat → ByteArray × Int) (W : World) (h : F2 W g n n f) (hn : 1 ≤ n) (hl : n < 20) (hc : n ≤ c) (hs : ∀ j, j + 1 < n → Op.bytesLess (f (j + 1)).1.toList (f j).1.toList = false) :
    Calls Tryz.prog 104 #[.slice (some ⟨g, 0, none⟩) n c, .int .i64 (n : Int), .func (.func 80) #[] #[]] W fun e w' => e = .returned (.tuple #[]) ∧ Below W.heap.size W w' := by
  have HI := hide (insertion_sorted g n c f W h hn (by omega) hc hs)
  have h20 : ¬ (20 : Int) ≤ (n : Int) := by omega
  have h20' : ¬ (20 : Int) < (n : Int) := by omega
  clear h hs
  go_enter Tryz.func104, Tryz.ntmps104
  go_wp2
  refine wp_loop_rounds 1 ?_
  rw [rounds_succ]
  go_wp2_with (first
    | (go_at_call 130
       refine (unhide HI).mono ?_
       rintro e w2 ⟨rfl, hb2⟩))
  refine wp_loop_rounds 1 ?_
  rw [rounds_succ]
  go_wp2
  exact bodyPost_end (results_none rfl _ _ _) rfl ⟨rfl, hb2⟩
theorem sort_sorted (g n c : Nat) (f : Nat → ByteArray × Int) (W : World) (h : F2 W g n n f) (hn : 1 ≤ n) (hl : n < 20) (hc : n ≤ c) (hs : ∀ j, j + 1 < n → Op.bytesLess (f (j + 1)).1.toList (f j).1.toList = false) :
    Calls Tryz.prog 79 #[.slice (some ⟨g, 0, none⟩) n c, .func (.func 80) #[] #[]] W fun e w' => e = .returned (.tuple #[]) ∧ Below W.heap.size W w' := by
  have HI := hide (stable_sorted g n c f W h hn hl hc hs)
  clear h hs
  go_enter Tryz.func79, Tryz.ntmps79
  go_wp2_with (first
    | (go_at_call 104
       refine (unhide HI).mono ?_
       rintro e w2 ⟨rfl, hb2⟩))
  exact bodyPost_end (results_none rfl _ _ _) rfl ⟨rfl, hb2⟩
end Go.Proofs.YticdaphajanbbaaGreatDoor
