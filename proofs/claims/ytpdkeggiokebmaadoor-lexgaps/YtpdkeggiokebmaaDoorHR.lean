/- Merged: GQ. -/
import Derived.BigQuiet
import Derived.Deep.QuietTactic
import Derived.LoopN
import Derived.WalkMore
import Derived.Test.YtpdkeggiokebmaaDoorHQ
/- LexGaps: the walk. -/
namespace Go.Proofs.YtpdkeggiokebmaaDoor
set_option linter.unusedSimpArgs false
set_option linter.unusedVariables false
open Go.ChangeShapes Go.WideShapes Go.ChangeAt Go.RowKit Go.Shelf

set_option maxRecDepth 100000 in
set_option maxHeartbeats 8000000 in
theorem lexGaps_small (a : Option Addr) (len cap c : Nat) (g : Nat → Int) (hg : ∀ j, 0 ≤ g j ∧ g j ≤ 255) (W : World) (hlen : len ≤ 300) (hS : Sl W c (.slice a len cap) len g) (hc : c < W.heap.size) (hnil : a = none → cap = 0) (hE1 : ErrG W 1) (hE2 : ErrG W 2) :
    Calls Tryd.prog 5 #[.slice a len cap] W fun e w' => e = .returned (.bool true) ∧ Below W.heap.size W w' := by
  have h2w := hE2.lt
  have HSA : Hid (∀ W', Below W.heap.size W W' → Sl W' c (.slice a len cap) len g) := fun W' hb => hS.keep (fun k e => by subst e; exact hb.block k hc)
  have HE : Hid (∀ W', Below W.heap.size W W' → ErrG W' 1 ∧ ErrG W' 2) := fun W' hb => ⟨hE1.below hb (by omega), hE2.below hb h2w⟩
  have HK : Hid (∀ W', Below W.heap.size W W' → Calls Tryd.prog 14 #[] W' fun e w' => e = .returned (.bool true) ∧ Below W'.heap.size W' w') := fun W' hb => lexknown_any W' (unhide HE W' hb).1 (unhide HE W' hb).2
  have HG := hide hg
  have HN := hide hnil
  have hlI := hide (scI_len g len)
  have hpI := hide (sc_some (g := g) (len := len) len 0 [] (by omega))
  have HT := hide (callsIn_wide.1 (tokens_any a len cap c g hg W (by omega) hS hc hnil hE1 hE2))
  have hl' : ¬ (300 : Int) < len := by omega
  have hld : decide ((300 : Int) < len) = false := by simpa using hl'
  have hcap : len ≤ cap := by
    rcases hS with ⟨a', cap', h, h0⟩ | ⟨off, cap', h, _, h3, _⟩
    · cases h; omega
    · cases h; omega
  clear hS hE1 hE2 hnil hg
  go_enter Tryd.func5, Tryd.ntmps5
  go_wp2_with (go_at_call 10; refine (unhide HT).mono ?_)
  rintro x W1 hT1
  have HB1 := hide hT1.2
  have hz1 := hT1.2.size
  rcases hT1.1 with ⟨hok1, v1, rfl, hv1⟩ | ⟨p, i, hp, hokp, rfl⟩
  · have HOK1 := hide hok1
    obtain ⟨g1, c1, hvv, q1, q2, hg1, _⟩ := row_open hv1 (unhide hpI)
    obtain ⟨n, hn⟩ : ∃ n, (scI g len 0 []).length = n := ⟨_, rfl⟩
    have HV1 := hide hv1
    have hl1 : n ≤ 301 := by rw [← hn]; exact Nat.le_trans (unhide hlI) (by omega)
    rw [hn] at hvv q1
    have HN1 := hide hn
    subst hvv
    unfold maxLen at q2
    clear hT1 hok1 hv1 hn
    go_wp2
    go_loopw [6, 7] (fun t6 t7 wr => ∃ k at' : Nat, k ≤ n ∧ at' ≤ len ∧ t7 = .int .i64 (k : Int) ∧ t6 = .int .i64 (at' : Int) ∧ Hid (Below W1.heap.size W1 wr) ∧ Hid (k < n → ∃ bs, okI (scI g len at' bs) ∧ scI g len at' bs = (scI g len 0 []).drop k)) (fun _ t7 _ => n - (intOf t7).toNat)
    case atStart => exact ⟨0, 0, Nat.zero_le _, Nat.zero_le _, rfl, rfl, Below.refl _ _, fun _ => ⟨[], unhide HOK1, rfl⟩⟩
    case round =>
      obtain ⟨k, at', hk, hat, rfl, rfl, HB, HX⟩ := hrel
      have hrz := (unhide HB).size
      have HBw := hide ((unhide HB1).trans ((unhide HB).mono hz1))
      by_cases hlt : k < n
      · have hlt' : (k : Int) < n := by omega
        obtain ⟨t, ht⟩ : ∃ t, (scI g len 0 [])[k]? = some t := ⟨_, List.getElem?_eq_getElem (by rw [show (scI g len 0 []).length = n from unhide HN1]; exact hlt)⟩
        obtain ⟨bs, hok, hd⟩ := unhide HX hlt
        obtain ⟨j, hgap, hj0, hj1, htj, hje, hel, hend⟩ := gap_round hok hat hd ht
        obtain ⟨y0, y1, y2, y3⟩ := row_cells (unhide HV1) ht
        have up : ∀ {q : Addr} {u : Value}, W1.cell? q = some u → wr.cell? q = some u := fun {q u} h => ((unhide HB).cell (World.block_lt_of_cell? W1 _ h)).trans h
        have y0 := up y0; have y1 := up y1; have y2 := up y2; have y3 := up y3
        obtain ⟨⟨kd, tx, tj, e⟩, er⟩ := t
        simp only at y0 y1 y2 y3 htj hje hel hend
        subst htj
        have HTX : Hid (k + 1 < n → ∃ bs, okI (scI g len e bs) ∧ scI g len e bs = (scI g len 0 []).drop (k + 1)) := fun hk1 => by
          rcases hend with ⟨_, hL⟩ | ⟨_, _, bs', _, h1, h2⟩
          · have := unhide HN1
            omega
          · exact ⟨bs', h1, h2⟩
        have HEND := hide hend
        have HGAP := hide hgap
        obtain ⟨S, hS⟩ : ∃ S, strOfNums tx = S := ⟨_, rfl⟩
        rw [hS] at y1
        have HS := hide hS
        clear up ht hS hend hgap hok hd
        obtain ⟨WA, hWA⟩ : ∃ WA, wr.alloc (.cells #[.int .i64 kd, .string S, .int .i64 (tj : Int), .int .i64 (e : Int)] 33) = WA := ⟨_, rfl⟩
        have hBA : Below W.heap.size W WA := by rw [← hWA]; exact (unhide HBw).alloc (by omega) _
        have hza : WA.heap.size = wr.heap.size + 1 := by rw [← hWA]; simp
        have hnew : WA.heap[wr.heap.size]? = some (.cells #[.int .i64 kd, .string S, .int .i64 (tj : Int), .int .i64 (e : Int)] 33) := by rw [← hWA]; exact World.alloc_heap_new wr _
        have z0 : WA.cell? ⟨wr.heap.size, 0, none⟩ = some (.int .i64 kd) := by rw [Lib.cell_of_heap hnew]; rfl
        have z1 : WA.cell? ⟨wr.heap.size, 1, none⟩ = some (.string S) := by rw [Lib.cell_of_heap hnew]; rfl
        have z2 : WA.cell? ⟨wr.heap.size, 2, none⟩ = some (.int .i64 (tj : Int)) := by rw [Lib.cell_of_heap hnew]; rfl
        have z3 : WA.cell? ⟨wr.heap.size, 3, none⟩ = some (.int .i64 (e : Int)) := by rw [Lib.cell_of_heap hnew]; rfl
        have HBA := hide hBA
        obtain ⟨a1, cap1, hsl1, hn1, hsr1⟩ := cut_lh (c := c) (g := g) (unhide HN) hcap hj0 hj1
        have HBL := hide (blank_any a1 (tj - at') cap1 (fun j => g (at' + j)) (fun j => unhide HG _) WA (by omega) (hsr1 WA (unhide HSA WA hBA)).2 (gap_alone (unhide HGAP) 0 (tj - at' + 1) hat (fun m hm => by unfold joinG; rw [if_pos (by omega), Nat.zero_add]) (by omega) (by unfold joinG; rw [if_neg (by omega), if_pos (by omega)])) (unhide HE WA hBA).1 (unhide HE WA hBA).2)
        have d1 : ¬ (tj : Int) < at' := by omega
        have d2 : ¬ (e : Int) < tj := by omega
        have d3 : ¬ (len : Int) < e := by omega
        have HZA := hide hza
        clear hsr1 hBA hnew hn1 hza
        go_wp2_with (go_at_call 18; refine (unhide HBL).mono ?_)
        rintro x W2 rfl hB2
        have HB2 := hide ((unhide HBA).trans (hB2.mono (unhide HBA).size))
        have hz2 := hB2.size
        have zup : ∀ {o : Nat} {u : Value}, WA.cell? ⟨wr.heap.size, o, none⟩ = some u → W2.cell? ⟨wr.heap.size, o, none⟩ = some u := fun {o u} h => (hB2.cell (by show wr.heap.size < _; rw [show WA.heap.size = wr.heap.size + 1 from unhide HZA]; omega)).trans h
        have z0' := zup z0; have z1' := zup z1; have z2' := zup z2; have z3' := zup z3
        have HBr2 : Hid (Below W1.heap.size W1 W2) := (unhide HB).trans (by
          have h1 : Below W1.heap.size wr WA := by rw [← hWA]; exact (Below.refl _ wr).alloc hrz _
          exact h1.trans (hB2.mono (by rw [show WA.heap.size = wr.heap.size + 1 from unhide HZA]; omega)))
        clear hB2 zup z0 z1 z2 z3 hsl1 hWA y0 y1 y2 y3
        by_cases hkd : kd = 7 ∨ kd = 8 ∨ kd = 6 ∨ kd = 10
        · rcases hkd with rfl | rfl | rfl | rfl
          · go_wp2
            exact ⟨⟨k + 1, e, by omega, by omega, by go_num, rfl, HBr2, HTX⟩, by simp [intOf]; omega⟩
          · go_wp2
            exact ⟨⟨k + 1, e, by omega, by omega, by go_num, rfl, HBr2, HTX⟩, by simp [intOf]; omega⟩
          · go_wp2
            exact ⟨⟨k + 1, e, by omega, by omega, by go_num, rfl, HBr2, HTX⟩, by simp [intOf]; omega⟩
          · go_wp2
            exact ⟨⟨k + 1, e, by omega, by omega, by go_num, rfl, HBr2, HTX⟩, by simp [intOf]; omega⟩
        · have k7 : (kd == 7) = false := by simpa using fun h => hkd (.inl h)
          have k8 : (kd == 8) = false := by simpa using fun h => hkd (.inr (.inl h))
          have k6 : (kd == 6) = false := by simpa using fun h => hkd (.inr (.inr (.inl h)))
          have k10 : (kd == 10) = false := by simpa using fun h => hkd (.inr (.inr (.inr h)))
          have k7' : (kd != 7) = true := by simp [bne, k7]
          have k8' : (kd != 8) = true := by simp [bne, k8]
          have k6' : (kd != 6) = true := by simp [bne, k6]
          have k10' : (kd != 10) = true := by simp [bne, k10]
          rcases unhide HEND with ⟨h10, _⟩ | ⟨hjl, hng, bs', hy, _⟩
          · exact absurd (.inr (.inr (.inr h10))) hkd
          have hone := sc_alone (g' := fun j => g (tj + j)) hjl hng hy (fun h => hkd (.inl h)) (fun h => hkd (.inr (.inl h))) (fun m hm => by rw [Nat.zero_add])
          obtain ⟨a2, cap2, hsl2, hn2, hsr2⟩ := cut_lh (c := c) (g := g) (unhide HN) hcap hje hel
          have HT2 := hide (callsIn_wide.1 (tokens_any a2 (e - tj) cap2 c (fun j => g (tj + j)) (fun j => unhide HG _) W2 (by omega) (hsr2 W2 (unhide HSA W2 (unhide HB2))).1 (by have := (unhide HB2).size; omega) hn2 (unhide HE W2 (unhide HB2)).1 (unhide HE W2 (unhide HB2)).2))
          have HONE := hide hone
          have ej : ((e - tj : Nat) : Int) = (e : Int) - tj := by omega
          clear hone hsr2 hn2 hng hy hkd
          go_wp2_with (go_at_call 10; refine (unhide HT2).mono ?_)
          rintro x W3 hT3
          have HB3 := hide (hT3.2)
          have h3 := hT3.1
          rw [unhide HONE] at h3
          rcases h3 with ⟨_, v, rfl, hv⟩ | ⟨p, i, hp, _⟩
          rotate_left
          · exact (ok_apart (fun t ht => by
              rcases List.mem_cons.1 ht with rfl | h
              · rfl
              · rw [List.mem_singleton.1 h]) hp).elim
          obtain ⟨g3, c3, hvv, q5, q6, hg3, _⟩ := row_open hv (by simp)
          have hvv' : v = .slice (some ⟨g3, 0, none⟩) 2 c3 := hvv
          subst hvv'
          have hw := row_cells (j := 0) hv rfl
          simp only [Nat.zero_mul, Nat.zero_add] at hw
          obtain ⟨w0, w1, w2, w3⟩ := hw
          rw [show strOfNums tx = S from unhide HS] at w1
          rw [ej] at w3
          have zup : ∀ {o : Nat} {u : Value}, W2.cell? ⟨wr.heap.size, o, none⟩ = some u → W3.cell? ⟨wr.heap.size, o, none⟩ = some u := fun {o u} h => (hT3.2.cell (World.block_lt_of_cell? W2 _ h)).trans h
          have x0 := zup z0'; have x1 := zup z1'; have x2 := zup z2'; have x3 := zup z3'
          have HBr3 : Hid (Below W1.heap.size W1 W3) := (unhide HBr2).trans (hT3.2.mono (unhide HBr2).size)
          unfold maxLen at q6
          clear hvv hv hT3 zup z0' z1' z2' z3' hsl2 w2
          go_wp2
          go_quiet (fail)
          go_wp2
          exact ⟨⟨k + 1, e, by omega, by omega, by go_num, rfl, below_drewN (unhide HBr3) _, HTX⟩, by simp [intOf]; omega⟩
      · have hlt' : ¬ (k : Int) < n := by omega
        have HKw := hide (unhide HK wr (unhide HBw))
        go_wp2_with (go_at_call 14; refine (unhide HKw).mono ?_)
        first | rintro x W9 rfl hB9 | rintro x W9 ⟨rfl, hB9⟩
        have HB9 := hide ((unhide HBw).trans (hB9.mono (unhide HBw).size))
        clear hB9
        go_wp2
        go_ret
        exact ⟨rfl, unhide HB9⟩
  · have HKw := hide (unhide HK W1 (unhide HB1))
    clear hT1 hp hokp
    go_wp2_with (go_at_call 14; refine (unhide HKw).mono ?_)
    first | rintro x W9 rfl hB9 | rintro x W9 ⟨rfl, hB9⟩
    have HB9 := hide ((unhide HB1).trans (hB9.mono hz1))
    clear hB9
    go_wp2
    go_ret
    exact ⟨rfl, unhide HB9⟩
end Go.Proofs.YtpdkeggiokebmaaDoor
