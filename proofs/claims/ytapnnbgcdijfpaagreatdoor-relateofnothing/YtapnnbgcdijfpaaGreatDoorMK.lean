/- asked of two types that have no parts. -/
import Derived.Test.YtapnnbgcdijfpaaGreatDoorMJ
namespace Go.Proofs.YtapnnbgcdijfpaaGreatDoor
set_option linter.unusedSimpArgs false
set_option linter.unusedVariables false
set_option maxRecDepth 100000
set_option maxHeartbeats 4000000
open Go.RowKit Go.Shelf

variable {P : Program} {lo M : Nat} {mo : Option Nat} {dv : Value} {L : List Kt} {W : World}
theorem bel_stay {base : Nat} {u v : World} (h : Below u.heap.size u v) : Stay base u v := ⟨h.size, fun k _ hl => h.block k hl⟩
theorem info96q : (Tryz.prog.info? 96).map (·.size) = some 2 := by kernel_rfl
theorem asked_settled {b m n : Nat} (h : Ru lo M mo dv L b m n W) (hn : n ≤ 900) (i j : Nat) (hi : i ≤ 1000000) (hj : j ≤ 1000000) (k l : Kt) (hk : L[i]? = some k) (hl : L[j]? = some l) (zk : Bare k) (zl : Bare l) (a c : Int) (ka : k.kind = a) (lc : l.kind = c) (r : Bool) (hr : (((i : Int) == (j : Int)) = true ∧ r = true) ∨ (((i : Int) == (j : Int)) = false ∧ (c == 1) = true ∧ r = true) ∨ (((i : Int) == (j : Int)) = false ∧ (c == 1) = false ∧ (c == 2) = true ∧ r = true) ∨ (((i : Int) == (j : Int)) = false ∧ (c == 1) = false ∧ (c == 2) = false ∧ (a == 1) = true ∧ (c == 3) = true ∧ r = false) ∨ (((i : Int) == (j : Int)) = false ∧ (c == 1) = false ∧ (c == 2) = false ∧ (a == 1) = true ∧ (c == 3) = false ∧ r = true) ∨ (((i : Int) == (j : Int)) = false ∧ (c == 1) = false ∧ (c == 2) = false ∧ (a == 1) = false ∧ (a == 3) = true ∧ r = true) ∨ (((i : Int) == (j : Int)) = false ∧ (c == 1) = false ∧ (c == 2) = false ∧ (a == 1) = false ∧ (a == 3) = false ∧ (a == 2) = true ∧ r = false)) : Calls Tryz.prog 88 #[.pointer (some ⟨b, 0, none⟩), .agg #[.int .i64 (i : Int), .int .i64 (j : Int)]] W fun e w' => e = .returned (.agg #[.slice none 0 0, .int .i64 (spP r)]) ∧ Ru lo M mo dv L b m (n + 2) w' ∧ W.grownBy w' (some m) := by
  have hml := h.mem.lt
  have HK : Hid (∀ u, Below W.heap.size W u → Calls Tryz.prog 118 #[.pointer (some ⟨b, 0, none⟩), .int .i64 (i : Int)] u fun e w' => ∃ pa pc na nc ma mc, e = .returned (.agg #[.int .i64 a, .int .i64 k.num, .string k.text, .slice pa 0 pc, .slice na 0 nc, .slice ma 0 mc]) ∧ Below u.heap.size u w') := fun u hb => by
    have := rat_any (h.below hb).ar b (h.below hb).c0 i k hk zk
    rw [ka] at this
    exact this
  have HL : Hid (∀ u, Below W.heap.size W u → Calls Tryz.prog 118 #[.pointer (some ⟨b, 0, none⟩), .int .i64 (j : Int)] u fun e w' => ∃ pa pc na nc ma mc, e = .returned (.agg #[.int .i64 c, .int .i64 l.num, .string l.text, .slice pa 0 pc, .slice na 0 nc, .slice ma 0 mc]) ∧ Below u.heap.size u w') := fun u hb => by
    have := rat_any (h.below hb).ar b (h.below hb).c0 j l hl zl
    rw [lc] at this
    exact this
  have HAS : Hid (∀ u, Below W.heap.size W u → a ≠ 14 → a ≠ 17 → c ≠ 14 → c ≠ 17 → Calls Tryz.prog 126 #[.pointer (some ⟨b, 0, none⟩), .agg #[.int .i64 (i : Int), .int .i64 (j : Int)]] u fun e w' => e = .returned (.agg #[.slice none 0 0, .int .i64 (spP false)]) ∧ Ru lo M mo dv L b m (n + 2) w' ∧ u.grownBy w' (some m)) := fun u hb h1 h2 h3 h4 => asks_none (h.below hb) hn i j hi hj k l hk hl (by rw [ka]; exact h1) (by rw [ka]; exact h2) (by rw [lc]; exact h3) (by rw [lc]; exact h4)
  obtain ⟨W1, hW1⟩ : ∃ W1, (W.alloc (.cells #[.int .i64 (i : Int), .int .i64 (j : Int)] 96)).alloc (.cells #[.slice none 0 0, .int .i64 0] 143) = W1 := ⟨_, rfl⟩
  have hb1 : Below W.heap.size W W1 := by rw [← hW1]; exact ((Below.refl _ W).alloc (Nat.le_refl _) _).alloc (by simp) _
  have hx1 : Bx W1 W.heap.size #[.int .i64 (i : Int), .int .i64 (j : Int)] 96 := by rw [← hW1]; exact (Below.heap_alloc _ _ _ (by simp)).trans (al_at W _)
  have hx2 : Bx W1 (W.heap.size + 1) #[.slice none 0 0, .int .i64 0] 143 := by rw [← hW1]; have := al_at (W.alloc (.cells #[.int .i64 (i : Int), .int .i64 (j : Int)] 96)) (.cells #[.slice none 0 0, .int .i64 0] 143); simpa [Bx] using this
  have hz1 := hx2.lt
  have HX1 := hide hx1
  have HX2 := hide hx2
  have HB1 := hide hb1
  have HR := hide h
  clear hi hj hk hl h hb1 hx1 hx2 zk zl ka lc
  rcases hr with ⟨e1, rfl⟩ | ⟨e1, e2, rfl⟩ | ⟨e1, e2, e3, rfl⟩ | ⟨e1, e2, e3, e4, e5, rfl⟩ | ⟨e1, e2, e3, e4, e5, rfl⟩ | ⟨e1, e2, e3, e4, e5, rfl⟩ | ⟨e1, e2, e3, e4, e5, e6, rfl⟩
  all_goals
    go_enter Tryz.func88, Tryz.ntmps88
    go_wp2
    try rw [hW1]
    refine two88 "ask.go:44" W.heap.size W.heap.size (.pointer (some ⟨b, 0, none⟩)) i j (fun _ u => Below W.heap.size W u) (fun V => ∃ pa pc na nc ma mc, V = #[.int .i64 a, .int .i64 k.num, .string k.text, .slice pa 0 pc, .slice na 0 nc, .slice ma 0 mc]) (fun V => ∃ pa pc na nc ma mc, V = #[.int .i64 c, .int .i64 l.num, .string l.text, .slice pa 0 pc, .slice na 0 nc, .slice ma 0 mc]) (by show 20 ≤ 109; omega) rfl rfl (Nat.le_refl _) (unhide HX1) (by omega) (unhide HB1) (fun _ u u' h1 h2 => h1.trans h2) ?_ ?_ ?_ ?_ ?_
    · intro u hz hb
      refine (unhide HK u hb).mono ?_
      rintro e u' ⟨pa, pc, na, nc, ma, mc, rfl, hb'⟩
      exact ⟨_, rfl, ⟨_, _, _, _, _, _, rfl⟩, hb.trans (hb'.mono hb.size), bel_stay hb'⟩
    · intro u hz hb
      refine (unhide HL u hb).mono ?_
      rintro e u' ⟨pa, pc, na, nc, ma, mc, rfl, hb'⟩
      exact ⟨_, rfl, ⟨_, _, _, _, _, _, rfl⟩, hb.trans (hb'.mono hb.size), bel_stay hb'⟩
    · rintro V ⟨pa, pc, na, nc, ma, mc, rfl⟩; exact ⟨rfl, one6 _ _ _ _ _ _ _ _ _ _ _ _⟩
    · rintro V ⟨pa, pc, na, nc, ma, mc, rfl⟩; exact ⟨rfl, one6 _ _ _ _ _ _ _ _ _ _ _ _⟩
    rintro V U p q u ⟨pa, pc, na, nc, ma, mc, rfl⟩ ⟨pa', pc', na', nc', ma', mc', rfl⟩ hp hq hpq hbp hbq hbu hst
    have hx3 := hst.bx (Nat.le_refl _) (unhide HX1)
    have hx4 := hst.bx (Nat.le_add_right _ _) (unhide HX2)
    have b0 := hx3.cell 0 rfl
    have b1 := hx3.cell 1 rfl
    have bl := hx3.lt
    have cp0 := hbp.cell 0 rfl
    have cpl := hbp.lt
    have cq0 := hbq.cell 0 rfl
    have cql := hbq.lt
    have HX3 := hide hx3
    have HX4 := hide hx4
    have HBP := hide hbp
    have HBQ := hide hbq
    have HBU := hide hbu
    have hz4 := hx4.lt
    clear hbp hbq hst hx3 hx4 hbu hpq
    simp only [cn88, if_true]
    go_wp2_with (first
      | (go_at_call 119
         refine (settledAs_any _ _).mono ?_
         rintro e w2 ⟨rfl, hb2⟩
         have HX5 := hide ((unhide HX4).below (hb2.mono (by omega)) (unhide HX4).lt)
         have HB2 := hide hb2
         clear hb2)
      | (refine wpList_store_row rfl 143 _ _ rfl (W.heap.size + 1) _ rfl rfl 143 _ (unhide HX5) info143 rfl (one2q _ _ _ _) ?_))
    refine bodyPost_ret (results_cell_row rfl _ _ (W.heap.size + 1) 143 _ (0, 0) _ rfl (setRow_heap _ _ _ _ _ _ (unhide HX5)) Tryz.underlying143 rfl info143) rfl ?_
    have hb3 : ∀ cs, Below W.heap.size W (w2.setRow (W.heap.size + 1) cs) := fun cs => below_row ((unhide HBU).trans ((unhide HB2).mono (unhide HBU).size)) (by omega) cs
    exact ⟨by first | rfl | (simp [bne, e5]; done), ((unhide HR).below (hb3 _)).grown ⟨rfl, rfl, rfl, Nat.le_refl _, fun _ _ _ => rfl⟩ (((unhide HR).below (hb3 _)).mem.mono (by omega)), below_grown (hb3 _)⟩
theorem asked_value {b m n : Nat} (h : Ru lo M mo dv L b m n W) (hn : n ≤ 900) (i j : Nat) (hi : i ≤ 1000000) (hj : j ≤ 1000000) (k l : Kt) (hk : L[i]? = some k) (hl : L[j]? = some l) (zk : Bare k) (zl : Bare l) (a c : Int) (ka : k.kind = a) (lc : l.kind = c) (e1 : ((i : Int) == (j : Int)) = false) (e2 : (c == 1) = false) (e3 : (c == 2) = false) (e4 : (a == 1) = false) (e5 : (a == 3) = false) (e6 : (a == 2) = false) (e7 : (a == 16) = false) (e8 : (c == 16) = false) (h20 : a ≠ 20) (hv : valP a c = true) : Calls Tryz.prog 88 #[.pointer (some ⟨b, 0, none⟩), .agg #[.int .i64 (i : Int), .int .i64 (j : Int)]] W fun e w' => e = .returned (.agg #[.slice none 0 0, .int .i64 (spP true)]) ∧ Ru lo M mo dv L b m (n + 2) w' ∧ W.grownBy w' (some m) := by
  have hml := h.mem.lt
  have HK : Hid (∀ u, Below W.heap.size W u → Calls Tryz.prog 118 #[.pointer (some ⟨b, 0, none⟩), .int .i64 (i : Int)] u fun e w' => ∃ pa pc na nc ma mc, e = .returned (.agg #[.int .i64 a, .int .i64 k.num, .string k.text, .slice pa 0 pc, .slice na 0 nc, .slice ma 0 mc]) ∧ Below u.heap.size u w') := fun u hb => by
    have := rat_any (h.below hb).ar b (h.below hb).c0 i k hk zk
    rw [ka] at this
    exact this
  have HL : Hid (∀ u, Below W.heap.size W u → Calls Tryz.prog 118 #[.pointer (some ⟨b, 0, none⟩), .int .i64 (j : Int)] u fun e w' => ∃ pa pc na nc ma mc, e = .returned (.agg #[.int .i64 c, .int .i64 l.num, .string l.text, .slice pa 0 pc, .slice na 0 nc, .slice ma 0 mc]) ∧ Below u.heap.size u w') := fun u hb => by
    have := rat_any (h.below hb).ar b (h.below hb).c0 j l hl zl
    rw [lc] at this
    exact this
  have HAS : Hid (∀ u, Below W.heap.size W u → a ≠ 14 → a ≠ 17 → c ≠ 14 → c ≠ 17 → Calls Tryz.prog 126 #[.pointer (some ⟨b, 0, none⟩), .agg #[.int .i64 (i : Int), .int .i64 (j : Int)]] u fun e w' => e = .returned (.agg #[.slice none 0 0, .int .i64 (spP false)]) ∧ Ru lo M mo dv L b m (n + 2) w' ∧ u.grownBy w' (some m)) := fun u hb h1 h2 h3 h4 => asks_none (h.below hb) hn i j hi hj k l hk hl (by rw [ka]; exact h1) (by rw [ka]; exact h2) (by rw [lc]; exact h3) (by rw [lc]; exact h4)
  obtain ⟨W1, hW1⟩ : ∃ W1, (W.alloc (.cells #[.int .i64 (i : Int), .int .i64 (j : Int)] 96)).alloc (.cells #[.slice none 0 0, .int .i64 0] 143) = W1 := ⟨_, rfl⟩
  have hb1 : Below W.heap.size W W1 := by rw [← hW1]; exact ((Below.refl _ W).alloc (Nat.le_refl _) _).alloc (by simp) _
  have hx1 : Bx W1 W.heap.size #[.int .i64 (i : Int), .int .i64 (j : Int)] 96 := by rw [← hW1]; exact (Below.heap_alloc _ _ _ (by simp)).trans (al_at W _)
  have hx2 : Bx W1 (W.heap.size + 1) #[.slice none 0 0, .int .i64 0] 143 := by rw [← hW1]; have := al_at (W.alloc (.cells #[.int .i64 (i : Int), .int .i64 (j : Int)] 96)) (.cells #[.slice none 0 0, .int .i64 0] 143); simpa [Bx] using this
  have hz1 := hx2.lt
  have HX1 := hide hx1
  have HX2 := hide hx2
  have HB1 := hide hb1
  have HR := hide h
  clear hi hj hk hl h hb1 hx1 hx2 zk zl ka lc
  focus
    go_enter Tryz.func88, Tryz.ntmps88
    go_wp2
    try rw [hW1]
    refine two88 "ask.go:44" W.heap.size W.heap.size (.pointer (some ⟨b, 0, none⟩)) i j (fun _ u => Below W.heap.size W u) (fun V => ∃ pa pc na nc ma mc, V = #[.int .i64 a, .int .i64 k.num, .string k.text, .slice pa 0 pc, .slice na 0 nc, .slice ma 0 mc]) (fun V => ∃ pa pc na nc ma mc, V = #[.int .i64 c, .int .i64 l.num, .string l.text, .slice pa 0 pc, .slice na 0 nc, .slice ma 0 mc]) (by show 20 ≤ 109; omega) rfl rfl (Nat.le_refl _) (unhide HX1) (by omega) (unhide HB1) (fun _ u u' h1 h2 => h1.trans h2) ?_ ?_ ?_ ?_ ?_
    · intro u hz hb
      refine (unhide HK u hb).mono ?_
      rintro e u' ⟨pa, pc, na, nc, ma, mc, rfl, hb'⟩
      exact ⟨_, rfl, ⟨_, _, _, _, _, _, rfl⟩, hb.trans (hb'.mono hb.size), bel_stay hb'⟩
    · intro u hz hb
      refine (unhide HL u hb).mono ?_
      rintro e u' ⟨pa, pc, na, nc, ma, mc, rfl, hb'⟩
      exact ⟨_, rfl, ⟨_, _, _, _, _, _, rfl⟩, hb.trans (hb'.mono hb.size), bel_stay hb'⟩
    · rintro V ⟨pa, pc, na, nc, ma, mc, rfl⟩; exact ⟨rfl, one6 _ _ _ _ _ _ _ _ _ _ _ _⟩
    · rintro V ⟨pa, pc, na, nc, ma, mc, rfl⟩; exact ⟨rfl, one6 _ _ _ _ _ _ _ _ _ _ _ _⟩
    rintro V U p q u ⟨pa, pc, na, nc, ma, mc, rfl⟩ ⟨pa', pc', na', nc', ma', mc', rfl⟩ hp hq hpq hbp hbq hbu hst
    have hx3 := hst.bx (Nat.le_refl _) (unhide HX1)
    have hx4 := hst.bx (Nat.le_add_right _ _) (unhide HX2)
    have b0 := hx3.cell 0 rfl
    have b1 := hx3.cell 1 rfl
    have bl := hx3.lt
    have cp0 := hbp.cell 0 rfl
    have cpl := hbp.lt
    have cq0 := hbq.cell 0 rfl
    have cql := hbq.lt
    have HX3 := hide hx3
    have HX4 := hide hx4
    have HBP := hide hbp
    have HBQ := hide hbq
    have HBU := hide hbu
    have hz4 := hx4.lt
    clear hbp hbq hst hx3 hx4 hbu hpq
    simp only [cn88, if_true]
    go_wp2_with (first
      | (refine wpList_load_row rfl 26 _ rfl p rfl 26 _ (0, 0) _ (unhide HBP) Tryz.underlying26 rfl info26 ?_)
      | (refine wpList_load_row rfl 26 _ rfl q rfl 26 _ (0, 0) _ (unhide HBQ) Tryz.underlying26 rfl info26 ?_)
      | (go_at_call 124
         refine (value_any a _ _ _ _ _ _ _ _ _ _ _ c _ _ _ _ _ _ _ _ _ _ _ _ h20 _).mono ?_
         rintro e w1 ⟨rfl, hb2⟩
         rw [hv]
         have HX3b := hide ((unhide HX3).below hb2 (unhide HX3).lt)
         have HX4b := hide ((unhide HX4).below hb2 (unhide HX4).lt)
         have HBPb := hide ((unhide HBP).below hb2 (unhide HBP).lt)
         have HBQb := hide ((unhide HBQ).below hb2 (unhide HBQ).lt)
         have d0 := (unhide HBPb).cell 0 rfl
         have dl := (unhide HBPb).lt
         have f0 := (unhide HBQb).cell 0 rfl
         have fl := (unhide HBQb).lt
         have HBU1 := hide ((unhide HBU).trans (hb2.mono (unhide HBU).size))
         have hz5 := (unhide HX4b).lt
         clear hb2)
      | (go_at_call 119
         refine (settledAs_any _ _).mono ?_
         rintro e w2 ⟨rfl, hb2⟩
         have HX5 := hide ((unhide HX4b).below (hb2.mono (by omega)) (unhide HX4b).lt)
         have HB2 := hide hb2
         clear hb2)
      | (refine wpList_store_row rfl 143 _ _ rfl (W.heap.size + 1) _ rfl rfl 143 _ (unhide HX5) info143 rfl (one2q _ _ _ _) ?_))
    refine bodyPost_ret (results_cell_row rfl _ _ (W.heap.size + 1) 143 _ (0, 0) _ rfl (setRow_heap _ _ _ _ _ _ (unhide HX5)) Tryz.underlying143 rfl info143) rfl ?_
    have hb3 : Below W.heap.size W (w2.setRow (W.heap.size + 1) #[.slice none 0 0, .int .i64 (spP true)]) := below_row ((unhide HBU1).trans ((unhide HB2).mono (unhide HBU1).size)) (by omega) _
    have hr3 := (unhide HR).below hb3
    exact ⟨rfl, hr3.grown ⟨rfl, rfl, rfl, Nat.le_refl _, fun _ _ _ => rfl⟩ (hr3.mem.mono (by omega)), below_grown hb3⟩
theorem asked_pieces {b m n : Nat} (h : Ru lo M mo dv L b m n W) (hn : n ≤ 900) (i j : Nat) (hi : i ≤ 1000000) (hj : j ≤ 1000000) (k l : Kt) (hk : L[i]? = some k) (hl : L[j]? = some l) (zk : Bare k) (zl : Bare l) (a c : Int) (ka : k.kind = a) (lc : l.kind = c) (e1 : ((i : Int) == (j : Int)) = false) (e2 : (c == 1) = false) (e3 : (c == 2) = false) (e4 : (a == 1) = false) (e5 : (a == 3) = false) (e6 : (a == 2) = false) (e7 : (a == 16) = false) (e8 : (c == 16) = false) (h20 : a ≠ 20) (e9 : (a == 13) = false) (e10 : (a == 15) = false) (n1 : a ≠ 14) (n2 : a ≠ 17) (n3 : c ≠ 14) (n4 : c ≠ 17) (hv : valP a c = false) : Calls Tryz.prog 88 #[.pointer (some ⟨b, 0, none⟩), .agg #[.int .i64 (i : Int), .int .i64 (j : Int)]] W fun e w' => e = .returned (.agg #[.slice none 0 0, .int .i64 (spP false)]) ∧ Ru lo M mo dv L b m (n + 2) w' ∧ W.grownBy w' (some m) := by
  have hml := h.mem.lt
  have HK : Hid (∀ u, Below W.heap.size W u → Calls Tryz.prog 118 #[.pointer (some ⟨b, 0, none⟩), .int .i64 (i : Int)] u fun e w' => ∃ pa pc na nc ma mc, e = .returned (.agg #[.int .i64 a, .int .i64 k.num, .string k.text, .slice pa 0 pc, .slice na 0 nc, .slice ma 0 mc]) ∧ Below u.heap.size u w') := fun u hb => by
    have := rat_any (h.below hb).ar b (h.below hb).c0 i k hk zk
    rw [ka] at this
    exact this
  have HL : Hid (∀ u, Below W.heap.size W u → Calls Tryz.prog 118 #[.pointer (some ⟨b, 0, none⟩), .int .i64 (j : Int)] u fun e w' => ∃ pa pc na nc ma mc, e = .returned (.agg #[.int .i64 c, .int .i64 l.num, .string l.text, .slice pa 0 pc, .slice na 0 nc, .slice ma 0 mc]) ∧ Below u.heap.size u w') := fun u hb => by
    have := rat_any (h.below hb).ar b (h.below hb).c0 j l hl zl
    rw [lc] at this
    exact this
  have HAS : Hid (∀ u, Below W.heap.size W u → a ≠ 14 → a ≠ 17 → c ≠ 14 → c ≠ 17 → Calls Tryz.prog 126 #[.pointer (some ⟨b, 0, none⟩), .agg #[.int .i64 (i : Int), .int .i64 (j : Int)]] u fun e w' => e = .returned (.agg #[.slice none 0 0, .int .i64 (spP false)]) ∧ Ru lo M mo dv L b m (n + 2) w' ∧ u.grownBy w' (some m)) := fun u hb h1 h2 h3 h4 => asks_none (h.below hb) hn i j hi hj k l hk hl (by rw [ka]; exact h1) (by rw [ka]; exact h2) (by rw [lc]; exact h3) (by rw [lc]; exact h4)
  obtain ⟨W1, hW1⟩ : ∃ W1, (W.alloc (.cells #[.int .i64 (i : Int), .int .i64 (j : Int)] 96)).alloc (.cells #[.slice none 0 0, .int .i64 0] 143) = W1 := ⟨_, rfl⟩
  have hb1 : Below W.heap.size W W1 := by rw [← hW1]; exact ((Below.refl _ W).alloc (Nat.le_refl _) _).alloc (by simp) _
  have hx1 : Bx W1 W.heap.size #[.int .i64 (i : Int), .int .i64 (j : Int)] 96 := by rw [← hW1]; exact (Below.heap_alloc _ _ _ (by simp)).trans (al_at W _)
  have hx2 : Bx W1 (W.heap.size + 1) #[.slice none 0 0, .int .i64 0] 143 := by rw [← hW1]; have := al_at (W.alloc (.cells #[.int .i64 (i : Int), .int .i64 (j : Int)] 96)) (.cells #[.slice none 0 0, .int .i64 0] 143); simpa [Bx] using this
  have hz1 := hx2.lt
  have HX1 := hide hx1
  have HX2 := hide hx2
  have HB1 := hide hb1
  have HR := hide h
  clear hi hj hk hl h hb1 hx1 hx2 zk zl ka lc
  focus
    go_enter Tryz.func88, Tryz.ntmps88
    go_wp2
    try rw [hW1]
    refine two88 "ask.go:44" W.heap.size W.heap.size (.pointer (some ⟨b, 0, none⟩)) i j (fun _ u => Below W.heap.size W u) (fun V => ∃ pa pc na nc ma mc, V = #[.int .i64 a, .int .i64 k.num, .string k.text, .slice pa 0 pc, .slice na 0 nc, .slice ma 0 mc]) (fun V => ∃ pa pc na nc ma mc, V = #[.int .i64 c, .int .i64 l.num, .string l.text, .slice pa 0 pc, .slice na 0 nc, .slice ma 0 mc]) (by show 20 ≤ 109; omega) rfl rfl (Nat.le_refl _) (unhide HX1) (by omega) (unhide HB1) (fun _ u u' h1 h2 => h1.trans h2) ?_ ?_ ?_ ?_ ?_
    · intro u hz hb
      refine (unhide HK u hb).mono ?_
      rintro e u' ⟨pa, pc, na, nc, ma, mc, rfl, hb'⟩
      exact ⟨_, rfl, ⟨_, _, _, _, _, _, rfl⟩, hb.trans (hb'.mono hb.size), bel_stay hb'⟩
    · intro u hz hb
      refine (unhide HL u hb).mono ?_
      rintro e u' ⟨pa, pc, na, nc, ma, mc, rfl, hb'⟩
      exact ⟨_, rfl, ⟨_, _, _, _, _, _, rfl⟩, hb.trans (hb'.mono hb.size), bel_stay hb'⟩
    · rintro V ⟨pa, pc, na, nc, ma, mc, rfl⟩; exact ⟨rfl, one6 _ _ _ _ _ _ _ _ _ _ _ _⟩
    · rintro V ⟨pa, pc, na, nc, ma, mc, rfl⟩; exact ⟨rfl, one6 _ _ _ _ _ _ _ _ _ _ _ _⟩
    rintro V U p q u ⟨pa, pc, na, nc, ma, mc, rfl⟩ ⟨pa', pc', na', nc', ma', mc', rfl⟩ hp hq hpq hbp hbq hbu hst
    have hx3 := hst.bx (Nat.le_refl _) (unhide HX1)
    have hx4 := hst.bx (Nat.le_add_right _ _) (unhide HX2)
    have b0 := hx3.cell 0 rfl
    have b1 := hx3.cell 1 rfl
    have bl := hx3.lt
    have cp0 := hbp.cell 0 rfl
    have cpl := hbp.lt
    have cq0 := hbq.cell 0 rfl
    have cql := hbq.lt
    have HX3 := hide hx3
    have HX4 := hide hx4
    have HBP := hide hbp
    have HBQ := hide hbq
    have HBU := hide hbu
    have hz4 := hx4.lt
    clear hbp hbq hst hx3 hx4 hbu hpq
    simp only [cn88, if_true]
    go_wp2_with (first
      | (refine wpList_load_row rfl 26 _ rfl p rfl 26 _ (0, 0) _ (unhide HBP) Tryz.underlying26 rfl info26 ?_)
      | (refine wpList_load_row rfl 26 _ rfl q rfl 26 _ (0, 0) _ (unhide HBQ) Tryz.underlying26 rfl info26 ?_)
      | (go_at_call 124
         refine (value_any a _ _ _ _ _ _ _ _ _ _ _ c _ _ _ _ _ _ _ _ _ _ _ _ h20 _).mono ?_
         rintro e w1 ⟨rfl, hb2⟩
         rw [hv]
         have HX3b := hide ((unhide HX3).below hb2 (unhide HX3).lt)
         have HX4b := hide ((unhide HX4).below hb2 (unhide HX4).lt)
         have HBPb := hide ((unhide HBP).below hb2 (unhide HBP).lt)
         have HBQb := hide ((unhide HBQ).below hb2 (unhide HBQ).lt)
         have d0 := (unhide HBPb).cell 0 rfl
         have dl := (unhide HBPb).lt
         have f0 := (unhide HBQb).cell 0 rfl
         have fl := (unhide HBQb).lt
         have HBU1 := hide ((unhide HBU).trans (hb2.mono (unhide HBU).size))
         have hz5 := (unhide HX4b).lt
         clear hb2)
      | (refine wpList_load_row rfl 96 _ rfl W.heap.size rfl 96 _ (0, 0) _ (unhide HX3b) Tryz.underlying96 rfl info96q ?_)
      | (go_at_call 126
         refine (unhide HAS w1 (unhide HBU1) n1 n2 n3 n4).mono ?_
         rintro e w2 ⟨rfl, hr2, hg2⟩
         have HX5 : Hid (Bx w2 (W.heap.size + 1) #[.slice none 0 0, .int .i64 0] 143) := (hg2.block _ (unhide HX4b).lt (fun e => by cases e; omega)).trans (unhide HX4b)
         have HR2 := hide hr2
         have HG2 := hide hg2
         clear hr2 hg2)
      | (refine wpList_store_row rfl 143 _ _ rfl (W.heap.size + 1) _ rfl rfl 143 _ (unhide HX5) info143 rfl (one2q _ _ _ _) ?_))
    refine bodyPost_ret (results_cell_row rfl _ _ (W.heap.size + 1) 143 _ (0, 0) _ rfl (setRow_heap _ _ _ _ _ _ (unhide HX5)) Tryz.underlying143 rfl info143) rfl ?_
    have hb3 : Below W.heap.size w2 (w2.setRow (W.heap.size + 1) #[.slice none 0 0, .int .i64 (spP false)]) := below_row (Below.refl _ _) (by omega) _
    have hg3 := grown_bel (grown_trans (below_grown (unhide HBU1)) (unhide HG2)) hb3
    exact ⟨rfl, (unhide HR).grown hg3 ((unhide HR2).mem.keep (hb3.block m hml)), hg3⟩
end Go.Proofs.YtapnnbgcdijfpaaGreatDoor
