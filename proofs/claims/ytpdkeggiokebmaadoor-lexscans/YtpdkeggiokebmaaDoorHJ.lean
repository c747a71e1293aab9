/- Merged: RQ, RP. -/
import Derived.BigQuiet
import Derived.Deep.QuietTactic
import Derived.Deep.RegionWith
import Derived.LoopN
import Derived.WalkMore
import Derived.Test.YtpdkeggiokebmaaDoorF1
import Derived.Test.YtpdkeggiokebmaaDoorHG
import Derived.Test.YtpdkeggiokebmaaDoorHI
/- The reference's strings. -/
namespace Go.Proofs.YtpdkeggiokebmaaDoor
set_option linter.unusedSimpArgs false
set_option linter.unusedVariables false
open Go.RowKit Go.Shelf

/-- What the reference's taking gives: a token, or anything and false. -/
def RV (at' : Nat) (q : Option (Int × List Int × Nat)) (x : Ending) : Prop := match q with
  | none => ∃ k S y z, x = .returned (.tuple #[tokV k S y z, .bool false])
  | some (k, t, e) => x = .returned (.tuple #[tokV k (strOfNums t) at' (e : Int), .bool true])
theorem RV_some {at' : Nat} {k : Int} {t : List Int} {e : Nat} {x : Ending} (h : x = .returned (.tuple #[tokV k (strOfNums t) at' (e : Int), .bool true])) : RV at' (some (k, t, e)) x := h
theorem RV_none {at' : Nat} (k : Int) (S : ByteArray) (y z : Int) : RV at' none (.returned (.tuple #[tokV k S y z, .bool false])) := ⟨k, S, y, z, rfl⟩
def RPost (W : World) (at' : Nat) (q : Option (List Int × Nat)) (x : Ending) (W' : World) : Prop := RV at' (q.map fun x => (4, x)) x ∧ Below W.heap.size W W'
theorem below_drewN {n : Nat} {A B : World} (h : Below n A B) (N : Nat) : Below n A (B.drewN N) := ⟨h.os, h.tape, h.output, h.size, h.block⟩
theorem put1_heap {W : World} {R : Nat} {x0 x1 x2 x3 : Value} (h : W.heap[R]? = some (.cells #[x0, x1, x2, x3] 33)) (y : Value) : (W.setCell ⟨R, 1, none⟩ y).heap[R]? = some (.cells #[x0, y, x2, x3] 33) := by
  simp [World.setCell, Array.getElem?_modify, h]
theorem str_app (a b : List Int) : strOfNums a ++ strOfNums b = strOfNums (a ++ b) := by
  apply ByteArray.ext
  show (strOfNums a ++ strOfNums b).data = _
  rw [ByteArray.data_append]
  apply Array.toList_inj.1
  simp [strOfNums]
attribute [local go_sem] tokV
set_option maxRecDepth 100000 in
set_option maxHeartbeats 4000000 in
theorem rquoted_any (c : Nat) (a : Option Addr) (len cap : Nat) (g : Nat → Int) (hg : ∀ j, 0 ≤ g j ∧ g j ≤ 255) (at' : Nat) (W : World) (hS : Sl W c (.slice a len cap) len g) (hc : c < W.heap.size) (hat : at' < len) (hmk : g at' = 34 ∨ g at' = 39) (hlen : len ≤ 1099511627776) :
    Calls Tryd.prog 44 #[.slice a len cap, .int .i64 (at' : Int)] W (RPost W at' (quoI g len (g at') (at' + 1))) := by
  obtain ⟨q, hq⟩ : ∃ q, quoI g len (g at') (at' + 1) = q := ⟨_, rfl⟩
  have HQ := hide hq
  rw [hq]
  clear hq
  obtain ⟨W1, hW1⟩ : ∃ W1, (W.alloc (.cells #[.int .i64 0, .string ⟨#[]⟩, .int .i64 0, .int .i64 0] 33)).alloc (.cells #[.int .i64 4, .string ⟨#[]⟩, .int .i64 (at' : Int), .int .i64 0] 33) = W1 := ⟨_, rfl⟩
  have hB1 : Below W.heap.size W W1 := by rw [← hW1]; exact ((Below.refl _ W).alloc (Nat.le_refl _) _).alloc (by simp) _
  have hz1 : W1.heap.size = W.heap.size + 1 + 1 := by rw [← hW1]; simp
  have hr1 : W1.heap[W.heap.size]? = some (.cells #[.int .i64 0, .string ⟨#[]⟩, .int .i64 0, .int .i64 0] 33) := by rw [← hW1]; exact (Below.heap_alloc _ _ _ (by simp)).trans (World.alloc_heap_new W _)
  have ht1 : W1.heap[W.heap.size + 1]? = some (.cells #[.int .i64 4, .string (strOfNums []), .int .i64 (at' : Int), .int .i64 0] 33) := by
    have := World.alloc_heap_new (W.alloc (.cells #[.int .i64 0, .string ⟨#[]⟩, .int .i64 0, .int .i64 0] 33)) (.cells #[.int .i64 4, .string ⟨#[]⟩, .int .i64 (at' : Int), .int .i64 0] 33)
    rw [World.size_alloc] at this
    rw [← hW1]; exact this
  have HSA : Hid (∀ W', Below W.heap.size W W' → Sl W' c (.slice a len cap) len g) := fun W' hb => hS.keep (fun k e => by subst e; exact hb.block k hc)
  obtain ⟨off, rfl, hcp, hmx, hcs⟩ := unhide (sl_cells hS) (by omega)
  unfold maxLen at hmx
  have HCS := hide hcs
  have HB1 := hide hB1
  have HR1 := hide hr1
  have HT1 := hide ht1
  have HZ1 := hide hz1
  have HW1 := hide hW1
  clear hS hB1 hr1 ht1 hz1 hcs hW1
  go_enter Tryd.func44, Tryd.ntmps44
  go_wp2
  rw [show (W.alloc (.cells #[.int .i64 0, .string ⟨#[]⟩, .int .i64 0, .int .i64 0] 33)).alloc (.cells #[.int .i64 4, .string ⟨#[]⟩, .int .i64 (at' : Int), .int .i64 0] 33) = W1 from unhide HW1]
  clear HW1
  go_loopw [7] (fun t wr => ∃ (i : Nat) (pre : List Int), at' + 1 ≤ i ∧ i ≤ len ∧ t = .int .i64 (i : Int) ∧ pre.length ≤ 4 * i ∧ Hid (pfx pre (quoI g len (g at') i) = q) ∧ Hid (Below W.heap.size W wr) ∧ Hid (wr.heap[W.heap.size]? = some (.cells #[.int .i64 0, .string ⟨#[]⟩, .int .i64 0, .int .i64 0] 33)) ∧ wr.heap[W.heap.size + 1]? = some (.cells #[.int .i64 4, .string (strOfNums pre), .int .i64 (at' : Int), .int .i64 0] 33)) (fun t _ => len - (intOf t).toNat)
  case atStart => exact ⟨at' + 1, [], Nat.le_refl _, by omega, by go_num, by simp, by show pfx [] _ = q; rw [pfx_nil]; exact unhide HQ, unhide HB1, unhide HR1, unhide HT1⟩
  case round =>
    obtain ⟨i, pre, hi1, hi2, rfl, hpl, HP, HBW, HRW, ht⟩ := hrel
    clear HQ HB1 HR1 HT1 HZ1
    obtain ⟨u0, u1, u2, u3⟩ := tok_cells ht
    have uf := Lib.frozen_of_heap ht
    have us : wr.shape? (W.heap.size + 1) = some (33, 4) := by simp [World.shape?, ht]
    obtain ⟨d0, d1, d2, d3⟩ := tok_cells (unhide HRW)
    have df := Lib.frozen_of_heap (unhide HRW)
    have ds : wr.shape? W.heap.size = some (33, 4) := by simp [World.shape?, unhide HRW]
    have hzt : W.heap.size + 1 < wr.heap.size := (Array.getElem?_eq_some_iff.1 ht).1
    have hmkb := hg at'
    have hca : wr.cell? ⟨c, off + at', none⟩ = some (.int .u8 (g at')) := by rw [World.cell?_of_block (w := W) ((unhide HBW).block c hc)]; exact unhide HCS at' hat
    have hatl : (at' : Int) < len := by omega
    by_cases hlt : i < len
    · have hlt' : (i : Int) < len := by omega
      have hltb : decide ((i : Int) < len) = true := decide_eq_true hlt'
      have hci : wr.cell? ⟨c, off + i, none⟩ = some (.int .u8 (g i)) := by rw [World.cell?_of_block (w := W) ((unhide HBW).block c hc)]; exact unhide HCS i hlt
      have hq0 := unhide HP
      by_cases emk : g i = g at'
      · rw [quoI_mark hlt (by omega) emk] at hq0
        have hq1 : some (pre ++ [], i + 1) = q := hq0
        rw [List.append_nil] at hq1
        subst hq1
        have bmk : (g i == g at') = true := beq_iff_eq.2 emk
        go_wp2
        go_quiet (fail)
        go_wp2
        have hBE : Below W.heap.size W ((wr.drewN nq).setCell ⟨W.heap.size + 1, 3, none⟩ (.int .i64 ((i : Int) + 1))) := ((unhide HBW).trans (⟨rfl, rfl, rfl, Nat.le_refl _, fun _ _ => rfl⟩ : Below W.heap.size wr (wr.drewN nq))).setCell (p := ⟨W.heap.size + 1, 3, none⟩) (by show W.heap.size ≤ W.heap.size + 1; omega) _
        have hr5 : ((wr.drewN nq).setCell ⟨W.heap.size + 1, 3, none⟩ (.int .i64 ((i : Int) + 1))).heap[W.heap.size]? = some (.cells #[.int .i64 0, .string ⟨#[]⟩, .int .i64 0, .int .i64 0] 33) := (Below.heap_setCell _ ⟨W.heap.size + 1, 3, none⟩ _ _ (by show W.heap.size ≠ W.heap.size + 1; omega)).trans (unhide HRW)
        have hB6 := put4_below (W := ((wr.drewN nq).setCell ⟨W.heap.size + 1, 3, none⟩ (.int .i64 ((i : Int) + 1)))) (Nat.le_refl W.heap.size) (.int .i64 4) (.string (strOfNums pre)) ((.int .i64 (at' : Int))) ((.int .i64 ((i : Int) + 1)))
        have hr6 := put4_heap hr5 (.int .i64 4) (.string (strOfNums pre)) ((.int .i64 (at' : Int))) ((.int .i64 ((i : Int) + 1)))
        obtain ⟨W6, hW6⟩ : ∃ W6, ((((((wr.drewN nq).setCell ⟨W.heap.size + 1, 3, none⟩ (.int .i64 ((i : Int) + 1))).setCell ⟨W.heap.size, 0, none⟩ (.int .i64 4)).setCell ⟨W.heap.size, 1, none⟩ (.string (strOfNums pre))).setCell ⟨W.heap.size, 2, none⟩ ((.int .i64 (at' : Int)))).setCell ⟨W.heap.size, 3, none⟩ ((.int .i64 ((i : Int) + 1)))) = W6 := ⟨_, rfl⟩
        rw [hW6] at hB6 hr6 ⊢
        clear hW6
        obtain ⟨e0, e1, e2, e3⟩ := tok_cells hr6
        try rw [Exit.noGoto_ret]
        refine bodyPost_ret (v := .tuple #[.agg #[.int .i64 4, .string (strOfNums pre), (.int .i64 (at' : Int)), (.int .i64 ((i : Int) + 1))], .bool true]) ?_ rfl ⟨RV_some rfl, hBE.trans hB6⟩
        clear d0 d1 d2 d3 df ds u0 u1 u2 u3 uf us
        simp [results, Tryd.results44, go_sem, e0, e1, e2, e3]
      · have bmk : (g i == g at') = false := beq_eq_false_iff_ne.2 emk
        by_cases e10 : g i = 10 ∨ g i = 13
        · rw [quoI_line hlt e10] at hq0
          subst hq0
          rcases e10 with e10 | e10
          · rw [e10] at hci bmk
            go_wp2
            go_quiet (fail)
            go_wp2
            have hr5 : (wr.drewN nq).heap[W.heap.size]? = some (.cells #[.int .i64 0, .string ⟨#[]⟩, .int .i64 0, .int .i64 0] 33) := unhide HRW
            have hBWX : Below W.heap.size W (wr.drewN nq) := (unhide HBW).trans ⟨rfl, rfl, rfl, Nat.le_refl _, fun _ _ => rfl⟩
            have hB6 := put4_below (W := (wr.drewN nq)) (Nat.le_refl W.heap.size) (.int .i64 4) (.string (strOfNums pre)) ((.int .i64 (at' : Int))) (.int .i64 0)
            have hr6 := put4_heap hr5 (.int .i64 4) (.string (strOfNums pre)) ((.int .i64 (at' : Int))) (.int .i64 0)
            obtain ⟨W6, hW6⟩ : ∃ W6, (((((wr.drewN nq).setCell ⟨W.heap.size, 0, none⟩ (.int .i64 4)).setCell ⟨W.heap.size, 1, none⟩ (.string (strOfNums pre))).setCell ⟨W.heap.size, 2, none⟩ ((.int .i64 (at' : Int)))).setCell ⟨W.heap.size, 3, none⟩ (.int .i64 0)) = W6 := ⟨_, rfl⟩
            rw [hW6] at hB6 hr6 ⊢
            clear hW6
            obtain ⟨e0, e1, e2, e3⟩ := tok_cells hr6
            try rw [Exit.noGoto_ret]
            refine bodyPost_ret (v := .tuple #[.agg #[.int .i64 4, .string (strOfNums pre), (.int .i64 (at' : Int)), .int .i64 0], .bool false]) ?_ rfl ⟨RV_none _ _ _ _, hBWX.trans hB6⟩
            clear d0 d1 d2 d3 df ds u0 u1 u2 u3 uf us
            simp [results, Tryd.results44, go_sem, e0, e1, e2, e3]
          · rw [e10] at hci bmk
            go_wp2
            go_quiet (fail)
            go_wp2
            have hr5 : (wr.drewN nq).heap[W.heap.size]? = some (.cells #[.int .i64 0, .string ⟨#[]⟩, .int .i64 0, .int .i64 0] 33) := unhide HRW
            have hBWX : Below W.heap.size W (wr.drewN nq) := (unhide HBW).trans ⟨rfl, rfl, rfl, Nat.le_refl _, fun _ _ => rfl⟩
            have hB6 := put4_below (W := (wr.drewN nq)) (Nat.le_refl W.heap.size) (.int .i64 4) (.string (strOfNums pre)) ((.int .i64 (at' : Int))) (.int .i64 0)
            have hr6 := put4_heap hr5 (.int .i64 4) (.string (strOfNums pre)) ((.int .i64 (at' : Int))) (.int .i64 0)
            obtain ⟨W6, hW6⟩ : ∃ W6, (((((wr.drewN nq).setCell ⟨W.heap.size, 0, none⟩ (.int .i64 4)).setCell ⟨W.heap.size, 1, none⟩ (.string (strOfNums pre))).setCell ⟨W.heap.size, 2, none⟩ ((.int .i64 (at' : Int)))).setCell ⟨W.heap.size, 3, none⟩ (.int .i64 0)) = W6 := ⟨_, rfl⟩
            rw [hW6] at hB6 hr6 ⊢
            clear hW6
            obtain ⟨e0, e1, e2, e3⟩ := tok_cells hr6
            try rw [Exit.noGoto_ret]
            refine bodyPost_ret (v := .tuple #[.agg #[.int .i64 4, .string (strOfNums pre), (.int .i64 (at' : Int)), .int .i64 0], .bool false]) ?_ rfl ⟨RV_none _ _ _ _, hBWX.trans hB6⟩
            clear d0 d1 d2 d3 df ds u0 u1 u2 u3 uf us
            simp [results, Tryd.results44, go_sem, e0, e1, e2, e3]
        · have b10 : (g i == 10) = false := beq_eq_false_iff_ne.2 (fun h => e10 (.inl h))
          have b13 : (g i == 13) = false := beq_eq_false_iff_ne.2 (fun h => e10 (.inr h))
          by_cases e92 : g i = 92
          · have b92 : (g i == 92) = true := beq_iff_eq.2 e92
            have hnx := @quoI_esc g len (g at') i
            cases he : escE g len i with
            | none =>
              rw [quoI_bad hlt (by omega) emk e92 he] at hq0
              subst hq0
              go_wp2
              go_quiet (fail)
              have HES := hide (rescape_any c _ len cap g hg i (wr.drewN nq) (unhide HSA wr (unhide HBW)) hlt hlen)
              rw [he] at HES
              have HES2 : Hid (Calls Tryd.prog 62 #[.slice (some ⟨c, off, none⟩) len cap, .int .i64 (i : Int)] (wr.drewN nq) fun x W' => x = .returned (.tuple #[.string ⟨#[]⟩, .int .i64 (i : Int), .bool false]) ∧ W' = wr.drewN nq) := unhide HES
              clear HES hnx he
              go_wp2_with (go_at_call 62; refine (unhide HES2).mono ?_; rintro x w' ⟨rfl, hw⟩; subst w')
              have hr5 : (wr.drewN nq).heap[W.heap.size]? = some (.cells #[.int .i64 0, .string ⟨#[]⟩, .int .i64 0, .int .i64 0] 33) := unhide HRW
              have hBWX : Below W.heap.size W (wr.drewN nq) := (unhide HBW).trans ⟨rfl, rfl, rfl, Nat.le_refl _, fun _ _ => rfl⟩
              have hB6 := put4_below (W := (wr.drewN nq)) (Nat.le_refl W.heap.size) (.int .i64 4) (.string (strOfNums pre)) ((.int .i64 (at' : Int))) (.int .i64 0)
              have hr6 := put4_heap hr5 (.int .i64 4) (.string (strOfNums pre)) ((.int .i64 (at' : Int))) (.int .i64 0)
              obtain ⟨W6, hW6⟩ : ∃ W6, (((((wr.drewN nq).setCell ⟨W.heap.size, 0, none⟩ (.int .i64 4)).setCell ⟨W.heap.size, 1, none⟩ (.string (strOfNums pre))).setCell ⟨W.heap.size, 2, none⟩ ((.int .i64 (at' : Int)))).setCell ⟨W.heap.size, 3, none⟩ (.int .i64 0)) = W6 := ⟨_, rfl⟩
              rw [hW6] at hB6 hr6 ⊢
              clear hW6
              obtain ⟨e0, e1, e2, e3⟩ := tok_cells hr6
              try rw [Exit.noGoto_ret]
              refine bodyPost_ret (v := .tuple #[.agg #[.int .i64 4, .string (strOfNums pre), (.int .i64 (at' : Int)), .int .i64 0], .bool false]) ?_ rfl ⟨RV_none _ _ _ _, hBWX.trans hB6⟩
              clear d0 d1 d2 d3 df ds u0 u1 u2 u3 uf us
              simp [results, Tryd.results44, go_sem, e0, e1, e2, e3]
            | some y =>
              obtain ⟨r, wd⟩ := y
              have hw2 := escE_w he
              rw [hnx hlt (by omega) emk e92 he, pfx_one] at hq0
              have HQ1 := hide hq0
              have hwl := hw2.2
              have hwk := hw2.1
              obtain ⟨S0, hS0⟩ : ∃ S0, strOfNums pre = S0 := ⟨_, rfl⟩
              have hs0 : S0.size ≤ 4 * i := by rw [← hS0, strOfNums_size]; exact hpl
              rw [hS0] at ht u1
              have HS0 := hide hS0
              obtain ⟨X, hX⟩ : ∃ X, strOfNums (Lib.encodeRuneZ r) = X := ⟨_, rfl⟩
              have hxs : X.size ≤ 4 := by rw [← hX, strOfNums_size]; exact enc_len r
              have g1 : ¬ 9223372036854775807 < S0.size + X.size := by omega
              have HSX : Hid (S0 ++ X = strOfNums (pre ++ Lib.encodeRuneZ r)) := by show _ = _; rw [← hS0, ← hX, str_app]
              clear hq0 hS0
              go_wp2
              go_quiet (fail)
              have HES := hide (rescape_any c _ len cap g hg i (wr.drewN nq) (unhide HSA wr (unhide HBW)) hlt hlen)
              rw [he] at HES
              have HES2 : Hid (Calls Tryd.prog 62 #[.slice (some ⟨c, off, none⟩) len cap, .int .i64 (i : Int)] (wr.drewN nq) fun x W' => x = .returned (.tuple #[.string X, .int .i64 ((i : Int) + wd), .bool true]) ∧ W' = wr.drewN nq) := by rw [← hX]; exact unhide HES
              clear HES hnx he hX
              go_wp2_with (go_at_call 62; refine (unhide HES2).mono ?_; rintro x w' ⟨rfl, hw⟩; subst w')
              refine ⟨⟨i + wd, pre ++ Lib.encodeRuneZ r, by omega, hwl, by go_num, by rw [List.length_append]; have := enc_len r; omega, HQ1, ?_, ?_, ?_⟩, by simp [intOf]; omega⟩
              · exact (below_drewN (unhide HBW) nq).setCell (p := ⟨W.heap.size + 1, 1, none⟩) (by show W.heap.size ≤ W.heap.size + 1; omega) _
              · exact (Below.heap_setCell _ ⟨W.heap.size + 1, 1, none⟩ _ _ (by show W.heap.size ≠ W.heap.size + 1; omega)).trans (unhide HRW)
              · rw [← unhide HSX]
                exact put1_heap (W := wr.drewN nq) ht (.string (S0 ++ X))
          · have b92 : (g i == 92) = false := beq_eq_false_iff_ne.2 e92
            have hsp := step_pos (g := g) hlt
            have hsl := step_le (g := g) (len := len) (i := i) hi2
            have hs4 := step_le4 g len i
            rw [quoI_rune hlt e10 emk e92, pfx_one] at hq0
            have HDD : Hid (∀ W', Below W.heap.size W W' → Calls Tryd.prog 63 #[.slice (some ⟨c, off, none⟩) len cap, .int .i64 (i : Int)] W' fun e w' => e = .returned (.agg #[.int .i64 (i : Int), .int .i32 (dRune g len i), .int .i64 (stepN g len i : Int), .bool (dGood g len i)]) ∧ Below W'.heap.size W' w') := fun W' hb => by
              have := rdecode_sl hg (unhide HSA W' hb) (i : Int)
              rw [dSize_nat] at this
              exact this
            obtain ⟨r, hr⟩ : ∃ r, dRune g len i = r := ⟨_, rfl⟩
            obtain ⟨s, hs⟩ : ∃ s, stepN g len i = s := ⟨_, rfl⟩
            obtain ⟨gd, hgd⟩ : ∃ gd, dGood g len i = gd := ⟨_, rfl⟩
            rw [hr] at HDD hq0
            rw [hs] at HDD hq0 hsp hsl hs4
            rw [hgd] at HDD
            have HQ1 := hide hq0
            obtain ⟨S0, hS0⟩ : ∃ S0, strOfNums pre = S0 := ⟨_, rfl⟩
            have hs0 : S0.size ≤ 4 * i := by rw [← hS0, strOfNums_size]; exact hpl
            rw [hS0] at ht u1
            obtain ⟨X, hX⟩ : ∃ X, Utf8.encode r = X := ⟨_, rfl⟩
            have hX2 : strOfNums (Lib.encodeRuneZ r) = X := by rw [← hX, enc_eq]
            have hxs : X.size ≤ 4 := by rw [← hX2, strOfNums_size]; exact enc_len r
            have g1 : ¬ 9223372036854775807 < S0.size + X.size := by omega
            have HSX : Hid (S0 ++ X = strOfNums (pre ++ Lib.encodeRuneZ r)) := by show _ = _; rw [← hS0, ← hX2, str_app]
            clear hq0 hr hs hgd hS0 hX2
            go_wp2
            go_quiet (fail)
            have HD := hide (unhide HDD (wr.drewN nq) ((unhide HBW).trans ⟨rfl, rfl, rfl, Nat.le_refl _, fun _ _ => rfl⟩))
            go_wp2_with (go_at_call 63; refine (unhide HD).mono ?_; rintro x W2 ⟨rfl, hB2⟩; have ht2 := (hB2.block (W.heap.size + 1) hzt).trans ht; obtain ⟨u0, u1, u2, u3⟩ := tok_cells ht2; have uf := Lib.frozen_of_heap ht2; have hz2 : wr.heap.size ≤ W2.heap.size := hB2.size; have hz3 : W.heap.size + 1 < W2.heap.size := (by omega); have uu1 : (W2.alloc (.cells #[.int .i64 (i : Int), .int .i32 r, .int .i64 (s : Int), .bool gd] 92)).cell? ⟨W.heap.size + 1, 1, none⟩ = some (.string S0) := (World.cell?_alloc_lt _ _ _ hz3).trans u1)
            refine ⟨⟨i + s, pre ++ Lib.encodeRuneZ r, by omega, by omega, by go_num, by rw [List.length_append]; have := enc_len r; omega, HQ1, ?_, ?_, ?_⟩, by simp [intOf]; omega⟩
            · exact (((below_drewN (unhide HBW) nq).trans (hB2.mono (unhide HBW).size)).setCell (p := ⟨W.heap.size + 1, 1, none⟩) (by show W.heap.size ≤ W.heap.size + 1; omega) _).alloc (by show W.heap.size ≤ (W2.setCell _ _).heap.size; simp [World.setCell]; omega) _
            · exact (Below.heap_alloc _ _ _ (by simp [World.setCell]; omega)).trans ((Below.heap_setCell _ ⟨W.heap.size + 1, 1, none⟩ _ _ (by show W.heap.size ≠ W.heap.size + 1; omega)).trans ((hB2.block W.heap.size (by show W.heap.size < wr.heap.size; omega)).trans (unhide HRW)))
            · rw [← unhide HSX]
              exact (Below.heap_alloc _ _ _ (by simp [World.setCell]; omega)).trans (put1_heap ht2 (.string (S0 ++ X)))
    · have hltb : decide ((i : Int) < len) = false := decide_eq_false (by omega)
      have hq0 := unhide HP
      rw [quoI_end hlt] at hq0
      subst hq0
      go_wp2
      have hr5 : wr.heap[W.heap.size]? = some (.cells #[.int .i64 0, .string ⟨#[]⟩, .int .i64 0, .int .i64 0] 33) := unhide HRW
      have hBWX := unhide HBW
      have hB6 := put4_below (W := wr) (Nat.le_refl W.heap.size) (.int .i64 4) (.string (strOfNums pre)) ((.int .i64 (at' : Int))) (.int .i64 0)
      have hr6 := put4_heap hr5 (.int .i64 4) (.string (strOfNums pre)) ((.int .i64 (at' : Int))) (.int .i64 0)
      obtain ⟨W6, hW6⟩ : ∃ W6, ((((wr.setCell ⟨W.heap.size, 0, none⟩ (.int .i64 4)).setCell ⟨W.heap.size, 1, none⟩ (.string (strOfNums pre))).setCell ⟨W.heap.size, 2, none⟩ ((.int .i64 (at' : Int)))).setCell ⟨W.heap.size, 3, none⟩ (.int .i64 0)) = W6 := ⟨_, rfl⟩
      rw [hW6] at hB6 hr6 ⊢
      clear hW6
      obtain ⟨e0, e1, e2, e3⟩ := tok_cells hr6
      try rw [Exit.noGoto_ret]
      refine bodyPost_ret (v := .tuple #[.agg #[.int .i64 4, .string (strOfNums pre), (.int .i64 (at' : Int)), .int .i64 0], .bool false]) ?_ rfl ⟨RV_none _ _ _ _, hBWX.trans hB6⟩
      clear d0 d1 d2 d3 df ds u0 u1 u2 u3 uf us
      simp [results, Tryd.results44, go_sem, e0, e1, e2, e3]
end Go.Proofs.YtpdkeggiokebmaaDoor

/- The reference's pieces of templates. -/
namespace Go.Proofs.YtpdkeggiokebmaaDoor
set_option linter.unusedSimpArgs false
set_option linter.unusedVariables false
open Go.RowKit Go.Shelf

/-- What the reference's piece gives. -/
def RPV (at' : Nat) (q : Option (List Int × Bool × Nat)) (x : Ending) : Prop := match q with
  | none => ∃ k S y z, x = .returned (.tuple #[tokV k S y z, .bool false, .bool false])
  | some (t, b, e) => x = .returned (.tuple #[tokV 0 (strOfNums t) at' (e : Int), .bool b, .bool true])
theorem RPV_some {at' : Nat} {t : List Int} {b : Bool} {e : Nat} {x : Ending} (h : x = .returned (.tuple #[tokV 0 (strOfNums t) at' (e : Int), .bool b, .bool true])) : RPV at' (some (t, b, e)) x := h
theorem RPV_none {at' : Nat} (k : Int) (S : ByteArray) (y z : Int) : RPV at' none (.returned (.tuple #[tokV k S y z, .bool false, .bool false])) := ⟨k, S, y, z, rfl⟩
def RPostP (W : World) (at' : Nat) (q : Option (List Int × Bool × Nat)) (x : Ending) (W' : World) : Prop := RPV at' q x ∧ Below W.heap.size W W'
attribute [local go_sem] tokV
set_option maxRecDepth 100000 in
set_option maxHeartbeats 4000000 in
theorem rpiece_any (c : Nat) (a : Option Addr) (len cap : Nat) (g : Nat → Int) (hg : ∀ j, 0 ≤ g j ∧ g j ≤ 255) (at' : Nat) (W : World) (hS : Sl W c (.slice a len cap) len g) (hc : c < W.heap.size) (hat : at' < len) (hlen : len ≤ 1099511627776) :
    Calls Tryd.prog 45 #[.slice a len cap, .int .i64 (at' : Int)] W (RPostP W at' (pieI g len (at' + 1))) := by
  obtain ⟨q, hq⟩ : ∃ q, pieI g len (at' + 1) = q := ⟨_, rfl⟩
  have HQ := hide hq
  rw [hq]
  clear hq
  obtain ⟨W1, hW1⟩ : ∃ W1, (W.alloc (.cells #[.int .i64 0, .string ⟨#[]⟩, .int .i64 0, .int .i64 0] 33)).alloc (.cells #[.int .i64 0, .string ⟨#[]⟩, .int .i64 (at' : Int), .int .i64 0] 33) = W1 := ⟨_, rfl⟩
  have hB1 : Below W.heap.size W W1 := by rw [← hW1]; exact ((Below.refl _ W).alloc (Nat.le_refl _) _).alloc (by simp) _
  have hz1 : W1.heap.size = W.heap.size + 1 + 1 := by rw [← hW1]; simp
  have hr1 : W1.heap[W.heap.size]? = some (.cells #[.int .i64 0, .string ⟨#[]⟩, .int .i64 0, .int .i64 0] 33) := by rw [← hW1]; exact (Below.heap_alloc _ _ _ (by simp)).trans (World.alloc_heap_new W _)
  have ht1 : W1.heap[W.heap.size + 1]? = some (.cells #[.int .i64 0, .string (strOfNums []), .int .i64 (at' : Int), .int .i64 0] 33) := by
    have := World.alloc_heap_new (W.alloc (.cells #[.int .i64 0, .string ⟨#[]⟩, .int .i64 0, .int .i64 0] 33)) (.cells #[.int .i64 0, .string ⟨#[]⟩, .int .i64 (at' : Int), .int .i64 0] 33)
    rw [World.size_alloc] at this
    rw [← hW1]; exact this
  have HSA : Hid (∀ W', Below W.heap.size W W' → Sl W' c (.slice a len cap) len g) := fun W' hb => hS.keep (fun k e => by subst e; exact hb.block k hc)
  obtain ⟨off, rfl, hcp, hmx, hcs⟩ := unhide (sl_cells hS) (by omega)
  unfold maxLen at hmx
  have HCS := hide hcs
  have HB1 := hide hB1
  have HR1 := hide hr1
  have HT1 := hide ht1
  have HZ1 := hide hz1
  have HW1 := hide hW1
  clear hS hB1 hr1 ht1 hz1 hcs hW1
  go_enter Tryd.func45, Tryd.ntmps45
  go_wp2
  rw [show (W.alloc (.cells #[.int .i64 0, .string ⟨#[]⟩, .int .i64 0, .int .i64 0] 33)).alloc (.cells #[.int .i64 0, .string ⟨#[]⟩, .int .i64 (at' : Int), .int .i64 0] 33) = W1 from unhide HW1]
  clear HW1
  go_loopw [8] (fun t wr => ∃ (i : Nat) (pre : List Int), at' + 1 ≤ i ∧ i ≤ len ∧ t = .int .i64 (i : Int) ∧ pre.length ≤ 4 * i ∧ Hid (pfx pre (pieI g len i) = q) ∧ Hid (Below W.heap.size W wr) ∧ Hid (wr.heap[W.heap.size]? = some (.cells #[.int .i64 0, .string ⟨#[]⟩, .int .i64 0, .int .i64 0] 33)) ∧ wr.heap[W.heap.size + 1]? = some (.cells #[.int .i64 0, .string (strOfNums pre), .int .i64 (at' : Int), .int .i64 0] 33)) (fun t _ => len - (intOf t).toNat)
  case atStart => exact ⟨at' + 1, [], Nat.le_refl _, by omega, by go_num, by simp, by show pfx [] _ = q; rw [pfx_nil]; exact unhide HQ, unhide HB1, unhide HR1, unhide HT1⟩
  case round =>
    obtain ⟨i, pre, hi1, hi2, rfl, hpl, HP, HBW, HRW, ht⟩ := hrel
    clear HQ HB1 HR1 HT1 HZ1
    obtain ⟨u0, u1, u2, u3⟩ := tok_cells ht
    have uf := Lib.frozen_of_heap ht
    have us : wr.shape? (W.heap.size + 1) = some (33, 4) := by simp [World.shape?, ht]
    obtain ⟨d0, d1, d2, d3⟩ := tok_cells (unhide HRW)
    have df := Lib.frozen_of_heap (unhide HRW)
    have ds : wr.shape? W.heap.size = some (33, 4) := by simp [World.shape?, unhide HRW]
    have hzt : W.heap.size + 1 < wr.heap.size := (Array.getElem?_eq_some_iff.1 ht).1
    by_cases hlt : i < len
    · have hlt' : (i : Int) < len := by omega
      have hltb : decide ((i : Int) < len) = true := decide_eq_true hlt'
      have hci : wr.cell? ⟨c, off + i, none⟩ = some (.int .u8 (g i)) := by rw [World.cell?_of_block (w := W) ((unhide HBW).block c hc)]; exact unhide HCS i hlt
      have hq0 := unhide HP
      by_cases e96 : g i = 96
      · rw [pieI_mark hlt e96] at hq0
        have hq1 : some (pre ++ [], false, i + 1) = q := hq0
        rw [List.append_nil] at hq1
        subst hq1
        rw [e96] at hci
        go_wp2
        have hBE : Below W.heap.size W (wr.setCell ⟨W.heap.size + 1, 3, none⟩ (.int .i64 ((i : Int) + 1))) := (unhide HBW).setCell (p := ⟨W.heap.size + 1, 3, none⟩) (by show W.heap.size ≤ W.heap.size + 1; omega) _
        have hr5 : (wr.setCell ⟨W.heap.size + 1, 3, none⟩ (.int .i64 ((i : Int) + 1))).heap[W.heap.size]? = some (.cells #[.int .i64 0, .string ⟨#[]⟩, .int .i64 0, .int .i64 0] 33) := (Below.heap_setCell _ ⟨W.heap.size + 1, 3, none⟩ _ _ (by show W.heap.size ≠ W.heap.size + 1; omega)).trans (unhide HRW)
        have hB6 := put4_below (W := (wr.setCell ⟨W.heap.size + 1, 3, none⟩ (.int .i64 ((i : Int) + 1)))) (Nat.le_refl W.heap.size) (.int .i64 0) (.string (strOfNums pre)) ((.int .i64 (at' : Int))) ((.int .i64 ((i : Int) + 1)))
        have hr6 := put4_heap hr5 (.int .i64 0) (.string (strOfNums pre)) ((.int .i64 (at' : Int))) ((.int .i64 ((i : Int) + 1)))
        obtain ⟨W6, hW6⟩ : ∃ W6, (((((wr.setCell ⟨W.heap.size + 1, 3, none⟩ (.int .i64 ((i : Int) + 1))).setCell ⟨W.heap.size, 0, none⟩ (.int .i64 0)).setCell ⟨W.heap.size, 1, none⟩ (.string (strOfNums pre))).setCell ⟨W.heap.size, 2, none⟩ ((.int .i64 (at' : Int)))).setCell ⟨W.heap.size, 3, none⟩ ((.int .i64 ((i : Int) + 1)))) = W6 := ⟨_, rfl⟩
        rw [hW6] at hB6 hr6 ⊢
        clear hW6
        obtain ⟨e0, e1, e2, e3⟩ := tok_cells hr6
        try rw [Exit.noGoto_ret]
        refine bodyPost_ret (v := .tuple #[.agg #[.int .i64 0, .string (strOfNums pre), (.int .i64 (at' : Int)), (.int .i64 ((i : Int) + 1))], .bool false, .bool true]) ?_ rfl ⟨RPV_some rfl, hBE.trans hB6⟩
        clear d0 d1 d2 d3 df ds u0 u1 u2 u3 uf us
        simp [results, Tryd.results45, go_sem, e0, e1, e2, e3]
      have b96 : (g i == 96) = false := beq_eq_false_iff_ne.2 e96
      by_cases e36 : g i = 36 ∧ i + 1 < len ∧ g (i + 1) = 123
      · obtain ⟨e36, hi1l, g123⟩ := e36
        rw [pieI_hole hi1l e36 g123] at hq0
        have hq1 : some (pre ++ [], true, i + 2) = q := hq0
        rw [List.append_nil] at hq1
        subst hq1
        rw [e36] at hci
        have hi1' : (i : Int) + 1 < len := by omega
        have hi1d : decide ((i : Int) + 1 < len) = true := decide_eq_true hi1'
        have hci1 : wr.cell? ⟨c, off + (i + 1), none⟩ = some (.int .u8 (g (i + 1))) := by rw [World.cell?_of_block (w := W) ((unhide HBW).block c hc)]; exact unhide HCS (i + 1) hi1l
        rw [g123] at hci1
        go_wp2
        have hBE : Below W.heap.size W (wr.setCell ⟨W.heap.size + 1, 3, none⟩ (.int .i64 ((i : Int) + 2))) := (unhide HBW).setCell (p := ⟨W.heap.size + 1, 3, none⟩) (by show W.heap.size ≤ W.heap.size + 1; omega) _
        have hr5 : (wr.setCell ⟨W.heap.size + 1, 3, none⟩ (.int .i64 ((i : Int) + 2))).heap[W.heap.size]? = some (.cells #[.int .i64 0, .string ⟨#[]⟩, .int .i64 0, .int .i64 0] 33) := (Below.heap_setCell _ ⟨W.heap.size + 1, 3, none⟩ _ _ (by show W.heap.size ≠ W.heap.size + 1; omega)).trans (unhide HRW)
        have hB6 := put4_below (W := (wr.setCell ⟨W.heap.size + 1, 3, none⟩ (.int .i64 ((i : Int) + 2)))) (Nat.le_refl W.heap.size) (.int .i64 0) (.string (strOfNums pre)) ((.int .i64 (at' : Int))) ((.int .i64 ((i : Int) + 2)))
        have hr6 := put4_heap hr5 (.int .i64 0) (.string (strOfNums pre)) ((.int .i64 (at' : Int))) ((.int .i64 ((i : Int) + 2)))
        obtain ⟨W6, hW6⟩ : ∃ W6, (((((wr.setCell ⟨W.heap.size + 1, 3, none⟩ (.int .i64 ((i : Int) + 2))).setCell ⟨W.heap.size, 0, none⟩ (.int .i64 0)).setCell ⟨W.heap.size, 1, none⟩ (.string (strOfNums pre))).setCell ⟨W.heap.size, 2, none⟩ ((.int .i64 (at' : Int)))).setCell ⟨W.heap.size, 3, none⟩ ((.int .i64 ((i : Int) + 2)))) = W6 := ⟨_, rfl⟩
        rw [hW6] at hB6 hr6 ⊢
        clear hW6
        obtain ⟨e0, e1, e2, e3⟩ := tok_cells hr6
        try rw [Exit.noGoto_ret]
        refine bodyPost_ret (v := .tuple #[.agg #[.int .i64 0, .string (strOfNums pre), (.int .i64 (at' : Int)), (.int .i64 ((i : Int) + 2))], .bool true, .bool true]) ?_ rfl ⟨RPV_some rfl, hBE.trans hB6⟩
        clear d0 d1 d2 d3 df ds u0 u1 u2 u3 uf us
        simp [results, Tryd.results45, go_sem, e0, e1, e2, e3]
      have HN36 := hide e36
      clear e36
      by_cases e92 : g i = 92
      · have hnx := @pieI_esc g len i
        cases he : escE g len i with
        | none =>
          rw [pieI_bad hlt e92 he] at hq0
          subst hq0
          have HES := hide (rescape_any c _ len cap g hg i wr (unhide HSA wr (unhide HBW)) hlt hlen)
          rw [he] at HES
          have HES2 : Hid (Calls Tryd.prog 62 #[.slice (some ⟨c, off, none⟩) len cap, .int .i64 (i : Int)] wr fun x W' => x = .returned (.tuple #[.string ⟨#[]⟩, .int .i64 (i : Int), .bool false]) ∧ W' = wr) := unhide HES
          rw [e92] at hci
          clear HES hnx he
          go_wp2_with (go_at_call 62; refine (unhide HES2).mono ?_; rintro x w' ⟨rfl, hw⟩; subst w')
          have hr5 : wr.heap[W.heap.size]? = some (.cells #[.int .i64 0, .string ⟨#[]⟩, .int .i64 0, .int .i64 0] 33) := unhide HRW
          have hB6 := put4_below (W := wr) (Nat.le_refl W.heap.size) (.int .i64 0) (.string (strOfNums pre)) ((.int .i64 (at' : Int))) (.int .i64 0)
          have hr6 := put4_heap hr5 (.int .i64 0) (.string (strOfNums pre)) ((.int .i64 (at' : Int))) (.int .i64 0)
          obtain ⟨W6, hW6⟩ : ∃ W6, ((((wr.setCell ⟨W.heap.size, 0, none⟩ (.int .i64 0)).setCell ⟨W.heap.size, 1, none⟩ (.string (strOfNums pre))).setCell ⟨W.heap.size, 2, none⟩ ((.int .i64 (at' : Int)))).setCell ⟨W.heap.size, 3, none⟩ (.int .i64 0)) = W6 := ⟨_, rfl⟩
          rw [hW6] at hB6 hr6 ⊢
          clear hW6
          obtain ⟨e0, e1, e2, e3⟩ := tok_cells hr6
          try rw [Exit.noGoto_ret]
          refine bodyPost_ret (v := .tuple #[.agg #[.int .i64 0, .string (strOfNums pre), (.int .i64 (at' : Int)), .int .i64 0], .bool false, .bool false]) ?_ rfl ⟨RPV_none _ _ _ _, (unhide HBW).trans hB6⟩
          clear d0 d1 d2 d3 df ds u0 u1 u2 u3 uf us
          simp [results, Tryd.results45, go_sem, e0, e1, e2, e3]
        | some y =>
          obtain ⟨r, wd⟩ := y
          have hw2 := escE_w he
          rw [hnx hlt e92 he, pfx_oneP] at hq0
          have HQ1 := hide hq0
          have hwl := hw2.2
          have hwk := hw2.1
          obtain ⟨S0, hS0⟩ : ∃ S0, strOfNums pre = S0 := ⟨_, rfl⟩
          have hs0 : S0.size ≤ 4 * i := by rw [← hS0, strOfNums_size]; exact hpl
          rw [hS0] at ht u1
          obtain ⟨X, hX⟩ : ∃ X, strOfNums (Lib.encodeRuneZ r) = X := ⟨_, rfl⟩
          have hxs : X.size ≤ 4 := by rw [← hX, strOfNums_size]; exact enc_len r
          have g1 : ¬ 9223372036854775807 < S0.size + X.size := by omega
          have HSX : Hid (S0 ++ X = strOfNums (pre ++ Lib.encodeRuneZ r)) := by show _ = _; rw [← hS0, ← hX, str_app]
          have HES := hide (rescape_any c _ len cap g hg i wr (unhide HSA wr (unhide HBW)) hlt hlen)
          rw [he] at HES
          have HES2 : Hid (Calls Tryd.prog 62 #[.slice (some ⟨c, off, none⟩) len cap, .int .i64 (i : Int)] wr fun x W' => x = .returned (.tuple #[.string X, .int .i64 ((i : Int) + wd), .bool true]) ∧ W' = wr) := by rw [← hX]; exact unhide HES
          rw [e92] at hci
          clear HES hnx he hX hq0 hS0
          go_wp2_with (go_at_call 62; refine (unhide HES2).mono ?_; rintro x w' ⟨rfl, hw⟩; subst w')
          refine ⟨⟨i + wd, pre ++ Lib.encodeRuneZ r, by omega, hwl, by go_num, by rw [List.length_append]; have := enc_len r; omega, HQ1, ?_, ?_, ?_⟩, by simp [intOf]; omega⟩
          · exact (unhide HBW).setCell (p := ⟨W.heap.size + 1, 1, none⟩) (by show W.heap.size ≤ W.heap.size + 1; omega) _
          · exact (Below.heap_setCell _ ⟨W.heap.size + 1, 1, none⟩ _ _ (by show W.heap.size ≠ W.heap.size + 1; omega)).trans (unhide HRW)
          · rw [← unhide HSX]
            exact put1_heap (W := wr) ht (.string (S0 ++ X))
      have b92 : (g i == 92) = false := beq_eq_false_iff_ne.2 e92
      have hsp := step_pos (g := g) hlt
      have hsl := step_le (g := g) (len := len) (i := i) hi2
      have hs4 := step_le4 g len i
      rw [pieI_rune hlt e96 (unhide HN36) e92, pfx_oneP] at hq0
      have HDD := hide (rdecode_sl hg (unhide HSA wr (unhide HBW)) (i : Int))
      rw [dSize_nat] at HDD
      obtain ⟨r, hr⟩ : ∃ r, dRune g len i = r := ⟨_, rfl⟩
      obtain ⟨s, hs⟩ : ∃ s, stepN g len i = s := ⟨_, rfl⟩
      obtain ⟨gd, hgd⟩ : ∃ gd, dGood g len i = gd := ⟨_, rfl⟩
      rw [hr] at HDD hq0
      rw [hs] at HDD hq0 hsp hsl hs4
      rw [hgd] at HDD
      have HQ1 := hide hq0
      obtain ⟨S0, hS0⟩ : ∃ S0, strOfNums pre = S0 := ⟨_, rfl⟩
      have hs0 : S0.size ≤ 4 * i := by rw [← hS0, strOfNums_size]; exact hpl
      rw [hS0] at ht u1
      obtain ⟨X, hX⟩ : ∃ X, Utf8.encode r = X := ⟨_, rfl⟩
      have hX2 : strOfNums (Lib.encodeRuneZ r) = X := by rw [← hX, enc_eq]
      have hxs : X.size ≤ 4 := by rw [← hX2, strOfNums_size]; exact enc_len r
      have g1 : ¬ 9223372036854775807 < S0.size + X.size := by omega
      have HSX : Hid (S0 ++ X = strOfNums (pre ++ Lib.encodeRuneZ r)) := by show _ = _; rw [← hS0, ← hX2, str_app]
      clear hq0 hr hs hgd hS0 hX2
      by_cases e36 : g i = 36
      · have b36 : (g i == 36) = true := beq_iff_eq.2 e36
        by_cases hi1l : i + 1 < len
        · have hi1' : (i : Int) + 1 < len := by omega
          have hi1d : decide ((i : Int) + 1 < len) = true := decide_eq_true hi1'
          have hci1 : wr.cell? ⟨c, off + (i + 1), none⟩ = some (.int .u8 (g (i + 1))) := by rw [World.cell?_of_block (w := W) ((unhide HBW).block c hc)]; exact unhide HCS (i + 1) hi1l
          have b123 : (g (i + 1) == 123) = false := beq_eq_false_iff_ne.2 (fun h => unhide HN36 ⟨e36, hi1l, h⟩)
          clear e36
          go_wp2_with (go_at_call 63; refine (unhide HDD).mono ?_; rintro x W2 ⟨rfl, hB2⟩; have ht2 := (hB2.block (W.heap.size + 1) hzt).trans ht; obtain ⟨u0, u1, u2, u3⟩ := tok_cells ht2; have uf := Lib.frozen_of_heap ht2; have hz2 : wr.heap.size ≤ W2.heap.size := hB2.size; have hz3 : W.heap.size + 1 < W2.heap.size := (by omega); have uu1 : (W2.alloc (.cells #[.int .i64 (i : Int), .int .i32 r, .int .i64 (s : Int), .bool gd] 92)).cell? ⟨W.heap.size + 1, 1, none⟩ = some (.string S0) := (World.cell?_alloc_lt _ _ _ hz3).trans u1)
          refine ⟨⟨i + s, pre ++ Lib.encodeRuneZ r, by omega, by omega, by go_num, by rw [List.length_append]; have := enc_len r; omega, HQ1, ?_, ?_, ?_⟩, by simp [intOf]; omega⟩
          · exact (((unhide HBW).trans (hB2.mono (unhide HBW).size)).setCell (p := ⟨W.heap.size + 1, 1, none⟩) (by show W.heap.size ≤ W.heap.size + 1; omega) _).alloc (by show W.heap.size ≤ (W2.setCell _ _).heap.size; simp [World.setCell]; omega) _
          · exact (Below.heap_alloc _ _ _ (by simp [World.setCell]; omega)).trans ((Below.heap_setCell _ ⟨W.heap.size + 1, 1, none⟩ _ _ (by show W.heap.size ≠ W.heap.size + 1; omega)).trans ((hB2.block W.heap.size (by show W.heap.size < wr.heap.size; omega)).trans (unhide HRW)))
          · rw [← unhide HSX]
            exact (Below.heap_alloc _ _ _ (by simp [World.setCell]; omega)).trans (put1_heap ht2 (.string (S0 ++ X)))
        · have hi1d : decide ((i : Int) + 1 < len) = false := decide_eq_false (by omega)
          clear e36
          go_wp2_with (go_at_call 63; refine (unhide HDD).mono ?_; rintro x W2 ⟨rfl, hB2⟩; have ht2 := (hB2.block (W.heap.size + 1) hzt).trans ht; obtain ⟨u0, u1, u2, u3⟩ := tok_cells ht2; have uf := Lib.frozen_of_heap ht2; have hz2 : wr.heap.size ≤ W2.heap.size := hB2.size; have hz3 : W.heap.size + 1 < W2.heap.size := (by omega); have uu1 : (W2.alloc (.cells #[.int .i64 (i : Int), .int .i32 r, .int .i64 (s : Int), .bool gd] 92)).cell? ⟨W.heap.size + 1, 1, none⟩ = some (.string S0) := (World.cell?_alloc_lt _ _ _ hz3).trans u1)
          refine ⟨⟨i + s, pre ++ Lib.encodeRuneZ r, by omega, by omega, by go_num, by rw [List.length_append]; have := enc_len r; omega, HQ1, ?_, ?_, ?_⟩, by simp [intOf]; omega⟩
          · exact (((unhide HBW).trans (hB2.mono (unhide HBW).size)).setCell (p := ⟨W.heap.size + 1, 1, none⟩) (by show W.heap.size ≤ W.heap.size + 1; omega) _).alloc (by show W.heap.size ≤ (W2.setCell _ _).heap.size; simp [World.setCell]; omega) _
          · exact (Below.heap_alloc _ _ _ (by simp [World.setCell]; omega)).trans ((Below.heap_setCell _ ⟨W.heap.size + 1, 1, none⟩ _ _ (by show W.heap.size ≠ W.heap.size + 1; omega)).trans ((hB2.block W.heap.size (by show W.heap.size < wr.heap.size; omega)).trans (unhide HRW)))
          · rw [← unhide HSX]
            exact (Below.heap_alloc _ _ _ (by simp [World.setCell]; omega)).trans (put1_heap ht2 (.string (S0 ++ X)))
      · have b36 : (g i == 36) = false := beq_eq_false_iff_ne.2 e36
        go_wp2_with (go_at_call 63; refine (unhide HDD).mono ?_; rintro x W2 ⟨rfl, hB2⟩; have ht2 := (hB2.block (W.heap.size + 1) hzt).trans ht; obtain ⟨u0, u1, u2, u3⟩ := tok_cells ht2; have uf := Lib.frozen_of_heap ht2; have hz2 : wr.heap.size ≤ W2.heap.size := hB2.size; have hz3 : W.heap.size + 1 < W2.heap.size := (by omega); have uu1 : (W2.alloc (.cells #[.int .i64 (i : Int), .int .i32 r, .int .i64 (s : Int), .bool gd] 92)).cell? ⟨W.heap.size + 1, 1, none⟩ = some (.string S0) := (World.cell?_alloc_lt _ _ _ hz3).trans u1)
        refine ⟨⟨i + s, pre ++ Lib.encodeRuneZ r, by omega, by omega, by go_num, by rw [List.length_append]; have := enc_len r; omega, HQ1, ?_, ?_, ?_⟩, by simp [intOf]; omega⟩
        · exact (((unhide HBW).trans (hB2.mono (unhide HBW).size)).setCell (p := ⟨W.heap.size + 1, 1, none⟩) (by show W.heap.size ≤ W.heap.size + 1; omega) _).alloc (by show W.heap.size ≤ (W2.setCell _ _).heap.size; simp [World.setCell]; omega) _
        · exact (Below.heap_alloc _ _ _ (by simp [World.setCell]; omega)).trans ((Below.heap_setCell _ ⟨W.heap.size + 1, 1, none⟩ _ _ (by show W.heap.size ≠ W.heap.size + 1; omega)).trans ((hB2.block W.heap.size (by show W.heap.size < wr.heap.size; omega)).trans (unhide HRW)))
        · rw [← unhide HSX]
          exact (Below.heap_alloc _ _ _ (by simp [World.setCell]; omega)).trans (put1_heap ht2 (.string (S0 ++ X)))
    · have hltb : decide ((i : Int) < len) = false := decide_eq_false (by omega)
      have hq0 := unhide HP
      rw [pieI_end hlt] at hq0
      subst hq0
      go_wp2
      have hr5 : wr.heap[W.heap.size]? = some (.cells #[.int .i64 0, .string ⟨#[]⟩, .int .i64 0, .int .i64 0] 33) := unhide HRW
      have hB6 := put4_below (W := wr) (Nat.le_refl W.heap.size) (.int .i64 0) (.string (strOfNums pre)) ((.int .i64 (at' : Int))) (.int .i64 0)
      have hr6 := put4_heap hr5 (.int .i64 0) (.string (strOfNums pre)) ((.int .i64 (at' : Int))) (.int .i64 0)
      obtain ⟨W6, hW6⟩ : ∃ W6, ((((wr.setCell ⟨W.heap.size, 0, none⟩ (.int .i64 0)).setCell ⟨W.heap.size, 1, none⟩ (.string (strOfNums pre))).setCell ⟨W.heap.size, 2, none⟩ ((.int .i64 (at' : Int)))).setCell ⟨W.heap.size, 3, none⟩ (.int .i64 0)) = W6 := ⟨_, rfl⟩
      rw [hW6] at hB6 hr6 ⊢
      clear hW6
      obtain ⟨e0, e1, e2, e3⟩ := tok_cells hr6
      try rw [Exit.noGoto_ret]
      refine bodyPost_ret (v := .tuple #[.agg #[.int .i64 0, .string (strOfNums pre), (.int .i64 (at' : Int)), .int .i64 0], .bool false, .bool false]) ?_ rfl ⟨RPV_none _ _ _ _, (unhide HBW).trans hB6⟩
      clear d0 d1 d2 d3 df ds u0 u1 u2 u3 uf us
      simp [results, Tryd.results45, go_sem, e0, e1, e2, e3]
end Go.Proofs.YtpdkeggiokebmaaDoor
