/- Merged: RT, RU. -/
import Derived.BigQuiet
import Derived.Deep.AppendLies
import Derived.Deep.QuietTactic
import Derived.Deep.RegionWith
import Derived.Laws.AppendOwnNone
import Derived.LoopN
import Derived.WalkMore
import Derived.Test.YtpdkeggiokebmaaDoorHF
import Derived.Test.YtpdkeggiokebmaaDoorHK
/- The reference's next: templates and their holes' ends. -/
namespace Go.Proofs.YtpdkeggiokebmaaDoor
set_option linter.unusedSimpArgs false
set_option linter.unusedVariables false
open Go.RowKit Go.Shelf

attribute [local go_sem] tokV
theorem put0_heap {W : World} {R : Nat} {x0 x1 x2 x3 : Value} (h : W.heap[R]? = some (.cells #[x0, x1, x2, x3] 33)) (y : Value) : (W.setCell ⟨R, 0, none⟩ y).heap[R]? = some (.cells #[y, x1, x2, x3] 33) := by
  simp [World.setCell, Array.getElem?_modify, h]
set_option maxRecDepth 100000 in
set_option maxHeartbeats 4000000 in
theorem rnext_tpl (c : Nat) (a : Option Addr) (len cap : Nat) (g : Nat → Int) (hg : ∀ j, 0 ≤ g j ∧ g j ≤ 255) (at' : Nat) (hv : Value) (bs : List Bool) (W : World) (hS : Sl W c (.slice a len cap) len g) (hc : c < W.heap.size) (hO : HOL W hv bs) (hat : at' < len) (hlen : len ≤ 1099511627776) (hbl : bs.length ≤ 1099511627776) (q1 : g at' = 96) :
    Calls Tryd.prog 32 #[.slice a len cap, .int .i64 (at' : Int), hv] W (RNV W at' (pieQ 5 6 bs (pieI g len (at' + 1)))) := by
  have HO := hide hO
  obtain ⟨a2, cap2, rfl, ho1, ho2, ho3⟩ := hO.opn
  clear hO
  unfold maxLen at ho2
  obtain ⟨W1, hW1⟩ : ∃ W1, W.alloc (.cells #[.int .i64 0, .string ⟨#[]⟩, .int .i64 0, .int .i64 0] 33) = W1 := ⟨_, rfl⟩
  have hB1 : Below W.heap.size W W1 := by rw [← hW1]; exact (Below.refl _ W).alloc (Nat.le_refl _) _
  have hz1 : W1.heap.size = W.heap.size + 1 := by rw [← hW1]; simp
  have hr1 : W1.heap[W.heap.size]? = some (.cells #[.int .i64 0, .string ⟨#[]⟩, .int .i64 0, .int .i64 0] 33) := by rw [← hW1]; exact World.alloc_heap_new W _
  have hS1 := hS.keep (B := W1) (fun k e => by subst e; exact hB1.block k hc)
  obtain ⟨off, rfl, h1, h2, hcs⟩ := unhide (sl_cells hS1) (by omega)
  unfold maxLen at h2
  have hck := hcs at' hat
  have n1 : (at' : Int) < len := by omega
  have HCS := hide hcs
  have HS1 := hide hS1
  clear hS hS1 hcs
  have HN0 := hide (rpiece_any c _ len cap g hg at' W1 (unhide HS1) (by omega) hat hlen)
  obtain ⟨q, hq⟩ : ∃ q, pieI g len (at' + 1) = q := ⟨_, rfl⟩
  rw [hq] at HN0 ⊢
  rw [q1] at hck
  clear hq q1
  have hL : isL 96 = false := by decide
  have hD : isD 96 = false := by decide
  cases q with
  | none =>
    have HN : Hid (Calls Tryd.prog 45 #[.slice (some ⟨c, off, none⟩) len cap, .int .i64 (at' : Int)] W1 fun x W' => (∃ k S y z, x = .returned (.tuple #[tokV k S y z, .bool false, .bool false])) ∧ Below W1.heap.size W1 W') := unhide HN0
    clear HN0
    go_enter Tryd.func32, Tryd.ntmps32
    go_wp2_with (first | (go_at_call 40; refine (rLetter_any _ _).mono ?_; rintro x w' ⟨rfl, hw⟩; subst w') | (go_at_call 41; refine (rDigit_any _ _).mono ?_; rintro x w' ⟨rfl, hw⟩; subst w') | (go_at_call 45; refine (unhide HN).mono ?_; rintro x W2 ⟨⟨k, S, y, z, rfl⟩, hB2⟩; obtain ⟨W3, hW3⟩ : ∃ W3, W2.alloc (.cells #[Value.int .i64 k, .string S, .int .i64 y, .int .i64 z] 33) = W3 := ⟨_, rfl⟩; have hz2 := hB2.size; have hz3 : W3.heap.size = W2.heap.size + 1 := (by rw [← hW3]; simp); have hB3 : Below W2.heap.size W2 W3 := (by rw [← hW3]; exact (Below.refl _ _).alloc (Nat.le_refl _) _); have hr5 : W3.heap[W.heap.size]? = some (.cells #[.int .i64 0, .string ⟨#[]⟩, .int .i64 0, .int .i64 0] 33) := (hB3.block W.heap.size (by omega)).trans ((hB2.block W.heap.size (by omega)).trans hr1); obtain ⟨d0, d1, d2, d3⟩ := tok_cells hr5; have d4 := Lib.frozen_of_heap hr5; have d5 : W3.shape? W.heap.size = some (33, 4) := (by simp [World.shape?, hr5]); have ht3 : W3.heap[W2.heap.size]? = some (.cells #[Value.int .i64 k, .string S, .int .i64 y, .int .i64 z] 33) := (by rw [← hW3]; exact World.alloc_heap_new _ _); obtain ⟨t0, t1, t2, t3⟩ := tok_cells ht3; have t4 := Lib.frozen_of_heap ht3; have t5 : W3.shape? W2.heap.size = some (33, 4) := (by simp [World.shape?, ht3]); obtain ⟨W4, hW4⟩ : ∃ W4, W3.setCell ⟨W2.heap.size, 0, none⟩ (.int .i64 5) = W4 := ⟨_, rfl⟩; have hr4 : W4.heap[W.heap.size]? = some (.cells #[.int .i64 0, .string ⟨#[]⟩, .int .i64 0, .int .i64 0] 33) := (by rw [← hW4]; exact (Below.heap_setCell _ ⟨W2.heap.size, 0, none⟩ _ _ (by show W.heap.size ≠ W2.heap.size; omega)).trans hr5); have ht4 : W4.heap[W2.heap.size]? = some (.cells #[.int .i64 5, .string S, .int .i64 y, .int .i64 z] 33) := (by rw [← hW4]; exact put0_heap ht3 _); have hBW4 : Below W2.heap.size W3 W4 := (by rw [← hW4]; exact (Below.refl _ _).setCell (p := ⟨W2.heap.size, 0, none⟩) (Nat.le_refl _) _); have hzW4 := hBW4.size; obtain ⟨d0, d1, d2, d3⟩ := tok_cells hr4; have d4 := Lib.frozen_of_heap hr4; have d5 : W4.shape? W.heap.size = some (33, 4) := (by simp [World.shape?, hr4]); obtain ⟨t0, t1, t2, t3⟩ := tok_cells ht4; have t4 := Lib.frozen_of_heap ht4; have t5 : W4.shape? W2.heap.size = some (33, 4) := (by simp [World.shape?, ht4])))
    have hB6 := put4_below (W := W4) (Nat.le_refl W.heap.size) (.int .i64 5) (.string S) ((.int .i64 y)) ((.int .i64 z))
    have hr6 := put4_heap hr4 (.int .i64 5) (.string S) ((.int .i64 y)) ((.int .i64 z))
    obtain ⟨W6, hW6⟩ : ∃ W6, ((((W4.setCell ⟨W.heap.size, 0, none⟩ (.int .i64 5)).setCell ⟨W.heap.size, 1, none⟩ (.string S)).setCell ⟨W.heap.size, 2, none⟩ ((.int .i64 y))).setCell ⟨W.heap.size, 3, none⟩ ((.int .i64 z))) = W6 := ⟨_, rfl⟩
    rw [hW6] at hB6 hr6 ⊢
    clear hW6
    obtain ⟨e0, e1, e2, e3⟩ := tok_cells hr6
    have hBF : Below W.heap.size W W6 := ((((hB1.trans (hB2.mono hB1.size)).trans (hB3.mono (by omega))).trans (hBW4.mono (by omega)))).trans hB6
    try rw [Exit.noGoto_ret]
    refine bodyPost_ret (v := .tuple #[.agg #[.int .i64 5, .string S, (.int .i64 y), (.int .i64 z)], .slice a2 bs.length cap2, .bool false]) ?_ rfl ⟨⟨_, _, _, _, _, rfl⟩, hBF⟩
    clear d0 d1 d2 d3 d4 d5 t0 t1 t2 t3 t4 t5
    simp [results, Tryd.results32, go_sem, e0, e1, e2, e3]
  | some x =>
    obtain ⟨t, b, e'⟩ := x
    obtain ⟨S, hSx⟩ : ∃ S, strOfNums t = S := ⟨_, rfl⟩
    cases b with
    | false =>
      have HN : Hid (Calls Tryd.prog 45 #[.slice (some ⟨c, off, none⟩) len cap, .int .i64 (at' : Int)] W1 fun x W' => x = .returned (.tuple #[tokV 0 S at' (e' : Int), .bool false, .bool true]) ∧ Below W1.heap.size W1 W') := by rw [← hSx]; exact unhide HN0
      have HSX := hide hSx
      clear HN0 hSx
      go_enter Tryd.func32, Tryd.ntmps32
      go_wp2_with (first | (go_at_call 40; refine (rLetter_any _ _).mono ?_; rintro x w' ⟨rfl, hw⟩; subst w') | (go_at_call 41; refine (rDigit_any _ _).mono ?_; rintro x w' ⟨rfl, hw⟩; subst w') | (go_at_call 45; refine (unhide HN).mono ?_; rintro x W2 ⟨rfl, hB2⟩; obtain ⟨W3, hW3⟩ : ∃ W3, W2.alloc (.cells #[Value.int .i64 0, .string S, .int .i64 (at' : Int), .int .i64 (e' : Int)] 33) = W3 := ⟨_, rfl⟩; have hz2 := hB2.size; have hz3 : W3.heap.size = W2.heap.size + 1 := (by rw [← hW3]; simp); have hB3 : Below W2.heap.size W2 W3 := (by rw [← hW3]; exact (Below.refl _ _).alloc (Nat.le_refl _) _); have hr5 : W3.heap[W.heap.size]? = some (.cells #[.int .i64 0, .string ⟨#[]⟩, .int .i64 0, .int .i64 0] 33) := (hB3.block W.heap.size (by omega)).trans ((hB2.block W.heap.size (by omega)).trans hr1); obtain ⟨d0, d1, d2, d3⟩ := tok_cells hr5; have d4 := Lib.frozen_of_heap hr5; have d5 : W3.shape? W.heap.size = some (33, 4) := (by simp [World.shape?, hr5]); have ht3 : W3.heap[W2.heap.size]? = some (.cells #[Value.int .i64 0, .string S, .int .i64 (at' : Int), .int .i64 (e' : Int)] 33) := (by rw [← hW3]; exact World.alloc_heap_new _ _); obtain ⟨t0, t1, t2, t3⟩ := tok_cells ht3; have t4 := Lib.frozen_of_heap ht3; have t5 : W3.shape? W2.heap.size = some (33, 4) := (by simp [World.shape?, ht3]); obtain ⟨W4, hW4⟩ : ∃ W4, W3.setCell ⟨W2.heap.size, 0, none⟩ (.int .i64 5) = W4 := ⟨_, rfl⟩; have hr4 : W4.heap[W.heap.size]? = some (.cells #[.int .i64 0, .string ⟨#[]⟩, .int .i64 0, .int .i64 0] 33) := (by rw [← hW4]; exact (Below.heap_setCell _ ⟨W2.heap.size, 0, none⟩ _ _ (by show W.heap.size ≠ W2.heap.size; omega)).trans hr5); have ht4 : W4.heap[W2.heap.size]? = some (.cells #[.int .i64 5, .string S, .int .i64 (at' : Int), .int .i64 (e' : Int)] 33) := (by rw [← hW4]; exact put0_heap ht3 _); have hBW4 : Below W2.heap.size W3 W4 := (by rw [← hW4]; exact (Below.refl _ _).setCell (p := ⟨W2.heap.size, 0, none⟩) (Nat.le_refl _) _); have hzW4 := hBW4.size; obtain ⟨d0, d1, d2, d3⟩ := tok_cells hr4; have d4 := Lib.frozen_of_heap hr4; have d5 : W4.shape? W.heap.size = some (33, 4) := (by simp [World.shape?, hr4]); obtain ⟨t0, t1, t2, t3⟩ := tok_cells ht4; have t4 := Lib.frozen_of_heap ht4; have t5 : W4.shape? W2.heap.size = some (33, 4) := (by simp [World.shape?, ht4])))
      have hB6 := put4_below (W := W4) (Nat.le_refl W.heap.size) (.int .i64 5) (.string S) ((.int .i64 (at' : Int))) ((.int .i64 (e' : Int)))
      have hr6 := put4_heap hr4 (.int .i64 5) (.string S) ((.int .i64 (at' : Int))) ((.int .i64 (e' : Int)))
      obtain ⟨W6, hW6⟩ : ∃ W6, ((((W4.setCell ⟨W.heap.size, 0, none⟩ (.int .i64 5)).setCell ⟨W.heap.size, 1, none⟩ (.string S)).setCell ⟨W.heap.size, 2, none⟩ ((.int .i64 (at' : Int)))).setCell ⟨W.heap.size, 3, none⟩ ((.int .i64 (e' : Int)))) = W6 := ⟨_, rfl⟩
      rw [hW6] at hB6 hr6 ⊢
      clear hW6
      obtain ⟨e0, e1, e2, e3⟩ := tok_cells hr6
      have hBF : Below W.heap.size W W6 := ((((hB1.trans (hB2.mono hB1.size)).trans (hB3.mono (by omega))).trans (hBW4.mono (by omega)))).trans hB6
      try rw [Exit.noGoto_ret]
      refine bodyPost_ret (v := .tuple #[.agg #[.int .i64 5, .string S, (.int .i64 (at' : Int)), (.int .i64 (e' : Int))], .slice a2 bs.length cap2, .bool true]) ?_ rfl ⟨⟨_, by rw [show strOfNums t = S from unhide HSX]; rfl, (unhide HO).below hBF⟩, hBF⟩
      clear d0 d1 d2 d3 d4 d5 t0 t1 t2 t3 t4 t5
      simp [results, Tryd.results32, go_sem, e0, e1, e2, e3]
    | true =>
      obtain ⟨i0, hinf, hz0, hzz1, hz2'⟩ := info_parts infoBool
      rcases unhide HO with ⟨hvn, hbs⟩ | ⟨hb, ho, hcap, hvs, hh1, hh2, hh3, hh4⟩
      · injection hvn with ha2 hl2 hc2
        subst ha2 hc2 hbs
        have HN : Hid (Calls Tryd.prog 45 #[.slice (some ⟨c, off, none⟩) len cap, .int .i64 (at' : Int)] W1 fun x W' => x = .returned (.tuple #[tokV 0 S at' (e' : Int), .bool true, .bool true]) ∧ Below W1.heap.size W1 W') := by rw [← hSx]; exact unhide HN0
        have HSX := hide hSx
        clear HN0 hSx
        go_enter Tryd.func32, Tryd.ntmps32
        go_wp2_with (first | (go_at_call 40; refine (rLetter_any _ _).mono ?_; rintro x w' ⟨rfl, hw⟩; subst w') | (go_at_call 41; refine (rDigit_any _ _).mono ?_; rintro x w' ⟨rfl, hw⟩; subst w') | (go_at_call 45; refine (unhide HN).mono ?_; rintro x W2 ⟨rfl, hB2⟩; obtain ⟨W3, hW3⟩ : ∃ W3, W2.alloc (.cells #[Value.int .i64 0, .string S, .int .i64 (at' : Int), .int .i64 (e' : Int)] 33) = W3 := ⟨_, rfl⟩; have hz2 := hB2.size; have hz3 : W3.heap.size = W2.heap.size + 1 := (by rw [← hW3]; simp); have hB3 : Below W2.heap.size W2 W3 := (by rw [← hW3]; exact (Below.refl _ _).alloc (Nat.le_refl _) _); have hr5 : W3.heap[W.heap.size]? = some (.cells #[.int .i64 0, .string ⟨#[]⟩, .int .i64 0, .int .i64 0] 33) := (hB3.block W.heap.size (by omega)).trans ((hB2.block W.heap.size (by omega)).trans hr1); obtain ⟨d0, d1, d2, d3⟩ := tok_cells hr5; have d4 := Lib.frozen_of_heap hr5; have d5 : W3.shape? W.heap.size = some (33, 4) := (by simp [World.shape?, hr5]); have ht3 : W3.heap[W2.heap.size]? = some (.cells #[Value.int .i64 0, .string S, .int .i64 (at' : Int), .int .i64 (e' : Int)] 33) := (by rw [← hW3]; exact World.alloc_heap_new _ _); obtain ⟨t0, t1, t2, t3⟩ := tok_cells ht3; have t4 := Lib.frozen_of_heap ht3; have t5 : W3.shape? W2.heap.size = some (33, 4) := (by simp [World.shape?, ht3]); obtain ⟨W4, hW4⟩ : ∃ W4, W3.setCell ⟨W2.heap.size, 0, none⟩ (.int .i64 5) = W4 := ⟨_, rfl⟩; have hr4 : W4.heap[W.heap.size]? = some (.cells #[.int .i64 0, .string ⟨#[]⟩, .int .i64 0, .int .i64 0] 33) := (by rw [← hW4]; exact (Below.heap_setCell _ ⟨W2.heap.size, 0, none⟩ _ _ (by show W.heap.size ≠ W2.heap.size; omega)).trans hr5); have ht4 : W4.heap[W2.heap.size]? = some (.cells #[.int .i64 5, .string S, .int .i64 (at' : Int), .int .i64 (e' : Int)] 33) := (by rw [← hW4]; exact put0_heap ht3 _); have hBW4 : Below W2.heap.size W3 W4 := (by rw [← hW4]; exact (Below.refl _ _).setCell (p := ⟨W2.heap.size, 0, none⟩) (Nat.le_refl _) _); have hzW4 := hBW4.size; obtain ⟨d0, d1, d2, d3⟩ := tok_cells hr4; have d4 := Lib.frozen_of_heap hr4; have d5 : W4.shape? W.heap.size = some (33, 4) := (by simp [World.shape?, hr4]); obtain ⟨t0, t1, t2, t3⟩ := tok_cells ht4; have t4 := Lib.frozen_of_heap ht4; have t5 : W4.shape? W2.heap.size = some (33, 4) := (by simp [World.shape?, ht4]); obtain ⟨W5, hW5⟩ : ∃ W5, W4.setCell ⟨W2.heap.size, 0, none⟩ (.int .i64 6) = W5 := ⟨_, rfl⟩; have hr55 : W5.heap[W.heap.size]? = some (.cells #[.int .i64 0, .string ⟨#[]⟩, .int .i64 0, .int .i64 0] 33) := (by rw [← hW5]; exact (Below.heap_setCell _ ⟨W2.heap.size, 0, none⟩ _ _ (by show W.heap.size ≠ W2.heap.size; omega)).trans hr4); have ht5 : W5.heap[W2.heap.size]? = some (.cells #[.int .i64 6, .string S, .int .i64 (at' : Int), .int .i64 (e' : Int)] 33) := (by rw [← hW5]; exact put0_heap ht4 _); have hBW5 : Below W2.heap.size W4 W5 := (by rw [← hW5]; exact (Below.refl _ _).setCell (p := ⟨W2.heap.size, 0, none⟩) (Nat.le_refl _) _); have hzW5 := hBW5.size; obtain ⟨d0, d1, d2, d3⟩ := tok_cells hr55; have d4 := Lib.frozen_of_heap hr55; have d5 : W5.shape? W.heap.size = some (33, 4) := (by simp [World.shape?, hr55]); obtain ⟨t0, t1, t2, t3⟩ := tok_cells ht5; have t4 := Lib.frozen_of_heap ht5; have t5 : W5.shape? W2.heap.size = some (33, 4) := (by simp [World.shape?, ht5])) | (at_builtin; refine wpList_append_own_none rfl _ _ 47 rfl W5.heap.size 4 i0 1 Tryd.underlying47 hinf _ _ _ rfl (empty_ownsB W5) rfl ?_) | (at_builtin; refine wpList_append_own _ rfl _ _ 47 rfl W5.heap.size 4 i0 (.bool false) 1 1 Tryd.underlying47 hinf hz0 hzz1 hz2' rfl (by decide) _ _ _ rfl (World.ownsRow.alloc (empty_ownsB W5) _) ⟨W5.heap.size + 1, 0, none⟩ 1 1 [.bool true] rfl rfl ?c1 ?c2 ?c3 ?c4 ?c5 ?_))
        case c1 =>
          intro j u hj
          match j, hj with
          | 0, hj => simp at hj; subst hj; simp [Addr.add]
          | (j + 1), hj => simp at hj
        case c2 => intro u hu; simp at hu; subst hu; rfl
        case c3 => unfold maxLen; omega
        case c4 => omega
        case c5 => simp; omega
        intro v7 W7 hown7 hg7 _
        have hz7 : W5.heap.size + 1 + 1 ≤ W7.heap.size := by have := hg7.size; simp at this; omega
        have hk7 : ∀ k, k < W5.heap.size → k ≠ W5.heap.size → W7.heap[k]? = W5.heap[k]? := fun k hk _ => (hg7.block k (by simp; omega) (fun e => by simp [Value.ownBlock] at e; omega)).trans ((Below.heap_alloc _ _ k (by simp; omega)).trans (Below.heap_alloc _ _ k hk))
        have hr7 : W7.heap[W.heap.size]? = some (.cells #[.int .i64 0, .string ⟨#[]⟩, .int .i64 0, .int .i64 0] 33) := (hk7 W.heap.size (by omega) (by omega)).trans hr55
        have ht7 : W7.heap[W2.heap.size]? = some (.cells #[.int .i64 6, .string S, .int .i64 (at' : Int), .int .i64 (e' : Int)] 33) := (hk7 W2.heap.size (by omega) (by omega)).trans ht5
        obtain ⟨g7, c7, rfl⟩ := ownsRow_succ hown7
        have hg7b : W5.heap.size ≤ g7 := (World.ownsRow.lt hown7 g7 rfl).1
        have HBW7 : Hid (Below W.heap.size W W7) := ((((hB1.trans (hB2.mono hB1.size)).trans (hB3.mono (by omega))).trans (hBW4.mono (by omega))).trans (hBW5.mono (by omega))).trans (((((Below.refl _ W5).alloc (Nat.le_refl _) _).alloc (by simp) _).grown hg7 (by simp; omega) (fun k e => by simp [Value.ownBlock] at e; omega)).mono (by omega))
        have HOWN := hide hown7
        obtain ⟨d0, d1, d2, d3⟩ := tok_cells hr7
        have d4 := Lib.frozen_of_heap hr7
        have d5 : W7.shape? W.heap.size = some (33, 4) := (by simp [World.shape?, hr7])
        obtain ⟨t0, t1, t2, t3⟩ := tok_cells ht7
        have t4 := Lib.frozen_of_heap ht7
        have t5 : W7.shape? W2.heap.size = some (33, 4) := (by simp [World.shape?, ht7])
        clear hown7 hg7 hk7
        go_wp2
        have hK6 : (((((W7.setCell ⟨W.heap.size, 0, none⟩ (.int .i64 6)).setCell ⟨W.heap.size, 1, none⟩ (.string S)).setCell ⟨W.heap.size, 2, none⟩ (.int .i64 (at' : Int))).setCell ⟨W.heap.size, 3, none⟩ (.int .i64 (e' : Int)))).heap[g7]? = W7.heap[g7]? := put4_keep (by omega) _ _ _ _
        have hB6 := put4_below (W := W7) (Nat.le_refl W.heap.size) (.int .i64 6) (.string S) ((.int .i64 (at' : Int))) ((.int .i64 (e' : Int)))
        have hr6 := put4_heap hr7 (.int .i64 6) (.string S) ((.int .i64 (at' : Int))) ((.int .i64 (e' : Int)))
        obtain ⟨W6, hW6⟩ : ∃ W6, ((((W7.setCell ⟨W.heap.size, 0, none⟩ (.int .i64 6)).setCell ⟨W.heap.size, 1, none⟩ (.string S)).setCell ⟨W.heap.size, 2, none⟩ ((.int .i64 (at' : Int)))).setCell ⟨W.heap.size, 3, none⟩ ((.int .i64 (e' : Int)))) = W6 := ⟨_, rfl⟩
        rw [hW6] at hB6 hr6 hK6 ⊢
        clear hW6
        obtain ⟨e0, e1, e2, e3⟩ := tok_cells hr6
        have hBF : Below W.heap.size W W6 := (unhide HBW7).trans hB6
        try rw [Exit.noGoto_ret]
        refine bodyPost_ret (v := .tuple #[.agg #[.int .i64 6, .string S, (.int .i64 (at' : Int)), (.int .i64 (e' : Int))], .slice (some ⟨g7, 0, none⟩) (0 + 1) c7, .bool true]) ?_ rfl ⟨⟨_, by rw [show strOfNums t = S from unhide HSX]; rfl, own_hol (B := W5.heap.size) (by rw [List.length_append, List.map_append]; exact row_keep (unhide HOWN) (fun k hk => by obtain rfl : g7 = k := (by injection hk); exact hK6))⟩, hBF⟩
        clear d0 d1 d2 d3 d4 d5 t0 t1 t2 t3 t4 t5
        simp [results, Tryd.results32, go_sem, e0, e1, e2, e3]
      · injection hvs with ha2 hl2 hc2
        subst ha2 hc2
        have HH3 := hide hh3
        clear hh3
        have HN : Hid (Calls Tryd.prog 45 #[.slice (some ⟨c, off, none⟩) len cap, .int .i64 (at' : Int)] W1 fun x W' => x = .returned (.tuple #[tokV 0 S at' (e' : Int), .bool true, .bool true]) ∧ Below W1.heap.size W1 W') := by rw [← hSx]; exact unhide HN0
        have HSX := hide hSx
        clear HN0 hSx
        go_enter Tryd.func32, Tryd.ntmps32
        go_wp2_with (first | (go_at_call 40; refine (rLetter_any _ _).mono ?_; rintro x w' ⟨rfl, hw⟩; subst w') | (go_at_call 41; refine (rDigit_any _ _).mono ?_; rintro x w' ⟨rfl, hw⟩; subst w') | (go_at_call 45; refine (unhide HN).mono ?_; rintro x W2 ⟨rfl, hB2⟩; obtain ⟨W3, hW3⟩ : ∃ W3, W2.alloc (.cells #[Value.int .i64 0, .string S, .int .i64 (at' : Int), .int .i64 (e' : Int)] 33) = W3 := ⟨_, rfl⟩; have hz2 := hB2.size; have hz3 : W3.heap.size = W2.heap.size + 1 := (by rw [← hW3]; simp); have hB3 : Below W2.heap.size W2 W3 := (by rw [← hW3]; exact (Below.refl _ _).alloc (Nat.le_refl _) _); have hr5 : W3.heap[W.heap.size]? = some (.cells #[.int .i64 0, .string ⟨#[]⟩, .int .i64 0, .int .i64 0] 33) := (hB3.block W.heap.size (by omega)).trans ((hB2.block W.heap.size (by omega)).trans hr1); obtain ⟨d0, d1, d2, d3⟩ := tok_cells hr5; have d4 := Lib.frozen_of_heap hr5; have d5 : W3.shape? W.heap.size = some (33, 4) := (by simp [World.shape?, hr5]); have ht3 : W3.heap[W2.heap.size]? = some (.cells #[Value.int .i64 0, .string S, .int .i64 (at' : Int), .int .i64 (e' : Int)] 33) := (by rw [← hW3]; exact World.alloc_heap_new _ _); obtain ⟨t0, t1, t2, t3⟩ := tok_cells ht3; have t4 := Lib.frozen_of_heap ht3; have t5 : W3.shape? W2.heap.size = some (33, 4) := (by simp [World.shape?, ht3]); obtain ⟨W4, hW4⟩ : ∃ W4, W3.setCell ⟨W2.heap.size, 0, none⟩ (.int .i64 5) = W4 := ⟨_, rfl⟩; have hr4 : W4.heap[W.heap.size]? = some (.cells #[.int .i64 0, .string ⟨#[]⟩, .int .i64 0, .int .i64 0] 33) := (by rw [← hW4]; exact (Below.heap_setCell _ ⟨W2.heap.size, 0, none⟩ _ _ (by show W.heap.size ≠ W2.heap.size; omega)).trans hr5); have ht4 : W4.heap[W2.heap.size]? = some (.cells #[.int .i64 5, .string S, .int .i64 (at' : Int), .int .i64 (e' : Int)] 33) := (by rw [← hW4]; exact put0_heap ht3 _); have hBW4 : Below W2.heap.size W3 W4 := (by rw [← hW4]; exact (Below.refl _ _).setCell (p := ⟨W2.heap.size, 0, none⟩) (Nat.le_refl _) _); have hzW4 := hBW4.size; obtain ⟨d0, d1, d2, d3⟩ := tok_cells hr4; have d4 := Lib.frozen_of_heap hr4; have d5 : W4.shape? W.heap.size = some (33, 4) := (by simp [World.shape?, hr4]); obtain ⟨t0, t1, t2, t3⟩ := tok_cells ht4; have t4 := Lib.frozen_of_heap ht4; have t5 : W4.shape? W2.heap.size = some (33, 4) := (by simp [World.shape?, ht4]); obtain ⟨W5, hW5⟩ : ∃ W5, W4.setCell ⟨W2.heap.size, 0, none⟩ (.int .i64 6) = W5 := ⟨_, rfl⟩; have hr55 : W5.heap[W.heap.size]? = some (.cells #[.int .i64 0, .string ⟨#[]⟩, .int .i64 0, .int .i64 0] 33) := (by rw [← hW5]; exact (Below.heap_setCell _ ⟨W2.heap.size, 0, none⟩ _ _ (by show W.heap.size ≠ W2.heap.size; omega)).trans hr4); have ht5 : W5.heap[W2.heap.size]? = some (.cells #[.int .i64 6, .string S, .int .i64 (at' : Int), .int .i64 (e' : Int)] 33) := (by rw [← hW5]; exact put0_heap ht4 _); have hBW5 : Below W2.heap.size W4 W5 := (by rw [← hW5]; exact (Below.refl _ _).setCell (p := ⟨W2.heap.size, 0, none⟩) (Nat.le_refl _) _); have hzW5 := hBW5.size; obtain ⟨d0, d1, d2, d3⟩ := tok_cells hr55; have d4 := Lib.frozen_of_heap hr55; have d5 : W5.shape? W.heap.size = some (33, 4) := (by simp [World.shape?, hr55]); obtain ⟨t0, t1, t2, t3⟩ := tok_cells ht5; have t4 := Lib.frozen_of_heap ht5; have t5 : W5.shape? W2.heap.size = some (33, 4) := (by simp [World.shape?, ht5])) | (at_builtin; refine wpList_append_own _ rfl _ _ 47 rfl W5.heap.size 4 i0 (.bool false) 1 1 Tryd.underlying47 hinf hz0 hzz1 hz2' rfl (by decide) _ _ _ rfl (empty_ownsB W5) ⟨hb, ho, none⟩ bs.length cap2 (bs.map Value.bool) rfl (by simp) ?d1 ?d2 ?d3 ?d4 ?d5 ?_))
        case d1 =>
          intro j u hj
          have hj' : j < bs.length := by have := (List.getElem?_eq_some_iff.1 hj).1; simpa using this
          have hcl := unhide HH3 j hj'
          have hbl2 := World.block_lt_of_cell? W _ hcl
          simp only [List.getElem?_map, List.getElem?_eq_getElem hj', Option.map_some, Option.some.injEq] at hj
          rw [Addr.add_lit, World.cell?_alloc_lt _ _ _ (by show hb < W5.heap.size; have : hb < W.heap.size := hbl2; omega), World.cell?_of_block (w := W) (((((hB1.trans (hB2.mono hB1.size)).trans (hB3.mono (by omega))).trans (hBW4.mono (by omega))).trans (hBW5.mono (by omega))).block hb hbl2), hcl, List.getD_eq_getElem?_getD, List.getElem?_eq_getElem hj', ← hj]
          rfl
        case d2 => intro u hu; obtain ⟨x, _, rfl⟩ := List.mem_map.1 hu; rfl
        case d3 => unfold maxLen; omega
        case d4 => omega
        case d5 => simp
        intro v8 W8 hown8 hg8 _
        have hz8 : W5.heap.size + 1 ≤ W8.heap.size := by have := hg8.size; simp at this; omega
        have hB8 : Below W5.heap.size W5 W8 := ((Below.refl _ W5).alloc (Nat.le_refl _) _).grown hg8 (by simp) (fun k e => by simp [Value.ownBlock] at e; omega)
        have HOWN8 := hide hown8
        have HB8 := hide hB8
        clear hown8 hg8 hB8
        go_wp2_with (at_builtin; refine wpList_append_own _ rfl _ _ 47 rfl W5.heap.size 4 i0 (.bool false) 1 1 Tryd.underlying47 hinf hz0 hzz1 hz2' rfl (by decide) _ _ _ rfl (World.ownsRow.alloc (unhide HOWN8) _) ⟨W8.heap.size, 0, none⟩ 1 1 [.bool true] rfl rfl ?c1 ?c2 ?c3 ?c4 ?c5 ?_)
        case c1 =>
          intro j u hj
          match j, hj with
          | 0, hj => simp at hj; subst hj; simp [Addr.add]
          | (j + 1), hj => simp at hj
        case c2 => intro u hu; simp at hu; subst hu; rfl
        case c3 => unfold maxLen; omega
        case c4 => omega
        case c5 => simp; omega
        intro v7 W7 hown7 hg7 _
        have hz7 : W8.heap.size + 1 ≤ W7.heap.size := by have := hg7.size; simp at this; omega
        have hB7 : Below W5.heap.size W5 W7 := ((unhide HB8).alloc (by omega) _).grown hg7 (by simp; omega) (fun k hk => (World.ownsRow.lt (unhide HOWN8) k hk).1)
        have hk7 : ∀ k, k < W5.heap.size → k ≠ W5.heap.size → W7.heap[k]? = W5.heap[k]? := fun k hk _ => hB7.block k hk
        have hr7 : W7.heap[W.heap.size]? = some (.cells #[.int .i64 0, .string ⟨#[]⟩, .int .i64 0, .int .i64 0] 33) := (hk7 W.heap.size (by omega) (by omega)).trans hr55
        have ht7 : W7.heap[W2.heap.size]? = some (.cells #[.int .i64 6, .string S, .int .i64 (at' : Int), .int .i64 (e' : Int)] 33) := (hk7 W2.heap.size (by omega) (by omega)).trans ht5
        obtain ⟨g7, c7, rfl⟩ := ownsRow_succ hown7
        have hg7b : W5.heap.size ≤ g7 := (World.ownsRow.lt hown7 g7 rfl).1
        have HBW7 : Hid (Below W.heap.size W W7) := ((((hB1.trans (hB2.mono hB1.size)).trans (hB3.mono (by omega))).trans (hBW4.mono (by omega))).trans (hBW5.mono (by omega))).trans (hB7.mono (by omega))
        have HOWN := hide hown7
        obtain ⟨d0, d1, d2, d3⟩ := tok_cells hr7
        have d4 := Lib.frozen_of_heap hr7
        have d5 : W7.shape? W.heap.size = some (33, 4) := (by simp [World.shape?, hr7])
        obtain ⟨t0, t1, t2, t3⟩ := tok_cells ht7
        have t4 := Lib.frozen_of_heap ht7
        have t5 : W7.shape? W2.heap.size = some (33, 4) := (by simp [World.shape?, ht7])
        clear hown7 hg7 hk7
        go_wp2
        have hK6 : (((((W7.setCell ⟨W.heap.size, 0, none⟩ (.int .i64 6)).setCell ⟨W.heap.size, 1, none⟩ (.string S)).setCell ⟨W.heap.size, 2, none⟩ (.int .i64 (at' : Int))).setCell ⟨W.heap.size, 3, none⟩ (.int .i64 (e' : Int)))).heap[g7]? = W7.heap[g7]? := put4_keep (by omega) _ _ _ _
        have hB6 := put4_below (W := W7) (Nat.le_refl W.heap.size) (.int .i64 6) (.string S) ((.int .i64 (at' : Int))) ((.int .i64 (e' : Int)))
        have hr6 := put4_heap hr7 (.int .i64 6) (.string S) ((.int .i64 (at' : Int))) ((.int .i64 (e' : Int)))
        obtain ⟨W6, hW6⟩ : ∃ W6, ((((W7.setCell ⟨W.heap.size, 0, none⟩ (.int .i64 6)).setCell ⟨W.heap.size, 1, none⟩ (.string S)).setCell ⟨W.heap.size, 2, none⟩ ((.int .i64 (at' : Int)))).setCell ⟨W.heap.size, 3, none⟩ ((.int .i64 (e' : Int)))) = W6 := ⟨_, rfl⟩
        rw [hW6] at hB6 hr6 hK6 ⊢
        clear hW6
        obtain ⟨e0, e1, e2, e3⟩ := tok_cells hr6
        have hBF : Below W.heap.size W W6 := (unhide HBW7).trans hB6
        try rw [Exit.noGoto_ret]
        refine bodyPost_ret (v := .tuple #[.agg #[.int .i64 6, .string S, (.int .i64 (at' : Int)), (.int .i64 (e' : Int))], .slice (some ⟨g7, 0, none⟩) (bs.length + 1) c7, .bool true]) ?_ rfl ⟨⟨_, by rw [show strOfNums t = S from unhide HSX]; rfl, own_hol (B := W5.heap.size) (by rw [List.length_append, List.map_append]; exact row_keep (unhide HOWN) (fun k hk => by obtain rfl : g7 = k := (by injection hk); exact hK6))⟩, hBF⟩
        clear d0 d1 d2 d3 d4 d5 t0 t1 t2 t3 t4 t5
        simp [results, Tryd.results32, go_sem, e0, e1, e2, e3]
set_option maxRecDepth 100000 in
set_option maxHeartbeats 4000000 in
theorem rnext_hol (c : Nat) (a : Option Addr) (len cap : Nat) (g : Nat → Int) (hg : ∀ j, 0 ≤ g j ∧ g j ≤ 255) (at' : Nat) (hv : Value) (bs : List Bool) (W : World) (hS : Sl W c (.slice a len cap) len g) (hc : c < W.heap.size) (hO : HOL W hv bs) (hat : at' < len) (hlen : len ≤ 1099511627776) (hbl : bs.length ≤ 1099511627776) (q1 : g at' = 125) (hlb : lastB bs = true) :
    Calls Tryd.prog 32 #[.slice a len cap, .int .i64 (at' : Int), hv] W (RNV W at' (pieQ 8 7 bs.dropLast (pieI g len (at' + 1)))) := by
  have HO := hide hO
  obtain ⟨a2, cap2, rfl, ho1, ho2, ho3⟩ := hO.opn
  clear hO
  unfold maxLen at ho2
  obtain ⟨W1, hW1⟩ : ∃ W1, W.alloc (.cells #[.int .i64 0, .string ⟨#[]⟩, .int .i64 0, .int .i64 0] 33) = W1 := ⟨_, rfl⟩
  have hB1 : Below W.heap.size W W1 := by rw [← hW1]; exact (Below.refl _ W).alloc (Nat.le_refl _) _
  have hz1 : W1.heap.size = W.heap.size + 1 := by rw [← hW1]; simp
  have hr1 : W1.heap[W.heap.size]? = some (.cells #[.int .i64 0, .string ⟨#[]⟩, .int .i64 0, .int .i64 0] 33) := by rw [← hW1]; exact World.alloc_heap_new W _
  have hS1 := hS.keep (B := W1) (fun k e => by subst e; exact hB1.block k hc)
  obtain ⟨off, rfl, h1, h2, hcs⟩ := unhide (sl_cells hS1) (by omega)
  unfold maxLen at h2
  have hck := hcs at' hat
  have n1 : (at' : Int) < len := by omega
  have HCS := hide hcs
  have HS1 := hide hS1
  clear hS hS1 hcs
  have HN0 := hide (rpiece_any c _ len cap g hg at' W1 (unhide HS1) (by omega) hat hlen)
  obtain ⟨q, hq⟩ : ∃ q, pieI g len (at' + 1) = q := ⟨_, rfl⟩
  rw [hq] at HN0 ⊢
  rw [q1] at hck
  clear hq q1
  have hL : isL 125 = false := by decide
  have hD : isD 125 = false := by decide
  have hsplit := lastB_split hlb
  have hdrop : bs.dropLast.length + 1 = bs.length := by
    have := congrArg List.length hsplit
    simp only [List.length_append, List.length_cons, List.length_nil] at this
    omega
  obtain ⟨m, hm⟩ : ∃ m, bs.length = m + 1 := ⟨bs.length - 1, by omega⟩
  rcases unhide HO with ⟨hvn, hbs⟩ | ⟨hb, ho, hcap, hvs, hh1, hh2, hh3, hh4⟩
  · exfalso
    rw [hbs] at hm
    simp at hm
  injection hvs with ha2 hl2 hc2
  subst ha2 hc2
  have hcl : W1.cell? ⟨hb, ho + m, none⟩ = some (.bool true) := by
    have h0 := hh3 m (by omega)
    rw [World.cell?_of_block (w := W) (hB1.block hb (World.block_lt_of_cell? W _ h0)), h0]
    simp only [lastB, Bool.and_eq_true] at hlb
    have := hlb.2
    rw [hm] at this
    rw [show m + 1 - 1 = m from rfl] at this
    rw [this]
  have HH3 : Hid (∀ j, j < bs.dropLast.length → W.cell? ⟨hb, ho + j, none⟩ = some (.bool (bs.dropLast.getD j false))) := fun j hj => by
    rw [hh3 j (by omega)]
    congr 2
    rw [List.getD_eq_getElem?_getD, List.getD_eq_getElem?_getD, List.getElem?_dropLast, if_pos (by omega)]
  have HDL : Hid (bs.dropLast.length = m) := by show _ = _; omega
  have HSP := hide hsplit
  have hpd : decide ((0 : Int) < ((m + 1 : Nat) : Int)) = true := decide_eq_true (by omega)
  have hmm : m + 1 ≤ cap2 := by omega
  have HKEEP : Hid (∀ W', Below W.heap.size W W' → HOL W' (.slice (some ⟨hb, ho, none⟩) m cap2) bs.dropLast) := fun W' hB => by
    have : HOL W (.slice (some ⟨hb, ho, none⟩) m cap2) bs.dropLast := .inr ⟨hb, ho, cap2, by rw [unhide HDL], by rw [unhide HDL]; omega, hh2, unhide HH3, hh4⟩
    exact this.below hB
  clear hh3 hlb hsplit hdrop hl2 ho1 hh1 ho3
  rw [hm] at HO ⊢
  clear hm
  cases q with
  | none =>
    have HN : Hid (Calls Tryd.prog 45 #[.slice (some ⟨c, off, none⟩) len cap, .int .i64 (at' : Int)] W1 fun x W' => (∃ k S y z, x = .returned (.tuple #[tokV k S y z, .bool false, .bool false])) ∧ Below W1.heap.size W1 W') := unhide HN0
    clear HN0
    go_enter Tryd.func32, Tryd.ntmps32
    go_wp2_with (first | (go_at_call 40; refine (rLetter_any _ _).mono ?_; rintro x w' ⟨rfl, hw⟩; subst w') | (go_at_call 41; refine (rDigit_any _ _).mono ?_; rintro x w' ⟨rfl, hw⟩; subst w') | (go_at_call 45; refine (unhide HN).mono ?_; rintro x W2 ⟨⟨k, S, y, z, rfl⟩, hB2⟩; obtain ⟨W3, hW3⟩ : ∃ W3, W2.alloc (.cells #[Value.int .i64 k, .string S, .int .i64 y, .int .i64 z] 33) = W3 := ⟨_, rfl⟩; have hz2 := hB2.size; have hz3 : W3.heap.size = W2.heap.size + 1 := (by rw [← hW3]; simp); have hB3 : Below W2.heap.size W2 W3 := (by rw [← hW3]; exact (Below.refl _ _).alloc (Nat.le_refl _) _); have hr5 : W3.heap[W.heap.size]? = some (.cells #[.int .i64 0, .string ⟨#[]⟩, .int .i64 0, .int .i64 0] 33) := (hB3.block W.heap.size (by omega)).trans ((hB2.block W.heap.size (by omega)).trans hr1); obtain ⟨d0, d1, d2, d3⟩ := tok_cells hr5; have d4 := Lib.frozen_of_heap hr5; have d5 : W3.shape? W.heap.size = some (33, 4) := (by simp [World.shape?, hr5]); have ht3 : W3.heap[W2.heap.size]? = some (.cells #[Value.int .i64 k, .string S, .int .i64 y, .int .i64 z] 33) := (by rw [← hW3]; exact World.alloc_heap_new _ _); obtain ⟨t0, t1, t2, t3⟩ := tok_cells ht3; have t4 := Lib.frozen_of_heap ht3; have t5 : W3.shape? W2.heap.size = some (33, 4) := (by simp [World.shape?, ht3]); obtain ⟨W4, hW4⟩ : ∃ W4, W3.setCell ⟨W2.heap.size, 0, none⟩ (.int .i64 7) = W4 := ⟨_, rfl⟩; have hr4 : W4.heap[W.heap.size]? = some (.cells #[.int .i64 0, .string ⟨#[]⟩, .int .i64 0, .int .i64 0] 33) := (by rw [← hW4]; exact (Below.heap_setCell _ ⟨W2.heap.size, 0, none⟩ _ _ (by show W.heap.size ≠ W2.heap.size; omega)).trans hr5); have ht4 : W4.heap[W2.heap.size]? = some (.cells #[.int .i64 7, .string S, .int .i64 y, .int .i64 z] 33) := (by rw [← hW4]; exact put0_heap ht3 _); have hBW4 : Below W2.heap.size W3 W4 := (by rw [← hW4]; exact (Below.refl _ _).setCell (p := ⟨W2.heap.size, 0, none⟩) (Nat.le_refl _) _); have hzW4 := hBW4.size; obtain ⟨d0, d1, d2, d3⟩ := tok_cells hr4; have d4 := Lib.frozen_of_heap hr4; have d5 : W4.shape? W.heap.size = some (33, 4) := (by simp [World.shape?, hr4]); obtain ⟨t0, t1, t2, t3⟩ := tok_cells ht4; have t4 := Lib.frozen_of_heap ht4; have t5 : W4.shape? W2.heap.size = some (33, 4) := (by simp [World.shape?, ht4]); obtain ⟨W5, hW5⟩ : ∃ W5, W4.setCell ⟨W2.heap.size, 0, none⟩ (.int .i64 8) = W5 := ⟨_, rfl⟩; have hr55 : W5.heap[W.heap.size]? = some (.cells #[.int .i64 0, .string ⟨#[]⟩, .int .i64 0, .int .i64 0] 33) := (by rw [← hW5]; exact (Below.heap_setCell _ ⟨W2.heap.size, 0, none⟩ _ _ (by show W.heap.size ≠ W2.heap.size; omega)).trans hr4); have ht5 : W5.heap[W2.heap.size]? = some (.cells #[.int .i64 8, .string S, .int .i64 y, .int .i64 z] 33) := (by rw [← hW5]; exact put0_heap ht4 _); have hBW5 : Below W2.heap.size W4 W5 := (by rw [← hW5]; exact (Below.refl _ _).setCell (p := ⟨W2.heap.size, 0, none⟩) (Nat.le_refl _) _); have hzW5 := hBW5.size; obtain ⟨d0, d1, d2, d3⟩ := tok_cells hr55; have d4 := Lib.frozen_of_heap hr55; have d5 : W5.shape? W.heap.size = some (33, 4) := (by simp [World.shape?, hr55]); obtain ⟨t0, t1, t2, t3⟩ := tok_cells ht5; have t4 := Lib.frozen_of_heap ht5; have t5 : W5.shape? W2.heap.size = some (33, 4) := (by simp [World.shape?, ht5])))
    have hB6 := put4_below (W := W5) (Nat.le_refl W.heap.size) (.int .i64 8) (.string S) ((.int .i64 y)) ((.int .i64 z))
    have hr6 := put4_heap hr55 (.int .i64 8) (.string S) ((.int .i64 y)) ((.int .i64 z))
    obtain ⟨W6, hW6⟩ : ∃ W6, ((((W5.setCell ⟨W.heap.size, 0, none⟩ (.int .i64 8)).setCell ⟨W.heap.size, 1, none⟩ (.string S)).setCell ⟨W.heap.size, 2, none⟩ ((.int .i64 y))).setCell ⟨W.heap.size, 3, none⟩ ((.int .i64 z))) = W6 := ⟨_, rfl⟩
    rw [hW6] at hB6 hr6 ⊢
    clear hW6
    obtain ⟨e0, e1, e2, e3⟩ := tok_cells hr6
    have hBF : Below W.heap.size W W6 := ((((hB1.trans (hB2.mono hB1.size)).trans (hB3.mono (by omega))).trans (hBW4.mono (by omega))).trans (hBW5.mono (by omega))).trans hB6
    try rw [Exit.noGoto_ret]
    refine bodyPost_ret (v := .tuple #[.agg #[.int .i64 8, .string S, (.int .i64 y), (.int .i64 z)], .slice (some ⟨hb, ho, none⟩) m cap2, .bool false]) ?_ rfl ⟨⟨_, _, _, _, _, rfl⟩, hBF⟩
    clear d0 d1 d2 d3 d4 d5 t0 t1 t2 t3 t4 t5
    simp [results, Tryd.results32, go_sem, e0, e1, e2, e3]
  | some x =>
    obtain ⟨t, b, e'⟩ := x
    obtain ⟨S, hSx⟩ : ∃ S, strOfNums t = S := ⟨_, rfl⟩
    cases b with
    | false =>
      have HN : Hid (Calls Tryd.prog 45 #[.slice (some ⟨c, off, none⟩) len cap, .int .i64 (at' : Int)] W1 fun x W' => x = .returned (.tuple #[tokV 0 S at' (e' : Int), .bool false, .bool true]) ∧ Below W1.heap.size W1 W') := by rw [← hSx]; exact unhide HN0
      have HSX := hide hSx
      clear HN0 hSx
      go_enter Tryd.func32, Tryd.ntmps32
      go_wp2_with (first | (go_at_call 40; refine (rLetter_any _ _).mono ?_; rintro x w' ⟨rfl, hw⟩; subst w') | (go_at_call 41; refine (rDigit_any _ _).mono ?_; rintro x w' ⟨rfl, hw⟩; subst w') | (go_at_call 45; refine (unhide HN).mono ?_; rintro x W2 ⟨rfl, hB2⟩; obtain ⟨W3, hW3⟩ : ∃ W3, W2.alloc (.cells #[Value.int .i64 0, .string S, .int .i64 (at' : Int), .int .i64 (e' : Int)] 33) = W3 := ⟨_, rfl⟩; have hz2 := hB2.size; have hz3 : W3.heap.size = W2.heap.size + 1 := (by rw [← hW3]; simp); have hB3 : Below W2.heap.size W2 W3 := (by rw [← hW3]; exact (Below.refl _ _).alloc (Nat.le_refl _) _); have hr5 : W3.heap[W.heap.size]? = some (.cells #[.int .i64 0, .string ⟨#[]⟩, .int .i64 0, .int .i64 0] 33) := (hB3.block W.heap.size (by omega)).trans ((hB2.block W.heap.size (by omega)).trans hr1); obtain ⟨d0, d1, d2, d3⟩ := tok_cells hr5; have d4 := Lib.frozen_of_heap hr5; have d5 : W3.shape? W.heap.size = some (33, 4) := (by simp [World.shape?, hr5]); have ht3 : W3.heap[W2.heap.size]? = some (.cells #[Value.int .i64 0, .string S, .int .i64 (at' : Int), .int .i64 (e' : Int)] 33) := (by rw [← hW3]; exact World.alloc_heap_new _ _); obtain ⟨t0, t1, t2, t3⟩ := tok_cells ht3; have t4 := Lib.frozen_of_heap ht3; have t5 : W3.shape? W2.heap.size = some (33, 4) := (by simp [World.shape?, ht3]); obtain ⟨W4, hW4⟩ : ∃ W4, W3.setCell ⟨W2.heap.size, 0, none⟩ (.int .i64 7) = W4 := ⟨_, rfl⟩; have hr4 : W4.heap[W.heap.size]? = some (.cells #[.int .i64 0, .string ⟨#[]⟩, .int .i64 0, .int .i64 0] 33) := (by rw [← hW4]; exact (Below.heap_setCell _ ⟨W2.heap.size, 0, none⟩ _ _ (by show W.heap.size ≠ W2.heap.size; omega)).trans hr5); have ht4 : W4.heap[W2.heap.size]? = some (.cells #[.int .i64 7, .string S, .int .i64 (at' : Int), .int .i64 (e' : Int)] 33) := (by rw [← hW4]; exact put0_heap ht3 _); have hBW4 : Below W2.heap.size W3 W4 := (by rw [← hW4]; exact (Below.refl _ _).setCell (p := ⟨W2.heap.size, 0, none⟩) (Nat.le_refl _) _); have hzW4 := hBW4.size; obtain ⟨d0, d1, d2, d3⟩ := tok_cells hr4; have d4 := Lib.frozen_of_heap hr4; have d5 : W4.shape? W.heap.size = some (33, 4) := (by simp [World.shape?, hr4]); obtain ⟨t0, t1, t2, t3⟩ := tok_cells ht4; have t4 := Lib.frozen_of_heap ht4; have t5 : W4.shape? W2.heap.size = some (33, 4) := (by simp [World.shape?, ht4]); obtain ⟨W5, hW5⟩ : ∃ W5, W4.setCell ⟨W2.heap.size, 0, none⟩ (.int .i64 8) = W5 := ⟨_, rfl⟩; have hr55 : W5.heap[W.heap.size]? = some (.cells #[.int .i64 0, .string ⟨#[]⟩, .int .i64 0, .int .i64 0] 33) := (by rw [← hW5]; exact (Below.heap_setCell _ ⟨W2.heap.size, 0, none⟩ _ _ (by show W.heap.size ≠ W2.heap.size; omega)).trans hr4); have ht5 : W5.heap[W2.heap.size]? = some (.cells #[.int .i64 8, .string S, .int .i64 (at' : Int), .int .i64 (e' : Int)] 33) := (by rw [← hW5]; exact put0_heap ht4 _); have hBW5 : Below W2.heap.size W4 W5 := (by rw [← hW5]; exact (Below.refl _ _).setCell (p := ⟨W2.heap.size, 0, none⟩) (Nat.le_refl _) _); have hzW5 := hBW5.size; obtain ⟨d0, d1, d2, d3⟩ := tok_cells hr55; have d4 := Lib.frozen_of_heap hr55; have d5 : W5.shape? W.heap.size = some (33, 4) := (by simp [World.shape?, hr55]); obtain ⟨t0, t1, t2, t3⟩ := tok_cells ht5; have t4 := Lib.frozen_of_heap ht5; have t5 : W5.shape? W2.heap.size = some (33, 4) := (by simp [World.shape?, ht5])))
      have hB6 := put4_below (W := W5) (Nat.le_refl W.heap.size) (.int .i64 8) (.string S) ((.int .i64 (at' : Int))) ((.int .i64 (e' : Int)))
      have hr6 := put4_heap hr55 (.int .i64 8) (.string S) ((.int .i64 (at' : Int))) ((.int .i64 (e' : Int)))
      obtain ⟨W6, hW6⟩ : ∃ W6, ((((W5.setCell ⟨W.heap.size, 0, none⟩ (.int .i64 8)).setCell ⟨W.heap.size, 1, none⟩ (.string S)).setCell ⟨W.heap.size, 2, none⟩ ((.int .i64 (at' : Int)))).setCell ⟨W.heap.size, 3, none⟩ ((.int .i64 (e' : Int)))) = W6 := ⟨_, rfl⟩
      rw [hW6] at hB6 hr6 ⊢
      clear hW6
      obtain ⟨e0, e1, e2, e3⟩ := tok_cells hr6
      have hBF : Below W.heap.size W W6 := ((((hB1.trans (hB2.mono hB1.size)).trans (hB3.mono (by omega))).trans (hBW4.mono (by omega))).trans (hBW5.mono (by omega))).trans hB6
      try rw [Exit.noGoto_ret]
      refine bodyPost_ret (v := .tuple #[.agg #[.int .i64 8, .string S, (.int .i64 (at' : Int)), (.int .i64 (e' : Int))], .slice (some ⟨hb, ho, none⟩) m cap2, .bool true]) ?_ rfl ⟨⟨_, by rw [show strOfNums t = S from unhide HSX]; rfl, unhide HKEEP _ hBF⟩, hBF⟩
      clear d0 d1 d2 d3 d4 d5 t0 t1 t2 t3 t4 t5
      simp [results, Tryd.results32, go_sem, e0, e1, e2, e3]
    | true =>
      have HN : Hid (Calls Tryd.prog 45 #[.slice (some ⟨c, off, none⟩) len cap, .int .i64 (at' : Int)] W1 fun x W' => x = .returned (.tuple #[tokV 0 S at' (e' : Int), .bool true, .bool true]) ∧ Below W1.heap.size W1 W') := by rw [← hSx]; exact unhide HN0
      have HSX := hide hSx
      clear HN0 hSx
      go_enter Tryd.func32, Tryd.ntmps32
      go_wp2_with (first | (go_at_call 40; refine (rLetter_any _ _).mono ?_; rintro x w' ⟨rfl, hw⟩; subst w') | (go_at_call 41; refine (rDigit_any _ _).mono ?_; rintro x w' ⟨rfl, hw⟩; subst w') | (go_at_call 45; refine (unhide HN).mono ?_; rintro x W2 ⟨rfl, hB2⟩; obtain ⟨W3, hW3⟩ : ∃ W3, W2.alloc (.cells #[Value.int .i64 0, .string S, .int .i64 (at' : Int), .int .i64 (e' : Int)] 33) = W3 := ⟨_, rfl⟩; have hz2 := hB2.size; have hz3 : W3.heap.size = W2.heap.size + 1 := (by rw [← hW3]; simp); have hB3 : Below W2.heap.size W2 W3 := (by rw [← hW3]; exact (Below.refl _ _).alloc (Nat.le_refl _) _); have hr5 : W3.heap[W.heap.size]? = some (.cells #[.int .i64 0, .string ⟨#[]⟩, .int .i64 0, .int .i64 0] 33) := (hB3.block W.heap.size (by omega)).trans ((hB2.block W.heap.size (by omega)).trans hr1); obtain ⟨d0, d1, d2, d3⟩ := tok_cells hr5; have d4 := Lib.frozen_of_heap hr5; have d5 : W3.shape? W.heap.size = some (33, 4) := (by simp [World.shape?, hr5]); have ht3 : W3.heap[W2.heap.size]? = some (.cells #[Value.int .i64 0, .string S, .int .i64 (at' : Int), .int .i64 (e' : Int)] 33) := (by rw [← hW3]; exact World.alloc_heap_new _ _); obtain ⟨t0, t1, t2, t3⟩ := tok_cells ht3; have t4 := Lib.frozen_of_heap ht3; have t5 : W3.shape? W2.heap.size = some (33, 4) := (by simp [World.shape?, ht3]); obtain ⟨W4, hW4⟩ : ∃ W4, W3.setCell ⟨W2.heap.size, 0, none⟩ (.int .i64 7) = W4 := ⟨_, rfl⟩; have hr4 : W4.heap[W.heap.size]? = some (.cells #[.int .i64 0, .string ⟨#[]⟩, .int .i64 0, .int .i64 0] 33) := (by rw [← hW4]; exact (Below.heap_setCell _ ⟨W2.heap.size, 0, none⟩ _ _ (by show W.heap.size ≠ W2.heap.size; omega)).trans hr5); have ht4 : W4.heap[W2.heap.size]? = some (.cells #[.int .i64 7, .string S, .int .i64 (at' : Int), .int .i64 (e' : Int)] 33) := (by rw [← hW4]; exact put0_heap ht3 _); have hBW4 : Below W2.heap.size W3 W4 := (by rw [← hW4]; exact (Below.refl _ _).setCell (p := ⟨W2.heap.size, 0, none⟩) (Nat.le_refl _) _); have hzW4 := hBW4.size; obtain ⟨d0, d1, d2, d3⟩ := tok_cells hr4; have d4 := Lib.frozen_of_heap hr4; have d5 : W4.shape? W.heap.size = some (33, 4) := (by simp [World.shape?, hr4]); obtain ⟨t0, t1, t2, t3⟩ := tok_cells ht4; have t4 := Lib.frozen_of_heap ht4; have t5 : W4.shape? W2.heap.size = some (33, 4) := (by simp [World.shape?, ht4])))
      have hB6 := put4_below (W := W4) (Nat.le_refl W.heap.size) (.int .i64 7) (.string S) ((.int .i64 (at' : Int))) ((.int .i64 (e' : Int)))
      have hr6 := put4_heap hr4 (.int .i64 7) (.string S) ((.int .i64 (at' : Int))) ((.int .i64 (e' : Int)))
      obtain ⟨W6, hW6⟩ : ∃ W6, ((((W4.setCell ⟨W.heap.size, 0, none⟩ (.int .i64 7)).setCell ⟨W.heap.size, 1, none⟩ (.string S)).setCell ⟨W.heap.size, 2, none⟩ ((.int .i64 (at' : Int)))).setCell ⟨W.heap.size, 3, none⟩ ((.int .i64 (e' : Int)))) = W6 := ⟨_, rfl⟩
      rw [hW6] at hB6 hr6 ⊢
      clear hW6
      obtain ⟨e0, e1, e2, e3⟩ := tok_cells hr6
      have hBF : Below W.heap.size W W6 := ((((hB1.trans (hB2.mono hB1.size)).trans (hB3.mono (by omega))).trans (hBW4.mono (by omega)))).trans hB6
      try rw [Exit.noGoto_ret]
      refine bodyPost_ret (v := .tuple #[.agg #[.int .i64 7, .string S, (.int .i64 (at' : Int)), (.int .i64 (e' : Int))], .slice (some ⟨hb, ho, none⟩) (m + 1) cap2, .bool true]) ?_ rfl ⟨⟨_, by rw [show strOfNums t = S from unhide HSX]; rfl, by rw [← unhide HSP]; exact (unhide HO).below hBF⟩, hBF⟩
      clear d0 d1 d2 d3 d4 d5 t0 t1 t2 t3 t4 t5
      simp [results, Tryd.results32, go_sem, e0, e1, e2, e3]
end Go.Proofs.YtpdkeggiokebmaaDoor

/- The reference's next: signs. -/
namespace Go.Proofs.YtpdkeggiokebmaaDoor
set_option linter.unusedSimpArgs false
set_option linter.unusedVariables false
open Go.RowKit Go.Shelf

attribute [local go_sem] tokV
/-- No sign of the list's beginning stands at a place. -/
def NoM (g : Nat → Int) (len at' k : Nat) : Prop := ∀ j s', j < k → sgnR[j]? = some s' → ¬ mtch g len at' s'
theorem NoM.next {g : Nat → Int} {len at' k : Nat} {s : ByteArray} (h : NoM g len at' k) (hk : sgnR[k]? = some s) (hn : ¬ mtch g len at' s) : NoM g len at' (k + 1) := fun j s' hj hs => by
  by_cases e : j = k
  · subst e
    rw [hk] at hs
    cases hs
    exact hn
  · exact h j s' (by omega) hs
/-- A sign that stands is the token. -/
theorem sig_yes {g : Nat → Int} (hg : ∀ j, 0 ≤ g j ∧ g j ≤ 255) {len at' k : Nat} {s : ByteArray} {bs : List Bool} (hk : sgnR[k]? = some s) (hm : mtch g len at' s) (hno : NoM g len at' k) :
    ∃ t, s = strOfNums t ∧ sigQ g len at' bs = some (9, t, at' + s.size, if (s.toList == [123]) = true then bs ++ [false] else if (s.toList == [125]) = true then bs.dropLast else bs) := by
  obtain ⟨h1, h2, h3⟩ := mtch_yes hk hm hno
  have hg' : ∀ j, 0 ≤ (fun j => g (at' + j)) j ∧ (fun j => g (at' + j)) j ≤ 255 := fun j => hg _
  refine ⟨sub g at' (at' + s.size), h2, ?_⟩
  have e1 : (s.toList == [123]) = decide (sub g at' (at' + s.size) = [123]) := by
    rw [h2, strOfNums_size, sub_length, Nat.add_sub_cancel_left, sub_upto]
    exact str_is hg' [123] (by simp) [123] rfl
  have e2 : (s.toList == [125]) = decide (sub g at' (at' + s.size) = [125]) := by
    rw [h2, strOfNums_size, sub_length, Nat.add_sub_cancel_left, sub_upto]
    exact str_is hg' [125] (by simp) [125] rfl
  unfold sigQ
  rw [h1, if_neg h3, e1, e2]
  by_cases c1 : sub g at' (at' + s.size) = [123]
  · simp only [c1, decide_true, if_true]
  · by_cases c2 : sub g at' (at' + s.size) = [125]
    · rw [if_neg c1, if_pos c2, decide_eq_false c1, decide_eq_true c2]; rfl
    · rw [if_neg c1, if_neg c2, decide_eq_false c1, decide_eq_false c2]; rfl
theorem sig_no {g : Nat → Int} {len at' : Nat} {bs : List Bool} (hno : NoM g len at' 37) : sigQ g len at' bs = none := by
  unfold sigQ
  rw [if_pos (mtch_none hno)]

set_option maxRecDepth 100000 in
set_option maxHeartbeats 4000000 in
theorem rnext_sg1 (c : Nat) (a : Option Addr) (len cap : Nat) (g : Nat → Int) (hg : ∀ j, 0 ≤ g j ∧ g j ≤ 255) (at' : Nat) (hv : Value) (bs : List Bool) (W : World) (hS : Sl W c (.slice a len cap) len g) (hc : c < W.heap.size) (hO : HOL W hv bs) (hat : at' < len) (hlen : len ≤ 1099511627776) (hbl : bs.length ≤ 1099511627776) (hL : isL (g at') = false) (hD : isD (g at') = false) (q1 : g at' ≠ 34) (q2 : g at' ≠ 39) (q3' : g at' ≠ 96) (q4 : g at' ≠ 125) :
    Calls Tryd.prog 32 #[.slice a len cap, .int .i64 (at' : Int), hv] W (RNV W at' (sigQ g len at' bs)) := by
  have HS0 := hide hS
  have HO := hide hO
  obtain ⟨a2, cap2, rfl, ho1, ho2, ho3⟩ := hO.opn
  clear hO
  unfold maxLen at ho2
  obtain ⟨W1, hW1⟩ : ∃ W1, W.alloc (.cells #[.int .i64 0, .string ⟨#[]⟩, .int .i64 0, .int .i64 0] 33) = W1 := ⟨_, rfl⟩
  have hB1 : Below W.heap.size W W1 := by rw [← hW1]; exact (Below.refl _ W).alloc (Nat.le_refl _) _
  have hz1 : W1.heap.size = W.heap.size + 1 := by rw [← hW1]; simp
  have hr1 : W1.heap[W.heap.size]? = some (.cells #[.int .i64 0, .string ⟨#[]⟩, .int .i64 0, .int .i64 0] 33) := by rw [← hW1]; exact World.alloc_heap_new W _
  have hS1 := hS.keep (B := W1) (fun k e => by subst e; exact hB1.block k hc)
  obtain ⟨off, rfl, h1, h2, hcs⟩ := unhide (sl_cells hS1) (by omega)
  unfold maxLen at h2
  have hck := hcs at' hat
  have n1 : (at' : Int) < len := by omega
  have HCS := hide hcs
  have HS1 := hide hS1
  clear hS1 hcs
  have hW1s : W.heap.size < W1.heap.size := by omega
  have hS0' := unhide HS0
  clear hS
  have b1 : (g at' == 34) = false := by simpa using q1
  have b2 : (g at' == 39) = false := by simpa using q2
  have b3 : (g at' == 96) = false := by simpa using q3'
  have b4 : (g at' == 125) = false := by simpa using q4
  have HS0 : Hid (Sl W c (.slice (some ⟨c, off, none⟩) len cap) len g) := hS0'
  clear hS0' hz1
  have HSI := hide (signs_any W1)
  go_enter Tryd.func32, Tryd.ntmps32
  go_wp2_with (first | (go_at_call 40; refine (rLetter_any _ _).mono ?_; rintro x w' ⟨rfl, hw⟩; subst w') | (go_at_call 41; refine (rDigit_any _ _).mono ?_; rintro x w' ⟨rfl, hw⟩; subst w') | (go_at_call 46; refine (unhide HSI).mono ?_; rintro x W2 ⟨rfl, hTx, hB2⟩; have HTX := hide hTx; clear hTx))
  clear hW1
  go_loopw [2, 23] (fun hvv t wr => hvv = .slice a2 bs.length cap2 ∧ ∃ k : Nat, k ≤ 37 ∧ t = .int .i64 (k : Int) ∧ Hid (NoM g len at' k) ∧ Hid (Below W.heap.size W wr) ∧ wr.heap[W.heap.size]? = some (.cells #[.int .i64 0, .string ⟨#[]⟩, .int .i64 0, .int .i64 0] 33) ∧ Hid (Txts wr W1.heap.size 0 sgnR)) (fun _ t _ => 37 - (intOf t).toNat)
  case atStart => exact ⟨rfl, 0, Nat.zero_le _, rfl, fun j s' hj => by omega, hB1.trans (hB2.mono hB1.size), (hB2.block W.heap.size (by omega)).trans hr1, unhide HTX⟩
  case round =>
    obtain ⟨rfl, k, hk, rfl, HNO, HBW, hrw, HTW⟩ := hrel
    clear HTX
    obtain ⟨d0, d1, d2, d3⟩ := tok_cells hrw
    have d4 := Lib.frozen_of_heap hrw
    have d5 : wr.shape? W.heap.size = some (33, 4) := by simp [World.shape?, hrw]
    have hRw : W.heap.size < wr.heap.size := (Array.getElem?_eq_some_iff.1 hrw).1
    have HSw : Hid (∀ W', Below W.heap.size W W' → Sl W' c (.slice (some ⟨c, off, none⟩) len cap) len g) := fun W' hb => (unhide HS0).keep (fun k e => by subst e; exact hb.block k hc)
    by_cases hlt : k < 37
    · have hlt' : (k : Int) < 37 := by omega
      obtain ⟨s, hs⟩ : ∃ s, sgnR[k]? = some s := ⟨_, List.getElem?_eq_getElem (by show k < 37; exact hlt)⟩
      have hcell := unhide HTW k s hs
      rw [Nat.zero_add] at hcell
      have hsz := (sgnR_in s (List.mem_of_getElem? hs)).1
      have hs3 : s.size ≤ 3 := by omega
      have HK := hide hs
      clear hs hsz
      by_cases hle : at' + s.size ≤ len
      · have hle' : (at' : Int) + s.size ≤ len := by omega
        have hled : decide ((at' : Int) + s.size ≤ len) = true := decide_eq_true hle'
        obtain ⟨sv, hsl, hcv⟩ := cut_conv (unhide HSw wr (unhide HBW)) (xf := at') (xt := at' + s.size) (by omega) hle
        have hsl2 : ∀ W', (Instr.slice 22 (.slice (some ⟨c, off, none⟩) len cap) (some (.int .i64 (at' : Int))) (some (.int .i64 ((at' : Int) + s.size))) none).run Tryd.prog W' = .ok sv W' := hsl
        obtain ⟨X, hX⟩ : ∃ X, strOfNums (sub g at' (at' + s.size)) = X := ⟨_, rfl⟩
        have hcv2 : ∀ N, (convert 22 9 sv).run Tryd.prog (wr.drewN N) = .ok (.string X) (wr.drewN N) := fun N => by rw [← hX]; exact hcv _ (unhide HSw wr (unhide HBW))
        cases hxe : (X.toList == s.toList) with
        | true =>
          have hM : mtch g len at' s := ⟨hle, by rw [hX]; exact hxe⟩
          obtain ⟨t, hst, hsig⟩ := sig_yes hg (bs := bs) (unhide HK) hM (unhide HNO)
          have HST := hide hst
          have HSG := hide hsig
          clear hM hst hsig hsl hcv hX
          cases hb1 : (s.toList == [123]) with
          | true =>
            have hb2 : (s.toList == [125]) = false := by rw [beq_iff_eq.1 hb1]; decide
            have HSG2 : Hid (sigQ g len at' bs = some (9, t, at' + s.size, bs ++ [false])) := by show _ = _; rw [unhide HSG, if_pos hb1]
            obtain ⟨i0, hinf, hz0, hzz1, hz2'⟩ := info_parts infoBool
            rcases unhide HO with ⟨hvn, hbs⟩ | ⟨hb, ho, hcap, hvs, hh1, hh2, hh3, hh4⟩
            · injection hvn with ha2 hl2 hc2
              subst ha2 hc2 hbs
              go_wp2
              go_quiet (fail)
              go_wp2_with (first | (at_builtin; refine wpList_append_own_none rfl _ _ 47 rfl wr.heap.size 4 i0 1 Tryd.underlying47 hinf _ _ _ rfl (empty_ownsB (wr.drewN nq)) rfl ?_) | (at_builtin; refine wpList_append_own _ rfl _ _ 47 rfl wr.heap.size 4 i0 (.bool false) 1 1 Tryd.underlying47 hinf hz0 hzz1 hz2' rfl (by decide) _ _ _ rfl (World.ownsRow.alloc (empty_ownsB (wr.drewN nq)) _) ⟨(wr.drewN nq).heap.size + 1, 0, none⟩ 1 1 [.bool false] rfl rfl ?c1 ?c2 ?c3 ?c4 ?c5 ?_))
              case c1 =>
                intro j u hj
                match j, hj with
                | 0, hj =>
                  simp at hj; subst hj
                  have h := World.alloc_heap_new ((wr.drewN nq).alloc (.cells #[] 4)) (.cells #[.bool false] 4)
                  rw [World.size_alloc] at h
                  rw [Addr.add_lit]
                  show World.cell? _ ⟨(wr.drewN nq).heap.size + 1, 0 + 0, none⟩ = _
                  rw [Lib.cell_of_heap h]
                  rfl
                | (j + 1), hj => simp at hj
              case c2 => intro u hu; simp at hu; subst hu; rfl
              case c3 => unfold maxLen; omega
              case c4 => omega
              case c5 => simp; omega
              intro v7 W7 hown7 hg7 _
              have hz7 : wr.heap.size + 1 + 1 ≤ W7.heap.size := by have := hg7.size; simp at this; omega
              have hk7 : ∀ k, k < wr.heap.size → W7.heap[k]? = wr.heap[k]? := fun k hk => (hg7.block k (by simp; omega) (fun e => by simp [Value.ownBlock] at e; omega)).trans ((Below.heap_alloc _ _ k (by simp; omega)).trans (Below.heap_alloc _ _ k hk))
              have hB7 : Below wr.heap.size (wr.drewN nq) W7 := (((Below.refl _ (wr.drewN nq)).alloc (Nat.le_refl _) _).alloc (by simp) _).grown hg7 (by simp; omega) (fun k e => by have hdz : (wr.drewN nq).heap.size = wr.heap.size := rfl; simp [Value.ownBlock] at e; omega)
              have hr7 : W7.heap[W.heap.size]? = some (.cells #[.int .i64 0, .string ⟨#[]⟩, .int .i64 0, .int .i64 0] 33) := (hk7 W.heap.size hRw).trans hrw
              obtain ⟨g7, c7, rfl⟩ := ownsRow_succ hown7
              have hg7b : wr.heap.size ≤ g7 := (World.ownsRow.lt hown7 g7 rfl).1
              have hg7c : wr.heap.size ≤ g7 := hg7b
              have HBW7 : Hid (Below W.heap.size W W7) := (below_drewN (unhide HBW) nq).trans (hB7.mono (unhide HBW).size)
              have HOWN := hide hown7
              obtain ⟨d0, d1, d2, d3⟩ := tok_cells hr7
              have d4 := Lib.frozen_of_heap hr7
              have d5 : W7.shape? W.heap.size = some (33, 4) := by simp [World.shape?, hr7]
              have hcell7 : W7.cell? ⟨W1.heap.size, k, none⟩ = some (.string s) := by rw [World.cell?_of_block (w := wr) (hk7 W1.heap.size (World.block_lt_of_cell? wr _ hcell))]; exact hcell
              clear hown7 hg7 hk7 
              go_wp2
              have hK6 : (((((W7.setCell ⟨W.heap.size, 0, none⟩ (.int .i64 9)).setCell ⟨W.heap.size, 1, none⟩ (.string s)).setCell ⟨W.heap.size, 2, none⟩ (.int .i64 (at' : Int))).setCell ⟨W.heap.size, 3, none⟩ (.int .i64 ((at' : Int) + s.size)))).heap[g7]? = W7.heap[g7]? := put4_keep (by omega) _ _ _ _
              have hB6 := put4_below (W := W7) (Nat.le_refl W.heap.size) (.int .i64 9) (.string s) ((.int .i64 (at' : Int))) ((.int .i64 ((at' : Int) + s.size)))
              have hr6 := put4_heap hr7 (.int .i64 9) (.string s) ((.int .i64 (at' : Int))) ((.int .i64 ((at' : Int) + s.size)))
              obtain ⟨W6, hW6⟩ : ∃ W6, ((((W7.setCell ⟨W.heap.size, 0, none⟩ (.int .i64 9)).setCell ⟨W.heap.size, 1, none⟩ (.string s)).setCell ⟨W.heap.size, 2, none⟩ ((.int .i64 (at' : Int)))).setCell ⟨W.heap.size, 3, none⟩ ((.int .i64 ((at' : Int) + s.size)))) = W6 := ⟨_, rfl⟩
              rw [hW6] at hB6 hr6 hK6 ⊢
              clear hW6
              obtain ⟨e0, e1, e2, e3⟩ := tok_cells hr6
              have hBF : Below W.heap.size W W6 := (unhide HBW7).trans hB6
              try rw [Exit.noGoto_ret]
              refine bodyPost_ret (v := .tuple #[.agg #[.int .i64 9, .string s, (.int .i64 (at' : Int)), (.int .i64 ((at' : Int) + s.size))], .slice (some ⟨g7, 0, none⟩) (0 + 1) c7, .bool true]) ?_ rfl (by show RNV W at' (sigQ g len at' _) _ W6; rw [unhide HSG2]; exact ⟨⟨_, by rw [← unhide HST]; rfl, own_hol (B := wr.heap.size) (by rw [List.length_append, List.map_append]; exact row_keep (unhide HOWN) (fun k hk => by obtain rfl : g7 = k := (by injection hk); exact hK6))⟩, hBF⟩)
              clear d0 d1 d2 d3 d4 d5
              simp [results, Tryd.results32, go_sem, e0, e1, e2, e3]
            · injection hvs with ha2 hl2 hc2
              subst ha2 hc2
              have HH3 := hide hh3
              clear hh3
              go_wp2
              go_quiet (fail)
              go_wp2_with (at_builtin; refine wpList_append_own _ rfl _ _ 47 rfl wr.heap.size 4 i0 (.bool false) 1 1 Tryd.underlying47 hinf hz0 hzz1 hz2' rfl (by decide) _ _ _ rfl (empty_ownsB (wr.drewN nq)) ⟨hb, ho, none⟩ bs.length cap2 (bs.map Value.bool) rfl (by simp) ?d1 ?d2 ?d3 ?d4 ?d5 ?_)
              case d1 =>
                intro j u hj
                have hj' : j < bs.length := by have := (List.getElem?_eq_some_iff.1 hj).1; simpa using this
                have hcl := unhide HH3 j hj'
                have hbl2 : hb < W.heap.size := World.block_lt_of_cell? W _ hcl
                simp only [List.getElem?_map, List.getElem?_eq_getElem hj', Option.map_some, Option.some.injEq] at hj
                rw [Addr.add_lit, World.cell?_alloc_lt _ _ _ (by show hb < wr.heap.size; omega), World.cell?_of_block (w := W) ((unhide HBW).block hb hbl2), hcl, List.getD_eq_getElem?_getD, List.getElem?_eq_getElem hj', ← hj]
                rfl
              case d2 => intro u hu; obtain ⟨x, _, rfl⟩ := List.mem_map.1 hu; rfl
              case d3 => unfold maxLen; omega
              case d4 => omega
              case d5 => simp
              intro v8 W8 hown8 hg8 _
              have hz8 : wr.heap.size + 1 ≤ W8.heap.size := by have := hg8.size; simp at this; omega
              have hB8 : Below wr.heap.size (wr.drewN nq) W8 := ((Below.refl _ (wr.drewN nq)).alloc (Nat.le_refl _) _).grown hg8 (by simp) (fun k e => by have hdz : (wr.drewN nq).heap.size = wr.heap.size := rfl; simp [Value.ownBlock] at e; omega)
              have HOWN8 := hide hown8
              have HB8 := hide hB8
              clear hown8 hg8 hB8
              go_wp2_with (at_builtin; refine wpList_append_own _ rfl _ _ 47 rfl wr.heap.size 4 i0 (.bool false) 1 1 Tryd.underlying47 hinf hz0 hzz1 hz2' rfl (by decide) _ _ _ rfl (World.ownsRow.alloc (unhide HOWN8) _) ⟨W8.heap.size, 0, none⟩ 1 1 [.bool false] rfl rfl ?c1 ?c2 ?c3 ?c4 ?c5 ?_)
              case c1 =>
                intro j u hj
                match j, hj with
                | 0, hj => simp at hj; subst hj; simp [Addr.add]
                | (j + 1), hj => simp at hj
              case c2 => intro u hu; simp at hu; subst hu; rfl
              case c3 => unfold maxLen; omega
              case c4 => omega
              case c5 => simp; omega
              intro v7 W7 hown7 hg7 _
              have hz7 : W8.heap.size + 1 ≤ W7.heap.size := by have := hg7.size; simp at this; omega
              have hB7 : Below wr.heap.size (wr.drewN nq) W7 := ((unhide HB8).alloc (by omega) _).grown hg7 (by simp; omega) (fun k hk => (World.ownsRow.lt (unhide HOWN8) k hk).1)
              have hk7 : ∀ k, k < wr.heap.size → W7.heap[k]? = wr.heap[k]? := fun k hk => hB7.block k hk
              have hr7 : W7.heap[W.heap.size]? = some (.cells #[.int .i64 0, .string ⟨#[]⟩, .int .i64 0, .int .i64 0] 33) := (hk7 W.heap.size hRw).trans hrw
              obtain ⟨g7, c7, rfl⟩ := ownsRow_succ hown7
              have hg7b : wr.heap.size ≤ g7 := (World.ownsRow.lt hown7 g7 rfl).1
              have hg7c : wr.heap.size ≤ g7 := hg7b
              have HBW7 : Hid (Below W.heap.size W W7) := (below_drewN (unhide HBW) nq).trans (hB7.mono (unhide HBW).size)
              have HOWN := hide hown7
              obtain ⟨d0, d1, d2, d3⟩ := tok_cells hr7
              have d4 := Lib.frozen_of_heap hr7
              have d5 : W7.shape? W.heap.size = some (33, 4) := by simp [World.shape?, hr7]
              have hcell7 : W7.cell? ⟨W1.heap.size, k, none⟩ = some (.string s) := by rw [World.cell?_of_block (w := wr) (hk7 W1.heap.size (World.block_lt_of_cell? wr _ hcell))]; exact hcell
              clear hown7 hg7 hk7 
              go_wp2
              have hK6 : (((((W7.setCell ⟨W.heap.size, 0, none⟩ (.int .i64 9)).setCell ⟨W.heap.size, 1, none⟩ (.string s)).setCell ⟨W.heap.size, 2, none⟩ (.int .i64 (at' : Int))).setCell ⟨W.heap.size, 3, none⟩ (.int .i64 ((at' : Int) + s.size)))).heap[g7]? = W7.heap[g7]? := put4_keep (by omega) _ _ _ _
              have hB6 := put4_below (W := W7) (Nat.le_refl W.heap.size) (.int .i64 9) (.string s) ((.int .i64 (at' : Int))) ((.int .i64 ((at' : Int) + s.size)))
              have hr6 := put4_heap hr7 (.int .i64 9) (.string s) ((.int .i64 (at' : Int))) ((.int .i64 ((at' : Int) + s.size)))
              obtain ⟨W6, hW6⟩ : ∃ W6, ((((W7.setCell ⟨W.heap.size, 0, none⟩ (.int .i64 9)).setCell ⟨W.heap.size, 1, none⟩ (.string s)).setCell ⟨W.heap.size, 2, none⟩ ((.int .i64 (at' : Int)))).setCell ⟨W.heap.size, 3, none⟩ ((.int .i64 ((at' : Int) + s.size)))) = W6 := ⟨_, rfl⟩
              rw [hW6] at hB6 hr6 hK6 ⊢
              clear hW6
              obtain ⟨e0, e1, e2, e3⟩ := tok_cells hr6
              have hBF : Below W.heap.size W W6 := (unhide HBW7).trans hB6
              try rw [Exit.noGoto_ret]
              refine bodyPost_ret (v := .tuple #[.agg #[.int .i64 9, .string s, (.int .i64 (at' : Int)), (.int .i64 ((at' : Int) + s.size))], .slice (some ⟨g7, 0, none⟩) (bs.length + 1) c7, .bool true]) ?_ rfl (by show RNV W at' (sigQ g len at' _) _ W6; rw [unhide HSG2]; exact ⟨⟨_, by rw [← unhide HST]; rfl, own_hol (B := wr.heap.size) (by rw [List.length_append, List.map_append]; exact row_keep (unhide HOWN) (fun k hk => by obtain rfl : g7 = k := (by injection hk); exact hK6))⟩, hBF⟩)
              clear d0 d1 d2 d3 d4 d5
              simp [results, Tryd.results32, go_sem, e0, e1, e2, e3]
          | false =>
            cases hb2 : (s.toList == [125]) with
            | true =>
              have HSG2 : Hid (sigQ g len at' bs = some (9, t, at' + s.size, bs.dropLast)) := by show _ = _; rw [unhide HSG, if_neg (by rw [hb1]; decide), if_pos hb2]
              rcases Nat.eq_zero_or_pos bs.length with hbz | hbp
              · have hbs : bs = [] := List.length_eq_zero_iff.1 hbz
                subst hbs
                go_wp2
                go_quiet (fail)
                go_wp2
                have hB6 := put4_below (W := (wr.drewN nq)) (Nat.le_refl W.heap.size) (.int .i64 9) (.string s) ((.int .i64 (at' : Int))) ((.int .i64 ((at' : Int) + s.size)))
                have hr6 := put4_heap (show (wr.drewN nq).heap[W.heap.size]? = _ from hrw) (.int .i64 9) (.string s) ((.int .i64 (at' : Int))) ((.int .i64 ((at' : Int) + s.size)))
                obtain ⟨W6, hW6⟩ : ∃ W6, (((((wr.drewN nq).setCell ⟨W.heap.size, 0, none⟩ (.int .i64 9)).setCell ⟨W.heap.size, 1, none⟩ (.string s)).setCell ⟨W.heap.size, 2, none⟩ ((.int .i64 (at' : Int)))).setCell ⟨W.heap.size, 3, none⟩ ((.int .i64 ((at' : Int) + s.size)))) = W6 := ⟨_, rfl⟩
                rw [hW6] at hB6 hr6 ⊢
                clear hW6
                obtain ⟨e0, e1, e2, e3⟩ := tok_cells hr6
                have hBF : Below W.heap.size W W6 := (below_drewN (unhide HBW) nq).trans hB6
                try rw [Exit.noGoto_ret]
                refine bodyPost_ret (v := .tuple #[.agg #[.int .i64 9, .string s, (.int .i64 (at' : Int)), (.int .i64 ((at' : Int) + s.size))], .slice a2 0 cap2, .bool true]) ?_ rfl (by show RNV W at' (sigQ g len at' _) _ W6; rw [unhide HSG2]; exact ⟨⟨_, by rw [← unhide HST]; rfl, (unhide HO).below hBF⟩, hBF⟩)
                clear d0 d1 d2 d3 d4 d5
                simp [results, Tryd.results32, go_sem, e0, e1, e2, e3]
              · obtain ⟨m, hm⟩ : ∃ m, bs.length = m + 1 := ⟨bs.length - 1, by omega⟩
                rcases unhide HO with ⟨hvn, hbs⟩ | ⟨hb, ho, hcap, hvs, hh1, hh2, hh3, hh4⟩
                · exfalso
                  rw [hbs] at hm
                  simp at hm
                injection hvs with ha2 hl2 hc2
                subst ha2 hc2
                have hdl : bs.dropLast.length = m := by rw [List.length_dropLast]; omega
                have HKEEP : Hid (∀ W', Below W.heap.size W W' → HOL W' (.slice (some ⟨hb, ho, none⟩) m cap2) bs.dropLast) := fun W' hB => by
                  have : HOL W (.slice (some ⟨hb, ho, none⟩) m cap2) bs.dropLast := .inr ⟨hb, ho, cap2, by rw [hdl], by rw [hdl]; omega, hh2, fun j hj => by
                    rw [hh3 j (by omega)]
                    congr 2
                    rw [List.getD_eq_getElem?_getD, List.getD_eq_getElem?_getD, List.getElem?_dropLast, if_pos (by omega)], hh4⟩
                  exact this.below hB
                have hpd : decide ((0 : Int) < ((m + 1 : Nat) : Int)) = true := decide_eq_true (by omega)
                have hmm : m + 1 ≤ cap2 := by omega
                clear hh3 hl2 ho1 hh1 ho3 hdl hbp
                rw [hm]
                clear hm
                go_wp2
                go_quiet (fail)
                go_wp2
                have hB6 := put4_below (W := (wr.drewN nq)) (Nat.le_refl W.heap.size) (.int .i64 9) (.string s) ((.int .i64 (at' : Int))) ((.int .i64 ((at' : Int) + s.size)))
                have hr6 := put4_heap (show (wr.drewN nq).heap[W.heap.size]? = _ from hrw) (.int .i64 9) (.string s) ((.int .i64 (at' : Int))) ((.int .i64 ((at' : Int) + s.size)))
                obtain ⟨W6, hW6⟩ : ∃ W6, (((((wr.drewN nq).setCell ⟨W.heap.size, 0, none⟩ (.int .i64 9)).setCell ⟨W.heap.size, 1, none⟩ (.string s)).setCell ⟨W.heap.size, 2, none⟩ ((.int .i64 (at' : Int)))).setCell ⟨W.heap.size, 3, none⟩ ((.int .i64 ((at' : Int) + s.size)))) = W6 := ⟨_, rfl⟩
                rw [hW6] at hB6 hr6 ⊢
                clear hW6
                obtain ⟨e0, e1, e2, e3⟩ := tok_cells hr6
                have hBF : Below W.heap.size W W6 := (below_drewN (unhide HBW) nq).trans hB6
                try rw [Exit.noGoto_ret]
                refine bodyPost_ret (v := .tuple #[.agg #[.int .i64 9, .string s, (.int .i64 (at' : Int)), (.int .i64 ((at' : Int) + s.size))], .slice (some ⟨hb, ho, none⟩) m cap2, .bool true]) ?_ rfl (by show RNV W at' (sigQ g len at' _) _ W6; rw [unhide HSG2]; exact ⟨⟨_, by rw [← unhide HST]; rfl, unhide HKEEP _ hBF⟩, hBF⟩)
                clear d0 d1 d2 d3 d4 d5
                simp [results, Tryd.results32, go_sem, e0, e1, e2, e3]
            | false =>
              have HSG2 : Hid (sigQ g len at' bs = some (9, t, at' + s.size, bs)) := by show _ = _; rw [unhide HSG, if_neg (by rw [hb1]; decide), if_neg (by rw [hb2]; decide)]
              go_wp2
              go_quiet (fail)
              go_wp2
              have hB6 := put4_below (W := (wr.drewN nq)) (Nat.le_refl W.heap.size) (.int .i64 9) (.string s) ((.int .i64 (at' : Int))) ((.int .i64 ((at' : Int) + s.size)))
              have hr6 := put4_heap (show (wr.drewN nq).heap[W.heap.size]? = _ from hrw) (.int .i64 9) (.string s) ((.int .i64 (at' : Int))) ((.int .i64 ((at' : Int) + s.size)))
              obtain ⟨W6, hW6⟩ : ∃ W6, (((((wr.drewN nq).setCell ⟨W.heap.size, 0, none⟩ (.int .i64 9)).setCell ⟨W.heap.size, 1, none⟩ (.string s)).setCell ⟨W.heap.size, 2, none⟩ ((.int .i64 (at' : Int)))).setCell ⟨W.heap.size, 3, none⟩ ((.int .i64 ((at' : Int) + s.size)))) = W6 := ⟨_, rfl⟩
              rw [hW6] at hB6 hr6 ⊢
              clear hW6
              obtain ⟨e0, e1, e2, e3⟩ := tok_cells hr6
              have hBF : Below W.heap.size W W6 := (below_drewN (unhide HBW) nq).trans hB6
              try rw [Exit.noGoto_ret]
              refine bodyPost_ret (v := .tuple #[.agg #[.int .i64 9, .string s, (.int .i64 (at' : Int)), (.int .i64 ((at' : Int) + s.size))], .slice a2 bs.length cap2, .bool true]) ?_ rfl (by show RNV W at' (sigQ g len at' _) _ W6; rw [unhide HSG2]; exact ⟨⟨_, by rw [← unhide HST]; rfl, (unhide HO).below hBF⟩, hBF⟩)
              clear d0 d1 d2 d3 d4 d5
              simp [results, Tryd.results32, go_sem, e0, e1, e2, e3]
        | false =>
          have HNO2 : Hid (NoM g len at' (k + 1)) := (unhide HNO).next (unhide HK) (fun h => by have := h.2; rw [hX, hxe] at this; exact absurd this (by decide))
          clear hsl hcv hX
          go_wp2
          go_quiet (fail)
          go_wp2
          exact ⟨⟨rfl, k + 1, by omega, by go_num, HNO2, below_drewN (unhide HBW) _, hrw, unhide HTW⟩, by simp [intOf]; omega⟩
      · have hled : decide ((at' : Int) + s.size ≤ len) = false := decide_eq_false (by omega)
        have HNO2 : Hid (NoM g len at' (k + 1)) := (unhide HNO).next (unhide HK) (fun h => hle h.1)
        go_wp2
        go_quiet (fail)
        go_wp2
        exact ⟨⟨rfl, k + 1, by omega, by go_num, HNO2, below_drewN (unhide HBW) _, hrw, unhide HTW⟩, by simp [intOf]; omega⟩
    · obtain rfl : k = 37 := by omega
      have HSN := hide (sig_no (bs := bs) (unhide HNO))
      go_wp2
      have hB6 := put4_below (W := wr) (Nat.le_refl W.heap.size) (.int .i64 0) (.string ⟨#[]⟩) ((.int .i64 0)) ((.int .i64 0))
      have hr6 := put4_heap hrw (.int .i64 0) (.string ⟨#[]⟩) ((.int .i64 0)) ((.int .i64 0))
      obtain ⟨W6, hW6⟩ : ∃ W6, ((((wr.setCell ⟨W.heap.size, 0, none⟩ (.int .i64 0)).setCell ⟨W.heap.size, 1, none⟩ (.string ⟨#[]⟩)).setCell ⟨W.heap.size, 2, none⟩ ((.int .i64 0))).setCell ⟨W.heap.size, 3, none⟩ ((.int .i64 0))) = W6 := ⟨_, rfl⟩
      rw [hW6] at hB6 hr6 ⊢
      clear hW6
      obtain ⟨e0, e1, e2, e3⟩ := tok_cells hr6
      have hBF : Below W.heap.size W W6 := (unhide HBW).trans hB6
      try rw [Exit.noGoto_ret]
      refine bodyPost_ret (v := .tuple #[.agg #[.int .i64 0, .string ⟨#[]⟩, (.int .i64 0), (.int .i64 0)], .slice a2 bs.length cap2, .bool false]) ?_ rfl (by show RNV W at' (sigQ g len at' bs) _ W6; rw [unhide HSN]; exact ⟨⟨_, _, _, _, _, rfl⟩, hBF⟩)
      clear d0 d1 d2 d3 d4 d5
      simp [results, Tryd.results32, go_sem, e0, e1, e2, e3]
end Go.Proofs.YtpdkeggiokebmaaDoor
