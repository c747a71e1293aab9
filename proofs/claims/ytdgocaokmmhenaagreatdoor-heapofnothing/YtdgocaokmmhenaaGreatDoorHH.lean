/- A piece more of what is shown; a number as text. -/
import Derived.Test.YtdgocaokmmhenaaGreatDoorHG
namespace Go.Proofs.YtdgocaokmmhenaaGreatDoor
set_option linter.unusedSimpArgs false
set_option linter.unusedVariables false
set_option maxRecDepth 100000
set_option maxHeartbeats 2000000
open Go.RowKit Go.Shelf

variable {w W : World} {M : Nat → Nat} {sb hb : Nat} {p bv : Value} {bs : List Value} {lg : Bool}
theorem ShAt.long (h : ShAt W M sb hb p bv bs lg) (x : Bool) : ShAt (W.setCell ⟨sb, 3, none⟩ (.bool x)) M sb hb p bv bs x ∧ St M M W (W.setCell ⟨sb, 3, none⟩ (.bool x)) := by
  have hk : ∀ k, k ≠ sb → (W.setCell ⟨sb, 3, none⟩ (.bool x)).heap[k]? = W.heap[k]? := fun k hne => Below.heap_setCell _ _ _ _ hne
  have hsz : (W.setCell ⟨sb, 3, none⟩ (.bool x)).heap.size = W.heap.size := by simp [World.setCell]
  exact ⟨⟨by simpa using h.box.set (i := 3) (.bool x), row_keep h.row fun g hg => hk g (fun e => h.nb (e ▸ hg)), h.ms, h.mr, fun k hk' => h.fr k (by rw [← hsz]; exact hk'), h.pp⟩, ⟨rfl, rfl, rfl, Nat.le_of_eq hsz.symm, fun _ _ => rfl, fun k _ h0 => hk k (fun e => by rw [e, h.ms] at h0; omega)⟩⟩
theorem add_any (h : ShAt W M sb hb p bv bs false) (s : ByteArray) (hlen : bs.length + s.size ≤ 65536) :
    Calls Tryz.prog 121 #[ptr sb, .string s] W fun e w' => e = .returned (.tuple #[]) ∧ ∃ M' p' bv', ShAt w' M' sb hb p' bv' (bs ++ Lib.strCells s) false ∧ St M M' W w' := by
  have c3 := h.box.cell 3 rfl
  have f3 := h.box.free 3
  have HL := hide (len_any h (by omega))
  obtain ⟨h1, s1⟩ := h.long false
  have HW := hide (ws_any h1 s (by omega))
  have S1 := hide s1
  have e1 : decide (((65536 : Int) - (bs.length : Int)) < (s.size : Int)) = false := by simp; omega
  have hbl : bs.length ≤ 65536 := by omega
  unfold ptr
  clear h h1 s1
  go_enter Tryz.func121, Tryz.ntmps121
  go_wp2_with (first
    | (go_at_call 124; refine (unhide HL).mono ?_; rintro e w1 ⟨rfl, rfl⟩)
    | (go_at_call 125; refine (unhide HW).mono ?_; rintro e w2 ⟨rfl, M', p', bv', h2, s2⟩; have H2 := hide h2; have S2 := hide s2; clear h2 s2))
  refine bodyPost_end (by simp [results, Tryz.results121, go_sem]; rfl) rfl ?_
  exact ⟨rfl, M', p', bv', unhide H2, (unhide S1).trans (unhide S2)⟩
theorem vsettled_3 : Ret 70 #[.agg (Vc 3 3 ByteArray.empty)] (.agg (Vc 3 3 ByteArray.empty)) := by
  intro W
  unfold Vc
  go_enter Tryz.func70, Tryz.ntmps70
  go_wp2
  refine bodyPost_ret (by simp [results, Tryz.results70, go_sem]; exact ⟨by decide, rfl⟩) rfl ⟨rfl, below_two _ _ _⟩
theorem itoa_3 : Ret 77 #[.int .i64 3] (.string ⟨#[51]⟩) := by
  intro W
  have := Tryz.strconv_Itoa_small 3 (by decide) W
  refine this.mono ?_
  rintro e w ⟨rfl, rfl⟩
  exact ⟨by rw [show Lib.decDigits 3 = [51] from by simp [Lib.decDigits]], Below.refl _ _⟩
theorem said_3 : Ret 69 #[.agg (Vc 3 3 ByteArray.empty)] (.string ⟨#[51]⟩) := by
  intro W
  have HB := hide (below_one W (.cells #[.int .i64 3, .int .i64 3, .string ByteArray.empty] 23))
  have H := hide itoa_3
  unfold Vc
  go_enter Tryz.func69, Tryz.ntmps69
  go_wp2_with (go_at_call 77; refine (unhide H _).mono ?_; rintro e w1 ⟨rfl, hb⟩)
  go_ret
  exact ⟨rfl, Below.up (unhide HB) hb⟩
theorem Text_3 : Ret 43 #[.agg (Vc 3 3 ByteArray.empty)] (.string ⟨#[51]⟩) := by
  intro W
  have HB := hide (below_one W (.cells #[.int .i64 3, .int .i64 3, .string ByteArray.empty] 23))
  have H1 := hide vsettled_3
  have H2 := hide said_3
  unfold Vc at H1 H2 ⊢
  go_enter Tryz.func43, Tryz.ntmps43
  go_wp2_with (first | (go_at_call 70; refine (unhide H1 _).mono ?_; rintro e w1 ⟨rfl, hb1⟩; have HB1 := hide (Below.up (unhide HB) hb1)) | (go_at_call 69; refine (unhide H2 _).mono ?_; rintro e w2 ⟨rfl, hb2⟩; have HB2 := hide (Below.up (unhide HB1) hb2)) | (go_at_call 37; refine (clone21 _ _ (by decide)).mono ?_; rintro e w3 ⟨rfl, hb3⟩; have HB3 := hide (Below.up (unhide HB2) hb3)))
  go_ret
  exact ⟨rfl, unhide HB3⟩
theorem ShAt.below {w' : World} (h : ShAt W M sb hb p bv bs lg) (k : Below W.heap.size W w') : ShAt w' M sb hb p bv bs lg :=
  ⟨(k.block sb h.box.lt).trans h.box, row_keep h.row fun g hg => k.block g (row_lt h.row hg), h.ms, h.mr, fun j hj => h.fr j (Nat.le_trans k.size hj), h.pp⟩
/-- The number 3 within a thing. -/
theorem plain_3 (h : ShAt W M sb hb p bv bs false) (hlen : bs.length + 1 ≤ 65536) :
    Calls Tryz.prog 122 #[ptr sb, .agg (Vc 3 3 ByteArray.empty)] W fun e w' => e = .returned (.tuple #[]) ∧ ∃ M' p' bv', ShAt w' M' sb hb p' bv' (bs ++ Lib.strCells ⟨#[51]⟩) false ∧ St M M' W w' := by
  have hb1 := below_one W (.cells #[.int .i64 3, .int .i64 3, .string ByteArray.empty] 23)
  have HB := hide hb1
  have HT := hide Text_3
  have HA : Hid (∀ w1, Below W.heap.size W w1 → Calls Tryz.prog 121 #[ptr sb, .string ⟨#[51]⟩] w1 fun e w' => e = .returned (.tuple #[]) ∧ ∃ M' p' bv', ShAt w' M' sb hb p' bv' (bs ++ Lib.strCells ⟨#[51]⟩) false ∧ St M M' w1 w') := fun w1 hw => add_any (h.below hw) ⟨#[51]⟩ (by show bs.length + 1 ≤ 65536; omega)
  unfold Vc at HT ⊢
  unfold ptr at HA ⊢
  clear h hb1
  go_enter Tryz.func122, Tryz.ntmps122
  go_wp2_with (first
    | (go_at_call 43; refine (unhide HT _).mono ?_; rintro e w1 ⟨rfl, hb1⟩; have HB1 := hide (Below.up (unhide HB) hb1); clear hb1)
    | (go_at_call 121; refine (unhide HA _ (unhide HB1)).mono ?_; rintro e w2 ⟨rfl, M', p', bv', h2, s2⟩; have H2 := hide h2; have S2 := hide s2; clear h2 s2))
  refine bodyPost_end (by simp [results, Tryz.results122, go_sem]; rfl) rfl ?_
  exact ⟨rfl, M', p', bv', unhide H2, (St.of_below (unhide HB1)).trans (unhide S2)⟩
end Go.Proofs.YtdgocaokmmhenaaGreatDoor
