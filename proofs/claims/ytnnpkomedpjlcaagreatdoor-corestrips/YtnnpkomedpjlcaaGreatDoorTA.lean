/- Good texts: tree.goodText. -/
import Derived.Laws.IdiomStrings
import Derived.Lib.Slices
import Derived.LoopN
import Derived.RangeFuncBox
import Derived.Test.YtnnpkomedpjlcaaGreatDoorA2
import Derived.Test.YtnnpkomedpjlcaaGreatDoorB0
import Derived.Test.YtnnpkomedpjlcaaGreatDoorT9
namespace Go.Proofs.YtnnpkomedpjlcaaGreatDoor
set_option linter.unusedSimpArgs false
set_option linter.unusedVariables false
open Go.RowKit

/-- From a place on, so many runes far, no byte is bad. -/
def gdT (g : Nat → Int) (len : Nat) : Nat → Nat → Bool
  | 0, _ => true
  | f + 1, at' => if at' < len then dGood g len at' && gdT g len f (at' + stepN g len at') else true
def goodB (s : ByteArray) : Bool := gdT (gS s) s.size s.size 0

theorem conv_str (s : ByteArray) (w : World) (hs : s.size ≤ 140737488355328) : ∃ cap C fr, (convert 9 84 (.string s)).run Tryz.prog w = .ok (.slice (some ⟨w.heap.size, 0, none⟩) s.size cap) (w.drew.alloc (.cells C 5 fr)) ∧
    s.size ≤ cap ∧ cap ≤ maxLen ∧ ∀ j, j < s.size → C[j]? = some (.int .u8 (gS s j)) := by
  refine ⟨_, _, _, run_bytes_of_string w 9 84 5 s Tryz.underlying9 Tryz.underlying84 Tryz.underlying5, grownCap_ge _ _ _ _, grownCap_le_maxLen _ _ _ _ (by unfold maxLen; omega), fun j hj => ?_⟩
  have hj' : j < s.data.size := hj
  have hj2 : j < s.size := hj
  simp [bytesRow, Array.getElem?_append, hj', hj2, gS]

set_option maxRecDepth 100000 in
set_option maxHeartbeats 1000000 in
theorem good_ok : TextOk 64 goodB := fun W s hs => by
  obtain ⟨cap, C, fr, hcv, hcap, hcm, hC⟩ := conv_str s W (by omega)
  have hcell : ∀ j, j < s.size → (W.alloc (.cells C 5 fr)).cell? ⟨W.heap.size, 0 + j, none⟩ = some (.int .u8 (gS s j)) := fun j hj => by
    rw [Lib.cell_of_heap (World.alloc_heap_new W _), Nat.zero_add]; exact hC j hj
  have HD : Hid (∀ i, i < s.size → Calls Tryz.prog 85 #[.slice (some ⟨W.heap.size, 0, none⟩) s.size cap, .int .i64 (i : Int)] (W.alloc (.cells C 5 fr)).drew fun e w' => e = .returned (.tuple #[.int .i32 (dRune (gS s) s.size i), .int .i64 (dSize (gS s) s.size i), .bool (dGood (gS s) s.size i)]) ∧ w' = (W.alloc (.cells C 5 fr)).drew) := fun i hi =>
    decode_in W.heap.size 0 s.size cap i (gS s) (gS_bd s) _ hi hcap hcm hcell
  have hB0 : Below W.heap.size W (W.alloc (.cells C 5 fr)).drew := ((Below.refl _ W).alloc (Nat.le_refl _) _).drew
  clear hcell hC hcap hcm
  go_enter Tryz.func64, Tryz.ntmps64
  go_wp2
  go_loopw [4] (fun t wr => ∃ k : Nat, Before (gS s) s.size k ∧ t = .int .i64 (posn (gS s) s.size k : Int) ∧ goodB s = gdT (gS s) s.size (s.size - k) (posn (gS s) s.size k) ∧ wr = (W.alloc (.cells C 5 fr)).drew) (fun t _ => s.size - (intOf t).toNat)
  case atStart => exact ⟨0, fun j hj => by omega, rfl, rfl, rfl⟩
  case round =>
    obtain ⟨k, hbf, rfl, hgd, hw⟩ := hrel
    subst wr
    have HG := hide hgd
    clear hgd hcv
    have hkl := posn_ge hbf
    have hpl := posn_le (gS s) s.size k
    by_cases hlt : posn (gS s) s.size k < s.size
    · have hlt' : (posn (gS s) s.size k : Int) < s.size := by omega
      have hds := dSize_nat (gS s) s.size (posn (gS s) s.size k)
      have hsl := step_le (g := gS s) (Nat.le_of_lt hlt)
      have hsp := step_pos (g := gS s) hlt
      obtain ⟨f, hf⟩ : ∃ f, s.size - k = f + 1 := ⟨s.size - k - 1, by omega⟩
      have hstep : goodB s = (dGood (gS s) s.size (posn (gS s) s.size k) && gdT (gS s) s.size f (posn (gS s) s.size (k + 1))) := by
        rw [unhide HG, hf]
        simp only [gdT, if_pos hlt, posn]
      have HST := hide hstep
      have HF := hide hf
      clear hstep hf
      cases hq : dGood (gS s) s.size (posn (gS s) s.size k : Int) with
      | true =>
        have HQ := hide hq
        clear hq
        go_wp2_with (go_at_call 85; refine (unhide HD _ hlt).mono ?_; rintro e w2 ⟨he, rfl⟩; rw [unhide HQ, hds] at he; subst he)
        refine ⟨⟨k + 1, hbf.succ hlt, by simp only [posn]; go_num, ?_, trivial⟩, by simp [intOf]; omega⟩
        have hf := unhide HF
        rw [unhide HST, unhide HQ, show s.size - (k + 1) = f from by omega]; rfl
      | false =>
        have HR : Hid (goodB s = false) := by show goodB s = false; rw [unhide HST, hq]; rfl
        have HQ := hide hq
        clear hq
        go_wp2_with (go_at_call 85; refine (unhide HD _ hlt).mono ?_; rintro e w2 ⟨he, rfl⟩; rw [unhide HQ, hds] at he; subst he)
        go_ret
        exact ⟨ret_b (unhide HR).symm, hB0⟩
    · have hlt' : ¬ (posn (gS s) s.size k : Int) < s.size := by omega
      have HR : Hid (goodB s = true) := by
        show goodB s = true
        rw [unhide HG]
        cases s.size - k with
        | zero => rfl
        | succ f => simp only [gdT, if_neg hlt]
      go_wp2
      go_ret
      exact ⟨ret_b (unhide HR).symm, hB0⟩
end Go.Proofs.YtnnpkomedpjlcaaGreatDoor
