/- Names with dots between: tree.typeNameText. -/
import Derived.Lib.Slices
import Derived.LoopN
import Derived.RangeFuncBox
import Derived.Test.YtnnpkomedpjlcaaGreatDoorSHS
import Derived.Test.YtnnpkomedpjlcaaGreatDoorT9
namespace Go.Proofs.YtnnpkomedpjlcaaGreatDoor
set_option linter.unusedSimpArgs false
set_option linter.unusedVariables false
open Go.RowKit Go.Shelf

/-- What stands between the dots. -/
def parts (s : ByteArray) : List ByteArray := Lib.splitB ⟨#[46]⟩ 0 (Lib.countB s ⟨#[46]⟩) s
theorem parts_len (s : ByteArray) : (parts s).length = Lib.countB s ⟨#[46]⟩ + 1 := Lib.splitB_all ⟨#[46]⟩ (by decide) 0 _ s rfl
theorem parts_le (s : ByteArray) : (parts s).length ≤ s.size + 1 := by
  rw [parts_len]
  have := Lib.countB_le ⟨#[46]⟩ (by decide) s.size s (Nat.le_refl _)
  omega

set_option maxRecDepth 100000 in
theorem gen_dot (s : ByteArray) (W : World) (hs : s.size < 4294967281) : Calls Tryz.prog 116 #[.string s, .string ⟨#[46]⟩, .int .i64 0, .int .i64 (-1)] W fun e w' => e = .returned (.slice (some ⟨W.heap.size, 0, none⟩) (parts s).length (parts s).length) ∧ w' = W.alloc (.cells ((parts s).map Value.string).toArray 9) := by
  have hle := Lib.countB_le ⟨#[46]⟩ (by decide) s.size s (Nat.le_refl _)
  have c := Any.strings_genSplit_core Tryz.lays221 (by kernel_rfl) s ⟨#[46]⟩ 0 (-1) (Lib.countB s ⟨#[46]⟩ + 1) W hs (by decide) (Nat.zero_le _)
    (fun x c hx => (Any.strings_Index_one { Tryz.lays221 with } x 46 _).mono fun e w' ⟨he, hw⟩ => ⟨by rw [he, ← Lib.index_one], hw⟩)
    ((Any.strings_Count_one { Tryz.lays221 with } s 46 W).mono fun e w' ⟨he, hw⟩ => ⟨by rw [he]; show _ = Ending.returned (Value.int .i64 ((Lib.count s.data.toList [46] : Nat) : Int)); rw [Lib.count_one]; rfl, hw⟩)
    (by decide) (by decide) (by rw [if_pos (by decide)]; omega)
  rw [Nat.add_sub_cancel] at c
  have e2 : Lib.cellsOf (parts s) (Lib.countB s ⟨#[46]⟩ + 1) = ((parts s).map Value.string).toArray := by rw [← parts_len]; exact Lib.cellsOf_full _
  refine Calls.mono c fun e w' ⟨he, hw⟩ => ⟨?_, ?_⟩
  · rw [he]
    show Ending.returned (.slice (some ⟨W.heap.size, 0, none⟩) (parts s).length _) = _
    rw [parts_len]
  · rw [hw]
    show W.alloc (.cells (Lib.cellsOf (parts s) (Lib.countB s ⟨#[46]⟩ + 1)) 9) = _
    rw [e2]

set_option maxRecDepth 100000 in
theorem split_dot (s : ByteArray) (W : World) (hs : s.size < 4294967281) : Calls Tryz.prog 83 #[.string s, .string ⟨#[46]⟩] W fun e w' => e = .returned (.slice (some ⟨W.heap.size, 0, none⟩) (parts s).length (parts s).length) ∧ w' = W.alloc (.cells ((parts s).map Value.string).toArray 9) := by
  have HC := hide (gen_dot s W hs)
  go_enter Tryz.func83, Tryz.ntmps83
  go_wp2_with (go_at_call 116; refine (unhide HC).mono ?_; rintro e w' ⟨rfl, hw⟩; rw [hw])
  go_ret
  exact ⟨rfl, rfl⟩

/-- The words of types of one value. -/
def tnL : List ByteArray := [⟨#[110, 117, 108, 108]⟩, ⟨#[117, 110, 100, 101, 102, 105, 110, 101, 100]⟩, ⟨#[116, 114, 117, 101]⟩, ⟨#[102, 97, 108, 115, 101]⟩]
def tnB (s : ByteArray) : Bool := hasT tnL s || (parts s).all nameB
theorem splitB_size (sep : ByteArray) : ∀ (k : Nat) (s : ByteArray), ∀ x ∈ Lib.splitB sep 0 k s, x.size ≤ s.size
  | 0, s, x, hx => by simp [Lib.splitB] at hx; rw [hx]; exact Nat.le_refl _
  | k + 1, s, x, hx => by
    simp only [Lib.splitB] at hx
    split at hx
    · simp at hx; rw [hx]; exact Nat.le_refl _
    · rcases List.mem_cons.1 hx with rfl | hx
      · simp; omega
      · have := splitB_size sep k _ x hx
        simp at this; omega
theorem part_size {s x : ByteArray} (h : x ∈ parts s) : x.size ≤ s.size := splitB_size _ _ _ _ h
theorem all_false {l : List ByteArray} {x : ByteArray} {k : Nat} (h : l[k]? = some x) (hx : nameB x = false) : l.all nameB = false := by
  rw [List.all_eq_false]
  exact ⟨x, List.mem_of_getElem? h, by simp [hx]⟩

set_option maxRecDepth 100000 in
set_option maxHeartbeats 1000000 in
theorem typeName_text : TextOk 61 tnB := fun W s hs => by
  cases hr : hasT tnL s with
  | true =>
    have h := hasT_mem hr
    have HR : Hid (tnB s = true) := by show (hasT tnL s || _) = true; rw [hr]; rfl
    clear hr
    simp only [tnL, List.mem_cons, List.not_mem_nil, or_false] at h
    rcases h with rfl | rfl | rfl | rfl
    all_goals (
      go_enter Tryz.func61, Tryz.ntmps61
      go_wp2
      go_ret
      exact ⟨ret_b (unhide HR).symm, Below.refl _ _⟩)
  | false =>
    have hno := hasT_no hr
    have HR : Hid (tnB s = (parts s).all nameB) := by show (hasT tnL s || _) = _; rw [hr]; rfl
    have q0 : (s.toList == [110, 117, 108, 108]) = false := by have e := hno ⟨#[110, 117, 108, 108]⟩ (by simp [tnL]); rw [ba_toList ⟨#[110, 117, 108, 108]⟩] at e; exact e
    have q1 : (s.toList == [117, 110, 100, 101, 102, 105, 110, 101, 100]) = false := by have e := hno ⟨#[117, 110, 100, 101, 102, 105, 110, 101, 100]⟩ (by simp [tnL]); rw [ba_toList ⟨#[117, 110, 100, 101, 102, 105, 110, 101, 100]⟩] at e; exact e
    have q2 : (s.toList == [116, 114, 117, 101]) = false := by have e := hno ⟨#[116, 114, 117, 101]⟩ (by simp [tnL]); rw [ba_toList ⟨#[116, 114, 117, 101]⟩] at e; exact e
    have q3 : (s.toList == [102, 97, 108, 115, 101]) = false := by have e := hno ⟨#[102, 97, 108, 115, 101]⟩ (by simp [tnL]); rw [ba_toList ⟨#[102, 97, 108, 115, 101]⟩] at e; exact e
    clear hno hr
    have HC := hide (split_dot s W (by omega))
    have hB0 : Below W.heap.size W (W.alloc (.cells ((parts s).map Value.string).toArray 9)) := (Below.refl _ W).alloc (Nat.le_refl _) _
    have hcell : ∀ j x, (parts s)[j]? = some x → (W.alloc (.cells ((parts s).map Value.string).toArray 9)).cell? ⟨W.heap.size, j, none⟩ = some (.string x) := fun j x hj => by
      rw [Lib.cell_of_heap (World.alloc_heap_new W _)]
      simp [hj]
    have hpl := parts_le s
    have HS : Hid (∀ x ∈ parts s, x.size ≤ s.size) := fun x hx => part_size hx
    obtain ⟨ps, hps⟩ : ∃ ps, parts s = ps := ⟨_, rfl⟩
    rw [hps] at HR HC hB0 hcell hpl HS
    clear hps
    obtain ⟨W1, hW1⟩ : ∃ W1, W.alloc (.cells (ps.map Value.string).toArray 9) = W1 := ⟨_, rfl⟩
    rw [hW1] at HC hB0 hcell
    clear hW1
    have HX := hide hcell
    clear hcell
    go_enter Tryz.func61, Tryz.ntmps61
    go_wp2_with (go_at_call 83; refine (unhide HC).mono ?_; rintro e w' ⟨rfl, hw⟩; rw [hw])
    go_loopw [14] (fun t wr => ∃ i : Nat, i ≤ ps.length ∧ t = .int .i64 (i : Int) ∧ (∀ j x, j < i → ps[j]? = some x → nameB x = true) ∧ wr = W1) (fun t _ => ps.length - (intOf t).toNat)
    case atStart => exact ⟨0, Nat.zero_le _, rfl, fun j x h => by omega, rfl⟩
    case round =>
      obtain ⟨i, hi, rfl, hc, hw⟩ := hrel
      subst wr
      have HA := hide hc
      clear hc
      by_cases hil : i < ps.length
      · have hil' : (i : Int) < ps.length := by omega
        obtain ⟨x, hx⟩ : ∃ x, ps[i]? = some x := ⟨_, List.getElem?_eq_getElem hil⟩
        have hcell := unhide HX i x hx
        have hxs := unhide HS x (List.mem_of_getElem? hx)
        have HXX := hide hx
        clear hx
        cases hn : nameB x with
        | true =>
          have HN := hide hn
          clear hn
          go_wp2_with (go_at_call 67; refine (name_any x (by omega) _).mono ?_; rintro e w2 ⟨he, rfl⟩; rw [unhide HN] at he; subst he)
          refine ⟨⟨i + 1, by omega, by go_num, fun j y hj hy => ?_, trivial⟩, by simp [intOf]; omega⟩
          by_cases e : j = i
          · subst e
            have := hy.symm.trans (unhide HXX)
            cases this
            exact unhide HN
          · exact unhide HA j y (by omega) hy
        | false =>
          have HF : Hid (tnB s = false) := by show tnB s = false; rw [unhide HR]; exact all_false (unhide HXX) hn
          have HN := hide hn
          clear hn
          go_wp2_with (go_at_call 67; refine (name_any x (by omega) _).mono ?_; rintro e w2 ⟨he, rfl⟩; rw [unhide HN] at he; subst he)
          go_ret
          exact ⟨ret_b (unhide HF).symm, hB0⟩
      · have hil' : ¬ (i : Int) < ps.length := by omega
        have HF : Hid (tnB s = true) := by
          show tnB s = true
          rw [unhide HR, List.all_eq_true]
          intro x hx
          obtain ⟨j, hj⟩ := List.getElem?_of_mem hx
          exact unhide HA j x (by have := (List.getElem?_eq_some_iff.1 hj).1; omega) hj
        go_wp2
        go_ret
        exact ⟨ret_b (unhide HF).symm, hB0⟩
end Go.Proofs.YtnnpkomedpjlcaaGreatDoor
