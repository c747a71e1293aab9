/- Has of an object; the heap that HeapKeeps builds. -/
import Derived.Test.YtojbkohgngnlaaaDoorHC1
import Derived.Test.YtojbkohgngnlaaaDoorHO
namespace Go.Proofs.YtojbkohgngnlaaaDoor
set_option linter.unusedSimpArgs false
set_option linter.unusedVariables false
set_option maxRecDepth 100000
set_option maxHeartbeats 2000000
open Go.RowKit Go.Shelf

variable {w W : World} {l : Ly} {hb : Nat} {H : PH}
theorem Has_1 (h : HAt W l hb H) (i : Nat) (t : Th) (hi : H.ths[i]? = some t) (hk : t.kind = 1) (key : ByteArray) (hs : key.size ≤ maxLen) (bo : Bool) (hbo : (fndP H i key).isSome = bo) (s : ByteArray) :
    Calls Tryd.prog 11 #[ptr hb, .agg (Vc 5 i s), .string key] W fun e w' => e = .returned (.tuple #[.bool bo, .string ⟨#[]⟩, .int .i64 0]) ∧ Below W.heap.size W w' := by
  have HB0 := hide (below_one W (.cells #[.int .i64 5, .int .i64 i, .string s] 32))
  obtain ⟨⟨k1, n1, t1⟩, hr⟩ : ∃ y, (fndP H i key).getD PV.und = y := ⟨_, rfl⟩
  obtain ⟨b, hbb⟩ : ∃ b, l.bx i = b := ⟨_, rfl⟩
  have HT : Hid (∀ w1, Below W.heap.size W w1 → Calls Tryd.prog 29 #[ptr hb, .agg (Vc 5 i s)] w1 fun e w' => e = .returned (.tuple #[.iface 53 (.pointer (some ⟨b, 0, none⟩)), .bool true]) ∧ Below w1.heap.size w1 w') := fun w1 hb1 => by
    have := thingOf_ref (h.below hb1) i s
    rw [thR_some l i t hi] at this
    unfold ifv at this
    rw [hk, hbb] at this
    exact this
  have HF : Hid (∀ w1, Below W.heap.size W w1 → Calls Tryd.prog 80 #[ptr b, .string key] w1 fun e w' => e = .returned (.tuple #[.agg (Vc k1 n1 t1), .bool bo]) ∧ Below w1.heap.size w1 w') := fun w1 hb1 => by
    have := find_one (h.below hb1) i t hi key hs
    rw [hk, hr, hbo, hbb] at this
    exact this
  have m1 : ∀ w, (method 257 53 (.pointer (some ⟨b, 0, none⟩)) "shuck/heap.find").run Tryd.prog w = .ok (80, .pointer (some ⟨b, 0, none⟩)) w := fun _ => by kernel_rfl
  unfold Vc at HT HF ⊢
  unfold ptr at HT HF ⊢
  clear h hi hk hs hbo hr hbb
  go_enter Tryd.func11, Tryd.ntmps11
  go_wp2_with (first
    | (go_at_call 29
       refine (unhide HT _ (unhide HB0)).mono ?_
       rintro e w1 ⟨rfl, hb1⟩
       have HB1 := hide (Below.up (unhide HB0) hb1)
       clear hb1)
    | (go_at_call 80
       refine (unhide HF _ (unhide HB1)).mono ?_
       rintro e w2 ⟨rfl, hb2⟩
       obtain ⟨w3, hw3, ⟨na, nb, nc, o0, o1, o2⟩, hx3, hb3, hz3⟩ := new3 w2 (.int .i64 0) (.int .i64 0) (.string ⟨#[]⟩) 32
       have HB2 := hide (Below.up (unhide HB1) hb2)
       have HB3 := hide hb3
       clear hb2 hx3 hb3 hz3))
  refine bodyPost_ret (by simp [results, Tryd.results11, go_sem]) rfl ⟨rfl, Below.up (unhide HB2) (below_put3 (unhide HB3) (Nat.le_refl _) _ _ _)⟩
/-- An object with these members, one that it stands behind, and another. -/
def KT (S : List (ByteArray × PV)) : Th := ⟨1, none, S, []⟩
def KH (S : List (ByteArray × PV)) : PH := ⟨1048576, 3 + S.length, [KT S, ⟨1, some 0, [], []⟩, ⟨1, none, [], []⟩]⟩
theorem KH_make0 : (⟨1048576, 0, []⟩ : PH).make 1 (-1) = ⟨1048576, 1, [⟨1, none, [], []⟩]⟩ := rfl
theorem KH_make1 : (⟨1048576, 1, [⟨1, none, [], []⟩]⟩ : PH).make 1 0 = ⟨1048576, 2, [⟨1, none, [], []⟩, ⟨1, some 0, [], []⟩]⟩ := rfl
theorem KH_make2 : (⟨1048576, 2, [⟨1, none, [], []⟩, ⟨1, some 0, [], []⟩]⟩ : PH).make 1 (-1) = KH [] := rfl
theorem KH_cells (S : List (ByteArray × PV)) : cellsH (KH S).ths ≤ (KH S).used := by simp [KH, KT, cellsH, cellsT]; omega
theorem KH_new (S : List (ByteArray × PV)) (key : ByteArray) (v : PV) (h : (look S key).isSome = false) : (KH S).used1.setTh 0 (KT S) key v = KH (put S key v) := by
  have := put_length S key v
  rw [h] at this
  simp at this
  simp [PH.setTh, PH.used1, KH, KT, this]; omega
theorem KH_old (S : List (ByteArray × PV)) (key : ByteArray) (v : PV) (h : (look S key).isSome = true) : (KH S).setTh 0 (KT S) key v = KH (put S key v) := by
  have := put_length S key v
  rw [h] at this
  simp at this
  simp [PH.setTh, KH, KT, this]
theorem KH_fa (S : List (ByteArray × PV)) (key : ByteArray) : fndP (KH S) 0 key = look S key := by
  unfold fndP
  rw [show (KH S).ths[0]? = some (KT S) from rfl]
  simp only [KT]
  show findP _ _ _ = _
  rw [findP_eq _ _ 0 (KT S) rfl (by simp [KT])]
  simp only [KT]
  cases look S key <;> rfl
theorem KH_fb (S : List (ByteArray × PV)) (key : ByteArray) : fndP (KH S) 1 key = look S key := by
  unfold fndP
  rw [show (KH S).ths[1]? = some ⟨1, some 0, [], []⟩ from rfl]
  show findP _ _ _ = _
  rw [findP_eq _ _ 1 ⟨1, some 0, [], []⟩ rfl (by simp)]
  show findP _ _ 0 = _
  have := KH_fa S key
  unfold fndP at this
  rw [show (KH S).ths[0]? = some (KT S) from rfl] at this
  exact this
theorem KH_fc (S : List (ByteArray × PV)) (key : ByteArray) : fndP (KH S) 2 key = none := by
  unfold fndP
  rw [show (KH S).ths[2]? = some ⟨1, none, [], []⟩ from rfl]
  show findP _ _ _ = _
  rw [findP_eq _ _ 2 ⟨1, none, [], []⟩ rfl (by simp)]
  rfl
end Go.Proofs.YtojbkohgngnlaaaDoor
