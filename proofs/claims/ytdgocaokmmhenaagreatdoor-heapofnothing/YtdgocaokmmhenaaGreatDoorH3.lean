/- array, object, behind; New, Used. -/
import Derived.Test.YtdgocaokmmhenaaGreatDoorH2
namespace Go.Proofs.YtdgocaokmmhenaaGreatDoor
set_option linter.unusedSimpArgs false
set_option linter.unusedVariables false
set_option maxRecDepth 100000
open Go.RowKit

variable {w W : World} {l : Ly} {hb : Nat} {H : PH}
theorem thR_some (l : Ly) (i : Nat) (t : Th) (hi : H.ths[i]? = some t) : thR l H i = .tuple #[ifv l i t, .bool true] := by
  simp [thR, hi]
theorem thR_none (l : Ly) (n : Int) (hn : n < 0 ∨ H.ths.length ≤ n) : thR l H n = .tuple #[.nilIface, .bool false] := by
  unfold thR
  split
  · rfl
  · rw [List.getElem?_eq_none (by omega)]
theorem array_yes (h : HAt W l hb H) (i : Nat) (t : Th) (hi : H.ths[i]? = some t) (hk : t.kind = 2) (s : ByteArray) : Calls Tryz.prog 57 #[ptr hb, .agg (Vc 5 i s)] W fun e w' => e = .returned (.tuple #[ptr (l.bx i), .bool true]) ∧ Below W.heap.size W w' := by
  have HB := hide (below_one W (.cells #[.int .i64 5, .int .i64 i, .string s] 23))
  have HH := hide (h.below (unhide HB))
  have HT := hide (thingOf_ref (unhide HH) i s)
  rw [thR_some l i t hi] at HT
  unfold ifv at HT
  rw [hk, show tyP 2 = 109 from rfl] at HT
  obtain ⟨b, hbx⟩ : ∃ b, l.bx i = b := ⟨_, rfl⟩
  rw [hbx] at HT ⊢
  clear h hi hk hbx
  unfold Vc at HT ⊢
  unfold ptr at HT ⊢
  have ta69 : ∀ w, (Instr.typeAssert (.iface 109 (.pointer (some ⟨b, 0, none⟩))) 68 109 true).run Tryz.prog w = .ok (.tuple #[.pointer (some ⟨b, 0, none⟩), .bool true]) w := fun _ => by kernel_rfl
  go_enter Tryz.func57, Tryz.ntmps57
  go_wp2_with (first | (go_at_call 42; refine (unhide HT).mono ?_; rintro e' w1 ⟨rfl, hb1⟩; have HB1 := hide (hb1); clear hb1))
  refine bodyPost_ret (by simp [results, Tryz.results57, go_sem]) rfl ⟨rfl, (unhide HB).trans ((unhide HB1).mono (unhide HB).size)⟩
theorem array_no (h : HAt W l hb H) (n : Int) (hn : n < 0 ∨ H.ths.length ≤ n) (s : ByteArray) : Calls Tryz.prog 57 #[ptr hb, .agg (Vc 5 n s)] W fun e w' => e = .returned (.tuple #[.pointer none, .bool false]) ∧ Below W.heap.size W w' := by
  have HB := hide (below_one W (.cells #[.int .i64 5, .int .i64 n, .string s] 23))
  have HH := hide (h.below (unhide HB))
  have HT := hide (thingOf_ref (unhide HH) n s)
  rw [thR_none l n hn] at HT
  clear h hn
  unfold Vc at HT ⊢
  unfold ptr at HT ⊢
  have ta0 : ∀ w, (Instr.typeAssert .nilIface 68 109 true).run Tryz.prog w = .ok (.tuple #[.pointer none, .bool false]) w := fun _ => by kernel_rfl
  go_enter Tryz.func57, Tryz.ntmps57
  go_wp2_with (first | (go_at_call 42; refine (unhide HT).mono ?_; rintro e' w1 ⟨rfl, hb1⟩; have HB1 := hide (hb1); clear hb1))
  refine bodyPost_ret (by simp [results, Tryz.results57, go_sem]) rfl ⟨rfl, (unhide HB).trans ((unhide HB1).mono (unhide HB).size)⟩
theorem array_else (h : HAt W l hb H) (i : Nat) (t : Th) (hi : H.ths[i]? = some t) (hk : t.kind ≠ 2) (s : ByteArray) : Calls Tryz.prog 57 #[ptr hb, .agg (Vc 5 i s)] W fun e w' => e = .returned (.tuple #[.pointer none, .bool false]) ∧ Below W.heap.size W w' := by
  have HB := hide (below_one W (.cells #[.int .i64 5, .int .i64 i, .string s] 23))
  have HH := hide (h.below (unhide HB))
  have HT := hide (thingOf_ref (unhide HH) i s)
  have hkd := (h.th i t hi).kd
  rw [thR_some l i t hi] at HT
  unfold ifv at HT
  obtain ⟨b, hbx⟩ : ∃ b, l.bx i = b := ⟨_, rfl⟩
  rw [hbx] at HT
  clear h hi hbx
  unfold Vc at HT ⊢
  unfold ptr at HT ⊢
  have hk' : t.kind = 1 ∨ t.kind = 3 ∨ t.kind = 4 := by omega
  clear hk hkd
  rcases hk' with e | e | e
  · rw [e, show tyP 1 = 70 from rfl] at HT
    have ta53 : ∀ w, (Instr.typeAssert (.iface 70 (.pointer (some ⟨b, 0, none⟩))) 68 109 true).run Tryz.prog w = .ok (.tuple #[.pointer none, .bool false]) w := fun _ => by kernel_rfl
    go_enter Tryz.func57, Tryz.ntmps57
    go_wp2_with (first | (go_at_call 42; refine (unhide HT).mono ?_; rintro e' w1 ⟨rfl, hb1⟩; have HB1 := hide (hb1); clear hb1))
    refine bodyPost_ret (by simp [results, Tryz.results57, go_sem]) rfl ⟨rfl, (unhide HB).trans ((unhide HB1).mono (unhide HB).size)⟩
  · rw [e, show tyP 3 = 123 from rfl] at HT
    have ta90 : ∀ w, (Instr.typeAssert (.iface 123 (.pointer (some ⟨b, 0, none⟩))) 68 109 true).run Tryz.prog w = .ok (.tuple #[.pointer none, .bool false]) w := fun _ => by kernel_rfl
    go_enter Tryz.func57, Tryz.ntmps57
    go_wp2_with (first | (go_at_call 42; refine (unhide HT).mono ?_; rintro e' w1 ⟨rfl, hb1⟩; have HB1 := hide (hb1); clear hb1))
    refine bodyPost_ret (by simp [results, Tryz.results57, go_sem]) rfl ⟨rfl, (unhide HB).trans ((unhide HB1).mono (unhide HB).size)⟩
  · rw [e, show tyP 4 = 126 from rfl] at HT
    have ta93 : ∀ w, (Instr.typeAssert (.iface 126 (.pointer (some ⟨b, 0, none⟩))) 68 109 true).run Tryz.prog w = .ok (.tuple #[.pointer none, .bool false]) w := fun _ => by kernel_rfl
    go_enter Tryz.func57, Tryz.ntmps57
    go_wp2_with (first | (go_at_call 42; refine (unhide HT).mono ?_; rintro e' w1 ⟨rfl, hb1⟩; have HB1 := hide (hb1); clear hb1))
    refine bodyPost_ret (by simp [results, Tryz.results57, go_sem]) rfl ⟨rfl, (unhide HB).trans ((unhide HB1).mono (unhide HB).size)⟩
/-- Where members are laid. -/
theorem object_yes (h : HAt W l hb H) (i : Nat) (t : Th) (hi : H.ths[i]? = some t) (hk : t.kind ≠ 2) (s : ByteArray) : Calls Tryz.prog 36 #[ptr hb, .agg (Vc 5 i s)] W fun e w' => e = .returned (.tuple #[ptr (l.bx i), .bool true]) ∧ Below W.heap.size W w' := by
  have HB := hide (below_one W (.cells #[.int .i64 5, .int .i64 i, .string s] 23))
  have HH := hide (h.below (unhide HB))
  have HT := hide (thingOf_ref (unhide HH) i s)
  have hkd := (h.th i t hi).kd
  rw [thR_some l i t hi] at HT
  unfold ifv at HT
  obtain ⟨b, hbx⟩ : ∃ b, l.bx i = b := ⟨_, rfl⟩
  rw [hbx] at HT ⊢
  clear h hi hbx
  have m1 : ∀ w, (method 290 70 (.pointer (some ⟨b, 0, none⟩)) "shuck/heap.own").run Tryz.prog w = .ok (116, .pointer (some ⟨b, 0, none⟩)) w := fun _ => by kernel_rfl
  have m3 : ∀ w, (method 290 123 (.pointer (some ⟨b, 0, none⟩)) "shuck/heap.own").run Tryz.prog w = .ok (116, .pointer (some ⟨b, 0, none⟩)) w := fun _ => by kernel_rfl
  have m4 : ∀ w, (method 290 126 (.pointer (some ⟨b, 0, none⟩)) "shuck/heap.own").run Tryz.prog w = .ok (116, .pointer (some ⟨b, 0, none⟩)) w := fun _ => by kernel_rfl
  have HO : Hid (∀ w, Calls Tryz.prog 116 #[.pointer (some ⟨b, 0, none⟩)] w fun e w' => e = .returned (.pointer (some ⟨b, 0, none⟩)) ∧ Below w.heap.size w w') := fun w => own82 b w
  unfold Vc at HT ⊢
  unfold ptr at HT ⊢
  have hk' : t.kind = 1 ∨ t.kind = 3 ∨ t.kind = 4 := by omega
  clear hk hkd
  rcases hk' with e | e | e
  · rw [e, show tyP 1 = 70 from rfl] at HT
    go_enter Tryz.func36, Tryz.ntmps36
    go_wp2_with (first | (go_at_call 42; refine (unhide HT).mono ?_; rintro e' w1 ⟨rfl, hb1⟩; have HB1 := hide (hb1); clear hb1) | (go_at_call 116; refine (unhide HO _).mono ?_; rintro e' w2 ⟨rfl, hb2⟩; have HB2 := hide (hb2); clear hb2))
    refine bodyPost_ret (by simp [results, Tryz.results36, go_sem]) rfl ⟨rfl, ((unhide HB).trans ((unhide HB1).mono (unhide HB).size)).trans ((unhide HB2).mono (Nat.le_trans (unhide HB).size (unhide HB1).size))⟩
  · rw [e, show tyP 3 = 123 from rfl] at HT
    go_enter Tryz.func36, Tryz.ntmps36
    go_wp2_with (first | (go_at_call 42; refine (unhide HT).mono ?_; rintro e' w1 ⟨rfl, hb1⟩; have HB1 := hide (hb1); clear hb1) | (go_at_call 116; refine (unhide HO _).mono ?_; rintro e' w2 ⟨rfl, hb2⟩; have HB2 := hide (hb2); clear hb2))
    refine bodyPost_ret (by simp [results, Tryz.results36, go_sem]) rfl ⟨rfl, ((unhide HB).trans ((unhide HB1).mono (unhide HB).size)).trans ((unhide HB2).mono (Nat.le_trans (unhide HB).size (unhide HB1).size))⟩
  · rw [e, show tyP 4 = 126 from rfl] at HT
    go_enter Tryz.func36, Tryz.ntmps36
    go_wp2_with (first | (go_at_call 42; refine (unhide HT).mono ?_; rintro e' w1 ⟨rfl, hb1⟩; have HB1 := hide (hb1); clear hb1) | (go_at_call 116; refine (unhide HO _).mono ?_; rintro e' w2 ⟨rfl, hb2⟩; have HB2 := hide (hb2); clear hb2))
    refine bodyPost_ret (by simp [results, Tryz.results36, go_sem]) rfl ⟨rfl, ((unhide HB).trans ((unhide HB1).mono (unhide HB).size)).trans ((unhide HB2).mono (Nat.le_trans (unhide HB).size (unhide HB1).size))⟩
theorem Used_any (h : HAt W l hb H) : Calls Tryz.prog 8 #[ptr hb] W fun e w' => e = .returned (.int .i64 H.used) ∧ w' = W := by
  obtain ⟨a, c, c0, c1, c2, fr, hc⟩ := h.cells
  unfold ptr
  clear hc h
  go_enter Tryz.func8, Tryz.ntmps8
  go_wp2
  go_ret
  exact ⟨rfl, rfl⟩
/-- A new heap: no thing. -/
def newLy (b : Nat) : Ly := ⟨fun k => if k = b then 1 else 0, fun _ => 0⟩
theorem new_at (W : World) (n : Nat) (hn : n ≤ 1048576) : HAt (W.alloc (.cells #[.int .i64 n, .int .i64 0, .slice none 0 0] 36)) (newLy W.heap.size) W.heap.size ⟨n, 0, []⟩ where
  box := ⟨_, Bx.new W _ _, World.ownsRow_nil _ _ _ _, fun g hg => by simp [Value.ownBlock] at hg⟩
  lh := by simp [newLy]
  fresh := fun k hk => by
    have : W.heap.size + 1 ≤ k := by simpa using hk
    simp [newLy]; omega
  th := fun i t hi => by simp at hi
  obj := fun i t j hi => by simp at hi
  room := hn
  sum := Nat.le_refl _
  used := Nat.zero_le _
theorem New_ok (n : Nat) (hn : n ≤ 1048576) (W : World) : Calls Tryz.prog 9 #[.int .i64 n] W fun e w' => e = .returned (.tuple #[ptr W.heap.size, .int .i64 0]) ∧ w' = W.alloc (.cells #[.int .i64 n, .int .i64 0, .slice none 0 0] 36) := by
  have e1 : decide ((n : Int) < 0) = false := by simp
  have e2 : decide ((1048576 : Int) < n) = false := by simp; omega
  unfold ptr
  go_enter Tryz.func9, Tryz.ntmps9
  go_wp2
  refine bodyPost_ret (by simp [results, Tryz.results9, go_sem]) rfl ⟨rfl, rfl⟩
end Go.Proofs.YtdgocaokmmhenaaGreatDoor
