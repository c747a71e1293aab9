/- Members: has, set. -/
import Derived.Deep.RegionLaw
import Derived.Deep.AppendLies
import Derived.WalkSpells
import Derived.Carry
import Derived.Test.YtdgocaokmmhenaaGreatDoorHC0
namespace Go.Proofs.YtdgocaokmmhenaaGreatDoor
set_option linter.unusedSimpArgs false
set_option linter.unusedVariables false
set_option maxRecDepth 100000
set_option maxHeartbeats 2000000
open Go.RowKit Go.Shelf

variable {w W : World} {l : Ly} {hb : Nat} {H : PH}
theorem ObAt.below {w' : World} {i : Nat} {t : Th} {mv : Option Nat} {kv : Value} (h : ObAt W l i t mv kv) (h0 : l.L (l.bx i) = 3 * i + 3) (k : Below W.heap.size W w') : ObAt w' l i t mv kv :=
  h.keep rfl (fun _ _ => rfl) (fun j hj _ => k.block j hj) (fun _ _ => rfl) h0
theorem has_ob {i : Nat} {t : Th} {mv : Option Nat} {kv : Value} (h : ObAt W l i t mv kv) (h0 : l.L (l.bx i) = 3 * i + 3) (key : ByteArray) (hs : key.size ≤ maxLen) (b : Nat) (hb : l.bx i = b) (is : Bool) (his : (look t.slots key).isSome = is) : Calls Tryz.prog 38 #[ptr b, .string key] W fun e w' => e = .returned (.bool is) ∧ Below W.heap.size W w' := by
  have hrun := look_run h key hs
  rw [his] at hrun
  have hbx := h.box
  rw [hb] at hbx
  obtain ⟨p, hp⟩ := bpv_form l t.beh
  rw [hp] at hbx
  have c1 := hbx.cell 1 rfl
  obtain ⟨⟨k1, n1, t1⟩, hy⟩ : ∃ y, (look t.slots key).getD PV.und = y := ⟨_, rfl⟩
  rw [hy] at hrun
  unfold PV.agg Vc at hrun
  obtain ⟨W3, hW3, ⟨na, nb, nc, o0, o1, o2⟩, hx3, hb3, hz3⟩ := new3 W (.int .i64 0) (.int .i64 0) (.string ⟨#[]⟩) 23
  have HB3 := hide hb3
  unfold ptr
  clear h h0 hs hb his hbx hp hy hx3 hb3 hz3
  go_enter Tryz.func38, Tryz.ntmps38
  go_wp2
  go_ret
  exact ⟨rfl, below_put3 (unhide HB3) (Nat.le_refl _) _ _ _⟩
theorem put_len_le (s : List (ByteArray × PV)) (k : ByteArray) (v : PV) : (put s k v).length ≤ s.length + 1 := by
  rw [put_length]; split <;> omega
/-- The heap behind a store of a member. -/
theorem set_end {w3 w6 : World} {r u : Nat} {ths : List Th} (h : HAt w3 l hb ⟨r, u, ths⟩) {i : Nat} {t : Th} (hi : ths[i]? = some t) (hk : t.kind ≠ 2) {m : Nat} {kv : Value} (ob : ObAt w3 l i t (some m) kv) (kv' : Value) (key : ByteArray) (v : PV) (f : Nat → Nat)
    (hf : ∀ k, w6.heap.size ≤ k → f k = 0) (hsz : w3.heap.size ≤ w6.heap.size)
    (hblk : ∀ k, k < w3.heap.size → l.L k ≠ 3 * i + 3 → l.L k ≠ 3 * i + 4 → l.L k ≠ 3 * i + 5 → w6.heap[k]? = w3.heap[k]?)
    (hbox : Bx w6 (l.bx i) #[bpv l t.beh, .map (some m), kv'] (tyB t.kind)) (hmap : MapAt w6 m (put t.slots key v))
    (hrow : w6.ownsRow 0 9 1 kv' (put t.slots key v).length ((put t.slots key v).map fun x => .string x.1))
    (hlr : ∀ g, kv'.ownBlock = some g → (setL l w3.heap.size f).L g = 3 * i + 5) (hc : cellsH ths + (put t.slots key v).length ≤ u + t.slots.length) :
    HAt w6 (setL l w3.heap.size f) hb ⟨r, u, ths.set i ⟨t.kind, t.beh, put t.slots key v, t.vals⟩⟩ := by
  have hth := h.th i t hi
  have hlow : ∀ k, k < w3.heap.size → (setL l w3.heap.size f).L k = l.L k := fun k hk' => setL_low _ _ _ hk'
  have hmw := ob.map m rfl
  refine HAt.upd h hi rfl rfl rfl hlow (fun k hk' => ?_) hblk ?_ ?_
  · have : ¬ k < w3.heap.size := by omega
    simp [setL, this, hf k hk']
  · refine { lb := (hlow _ ob.box.lt).trans hth.lb, kd := hth.kd, arr := fun e => absurd e hk, obj := fun _ => ⟨(hth.obj hk).1, some m, kv', ?_⟩, beh := hth.beh }
    exact { box := hbox, map := fun m' hm' => (by cases hm'; exact ⟨hmap, (hlow m hmw.1.lt).trans hmw.2⟩), nomap := (fun e => by cases e), row := hrow, lr := hlr }
  · have := cells_set ths i t ⟨t.kind, t.beh, put t.slots key v, t.vals⟩ hi
    simp only [cellsT] at this
    omega
def PH.setTh (H : PH) (i : Nat) (t : Th) (key : ByteArray) (v : PV) : PH := ⟨H.room, H.used, H.ths.set i ⟨t.kind, t.beh, put t.slots key v, t.vals⟩⟩
theorem info9 : (Tryz.prog.info? 9).map (fun i => (i.zero, i.size, i.bytes)) = some (some (.string ⟨#[]⟩), 1, 16) := by kernel_rfl
/-- A member that is there is set. -/
theorem set_old (h : HAt W l hb H) (i : Nat) (t : Th) (hi : H.ths[i]? = some t) (hk : t.kind ≠ 2) (key : ByteArray) (hs : key.size ≤ 140737488355328) (v : PV) (hh : (look t.slots key).isSome = true) :
    Calls Tryz.prog 39 #[ptr (l.bx i), .string key, v.agg] W fun e w' => e = .returned (.tuple #[]) ∧ ∃ l', HAt w' l' hb (H.setTh i t key v) ∧ St l.L l'.L W w' ∧ l'.bx = l.bx := by
  obtain ⟨W0, hW0⟩ : ∃ W0, W.alloc (.cells #[.int .i64 v.k, .int .i64 v.n, .string v.t] 23) = W0 := ⟨_, rfl⟩
  have hb0 : Below W.heap.size W W0 := by rw [← hW0]; exact below_one _ _
  have hx0 : Bv W0 W.heap.size v.k v.n v.t := by rw [← hW0]; exact Bx.new _ _ _
  have hsm : key.size ≤ maxLen := by unfold maxLen; omega
  have hth := h.th i t hi
  obtain ⟨_, mv, kv, ob⟩ := hth.obj hk
  obtain ⟨m, rfl⟩ : ∃ m, mv = some m := by
    cases mv with
    | none => rw [ob.nomap rfl] at hh; cases hh
    | some m => exact ⟨m, rfl⟩
  have HO := hide (fun w' (hw : Below W.heap.size W w') => ob.below hth.lb hw)
  obtain ⟨b, hbb⟩ : ∃ b, l.bx i = b := ⟨_, rfl⟩
  have HCL : Hid (∀ w, Calls Tryz.prog 37 #[.string key] w fun e w' => e = .returned (.string key) ∧ Below w.heap.size w w') := fun w => clone21 key w (by omega)
  have HHS : Hid (∀ w1, Below W.heap.size W w1 → Calls Tryz.prog 38 #[.pointer (some ⟨b, 0, none⟩), .string key] w1 fun e w' => e = .returned (.bool true) ∧ Below w1.heap.size w1 w') := fun w1 hb1 => has_ob (ob.below hth.lb hb1) hth.lb key hsm b hbb true hh
  obtain ⟨q, hq⟩ := bpv_form l t.beh
  have HC : Hid (∀ w1, Below W.heap.size W w1 → Bx w1 b #[.pointer q, .map (some m), kv] (tyB t.kind)) := fun w1 hb1 => by
    have := (ob.below hth.lb hb1).box
    rw [hbb, hq] at this
    exact this
  have HM : Hid (∀ w1, Below W.heap.size W w1 → MapAt w1 m t.slots) := fun w1 hb1 => ((ob.below hth.lb hb1).map m rfl).1
  have hmb : m ≠ b := fun e => by have h1 := (ob.map m rfl).2; have h2 := hth.lb; rw [hbb, ← e] at h2; omega
  have HSL := hide (vals_len h hi).2
  have HK := hide (key9 hsm)
  have HX0 := hide hx0
  have HB0 := hide hb0
  have HE : Hid (∀ w6 w3, Below W.heap.size W w3 → w6.os = w3.os → w6.tape = w3.tape → w6.output = w3.output → w6.heap.size = w3.heap.size → (∀ k, k < w3.heap.size → k ≠ m → w6.heap[k]? = w3.heap[k]?) → MapAt w6 m (put t.slots key v) → ∃ l', HAt w6 l' hb (H.setTh i t key v) ∧ St l.L l'.L W w6 ∧ l'.bx = l.bx) := fun w6 w3 hb3 ho ht hu hz hblk hmap => by
    have h3 := h.below hb3
    have ob3 := ob.below hth.lb hb3
    have hmL := (ob3.map m rfl).2
    have hkb : ∀ k, k < w3.heap.size → l.L k ≠ 3 * i + 4 → w6.heap[k]? = w3.heap[k]? := fun k hl hk' => hblk k hl (fun e => hk' (e ▸ hmL))
    have hpk : (put t.slots key v).map (·.1) = t.slots.map (·.1) := by rw [put_keys, hh]; rfl
    have hpl : (put t.slots key v).length = t.slots.length := by rw [put_length, hh]; rfl
    have he : (put t.slots key v).map (fun x => Value.string x.1) = t.slots.map (fun x => Value.string x.1) := by
      have := congrArg (List.map Value.string) hpk
      rw [List.map_map, List.map_map] at this
      exact this
    refine ⟨setL l w3.heap.size (fun _ => 0), set_end h3 hi hk ob3 kv key v (fun _ => 0) (fun _ _ => rfl) (by omega) (fun k hl _ h4 _ => hkb k hl h4) ((hkb _ ob3.box.lt (by rw [hth.lb]; omega)).trans ob3.box) hmap ?_ (fun g hg => (setL_low _ _ _ (row_lt ob3.row hg)).trans (ob3.lr g hg)) (by have := h.sum; omega), ?_, rfl⟩
    · rw [he, hpl]
      exact row_keep ob3.row fun g hg => hkb g (row_lt ob3.row hg) (by rw [ob3.lr g hg]; omega)
    · exact (St.of_below hb3).trans ⟨ho, ht, hu, by omega, fun k hk' => setL_low _ _ _ hk', fun k hl h0 => hkb k hl (by omega)⟩
  have qT : ∀ (w : World) (r : Option Nat), (binOp .eql 119 (.map r) (.map none)).run Tryz.prog w = .ok (.bool r.isNone) w := fun w r => run_eql_map_nil w _ _ _ r Tryz.underlying119
  rw [hbb]
  unfold PV.agg Vc ptr
  clear h hi hk hs hsm hh hb0 hx0 hth ob hbb hq
  go_enter Tryz.func39, Tryz.ntmps39
  go_wp2_with (first
    | (go_at_call 37
       refine (unhide HCL _).mono ?_
       rintro e w1 ⟨rfl, hb1⟩
       have HB1 := hide (Below.up (unhide HB0) hb1)
       have hc := unhide HC w1 (unhide HB1)
       have c0 := hc.cell 0 rfl
       have c1 := hc.cell 1 rfl
       have c2 := hc.cell 2 rfl
       have X1 := hide ((unhide HX0).below hb1 (unhide HX0).lt)
       clear hb1 hc)
    | (go_at_call 38
       refine (unhide HHS w1 (unhide HB1)).mono ?_
       rintro e w3 ⟨rfl, hb3⟩
       have HB3 := hide (Below.up (unhide HB1) hb3)
       have hc := unhide HC w3 (unhide HB3)
       have e0 := hc.cell 0 rfl
       have e1 := hc.cell 1 rfl
       have e2 := hc.cell 2 rfl
       have X3 := hide ((unhide X1).below hb3 (unhide X1).lt)
       obtain ⟨z0, z1, z2, s0, s1, s2, lz⟩ := (unhide X3).all
       clear hb3 hc))
  obtain ⟨D, ho, hD⟩ := unhide HM w3 (unhide HB3)
  obtain ⟨w6, hrun, ho6, ht6⟩ := ho.drew.store law9 Tryz.underlying119 (by have := unhide HSL; unfold maxLen; omega) (unhide HK) (vElem_mk v)
  unfold PV.agg Vc at hrun
  have HG6 := hide ht6.grown
  have HM6 : Hid (MapAt w6 m (put t.slots key v)) := ⟨_, by
    have h1 := ho6
    have h2 : (put t.slots key v).length = Maps.size (D.put (keyL key) (vD v)) := (hD.put key v).size.symm
    rw [h2]
    obtain ⟨es, clock, a1, a2, a3, a4⟩ := h1
    refine ⟨es, clock, a1, a2, ?_, a4⟩
    rw [a4]
    simp [Maps.size, Go.length_sorted], hD.put key v⟩
  have HSZ6 : Hid (w6.heap.size = w3.heap.size) := by
    obtain ⟨es, cl, es', cl', _, rfl⟩ := ht6
    show (Array.setIfInBounds _ _ _).size = _
    rw [Array.size_setIfInBounds]
    rfl
  clear ho hD ho6 ht6
  go_region
  all_goals go_wp2
  all_goals refine bodyPost_end (by simp [results, Tryz.results39, go_sem]; rfl) rfl ?_
  all_goals exact ⟨rfl, unhide HE w6 w3 (unhide HB3) (unhide HG6).os (unhide HG6).tape (unhide HG6).output (unhide HSZ6) (fun k hl hk => (unhide HG6).block k hl (fun e => hk (by cases e; rfl))) (unhide HM6)⟩
end Go.Proofs.YtdgocaokmmhenaaGreatDoor
