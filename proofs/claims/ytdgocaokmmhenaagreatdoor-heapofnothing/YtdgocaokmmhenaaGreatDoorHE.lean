/- set of a member that is not there yet. -/
import Derived.Test.YtdgocaokmmhenaaGreatDoorHD
namespace Go.Proofs.YtdgocaokmmhenaaGreatDoor
set_option linter.unusedSimpArgs false
set_option linter.unusedVariables false
set_option maxRecDepth 100000
set_option maxHeartbeats 2000000
open Go.RowKit Go.Shelf

variable {w W : World} {l : Ly} {hb : Nat} {H : PH}
theorem put_new_keys (s : List (ByteArray × PV)) (k : ByteArray) (v : PV) (h : (look s k).isSome = false) : (put s k v).map (fun x => Value.string x.1) = s.map (fun x => Value.string x.1) ++ [.string k] ∧ (put s k v).length = s.length + 1 := by
  have h1 : (put s k v).map (·.1) = s.map (·.1) ++ [k] := by rw [put_keys, h]; rfl
  refine ⟨?_, by rw [put_length, h]; rfl⟩
  have := congrArg (List.map Value.string) h1
  rw [List.map_append, List.map_map, List.map_map] at this
  exact this
theorem set_same {α : Type} (l : List α) (i : Nat) (x : α) (h : l[i]? = some x) : l.set i x = l := by
  apply List.ext_getElem?
  intro j
  by_cases e : i = j
  · subst e
    rw [List.getElem?_set_self (List.getElem?_eq_some_iff.1 h).1, h]
  · rw [List.getElem?_set_ne e]
/-- Behind the append and the store into the map. -/
theorem set_new_end {w3 w4 w6 : World} (h3 : HAt w3 l hb H) (i : Nat) (t : Th) (hi : H.ths[i]? = some t) (hk : t.kind ≠ 2) (m : Nat) (kv : Value) (ob3 : ObAt w3 l i t (some m) kv) (key : ByteArray) (v : PV) (hh : (look t.slots key).isSome = false) (o : Obj) (g4 cap4 : Nat)
    (how : w4.ownsRow 0 9 1 (.slice (some ⟨g4, 0, none⟩) (t.slots.length + 1) cap4) (t.slots.length + 1) (t.slots.map (fun x => Value.string x.1) ++ [.string key])) (hgr : (w3.alloc o).grownBy w4 kv.ownBlock) (hat : kv.ownBlock = some g4 ∨ g4 = (w3.alloc o).heap.size) (hg4 : g4 < w4.heap.size)
    (h6 : (w4.setCell ⟨l.bx i, 2, none⟩ (.slice (some ⟨g4, 0, none⟩) (t.slots.length + 1) cap4)).drew.grownBy w6 (some m)) (hz6 : w6.heap.size = w4.heap.size) (hm6 : MapAt w6 m (put t.slots key v)) (hc : cellsH H.ths + 1 ≤ H.used) :
    HAt w6 (setL l w3.heap.size fun k => if k = g4 then 3 * i + 5 else 0) hb (H.setTh i t key v) ∧ St l.L (setL l w3.heap.size fun k => if k = g4 then 3 * i + 5 else 0).L w3 w6 := by
  have hth := h3.th i t hi
  have hlb := hth.lb
  have hmL := (ob3.map m rfl).2
  have hmw := (ob3.map m rfl).1.lt
  have hbl := ob3.box.lt
  have hmb : m ≠ l.bx i := fun e => by rw [← e] at hlb; omega
  have hnb : kv.ownBlock ≠ some (l.bx i) := fun e => by have := ob3.lr _ e; omega
  have hnm : kv.ownBlock ≠ some m := fun e => by have := ob3.lr _ e; omega
  have hs4 : w3.heap.size + 1 ≤ w4.heap.size := by have := hgr.size; simpa using this
  have hs5 : ∀ v, (w4.setCell ⟨l.bx i, 2, none⟩ v).heap.size = w4.heap.size := fun v => by simp [World.setCell]
  have h34 : ∀ j, j < w3.heap.size → kv.ownBlock ≠ some j → w4.heap[j]? = w3.heap[j]? := fun j hj hn => (hgr.block j (by simp; omega) (fun e => hn e.symm)).trans (Below.heap_alloc w3 _ j hj)
  have h45 : ∀ v j, j ≠ l.bx i → (w4.setCell ⟨l.bx i, 2, none⟩ v).heap[j]? = w4.heap[j]? := fun v j hj => Below.heap_setCell _ _ _ _ hj
  have h56 : ∀ j, j < w4.heap.size → j ≠ m → w6.heap[j]? = (w4.setCell ⟨l.bx i, 2, none⟩ (.slice (some ⟨g4, 0, none⟩) (t.slots.length + 1) cap4)).heap[j]? := fun j hj hn => h6.block j (by show j < (w4.setCell ⟨l.bx i, 2, none⟩ _).heap.size; rw [hs5]; exact hj) (fun e => hn (by cases e; rfl))
  have hol : ∀ g, kv.ownBlock = some g → g < w3.heap.size := fun g hg => row_lt ob3.row hg
  have hne4 : g4 ≠ l.bx i ∧ g4 ≠ m := by
    rcases hat with e | e
    · exact ⟨fun e' => hnb (e' ▸ e), fun e' => hnm (e' ▸ e)⟩
    · simp at e
      exact ⟨by omega, by omega⟩
  have hlow : ∀ k, k < w3.heap.size → (setL l w3.heap.size fun k => if k = g4 then 3 * i + 5 else 0).L k = l.L k := fun k hk' => setL_low _ _ _ hk'
  have hblk : ∀ k, k < w3.heap.size → l.L k ≠ 3 * i + 3 → l.L k ≠ 3 * i + 4 → l.L k ≠ 3 * i + 5 → w6.heap[k]? = w3.heap[k]? := fun k hk' e1 e2 e3 =>
    (h56 k (by omega) (fun e => e2 (e ▸ hmL))).trans ((h45 _ k (fun e => e1 (e ▸ hlb))).trans (h34 k hk' (fun e => e3 (ob3.lr k e))))
  obtain ⟨hpk, hpl⟩ := put_new_keys t.slots key v hh
  have hx4 : Bx w4 (l.bx i) #[bpv l t.beh, .map (some m), kv] (tyB t.kind) := (h34 _ hbl hnb).trans ob3.box
  have hx5 := hx4.set (i := 2) (.slice (some ⟨g4, 0, none⟩) (t.slots.length + 1) cap4)
  refine ⟨set_end h3 hi hk ob3 (.slice (some ⟨g4, 0, none⟩) (t.slots.length + 1) cap4) key v _ (fun k hk' => by rw [if_neg (by omega)]) (by omega) hblk ?_ hm6 ?_ (fun g hg => ?_) (by have := h3.sum; rw [hpl]; omega), ?_⟩
  · have hx5' : Bx (w4.setCell ⟨l.bx i, 2, none⟩ (.slice (some ⟨g4, 0, none⟩) (t.slots.length + 1) cap4)) (l.bx i) #[bpv l t.beh, .map (some m), .slice (some ⟨g4, 0, none⟩) (t.slots.length + 1) cap4] (tyB t.kind) := by simpa using hx5
    exact (h56 _ (by omega) (fun e => hmb e.symm)).trans hx5'
  · rw [hpk, hpl]
    exact row_keep how fun g hg => by simp [Value.ownBlock] at hg; subst hg; exact (h56 _ hg4 hne4.2).trans (h45 _ _ hne4.1)
  · simp [Value.ownBlock] at hg
    subst hg
    rcases hat with e | e
    · rw [hlow _ (hol _ e)]; exact ob3.lr _ e
    · simp at e
      simp [setL]; omega
  · exact ⟨h6.os.trans hgr.os, h6.tape.trans hgr.tape, h6.output.trans hgr.output, by omega, hlow, fun j hj h0 => hblk j hj (by omega) (by omega) (by omega)⟩
theorem set_newB (h : HAt W l hb H) (i : Nat) (t : Th) (hi : H.ths[i]? = some t) (hk : t.kind ≠ 2) (m : Nat) (kv : Value) (ob : ObAt W l i t (some m) kv) (key : ByteArray) (hs : key.size ≤ 140737488355328) (v : PV) (hh : (look t.slots key).isSome = false) (hc : cellsH H.ths + 1 ≤ H.used) :
    Calls Tryz.prog 39 #[ptr (l.bx i), .string key, v.agg] W fun e w' => e = .returned (.tuple #[]) ∧ ∃ l', HAt w' l' hb (H.setTh i t key v) ∧ St l.L l'.L W w' ∧ l'.bx = l.bx := by
  obtain ⟨W0, hW0⟩ : ∃ W0, W.alloc (.cells #[.int .i64 v.k, .int .i64 v.n, .string v.t] 23) = W0 := ⟨_, rfl⟩
  have hb0 : Below W.heap.size W W0 := by rw [← hW0]; exact below_one _ _
  have hx0 : Bv W0 W.heap.size v.k v.n v.t := by rw [← hW0]; exact Bx.new _ _ _
  have hsm : key.size ≤ maxLen := by unfold maxLen; omega
  have hth := h.th i t hi
  obtain ⟨b, hbb⟩ : ∃ b, l.bx i = b := ⟨_, rfl⟩
  have HCL : Hid (∀ w, Calls Tryz.prog 37 #[.string key] w fun e w' => e = .returned (.string key) ∧ Below w.heap.size w w') := fun w => clone21 key w (by omega)
  obtain ⟨q, hq⟩ := bpv_form l t.beh
  have HC : Hid (∀ w1, Below W.heap.size W w1 → Bx w1 b #[.pointer q, .map (some m), kv] (tyB t.kind)) := fun w1 hb1 => by
    have := (ob.below hth.lb hb1).box
    rw [hbb, hq] at this
    exact this
  have HHS : Hid (∀ w1, Below W.heap.size W w1 → Calls Tryz.prog 38 #[.pointer (some ⟨b, 0, none⟩), .string key] w1 fun e w' => e = .returned (.bool false) ∧ Below w1.heap.size w1 w') := fun w1 hb1 => has_ob (ob.below hth.lb hb1) hth.lb key hsm b hbb false hh
  have HOB : Hid (∀ w1, Below W.heap.size W w1 → HAt w1 l hb H ∧ ObAt w1 l i t (some m) kv) := fun w1 hb1 => ⟨h.below hb1, ob.below hth.lb hb1⟩
  have HSL := hide (vals_len h hi).2
  have HK := hide (key9 hsm)
  have HX0 := hide hx0
  have HB0 := hide hb0
  have HBB := hide hbb
  have HQ := hide hq
  have HI := hide hi
  have HKD := hide hk
  have HH' := hide hh
  have HCC := hide hc
  have HTL := hide hth.lb
  have U0 := hide (h.fresh W.heap.size (Nat.le_refl _))
  have hrow := ob.row
  obtain ⟨a, c, hkv⟩ : ∃ a c, kv = .slice a t.slots.length c := by
    rcases hrow.2 with ⟨h1, h2⟩ | ⟨g, cap, cur, h1, _⟩
    · exact ⟨none, 0, by rw [h1]; simp at h2; simp [h2]⟩
    · exact ⟨_, _, h1⟩
  subst hkv
  have HNB : Hid ((Value.slice a t.slots.length c).ownBlock ≠ some b) := fun e => by have h1 := ob.lr b e; have h2 := hth.lb; rw [hbb] at h2; omega
  obtain ⟨i0, hi0, hz0, hz1, hz2⟩ := info_parts info9
  have hsl := (vals_len h hi).2
  have qT : ∀ (w : World) (r : Option Nat), (binOp .eql 119 (.map r) (.map none)).run Tryz.prog w = .ok (.bool r.isNone) w := fun w r => run_eql_map_nil w _ _ _ r Tryz.underlying119
  rw [hbb]
  unfold PV.agg Vc ptr
  clear h hi hk hs hsm hh hb0 hx0 hth ob hbb hq hc hrow
  go_enter Tryz.func39, Tryz.ntmps39
  go_wp2_with (first
    | (go_at_call 37
       refine (unhide HCL _).mono ?_
       rintro e w1 ⟨rfl, hb1⟩
       have HB1 := hide (Below.up (unhide HB0) hb1)
       have hc := unhide HC w1 (unhide HB1)
       have c0 := hc.cell 0 rfl
       have c1 := hc.cell 1 rfl
       have c2 := hc.cell 2 rfl
       have cf := hc.free 1
       have hbl := hc.lt
       have X1 := hide ((unhide HX0).below hb1 (unhide HX0).lt)
       clear hb1 hc)
    | (go_at_call 38
       refine (unhide HHS w1 (unhide HB1)).mono ?_
       rintro e w3 ⟨rfl, hb3⟩
       have HB3 := hide (Below.up (unhide HB1) hb3)
       obtain ⟨u1, u2⟩ := unhide HOB w3 (unhide HB3)
       have hc := unhide HC w3 (unhide HB3)
       have e0 := hc.cell 0 rfl
       have e1 := hc.cell 1 rfl
       have e2 := hc.cell 2 rfl
       have ef := hc.free 2
       have HBX3 := hide hc
       have hbl3 := hc.lt
       have X3 := hide ((unhide X1).below hb3 (unhide X1).lt)
       have R3 := hide u2.row
       have U1 := hide u1
       have U2 := hide u2
       clear hb3 hc u1 u2)
    | (refine wpList_append_lies _ rfl _ _ _ rfl 0 9 i0 _ 1 16 Tryz.underlying120 hi0 hz0 hz1 hz2 rfl (by omega) _ t.slots.length (t.slots.map fun x => Value.string x.1) rfl ((unhide R3).alloc _) ⟨_, 0, none⟩ 1 1 [.string key] rfl rfl (World.news_of_block (cs := #[.string key]) (t := 9) (fr := (0, 0)) (al_at w3 _)) (by intro u hu; simp at hu; subst hu; rfl) (by omega) (by unfold maxLen; omega) (by omega) (by omega) _ rfl ?_
       intro g4 cap4 w4 hown4 hgrow4 hat4 hlt4
       have hM4 : w4.heap[b]? = w3.heap[b]? := (hgrow4.block b (by simp; omega) (fun e => unhide HNB e.symm)).trans (Below.heap_alloc w3 _ b hbl3)
       have m0 := (World.cell?_of_block (w := w3) (a := ⟨b, 0, none⟩) hM4).trans e0
       have m1 := (World.cell?_of_block (w := w3) (a := ⟨b, 1, none⟩) hM4).trans e1
       have m2 := (World.cell?_of_block (w := w3) (a := ⟨b, 2, none⟩) hM4).trans e2
       have f4 := (World.frozen?_of_block (w := w3) (a := ⟨b, 2, none⟩) hM4).trans ef
       have HBX4 := hide (show Bx w4 b _ _ from hM4.trans (unhide HBX3))
       have HW4 := hide hown4
       have HG4 := hide hgrow4
       have HA4 := hide hat4
       have HX4 : Hid (Bv w4 W.heap.size v.k v.n v.t) := ((hgrow4.block W.heap.size (by have := (unhide X3).lt; simp; omega) (fun e => by have h1 := (unhide U2).lr _ e.symm; have h2 := (unhide U0) ; omega)).trans (Below.heap_alloc w3 _ _ (unhide X3).lt)).trans (unhide X3)
       clear hown4 hgrow4 hM4 hat4))
  obtain ⟨w5, hw5⟩ : ∃ w5, w4.setCell ⟨b, 2, none⟩ (.slice (some ⟨g4, 0, none⟩) (t.slots.length + 1) cap4) = w5 := ⟨_, rfl⟩
  have hub := unhide U2
  have hlbb : l.L b = 3 * i + 3 := by rw [← unhide HBB]; exact unhide HTL
  have hmL := (hub.map m rfl).2
  have hmw := (hub.map m rfl).1
  have hml := hmw.lt
  have hmb : m ≠ b := fun e => by rw [e, hlbb] at hmL; omega
  have hnm : (Value.slice a t.slots.length c).ownBlock ≠ some m := fun e => by have := hub.lr _ e; omega
  have hm4 : MapAt w4 m t.slots := map_keep hmw (((unhide HG4).block _ (by simp; omega) (fun e => hnm e.symm)).trans (Below.heap_alloc w3 _ _ hml))
  have hm5 : MapAt w5 m t.slots := map_keep hm4 (by rw [← hw5]; exact Below.heap_setCell _ _ _ _ hmb)
  have hvb : W.heap.size ≠ b := fun e => by have h1 := unhide U0; rw [e, hlbb] at h1; omega
  have hx5 : Bv w5 W.heap.size v.k v.n v.t := by rw [← hw5]; exact Bx.other (unhide HX4) hvb _
  obtain ⟨z0, z1, z2, s0, s1, s2, lz⟩ := hx5.all
  have hb5 := Bx.set (unhide HBX4) (i := 2) (.slice (some ⟨g4, 0, none⟩) (t.slots.length + 1) cap4)
  rw [hw5] at hb5
  have x1 := hb5.cell 1 rfl
  have hsz5 : w5.heap.size = w4.heap.size := by rw [← hw5]; simp [World.setCell]
  have HSZ5 := hide hsz5
  obtain ⟨D, ho, hD⟩ := hm5
  obtain ⟨w6, hrun, ho6, ht6⟩ := ho.drew.store law9 Tryz.underlying119 (by have := unhide HSL; unfold maxLen; omega) (unhide HK) (vElem_mk v)
  unfold PV.agg Vc at hrun
  have HG6 := hide ht6.grown
  have HM6 : Hid (MapAt w6 m (put t.slots key v)) := ⟨_, by
    have h1 := ho6
    have h2 : (put t.slots key v).length = Maps.size (D.put (keyL key) (vD v)) := (hD.put key v).size.symm
    rw [h2]
    obtain ⟨es, clock, a1, a2, a3, a4⟩ := h1
    refine ⟨es, clock, a1, a2, ?_, a4⟩
    rw [a4]
    simp [Maps.size, Go.length_sorted], hD.put key v⟩
  have HSZ6 : Hid (w6.heap.size = w5.heap.size) := by
    obtain ⟨es, cl, es', cl', _, rfl⟩ := ht6
    show (Array.setIfInBounds _ _ _).size = _
    rw [Array.size_setIfInBounds]
    rfl
  rw [hw5]
  have HW5 := hide hw5
  clear hsz5 hub hlbb hmL hmw hml hmb hnm hm4 hvb hx5 hb5 ho hD ho6 ht6 hw5 lz
  go_region
  all_goals go_wp2
  all_goals refine bodyPost_end (by simp [results, Tryz.results39, go_sem]; rfl) rfl ?_
  all_goals (
    have hw5 := unhide HW5
    have hbb := unhide HBB
    subst hw5
    subst hbb
    have q := set_new_end (unhide U1) i t (unhide HI) (unhide HKD) m (.slice a t.slots.length c) (unhide U2) key v (unhide HH') _ g4 cap4 (unhide HW4) (unhide HG4) (unhide HA4) hlt4 (w6 := w6) (unhide HG6) ((unhide HSZ6).trans (unhide HSZ5)) (unhide HM6) (unhide HCC)
    exact ⟨rfl, _, q.1, (St.of_below (unhide HB3)).trans q.2, rfl⟩)
theorem set_newA (h : HAt W l hb H) (i : Nat) (t : Th) (hi : H.ths[i]? = some t) (hk : t.kind ≠ 2) (kv : Value) (ob : ObAt W l i t none kv) (key : ByteArray) (hs : key.size ≤ 140737488355328) (v : PV) (hh : (look t.slots key).isSome = false) (hc : cellsH H.ths + 1 ≤ H.used) :
    Calls Tryz.prog 39 #[ptr (l.bx i), .string key, v.agg] W fun e w' => e = .returned (.tuple #[]) ∧ ∃ l', HAt w' l' hb (H.setTh i t key v) ∧ St l.L l'.L W w' ∧ l'.bx = l.bx := by
  obtain ⟨W0, hW0⟩ : ∃ W0, W.alloc (.cells #[.int .i64 v.k, .int .i64 v.n, .string v.t] 23) = W0 := ⟨_, rfl⟩
  have hb0 : Below W.heap.size W W0 := by rw [← hW0]; exact below_one _ _
  have hx0 : Bv W0 W.heap.size v.k v.n v.t := by rw [← hW0]; exact Bx.new _ _ _
  have hsm : key.size ≤ maxLen := by unfold maxLen; omega
  have hth := h.th i t hi
  obtain ⟨b, hbb⟩ : ∃ b, l.bx i = b := ⟨_, rfl⟩
  have HCL : Hid (∀ w, Calls Tryz.prog 37 #[.string key] w fun e w' => e = .returned (.string key) ∧ Below w.heap.size w w') := fun w => clone21 key w (by omega)
  obtain ⟨q, hq⟩ := bpv_form l t.beh
  have HC : Hid (∀ w1, Below W.heap.size W w1 → Bx w1 b #[.pointer q, .map none, kv] (tyB t.kind)) := fun w1 hb1 => by
    have := (ob.below hth.lb hb1).box
    rw [hbb, hq] at this
    exact this
  have hsl0 := ob.nomap rfl
  have HUP : Hid (∀ w1, Below W.heap.size W w1 → HAt ((w1.alloc (.map #[] 0)).setCell ⟨b, 1, none⟩ (.map (some w1.heap.size))) (setL l w1.heap.size fun k => if k = w1.heap.size then 3 * i + 4 else 0) hb H ∧ ObAt ((w1.alloc (.map #[] 0)).setCell ⟨b, 1, none⟩ (.map (some w1.heap.size))) (setL l w1.heap.size fun k => if k = w1.heap.size then 3 * i + 4 else 0) i t (some w1.heap.size) kv ∧ St l.L (setL l w1.heap.size fun k => if k = w1.heap.size then 3 * i + 4 else 0).L W ((w1.alloc (.map #[] 0)).setCell ⟨b, 1, none⟩ (.map (some w1.heap.size)))) := fun w1 hb1 => by
    have h1 := h.below hb1
    have ob1 := ob.below hth.lb hb1
    have hbl := ob1.box.lt
    rw [hbb] at hbl
    have hlb := hth.lb
    rw [hbb] at hlb
    have hlow : ∀ k, k < w1.heap.size → (setL l w1.heap.size fun k => if k = w1.heap.size then 3 * i + 4 else 0).L k = l.L k := fun k hk' => setL_low _ _ _ hk'
    have hsz : ((w1.alloc (.map #[] 0)).setCell ⟨b, 1, none⟩ (.map (some w1.heap.size))).heap.size = w1.heap.size + 1 := by simp [World.setCell]
    have hblk : ∀ k, k < w1.heap.size → k ≠ b → ((w1.alloc (.map #[] 0)).setCell ⟨b, 1, none⟩ (.map (some w1.heap.size))).heap[k]? = w1.heap[k]? := fun k hk' hne => (Below.heap_setCell _ _ _ _ hne).trans (Below.heap_alloc w1 _ k hk')
    have hob : ObAt ((w1.alloc (.map #[] 0)).setCell ⟨b, 1, none⟩ (.map (some w1.heap.size))) (setL l w1.heap.size fun k => if k = w1.heap.size then 3 * i + 4 else 0) i t (some w1.heap.size) kv := {
      box := by
        have hx1 := ob1.box
        rw [hbb] at hx1
        have := ((show Bx w1 b _ _ from hx1).alloc (.map #[] 0)).set (i := 1) (.map (some w1.heap.size))
        show Bx _ (l.bx i) #[bpv l t.beh, _, _] _
        rw [hbb]
        simpa using this
      map := fun m hm => by
        cases hm
        refine ⟨⟨.map [], ?_, by rw [hsl0]; exact MapD.nil⟩, by simp [setL]⟩
        rw [hsl0]
        obtain ⟨es, clock, e1, e2⟩ := World.ownsMap_made (H := Unit) w1 Tryz.prog 9 vElem
        exact ⟨es, clock, (Below.heap_setCell _ _ _ _ (by simp; omega)).trans e1, e2⟩
      nomap := fun e => by cases e
      row := row_keep ob1.row fun g hg => hblk g (row_lt ob1.row hg) (fun e => by have := ob1.lr g hg; rw [e] at this; omega)
      lr := fun g hg => (hlow g (row_lt ob1.row hg)).trans (ob1.lr g hg) }
    refine ⟨?_, hob, (St.of_below hb1).trans ⟨rfl, rfl, rfl, by rw [hsz]; omega, hlow, fun k hk' h0 => hblk k hk' (fun e => by rw [e] at h0; omega)⟩⟩
    have hiset : H.ths.set i t = H.ths := set_same _ _ _ hi
    have hlbn : (setL l w1.heap.size fun k => if k = w1.heap.size then 3 * i + 4 else 0).L ((setL l w1.heap.size fun k => if k = w1.heap.size then 3 * i + 4 else 0).bx i) = 3 * i + 3 := by
      show (setL l w1.heap.size _).L (l.bx i) = _
      rw [hbb, hlow b hbl]; exact hlb
    have := HAt.upd (t' := t) (l' := setL l w1.heap.size fun k => if k = w1.heap.size then 3 * i + 4 else 0) (w5 := (w1.alloc (.map #[] 0)).setCell ⟨b, 1, none⟩ (.map (some w1.heap.size))) (r := H.room) (u := H.used) h1 hi rfl rfl rfl hlow (fun k hk' => by
        rw [hsz] at hk'
        have e1 : ¬ k < w1.heap.size := by omega
        have e2 : k ≠ w1.heap.size := by omega
        simp [setL, e1, e2]) (fun k hk' e1 _ _ => hblk k hk' (fun e => by rw [e] at e1; omega)) { lb := hlbn, kd := hth.kd, arr := fun e => absurd e hk, obj := fun _ => ⟨(hth.obj hk).1, _, kv, hob⟩, beh := hth.beh } (by rw [hiset]; exact h1.sum)
    rw [hiset] at this
    exact this
  have HHS : Hid (∀ w2 l2 m2, ObAt w2 l2 i t (some m2) kv → l2.bx = l.bx → l2.L b = 3 * i + 3 → Calls Tryz.prog 38 #[.pointer (some ⟨b, 0, none⟩), .string key] w2 fun e w' => e = .returned (.bool false) ∧ Below w2.heap.size w2 w') := fun w2 l2 m2 o2 hx2 hL2 => has_ob o2 (by rw [hx2, hbb]; exact hL2) key hsm b (by rw [hx2]; exact hbb) false hh
  have HSL := hide (vals_len h hi).2
  have HK := hide (key9 hsm)
  have HX0 := hide hx0
  have HB0 := hide hb0
  have HBB := hide hbb
  have HQ := hide hq
  have HI := hide hi
  have HKD := hide hk
  have HH' := hide hh
  have HCC := hide hc
  have HTL := hide hth.lb
  have U0 := hide (h.fresh W.heap.size (Nat.le_refl _))
  have hrow := ob.row
  obtain ⟨a, c, hkv⟩ : ∃ a c, kv = .slice a t.slots.length c := by
    rcases hrow.2 with ⟨h1, h2⟩ | ⟨g, cap, cur, h1, _⟩
    · exact ⟨none, 0, by rw [h1]; simp at h2; simp [h2]⟩
    · exact ⟨_, _, h1⟩
  subst hkv
  have HNB : Hid ((Value.slice a t.slots.length c).ownBlock ≠ some b) := fun e => by have h1 := ob.lr b e; have h2 := hth.lb; rw [hbb] at h2; omega
  obtain ⟨i0, hi0, hz0, hz1, hz2⟩ := info_parts info9
  have hsl := (vals_len h hi).2
  have qT : ∀ (w : World) (r : Option Nat), (binOp .eql 119 (.map r) (.map none)).run Tryz.prog w = .ok (.bool r.isNone) w := fun w r => run_eql_map_nil w _ _ _ r Tryz.underlying119
  have hmm := @run_makeMap Tryz.prog
  rw [hbb]
  unfold PV.agg Vc ptr
  clear h hi hk hs hsm hh hb0 hx0 hth ob hbb hq hc hrow hsl0
  go_enter Tryz.func39, Tryz.ntmps39
  go_wp2_with (first
    | (go_at_call 37
       refine (unhide HCL _).mono ?_
       rintro e w1 ⟨rfl, hb1⟩
       have HB1 := hide (Below.up (unhide HB0) hb1)
       have hc := unhide HC w1 (unhide HB1)
       have c0 := hc.cell 0 rfl
       have c1 := hc.cell 1 rfl
       have c2 := hc.cell 2 rfl
       have cf := hc.free 1
       have hbl := hc.lt
       have X1 := hide ((unhide HX0).below hb1 (unhide HX0).lt)
       obtain ⟨w2, hw2⟩ : ∃ w2, (w1.alloc (.map #[] 0)).setCell ⟨b, 1, none⟩ (.map (some w1.heap.size)) = w2 := ⟨_, rfl⟩
       have hup := unhide HUP w1 (unhide HB1)
       rw [hw2] at hup
       obtain ⟨u1, u2, u3⟩ := hup
       obtain ⟨l2, hl2⟩ : ∃ l2, (setL l w1.heap.size fun k => if k = w1.heap.size then 3 * i + 4 else 0) = l2 := ⟨_, rfl⟩
       have hx2 : l2.bx = l.bx := by rw [← hl2]; rfl
       have hL2 : l2.L b = 3 * i + 3 := by rw [← hl2, setL_low _ _ _ hbl, ← unhide HBB]; exact unhide HTL
       have hlw : l2.L W.heap.size = 0 := by rw [← hl2, setL_low _ _ _ (unhide X1).lt]; exact unhide U0
       have HLW := hide hlw
       rw [hl2] at u1 u2 u3
       have hxb : Bv w2 W.heap.size v.k v.n v.t := by rw [← hw2]; exact ((unhide X1).alloc _).other (by have h1 := (unhide HB0).size; have h2 := (unhide HX0).lt; have h3 := hc.lt; intro e; have h4 := unhide HC W (Below.refl _ _); have h5 := h4.lt; omega) _
       have X2 := hide hxb
       have U1 := hide u1
       have U2 := hide u2
       have U3 := hide u3
       have HX2 := hide hx2
       have HL2 := hide hL2
       have HW2 := hide hw2
       have hsz1 : Hid (w1.heap.size < w2.heap.size) := (u2.map _ rfl).1.lt
       have hxm := u2.box
       rw [hx2, unhide HBB] at hxm
       have d0 := hxm.cell 0 rfl
       have d1 := hxm.cell 1 rfl
       have d2 := hxm.cell 2 rfl
       have hm2 := hxm.lt
       clear hb1 hc u1 u2 u3 hx2 hL2 hxb hxm hl2 hlw)
    | (go_at_call 38
       refine (unhide HHS w2 l2 w1.heap.size (unhide U2) (unhide HX2) (unhide HL2)).mono ?_
       rintro e w3 ⟨rfl, hb3⟩
       have u1 := (unhide U1).below hb3
       have u2 := (unhide U2).below (by rw [unhide HX2, unhide HBB]; exact unhide HL2) hb3
       have U3 := hide ((unhide U3).trans (St.of_below hb3))
       have hxm := u2.box
       rw [unhide HX2, unhide HBB] at hxm
       have e0 := hxm.cell 0 rfl
       have e1 := hxm.cell 1 rfl
       have e2 := hxm.cell 2 rfl
       have ef := hxm.free 2
       have HBX3 := hide hxm
       have hbl3 := hxm.lt
       have X3 := hide ((unhide X2).below hb3 (unhide X2).lt)
       have R3 := hide u2.row
       have U1 := hide u1
       have U2 := hide u2
       clear hb3 u1 u2 hxm)
    | (refine wpList_append_lies _ rfl _ _ _ rfl 0 9 i0 _ 1 16 Tryz.underlying120 hi0 hz0 hz1 hz2 rfl (by omega) _ t.slots.length (t.slots.map fun x => Value.string x.1) rfl ((unhide R3).alloc _) ⟨_, 0, none⟩ 1 1 [.string key] rfl rfl (World.news_of_block (cs := #[.string key]) (t := 9) (fr := (0, 0)) (al_at w3 _)) (by intro u hu; simp at hu; subst hu; rfl) (by omega) (by unfold maxLen; omega) (by omega) (by omega) _ rfl ?_
       intro g4 cap4 w4 hown4 hgrow4 hat4 hlt4
       have hM4 : w4.heap[b]? = w3.heap[b]? := (hgrow4.block b (by simp; omega) (fun e => unhide HNB e.symm)).trans (Below.heap_alloc w3 _ b hbl3)
       have m0 := (World.cell?_of_block (w := w3) (a := ⟨b, 0, none⟩) hM4).trans e0
       have m1 := (World.cell?_of_block (w := w3) (a := ⟨b, 1, none⟩) hM4).trans e1
       have m2 := (World.cell?_of_block (w := w3) (a := ⟨b, 2, none⟩) hM4).trans e2
       have f4 := (World.frozen?_of_block (w := w3) (a := ⟨b, 2, none⟩) hM4).trans ef
       have HBX4 := hide (show Bx w4 b _ _ from hM4.trans (unhide HBX3))
       have HW4 := hide hown4
       have HG4 := hide hgrow4
       have HA4 := hide hat4
       have HX4 : Hid (Bv w4 W.heap.size v.k v.n v.t) := ((hgrow4.block W.heap.size (by have := (unhide X3).lt; simp; omega) (fun e => by have h1 := (unhide U2).lr _ e.symm; have h2 := unhide HLW; omega)).trans (Below.heap_alloc w3 _ _ (unhide X3).lt)).trans (unhide X3)
       clear hown4 hgrow4 hM4 hat4))
  obtain ⟨w5, hw5⟩ : ∃ w5, w4.setCell ⟨b, 2, none⟩ (.slice (some ⟨g4, 0, none⟩) (t.slots.length + 1) cap4) = w5 := ⟨_, rfl⟩
  have hub := unhide U2
  have hlbb : l2.L b = 3 * i + 3 := unhide HL2
  have hmL := (hub.map w1.heap.size rfl).2
  have hmw := (hub.map w1.heap.size rfl).1
  have hml := hmw.lt
  have hmb : w1.heap.size ≠ b := fun e => by rw [e, hlbb] at hmL; omega
  have hnm : (Value.slice a t.slots.length c).ownBlock ≠ some w1.heap.size := fun e => by have := hub.lr _ e; omega
  have hm4 : MapAt w4 w1.heap.size t.slots := map_keep hmw (((unhide HG4).block _ (by simp; omega) (fun e => hnm e.symm)).trans (Below.heap_alloc w3 _ _ hml))
  have hm5 : MapAt w5 w1.heap.size t.slots := map_keep hm4 (by rw [← hw5]; exact Below.heap_setCell _ _ _ _ hmb)
  have hvb : W.heap.size ≠ b := fun e => by have h1 := unhide HLW; rw [e, hlbb] at h1; omega
  have hx5 : Bv w5 W.heap.size v.k v.n v.t := by rw [← hw5]; exact Bx.other (unhide HX4) hvb _
  obtain ⟨z0, z1, z2, s0, s1, s2, lz⟩ := hx5.all
  have hb5 := Bx.set (unhide HBX4) (i := 2) (.slice (some ⟨g4, 0, none⟩) (t.slots.length + 1) cap4)
  rw [hw5] at hb5
  have x1 := hb5.cell 1 rfl
  have hsz5 : w5.heap.size = w4.heap.size := by rw [← hw5]; simp [World.setCell]
  have HSZ5 := hide hsz5
  obtain ⟨D, ho, hD⟩ := hm5
  obtain ⟨w6, hrun, ho6, ht6⟩ := ho.drew.store law9 Tryz.underlying119 (by have := unhide HSL; unfold maxLen; omega) (unhide HK) (vElem_mk v)
  unfold PV.agg Vc at hrun
  have HG6 := hide ht6.grown
  have HM6 : Hid (MapAt w6 w1.heap.size (put t.slots key v)) := ⟨_, by
    have h1 := ho6
    have h2 : (put t.slots key v).length = Maps.size (D.put (keyL key) (vD v)) := (hD.put key v).size.symm
    rw [h2]
    obtain ⟨es, clock, a1, a2, a3, a4⟩ := h1
    refine ⟨es, clock, a1, a2, ?_, a4⟩
    rw [a4]
    simp [Maps.size, Go.length_sorted], hD.put key v⟩
  have HSZ6 : Hid (w6.heap.size = w5.heap.size) := by
    obtain ⟨es, cl, es', cl', _, rfl⟩ := ht6
    show (Array.setIfInBounds _ _ _).size = _
    rw [Array.size_setIfInBounds]
    rfl
  rw [hw5]
  have HW5 := hide hw5
  clear hsz5 hub hlbb hmL hmw hml hmb hnm hm4 hvb hx5 hb5 ho hD ho6 ht6 hw5 lz
  go_region
  all_goals go_wp2
  all_goals refine bodyPost_end (by simp [results, Tryz.results39, go_sem]; rfl) rfl ?_
  all_goals (
    have hw5 := unhide HW5
    have hbb := unhide HBB
    subst hw5
    subst hbb
    have q := set_new_end (unhide U1) i t (unhide HI) (unhide HKD) w1.heap.size (.slice a t.slots.length c) (unhide U2) key v (unhide HH') _ g4 cap4 (unhide HW4) (unhide HG4) (unhide HA4) hlt4 (w6 := w6) (by have := unhide HG6; rw [unhide HX2]; exact this) ((unhide HSZ6).trans (unhide HSZ5)) (unhide HM6) (unhide HCC)
    exact ⟨rfl, _, q.1, (unhide U3).trans q.2, unhide HX2⟩)
end Go.Proofs.YtdgocaokmmhenaaGreatDoor
