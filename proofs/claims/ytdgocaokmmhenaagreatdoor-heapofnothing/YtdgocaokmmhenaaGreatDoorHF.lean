/- Set of a thing that is no array. -/
import Derived.Test.YtdgocaokmmhenaaGreatDoorHE
namespace Go.Proofs.YtdgocaokmmhenaaGreatDoor
set_option linter.unusedSimpArgs false
set_option linter.unusedVariables false
set_option maxRecDepth 100000
set_option maxHeartbeats 2000000
open Go.RowKit Go.Shelf

variable {w W : World} {l : Ly} {hb : Nat} {H : PH}
theorem set_any (h : HAt W l hb H) (i : Nat) (t : Th) (hi : H.ths[i]? = some t) (hk : t.kind ≠ 2) (key : ByteArray) (hs : key.size ≤ 140737488355328) (v : PV) (hc : (look t.slots key).isSome = false → cellsH H.ths + 1 ≤ H.used) :
    Calls Tryz.prog 39 #[ptr (l.bx i), .string key, v.agg] W fun e w' => e = .returned (.tuple #[]) ∧ ∃ l', HAt w' l' hb (H.setTh i t key v) ∧ St l.L l'.L W w' ∧ l'.bx = l.bx := by
  cases hh : (look t.slots key).isSome with
  | true => exact set_old h i t hi hk key hs v hh
  | false =>
    obtain ⟨_, mv, kv, ob⟩ := (h.th i t hi).obj hk
    cases mv with
    | none => exact set_newA h i t hi hk kv ob key hs v hh (hc hh)
    | some m => exact set_newB h i t hi hk m kv ob key hs v hh (hc hh)
def PH.used1 (H : PH) : PH := ⟨H.room, H.used + 1, H.ths⟩
theorem Set_old (h : HAt W l hb H) (i : Nat) (t : Th) (hi : H.ths[i]? = some t) (hk : t.kind ≠ 2) (key : ByteArray) (hs : key.size ≤ 140737488355328) (s : ByteArray) (v : PV) (hv : v.t.size ≤ 281474976710656) (hh : (look t.slots key).isSome = true) :
    Calls Tryz.prog 11 #[ptr hb, .agg (Vc 5 i s), .string key, v.agg] W fun e w' => e = .returned (.tuple #[.string ⟨#[]⟩, .int .i64 0]) ∧ ∃ l', HAt w' l' hb (H.setTh i t key (stl H v)) ∧ St l.L l'.L W w' ∧ l'.bx = l.bx := by
  obtain ⟨W2, hW2, b1, b2, _, hb2, hz⟩ := three_boxes W 5 i s v.k v.n v.t
  clear b1 b2 hW2 hb2 hz
  obtain ⟨W2, hW2, b1, b2, hb2, hz⟩ : ∃ W2, (W.alloc (.cells #[.int .i64 5, .int .i64 i, .string s] 23)).alloc (.cells #[.int .i64 v.k, .int .i64 v.n, .string v.t] 23) = W2 ∧ Bv W2 W.heap.size 5 i s ∧ Bv W2 (W.heap.size + 1) v.k v.n v.t ∧ Below W.heap.size W W2 ∧ W2.heap.size = W.heap.size + 2 := by
    refine ⟨_, rfl, (Bx.new W _ _).alloc _, ?_, below_two _ _ _, by simp⟩
    have := Bx.new (W.alloc (.cells #[.int .i64 5, .int .i64 i, .string s] 23)) (Vc v.k v.n v.t) 23
    rw [World.size_alloc] at this
    exact this
  obtain ⟨c0, c1, c2, f0, f1, f2, lt⟩ := b1.all
  obtain ⟨d0, d1, d2, g0, g1, g2, ltd⟩ := b2.all
  have B1 := hide b1
  have B2 := hide b2
  have HB := hide hb2
  have HZ := hide hz
  have hsm : key.size ≤ maxLen := by unfold maxLen; omega
  obtain ⟨_, mv, kv, ob⟩ := (h.th i t hi).obj hk
  have hlb := (h.th i t hi).lb
  obtain ⟨b, hbb⟩ : ∃ b, l.bx i = b := ⟨_, rfl⟩
  obtain ⟨y, hy⟩ : ∃ y, stl H v = y := ⟨_, rfl⟩
  have hys := stl_size H v
  rw [hy] at hys
  have HO : Hid (∀ w1, Below W.heap.size W w1 → Calls Tryz.prog 36 #[ptr hb, .agg (Vc 5 i s)] w1 fun e w' => e = .returned (.tuple #[ptr b, .bool true]) ∧ Below w1.heap.size w1 w') := fun w1 hb1 => by
    have := object_yes (h.below hb1) i t hi hk s
    rw [hbb] at this
    exact this
  have HHS : Hid (∀ w1, Below W.heap.size W w1 → Calls Tryz.prog 38 #[ptr b, .string key] w1 fun e w' => e = .returned (.bool true) ∧ Below w1.heap.size w1 w') := fun w1 hb1 => has_ob (ob.below hlb hb1) hlb key hsm b hbb true hh
  have HST : Hid (∀ w1, Below W.heap.size W w1 → Calls Tryz.prog 41 #[ptr hb, .agg (Vc v.k v.n v.t)] w1 fun e w' => e = .returned (.agg (Vc y.k y.n y.t)) ∧ Below w1.heap.size w1 w') := fun w1 hb1 => by
    have := settled_any (h.below hb1) v
    rw [hy] at this
    exact this
  have HCP : Hid (∀ w1, Calls Tryz.prog 40 #[.agg (Vc y.k y.n y.t)] w1 fun e w' => e = .returned (.agg (Vc y.k y.n y.t)) ∧ Below w1.heap.size w1 w') := fun w1 => copied_any y.k y.n y.t (by omega) w1
  have HSE : Hid (∀ w1, Below W.heap.size W w1 → Calls Tryz.prog 39 #[ptr b, .string key, .agg (Vc y.k y.n y.t)] w1 fun e w' => e = .returned (.tuple #[]) ∧ ∃ l', HAt w' l' hb (H.setTh i t key y) ∧ St l.L l'.L w1 w' ∧ l'.bx = l.bx) := fun w1 hb1 => by
    have := set_any (h.below hb1) i t hi hk key hs y (fun e => by rw [e] at hh; cases hh)
    rw [hbb] at this
    exact this
  rw [hy]
  unfold PV.agg
  unfold Vc at HO HST HCP HSE ⊢
  unfold ptr at HO HHS HST HSE ⊢
  clear h hi hk hs hv hh b1 b2 hb2 hz hsm ob hlb hbb hy hys
  go_enter Tryz.func11, Tryz.ntmps11
  go_wp2_with (first
    | (go_at_call 36; refine (unhide HO _ (unhide HB)).mono ?_; rintro e w3 ⟨rfl, hb3⟩; have hz := unhide HZ; have HB3 := hide ((unhide HB).trans (hb3.mono (by omega))); have E2 := hide ((unhide B2).below hb3 (by omega)); clear hb3)
    | (go_at_call 38; refine (unhide HHS _ (unhide HB3)).mono ?_; rintro e w4 ⟨rfl, hb4⟩; have E4 := hide ((unhide E2).below hb4 (unhide E2).lt); have HB4 := hide ((unhide HB3).trans (hb4.mono (unhide HB3).size)); obtain ⟨d0, d1, d2, g0, g1, g2, ltd⟩ := (unhide E4).all; clear hb4)
    | (go_at_call 41; refine (unhide HST _ (unhide HB4)).mono ?_; rintro e w5 ⟨rfl, hb5⟩; have HB5 := hide ((unhide HB4).trans (hb5.mono (unhide HB4).size)); clear hb5)
    | (go_at_call 40; refine (unhide HCP _).mono ?_; rintro e w6 ⟨rfl, hb6⟩; have HB6 := hide ((unhide HB5).trans (hb6.mono (unhide HB5).size)); clear hb6)
    | (go_at_call 39; refine (unhide HSE _ (unhide HB6)).mono ?_; rintro e w7 ⟨rfl, l', h7, s7, x7⟩; have H7 := hide h7; have S7 := hide s7; have X7 := hide x7; clear h7 s7 x7))
  refine bodyPost_ret (by simp [results, Tryz.results11, go_sem]) rfl ⟨rfl, l', unhide H7, (St.of_below (unhide HB6)).trans (unhide S7), unhide X7⟩
theorem Set_new (h : HAt W l hb H) (i : Nat) (t : Th) (hi : H.ths[i]? = some t) (hk : t.kind ≠ 2) (key : ByteArray) (hs : key.size ≤ 140737488355328) (s : ByteArray) (v : PV) (hv : v.t.size ≤ 281474976710656) (hh : (look t.slots key).isSome = false) (hc : cellsH H.ths ≤ H.used) (hf : H.used < H.room) :
    Calls Tryz.prog 11 #[ptr hb, .agg (Vc 5 i s), .string key, v.agg] W fun e w' => e = .returned (.tuple #[.string ⟨#[]⟩, .int .i64 0]) ∧ ∃ l', HAt w' l' hb (H.used1.setTh i t key (stl H v)) ∧ St l.L l'.L W w' ∧ l'.bx = l.bx := by
  obtain ⟨W2, hW2, b1, b2, _, hb2, hz⟩ := three_boxes W 5 i s v.k v.n v.t
  clear b1 b2 hW2 hb2 hz
  obtain ⟨W2, hW2, b1, b2, hb2, hz⟩ : ∃ W2, (W.alloc (.cells #[.int .i64 5, .int .i64 i, .string s] 23)).alloc (.cells #[.int .i64 v.k, .int .i64 v.n, .string v.t] 23) = W2 ∧ Bv W2 W.heap.size 5 i s ∧ Bv W2 (W.heap.size + 1) v.k v.n v.t ∧ Below W.heap.size W W2 ∧ W2.heap.size = W.heap.size + 2 := by
    refine ⟨_, rfl, (Bx.new W _ _).alloc _, ?_, below_two _ _ _, by simp⟩
    have := Bx.new (W.alloc (.cells #[.int .i64 5, .int .i64 i, .string s] 23)) (Vc v.k v.n v.t) 23
    rw [World.size_alloc] at this
    exact this
  obtain ⟨c0, c1, c2, f0, f1, f2, lt⟩ := b1.all
  obtain ⟨d0, d1, d2, g0, g1, g2, ltd⟩ := b2.all
  have B1 := hide b1
  have B2 := hide b2
  have HB := hide hb2
  have HZ := hide hz
  have hsm : key.size ≤ maxLen := by unfold maxLen; omega
  obtain ⟨_, mv, kv, ob⟩ := (h.th i t hi).obj hk
  have hlb := (h.th i t hi).lb
  obtain ⟨b, hbb⟩ : ∃ b, l.bx i = b := ⟨_, rfl⟩
  obtain ⟨y, hy⟩ : ∃ y, stl H v = y := ⟨_, rfl⟩
  have hys := stl_size H v
  rw [hy] at hys
  have HO : Hid (∀ w1, Below W.heap.size W w1 → Calls Tryz.prog 36 #[ptr hb, .agg (Vc 5 i s)] w1 fun e w' => e = .returned (.tuple #[ptr b, .bool true]) ∧ Below w1.heap.size w1 w') := fun w1 hb1 => by
    have := object_yes (h.below hb1) i t hi hk s
    rw [hbb] at this
    exact this
  have HHS : Hid (∀ w1, Below W.heap.size W w1 → Calls Tryz.prog 38 #[ptr b, .string key] w1 fun e w' => e = .returned (.bool false) ∧ Below w1.heap.size w1 w') := fun w1 hb1 => has_ob (ob.below hlb hb1) hlb key hsm b hbb false hh
  have HTK : Hid (∀ w1, Below W.heap.size W w1 → Calls Tryz.prog 33 #[ptr hb] w1 fun e w' => e = .returned (.bool true) ∧ HAt w' l hb H.used1 ∧ St l.L l.L w1 w' ∧ w'.heap.size = w1.heap.size ∧ (∀ c k n t, Bv w1 c k n t → c ≠ hb → Bv w' c k n t)) := fun w1 hb1 => by
    obtain ⟨q1, q2⟩ := (h.below hb1).take hf
    refine (take_ok (h.below hb1) hf).mono ?_
    rintro e w' ⟨rfl, rfl⟩
    exact ⟨rfl, q1, q2, by show (World.setCell _ _ _).heap.size = _; simp [World.setCell], fun c k n t hc hne => Bx.other hc hne _⟩
  have HST : Hid (∀ w1, HAt w1 l hb H.used1 → Calls Tryz.prog 41 #[ptr hb, .agg (Vc v.k v.n v.t)] w1 fun e w' => e = .returned (.agg (Vc y.k y.n y.t)) ∧ Below w1.heap.size w1 w') := fun w1 hb1 => by
    have := settled_any hb1 v
    rw [show stl H.used1 v = stl H v from rfl, hy] at this
    exact this
  have HLT := hide h.lt
  have HCP : Hid (∀ w1, Calls Tryz.prog 40 #[.agg (Vc y.k y.n y.t)] w1 fun e w' => e = .returned (.agg (Vc y.k y.n y.t)) ∧ Below w1.heap.size w1 w') := fun w1 => copied_any y.k y.n y.t (by omega) w1
  have HSE : Hid (∀ w1, HAt w1 l hb H.used1 → Calls Tryz.prog 39 #[ptr b, .string key, .agg (Vc y.k y.n y.t)] w1 fun e w' => e = .returned (.tuple #[]) ∧ ∃ l', HAt w' l' hb (H.used1.setTh i t key y) ∧ St l.L l'.L w1 w' ∧ l'.bx = l.bx) := fun w1 hb1 => by
    have := set_any hb1 i t hi hk key hs y (fun _ => Nat.succ_le_succ hc)
    rw [hbb] at this
    exact this
  rw [hy]
  unfold PV.agg
  unfold Vc at HO HST HCP HSE ⊢
  unfold ptr at HO HHS HST HSE HTK ⊢
  clear h hi hk hs hv hh hc hf b1 b2 hb2 hz hsm ob hlb hbb hy hys
  go_enter Tryz.func11, Tryz.ntmps11
  go_wp2_with (first
    | (go_at_call 36; refine (unhide HO _ (unhide HB)).mono ?_; rintro e w3 ⟨rfl, hb3⟩; have hz := unhide HZ; have HB3 := hide ((unhide HB).trans (hb3.mono (by omega))); have E2 := hide ((unhide B2).below hb3 (by omega)); clear hb3)
    | (go_at_call 38; refine (unhide HHS _ (unhide HB3)).mono ?_; rintro e w4 ⟨rfl, hb4⟩; have E4 := hide ((unhide E2).below hb4 (unhide E2).lt); have HB4 := hide ((unhide HB3).trans (hb4.mono (unhide HB3).size)); obtain ⟨d0, d1, d2, g0, g1, g2, ltd⟩ := (unhide E4).all; clear hb4)
    | (go_at_call 33; refine (unhide HTK _ (unhide HB4)).mono ?_; rintro e w5 ⟨rfl, q1, q2, q3, q4⟩; have E5 := hide (q4 _ _ _ _ (unhide E4) (by have := unhide HLT; omega)); have H5 := hide q1; have S5 := hide ((St.of_below (unhide HB4)).trans q2); obtain ⟨d0, d1, d2, g0, g1, g2, ltd⟩ := (unhide E5).all; clear q1 q2 q3 q4)
    | (go_at_call 41; refine (unhide HST _ (unhide H5)).mono ?_; rintro e w6 ⟨rfl, hb6⟩; have H6 := hide ((unhide H5).below hb6); have S6 := hide ((unhide S5).trans (St.of_below hb6)); clear hb6)
    | (go_at_call 40; refine (unhide HCP _).mono ?_; rintro e w7 ⟨rfl, hb7⟩; have H7 := hide ((unhide H6).below hb7); have S7 := hide ((unhide S6).trans (St.of_below hb7)); clear hb7)
    | (go_at_call 39; refine (unhide HSE _ (unhide H7)).mono ?_; rintro e w8 ⟨rfl, l', h8, s8, x8⟩; have H8 := hide h8; have S8 := hide s8; have X8 := hide x8; clear h8 s8 x8))
  refine bodyPost_ret (by simp [results, Tryz.results11, go_sem]) rfl ⟨rfl, l', unhide H8, (unhide S7).trans (unhide S8), unhide X8⟩
end Go.Proofs.YtdgocaokmmhenaaGreatDoor
