/- The reference's End and Find; tree.Find; what Find's function value keeps in mind. -/
import Derived.BigRegionIn
import Derived.Deep.Onto
import Derived.Laws.OwnMore
import Derived.LoopIn
import Derived.LoopN
import Derived.LoopNIn
import Derived.OwnWalk
import Derived.OwnWalkIn
import Derived.RangeFuncBound
import Derived.RangeFuncCalls
import Derived.RangeFuncLeaves
import Derived.RangeFuncNested
import Derived.Shelf.RegionOpen
import Derived.TacticsInMore
import Derived.Test.YtoffpbaddehncaaGreatDoorG1
import Derived.Test.YtoffpbaddehncaaGreatDoorTP2
import Derived.Test.YtoffpbaddehncaaGreatDoorSDM
import Derived.Test.YtoffpbaddehncaaGreatDoorTH
/- Where what is beneath a node ends, by depths; the reference's End and Find. -/
namespace Go.Proofs.YtoffpbaddehncaaGreatDoor
set_option linter.unusedSimpArgs false
set_option linter.unusedVariables false
open Go.RowKit Go.Shelf

/-- What is beneath stands deeper. -/
theorem dep_in {l : List Nd} {n k : Nat} (hf : Fine l n) (h1 : n < k) (h2 : k < en l n) : depAt l n < depAt l k := by
  obtain ⟨r1, _⟩ := rs_fine _ n (Nat.le_refl _) hf
  have hb := stk_base (m := en l n - n) (stk_st l n) rfl (fun j hj => r1 j (by omega)) (k - n - 1) (by omega)
  have hb' : stAt l k = rs l n (k - n - 1) ++ decT (popZ (stAt l n)) := by
    have h3 : stAt l (n + (k - n - 1 + 1)) = _ := hb
    rw [show n + (k - n - 1 + 1) = k by omega] at h3
    exact h3
  have hne := r1 (k - n - 1) (by omega)
  simp only [depAt, hb']
  rw [popZ_append, if_neg hne]
  have : 0 < (popZ (rs l n (k - n - 1))).length := List.length_pos_iff.2 hne
  simp only [List.length_append, decT_len]
  omega
/-- What is behind does not. -/
theorem dep_end {l : List Nd} {n : Nat} (hf : Fine l n) : depAt l (en l n) ≤ depAt l n := by
  obtain ⟨r1, r2⟩ := rs_fine _ n (Nat.le_refl _) hf
  have hle := hf.le
  have hb := stk_base (m := en l n - n) (stk_st l n) rfl (fun j hj => r1 j (by omega)) (en l n - n - 1) (by omega)
  have hb' : stAt l (en l n) = rs l n (en l n - n - 1) ++ decT (popZ (stAt l n)) := by
    have h3 : stAt l (n + (en l n - n - 1 + 1)) = _ := hb
    rw [show n + (en l n - n - 1 + 1) = en l n by omega] at h3
    exact h3
  simp only [depAt, hb']
  rw [popZ_append, if_pos (r2 _ (by omega))]
  have := popZ_len (decT (popZ (stAt l n)))
  rw [decT_len] at this
  exact this

set_option maxRecDepth 100000 in
set_option maxHeartbeats 4000000 in
theorem end_any (W : World) (M : Nat) (v : Value) (l : List Nd) (n : Nat) (hN : Nodes W M v l) (hM : M ≤ W.heap.size) (h : (chkP l).2 = 0) (hn : n < l.length) :
    Calls Tryz.prog 36 #[.agg #[v], .int .i64 (n : Int)] W fun e w' => e = .returned (.int .i64 (en l n : Int)) ∧ Below W.heap.size W w' := by
  obtain ⟨W1, hW1⟩ : ∃ W1, W.alloc (.cells #[v] 24) = W1 := ⟨_, rfl⟩
  have HK : Hid (∀ w, Below W1.heap.size W1 w → _) := fun w hw => rbox_at (W := W) (v := v) (by rw [hW1]; exact hw.mono (by rw [← hW1]; simp))
  obtain ⟨k1, k2, k3⟩ := unhide HK W1 (Below.refl _ _)
  have HFI : Hid (∀ m, m < l.length → Fine l m) := fun m hm => chk_all h hm
  have HN := hide hN
  have hl1 := hN.1
  obtain ⟨bb, o, cap, _, _, rfl, hc1, hc2, hb, _⟩ := hN.at hn
  have hbW : bb < W.heap.size := by omega
  clear hN k1 h
  go_enter Tryz.func36, Tryz.ntmps36
  go_wp2
  clear hW1
  go_loopw [1] (fun t1 wr => ∃ q : Nat, q < l.length ∧ t1 = .int .i64 (q : Int) ∧ en l q = en l n ∧ Below W1.heap.size W1 wr) (fun t1 _ => l.length - (intOf t1).toNat)
  case atStart => exact ⟨n, hn, rfl, rfl, Below.refl _ _⟩
  case round =>
    obtain ⟨q, hql, rfl, hen, hBr⟩ := hrel
    obtain ⟨r1, r2, r3⟩ := unhide HK wr hBr
    obtain ⟨b3, o3, cap3, ka, kc, hv, _, _, hb3, _, _, _, d3, _, hkc, hkm, hKk⟩ := ((unhide HN).keep r1 hM).at hql
    obtain ⟨rfl, rfl, rfl⟩ : bb = b3 ∧ o = o3 ∧ cap = cap3 := by injection hv with h1 _ h3; injection h1 with h1; injection h1 with h4 h5; exact ⟨h4, h5, h3⟩
    have hqf := unhide HFI q hql
    have hlt' : (q : Int) < l.length := by omega
    have hq0 : (0 : Int) ≤ (q : Int) := by omega
    have hbw : bb < wr.heap.size := by have := r1.size; omega
    have hkl := ((unhide HN).2.1 q hql).2
    have HEN := hide hen
    have hsz := hBr.size
    clear hv hen
    by_cases hk0 : (nd l q).kids.length = 0
    · have hk0' : ¬ (0 : Int) < (nd l q).kids.length := by omega
      have HF : Hid (en l n = q + 1) := by show en l n = q + 1; rw [← unhide HEN]; exact hqf.leaf (List.length_eq_zero_iff.1 hk0)
      clear hqf hKk hk0
      go_wp2
      go_ret
      exact ⟨by rw [unhide HF]; simp, r1⟩
    · have hk0' : (0 : Int) < (nd l q).kids.length := by omega
      obtain ⟨p, hp1, hp2, hp3, hp4⟩ := hqf.last (by omega)
      have hpl := hp2.1
      rcases hKk with h | ⟨kb, ko, rfl, hkb, hkc0⟩
      · rw [h] at hk0; simp at hk0
      have dk := hkc0 ((nd l q).kids.length - 1) (by omega)
      rw [hp1] at dk
      obtain ⟨nk, hnk⟩ : ∃ nk, (nd l q).kids.length = nk + 1 := ⟨(nd l q).kids.length - 1, by omega⟩
      rw [hnk] at dk d3 hkl hkc hk0'
      rw [show nk + 1 - 1 = nk by omega] at dk
      have hkbw : kb < wr.heap.size := by have := r1.size; omega
      have HQ : Hid (∀ w, Below wr.heap.size wr w → w.cell? ⟨W.heap.size, 0, none⟩ = some (.slice (some ⟨bb, o, none⟩) l.length cap) ∧ w.cell? ⟨bb, o + q * 5 + 3, none⟩ = some (.slice (some ⟨kb, ko, none⟩) (nk + 1) kc) ∧ w.cell? ⟨kb, ko + nk, none⟩ = some (.int .i64 (p : Int))) := fun w hw =>
        ⟨(hw.cell (p := ⟨W.heap.size, 0, none⟩) r3).trans r2, (hw.cell (p := ⟨bb, o + q * 5 + 3, none⟩) hbw).trans d3, (hw.cell (p := ⟨kb, ko + nk, none⟩) hkbw).trans dk⟩
      have HP4 := hide (hp4.trans (unhide HEN))
      have hnk1 : (nk : Int) < ((nk + 1 : Nat) : Int) := by omega
      clear hkc0 hqf hp1 hp2 hp4 hnk hk0
      go_wp2
      refine region_C (C := fun w' => Below wr.heap.size wr w') (by kernel_rfl) (by kernel_rfl) (Below.refl _ _).drew ?_
      repeat (first
        | go_big_quiet_skip
        | (go_big_quiet_want
           go_big_quiet_op
           first
             | go_big_quiet_on
             | (apply Exists.intro
                refine ⟨fun w hw => ?_, ?_⟩
                first
                  | rfl
                  | (obtain ⟨f1, f2, f3⟩ := unhide HQ w hw
                     go_simp
                     first | done | rfl | exact ⟨rfl, rfl⟩)
                go_big_quiet_on)))
      refine wpQuiet_nil ?_
      intro w5 hw5
      have HB5 : Hid (Below W1.heap.size W1 w5) := hBr.trans (hw5.mono hsz)
      go_wp2
      exact ⟨⟨p, hpl, rfl, unhide HP4, unhide HB5⟩, by simp [intOf]; omega⟩
end Go.Proofs.YtoffpbaddehncaaGreatDoor

/- The reference's Find. -/
namespace Go.Proofs.YtoffpbaddehncaaGreatDoor
set_option linter.unusedSimpArgs false
set_option linter.unusedVariables false
open Go.RowKit Go.Shelf

/-- What is found from a number on. -/
def frL (l : List Nd) (n : Nat) (kd : Int) : Nat → Nat → List Nat
  | 0, _ => []
  | f + 1, i => if i < en l n then (if (nd l i).kind = kd then i :: frL l n kd f (en l i) else frL l n kd f (i + 1)) else []
/-- What Find finds. -/
def fndL (l : List Nd) (n : Nat) (kd : Int) : List Nat := frL l n kd (l.length + 1 - (n + 1)) (n + 1)
theorem frL_fuel {l : List Nd} {n : Nat} {kd : Int} (hf : ∀ m, m < l.length → Fine l m) (hn : n < l.length) : ∀ (f f' i : Nat), l.length + 1 - i ≤ f → l.length + 1 - i ≤ f' → frL l n kd f i = frL l n kd f' i
  | 0, 0, i, _, _ => rfl
  | 0, f' + 1, i, h1, _ => by
    have := (hf n hn).le
    simp only [frL]
    rw [if_neg (by omega)]
  | f + 1, 0, i, _, h2 => by
    have := (hf n hn).le
    simp only [frL]
    rw [if_neg (by omega)]
  | f + 1, f' + 1, i, h1, h2 => by
    simp only [frL]
    by_cases hi : i < en l n
    · have hle := (hf n hn).le
      have hie := (hf i (by omega)).le
      rw [if_pos hi, if_pos hi]
      by_cases hk : (nd l i).kind = kd
      · rw [if_pos hk, if_pos hk, frL_fuel hf hn f f' (en l i) (by omega) (by omega)]
      · rw [if_neg hk, if_neg hk, frL_fuel hf hn f f' (i + 1) (by omega) (by omega)]
    · rw [if_neg hi, if_neg hi]
/-- From a number on, with fuel enough. -/
def frA (l : List Nd) (n : Nat) (kd : Int) (i : Nat) : List Nat := frL l n kd (l.length + 1 - i) i
theorem frA_end {l : List Nd} {n : Nat} {kd : Int} {i : Nat} (h : ¬ i < en l n) : frA l n kd i = [] := by
  unfold frA
  cases l.length + 1 - i with
  | zero => rfl
  | succ f => simp only [frL, if_neg h]
theorem frA_yes {l : List Nd} {n : Nat} {kd : Int} {i : Nat} (hf : ∀ m, m < l.length → Fine l m) (hn : n < l.length) (h : i < en l n) (hk : (nd l i).kind = kd) : frA l n kd i = i :: frA l n kd (en l i) := by
  have hle := (hf n hn).le
  have hie := (hf i (by omega)).le
  unfold frA
  rw [show l.length + 1 - i = (l.length - i) + 1 by omega]
  simp only [frL, if_pos h, if_pos hk]
  rw [frL_fuel hf hn (l.length - i) (l.length + 1 - en l i) (en l i) (by omega) (by omega)]
theorem frA_no {l : List Nd} {n : Nat} {kd : Int} {i : Nat} (hf : ∀ m, m < l.length → Fine l m) (hn : n < l.length) (h : i < en l n) (hk : ¬ (nd l i).kind = kd) : frA l n kd i = frA l n kd (i + 1) := by
  have hle := (hf n hn).le
  unfold frA
  rw [show l.length + 1 - i = (l.length - i) + 1 by omega]
  simp only [frL, if_pos h, if_neg hk]
  rw [show l.length + 1 - (i + 1) = l.length - i by omega]
/-- Numbers as cells. -/
def nvs (xs : List Nat) : List Value := xs.map fun (x : Nat) => Value.int .i64 (x : Int)
theorem nvs_len (xs : List Nat) : (nvs xs).length = xs.length := by simp [nvs]
def FindQ (xs : List Nat) (W : World) (e : Ending) (w' : World) : Prop := ∃ v, e = .returned v ∧ w'.ownsRow W.heap.size 3 1 v xs.length (nvs xs) ∧ Below W.heap.size W w'

set_option maxRecDepth 100000 in
set_option maxHeartbeats 2000000 in
theorem rfind_bad (W : World) (M : Nat) (v : Value) (l : List Nd) (n kd : Int) (hN : Nodes W M v l) (hM : M ≤ W.heap.size) (hT : ∀ m, m < l.length → (nd l m).text.size ≤ 1048576) (h : ¬ ((chkP l).2 = 0 ∧ ins l n = true)) :
    Calls Tryz.prog 20 #[.agg #[v], .int .i64 n, .int .i64 kd] W (FindQ [] W) := by
  obtain ⟨W1, hW1⟩ : ∃ W1, W.alloc (.cells #[v] 24) = W1 := ⟨_, rfl⟩
  have HK : Hid (∀ w, Below W1.heap.size W1 w → _) := fun w hw => rbox_at (W := W) (v := v) (by rw [hW1]; exact hw.mono (by rw [← hW1]; simp))
  obtain ⟨k1, k2, k3⟩ := unhide HK W1 (Below.refl _ _)
  have HC := hide (rGood_any W1 M v l (hN.keep k1 hM) (Nat.le_trans hM k1.size) hT)
  have hl1 := hN.1
  obtain ⟨va, vc, rfl, hvc, _⟩ := hN.len
  have HFN : Hid (∀ w, Below W1.heap.size W1 w → FindQ [] W (.returned (.slice none 0 0)) w) := fun w hw => ⟨_, rfl, World.ownsRow_nil _ _ _ _, (unhide HK w hw).1⟩
  clear hN k1
  by_cases hc : (chkP l).2 = 0
  case neg =>
    rw [show ((chkP l).2 == 0) = false by simpa using hc] at HC
    clear hc h
    go_enter Tryz.func20, Tryz.ntmps20
    go_wp2_with (go_at_call 27; refine (unhide HC).mono ?_; rintro e w2 ⟨rfl, hB2⟩)
    go_ret
    exact unhide HFN w2 hB2
  rw [show ((chkP l).2 == 0) = true by simpa using hc] at HC
  have hin : ins l n = false := by
    cases hi : ins l n with
    | false => rfl
    | true => exact absurd ⟨hc, hi⟩ h
  have hq := ins_false.1 hin
  clear hc h hin
  by_cases h0 : n < 0
  · go_enter Tryz.func20, Tryz.ntmps20
    go_wp2_with (go_at_call 27; refine (unhide HC).mono ?_; rintro e w2 ⟨rfl, hB2⟩)
    go_ret
    exact unhide HFN w2 hB2
  · have h1 : (l.length : Int) ≤ n := by omega
    clear hq
    go_enter Tryz.func20, Tryz.ntmps20
    go_wp2_with (go_at_call 27; refine (unhide HC).mono ?_; rintro e w2 ⟨rfl, hB2⟩; obtain ⟨y1, y2, y3⟩ := unhide HK w2 hB2)
    go_ret
    exact unhide HFN w2 hB2

set_option maxRecDepth 100000 in
set_option maxHeartbeats 4000000 in
theorem rfind_good (W : World) (M : Nat) (v : Value) (l : List Nd) (n : Nat) (kd : Int) (hN : Nodes W M v l) (hM : M ≤ W.heap.size) (hT : ∀ m, m < l.length → (nd l m).text.size ≤ 1048576) (h : (chkP l).2 = 0) (hn : n < l.length) (h3 : l.length ≤ 3000) :
    Calls Tryz.prog 20 #[.agg #[v], .int .i64 (n : Int), .int .i64 kd] W (FindQ (frA l n kd (n + 1)) W) := by
  obtain ⟨j0, hj, hy0, hy1, hy2⟩ := info_parts infoInt
  obtain ⟨W1, hW1⟩ : ∃ W1, W.alloc (.cells #[v] 24) = W1 := ⟨_, rfl⟩
  have HK : Hid (∀ w, Below W1.heap.size W1 w → _) := fun w hw => rbox_at (W := W) (v := v) (by rw [hW1]; exact hw.mono (by rw [← hW1]; simp))
  obtain ⟨k1, k2, k3⟩ := unhide HK W1 (Below.refl _ _)
  have HC := hide (rGood_any W1 M v l (hN.keep k1 hM) (Nat.le_trans hM k1.size) hT)
  rw [show ((chkP l).2 == 0) = true by simpa using h] at HC
  have HFI : Hid (∀ m, m < l.length → Fine l m) := fun m hm => chk_all h hm
  have HE : Hid (∀ w, Below W1.heap.size W1 w → ∀ m, m < l.length → Calls Tryz.prog 36 #[.agg #[v], .int .i64 (m : Int)] w fun e w' => e = .returned (.int .i64 (en l m : Int)) ∧ Below w.heap.size w w') := fun w hw m hm => end_any w M v l m (hN.keep (unhide HK w hw).1 hM) (Nat.le_trans hM (unhide HK w hw).1.size) h hm
  have HN := hide hN
  have hl1 := hN.1
  obtain ⟨bb, o, cap, _, _, rfl, hc1, hc2, hb, _⟩ := hN.at hn
  have hd0 : decide ((n : Int) < 0) = false := by simp
  have hd1 : decide ((l.length : Int) ≤ (n : Int)) = false := by simp; omega
  have hd2 : decide (l.length ≤ n) = false := by simp; omega
  have henl := (unhide HFI n hn).le
  clear hN k1 h
  go_enter Tryz.func20, Tryz.ntmps20
  go_wp2_with (go_at_call 27; refine (unhide HC).mono ?_; rintro e w2 ⟨rfl, hB2⟩; obtain ⟨y1, y2, y3⟩ := unhide HK w2 hB2)
  have HB2 := hide hB2
  clear hB2 y1 y2 y3 hW1
  go_loopw [7, 8] (fun t7 t8 wr => ∃ (i : Nat) (done : List Nat), n < i ∧ i ≤ l.length ∧ t8 = .int .i64 (i : Int) ∧ wr.ownsRow W1.heap.size 3 1 t7 done.length (nvs done) ∧ frA l n kd (n + 1) = done ++ frA l n kd i ∧ done.length ≤ i ∧ Below W1.heap.size W1 wr) (fun _ t8 _ => l.length - (intOf t8).toNat)
  case atStart => exact ⟨n + 1, [], by omega, by omega, by go_num, World.ownsRow_nil _ _ _ _, rfl, Nat.zero_le _, unhide HB2⟩
  case round =>
    obtain ⟨i, done, hni, hil, rfl, hown, hfr, hdl, hBr⟩ := hrel
    obtain ⟨w0, hw0⟩ : ∃ w0, w0 = wr := ⟨_, rfl⟩
    subst hw0
    obtain ⟨r1, r2, r3⟩ := unhide HK w0 hBr
    have HO := hide hown
    have HFR := hide hfr
    have HEN := hide (unhide HE w0 hBr n hn)
    have hsz := hBr.size
    clear hown hfr
    obtain ⟨E, hE⟩ : ∃ E, en l n = E := ⟨_, rfl⟩
    rw [hE] at HEN henl
    have HEQ := hide hE
    by_cases hlt : i < E
    case neg =>
      have hlt' : ¬ (i : Int) < E := by omega
      have HF : Hid (frA l n kd (n + 1) = done) := by show frA l n kd (n + 1) = done; rw [unhide HFR, frA_end (by rw [hE]; exact hlt), List.append_nil]
      clear hE
      go_wp2_with (go_at_call 36; refine (unhide HEN).mono ?_; rintro e w3 ⟨rfl, hB3⟩)
      go_ret
      have ho3 := ownsRow_below (unhide HO) hB3
      rw [unhide HF]
      refine ⟨_, rfl, ?_, r1.trans (hB3.mono (by omega))⟩
      exact ⟨ho3.1, by
        rcases ho3.2 with h | ⟨g, cap, cur, hv, hb, r⟩
        · exact .inl h
        · exact .inr ⟨g, cap, cur, hv, Nat.le_trans (Nat.le_of_lt k3) hb, r⟩⟩
    have hlt' : (i : Int) < E := by omega
    have hill : i < l.length := by omega
    have hil' : (i : Int) < l.length := by omega
    have hi0 : (0 : Int) ≤ (i : Int) := by omega
    obtain ⟨b3, o3, cap3, ka, kc, hv, _, _, hb3, d0, _⟩ := (unhide HN).at hill
    obtain ⟨rfl, rfl, rfl⟩ : bb = b3 ∧ o = o3 ∧ cap = cap3 := by injection hv with h1 _ h3; injection h1 with h1; injection h1 with h4 h5; exact ⟨h4, h5, h3⟩
    have hbW : bb < W.heap.size := by omega
    have HD : Hid (∀ w, Below W1.heap.size W1 w → w.cell? ⟨W.heap.size, 0, none⟩ = some (.slice (some ⟨bb, o, none⟩) l.length cap) ∧ w.cell? ⟨bb, o + i * 5, none⟩ = some (.int .i64 (nd l i).kind) ∧ W.heap.size < w.heap.size ∧ bb < w.heap.size) := fun w hw => by
      obtain ⟨h1, h2, h4⟩ := unhide HK w hw
      exact ⟨h2, (h1.cell (p := ⟨bb, o + i * 5, none⟩) hbW).trans d0, h4, by have := h1.size; omega⟩
    have hfi := (unhide HFI i hill).le
    clear hv d0
    cases hk : ((nd l i).kind == kd) with
    | false =>
      have HF : Hid (frA l n kd (n + 1) = done ++ frA l n kd (i + 1)) := by show frA l n kd (n + 1) = _; rw [unhide HFR, frA_no (unhide HFI) hn (by rw [hE]; exact hlt) (by simpa using hk)]
      clear hE
      go_wp2_with (go_at_call 36; refine (unhide HEN).mono ?_; rintro e w3 ⟨rfl, hB3⟩; have hB3' := hBr.trans (hB3.mono hsz); obtain ⟨z1, z2, z3, z4⟩ := unhide HD w3 hB3')
      exact ⟨⟨i + 1, done, by omega, by omega, by go_num, ownsRow_below (unhide HO) hB3, unhide HF, by omega, hB3'⟩, by simp [intOf]; omega⟩
    | true =>
      have HF : Hid (frA l n kd (n + 1) = (done ++ [i]) ++ frA l n kd (en l i)) := by show frA l n kd (n + 1) = _; rw [unhide HFR, frA_yes (unhide HFI) hn (by rw [hE]; exact hlt) (by simpa using hk)]; simp
      have HE2 : Hid (∀ w, Below W1.heap.size W1 w → Calls Tryz.prog 36 #[.agg #[.slice (some ⟨bb, o, none⟩) l.length cap], .int .i64 (i : Int)] w fun e w' => e = .returned (.int .i64 (en l i : Int)) ∧ Below w.heap.size w w') := fun w hw => unhide HE w hw i hill
      obtain ⟨E2, hE2⟩ : ∃ E2, en l i = E2 := ⟨_, rfl⟩
      rw [hE2] at HE2 HF hfi
      clear hE hE2
      go_wp2_with (first | (go_at_call_of 36 (n : Int); refine (unhide HEN).mono ?_; rintro e w3 ⟨rfl, hB3⟩; have hB3' := hBr.trans (hB3.mono hsz); obtain ⟨z1, z2, z3, z4⟩ := unhide HD w3 hB3'; have HO3 := hide (ownsRow_below (unhide HO) hB3)) | (at_builtin; refine wpList_append_own _ rfl _ _ 27 rfl W1.heap.size 3 j0 (.int .i64 0) 1 8 Tryz.underlying27 hj hy0 hy1 hy2 rfl (by decide) _ _ _ rfl ((unhide HO3).alloc _) ⟨w3.heap.size, 0, none⟩ 1 1 [.int .i64 (i : Int)] rfl rfl ?c1 ?c2 ?c3 ?c4 ?c5 ?_))
      case c1 =>
        intro j u hj
        rw [Addr.add_lit, Nat.zero_add, World.cell?_alloc_mark]
        rw [← hj]; simp
      case c2 => intro u hu; simp at hu; rcases hu with rfl; rfl
      case c3 => unfold maxLen; omega
      case c4 => omega
      case c5 => have := hB3'.size; simp; omega
      intro v' w8 hown8 hg8 _
      have hs8 := hg8.size
      simp at hs8
      have hB8 : Below W1.heap.size W1 w8 := (hB3'.alloc hB3'.size _).grown hg8 (by have := hB3'.size; simp; omega) (fun k hk => ((unhide HO3).lt k hk).1)
      have HO8 : Hid (w8.ownsRow W1.heap.size 3 1 v' (done ++ [i]).length (nvs (done ++ [i]))) := by
        have e1 : nvs (done ++ [i]) = nvs done ++ [.int .i64 (i : Int)] := by simp [nvs]
        have e2 : (done ++ [i]).length = done.length + 1 := by simp
        show w8.ownsRow W1.heap.size 3 1 v' (done ++ [i]).length (nvs (done ++ [i]))
        rw [e1, e2]; exact hown8
      obtain ⟨z5, z6, z7, z8⟩ := unhide HD w8 hB8
      have HB8 := hide hB8
      clear hown8 hg8 hB8
      go_wp2_with (go_at_call_of 36 (i : Int); refine (unhide HE2 w8 (unhide HB8)).mono ?_; rintro e w9 ⟨rfl, hB9⟩)
      exact ⟨⟨E2, done ++ [i], by omega, by omega, rfl, ownsRow_below (unhide HO8) hB9, unhide HF, by simp; omega, (unhide HB8).trans (hB9.mono (unhide HB8).size)⟩, by simp [intOf]; omega⟩
end Go.Proofs.YtoffpbaddehncaaGreatDoor

/- tree.Find: what it makes. -/
namespace Go.Proofs.YtoffpbaddehncaaGreatDoor
set_option linter.unusedSimpArgs false
set_option linter.unusedVariables false
open Go.RowKit Go.Shelf

def kndV (l : List Nd) (j : Nat) : Value := .int .i64 (nd l j).kind
/-- What Find answers of a node of a tree. -/
def FindMade (W : World) (l : List Nd) (n : Nat) (kd : Int) (Ok : Nat → Array Value → World → Prop) (e : Ending) (w' : World) : Prop :=
  ∃ Ba Bk ck wf wc, e = .returned (.func (.func 39) #[] #[.pointer (some ⟨Ba, 0, none⟩), .pointer (some ⟨W.heap.size + 1, 0, none⟩), .pointer (some ⟨Bk, 0, none⟩), .pointer (some ⟨W.heap.size + 2, 0, none⟩)]) ∧
    Boxed w' Ba 35 (.func (.func wf) #[] wc) ∧ Boxed w' (W.heap.size + 1) 3 (.int .i64 (n : Int)) ∧ Boxed w' (W.heap.size + 2) 3 (.int .i64 kd) ∧ Boxed w' Bk 27 (.slice (some ⟨ck, 0, none⟩) l.length l.length) ∧ (∀ j, j < l.length → w'.cell? ⟨ck, j, none⟩ = some (kndV l j)) ∧ Ok wf wc w' ∧ ck < w'.heap.size ∧ Below W.heap.size W w'

set_option maxRecDepth 100000 in
set_option maxHeartbeats 2000000 in
theorem find_out (W : World) (M : Nat) (v : Value) (l : List Nd) (n kd : Int) (hN : Nodes W M v l) (hM : M ≤ W.heap.size) (h : ins l n = false) :
    Calls Tryz.prog 21 #[.agg #[v], .int .i64 n, .int .i64 kd] W fun e w' => e = .returned (.func (.func 38) #[] #[]) ∧ Below W.heap.size W w' := by
  obtain ⟨W1, hW1⟩ : ∃ W1, ((W.alloc (.cells #[v] 24)).alloc (.cells #[.int .i64 n] 3)).alloc (.cells #[.int .i64 kd] 3) = W1 := ⟨_, rfl⟩
  have hB1 : Below W.heap.size W W1 := by rw [← hW1]; exact (((Below.refl _ W).alloc (Nat.le_refl _) _).alloc (by simp) _).alloc (by simp; omega) _
  have HC := hide (within_ok (hN.keep hB1 hM) n)
  rw [h] at HC
  have HB1 := hide hB1
  obtain ⟨va, vc, rfl, hvc, _⟩ := hN.len
  rw [← hW1] at HC HB1
  clear hN hB1 h hW1
  go_enter Tryz.func21, Tryz.ntmps21
  go_wp2_with (go_at_call 37; refine (unhide HC).mono ?_; rintro e w2 ⟨rfl, rfl⟩)
  go_ret
  exact ⟨rfl, unhide HB1⟩

set_option maxRecDepth 100000 in
set_option maxHeartbeats 4000000 in
theorem find_in (W : World) (M : Nat) (v : Value) (l : List Nd) (n : Nat) (kd : Int) (hN : Nodes W M v l) (hM : M ≤ W.heap.size) (hn : n < l.length) (Ok : Nat → Array Value → World → Prop)
    (hW : ∀ w, Below W.heap.size W w → Calls Tryz.prog 16 #[.agg #[v]] w fun e w' => ∃ wf wc, e = .returned (.func (.func wf) #[] wc) ∧ Ok wf wc w' ∧ Below w.heap.size w w')
    (hOk : ∀ wf wc w w', Ok wf wc w → Below w.heap.size w w' → Ok wf wc w') :
    Calls Tryz.prog 21 #[.agg #[v], .int .i64 (n : Int), .int .i64 kd] W (FindMade W l n kd Ok) := by
  obtain ⟨j0, hj, hy0, hy1, hy2⟩ := info_parts infoInt
  obtain ⟨W1, hW1⟩ : ∃ W1, ((W.alloc (.cells #[v] 24)).alloc (.cells #[.int .i64 (n : Int)] 3)).alloc (.cells #[.int .i64 kd] 3) = W1 := ⟨_, rfl⟩
  have hz1 : W1.heap.size = W.heap.size + 3 := by rw [← hW1]; simp
  have hB1 : Below W.heap.size W W1 := by rw [← hW1]; exact (((Below.refl _ W).alloc (Nat.le_refl _) _).alloc (by simp) _).alloc (by simp; omega) _
  have t1 : Boxed W1 W.heap.size 24 v := by rw [← hW1]; exact (Below.heap_alloc _ _ _ (by simp; omega)).trans (rat_a2 W _ _)
  have n1 : Boxed W1 (W.heap.size + 1) 3 (.int .i64 (n : Int)) := by rw [← hW1]; exact (Below.heap_alloc _ _ _ (by simp)).trans (rat_a3 W _ _)
  have q1 : Boxed W1 (W.heap.size + 2) 3 (.int .i64 kd) := by
    rw [← hW1]
    have := World.alloc_heap_new ((W.alloc (.cells #[v] 24)).alloc (.cells #[.int .i64 (n : Int)] 3)) (.cells #[.int .i64 kd] 3)
    simp only [World.size_alloc] at this
    exact this
  have HF : Hid (∀ w, Below W1.heap.size W1 w → Below W.heap.size W w ∧ w.cell? ⟨W.heap.size, 0, none⟩ = some v ∧ Boxed w (W.heap.size + 1) 3 (.int .i64 (n : Int)) ∧ Boxed w (W.heap.size + 2) 3 (.int .i64 kd) ∧ W1.heap.size ≤ w.heap.size) := fun w hw =>
    ⟨hB1.trans (hw.mono (by omega)), Boxed.cell (show Boxed w W.heap.size 24 v from (hw.block _ (by omega)).trans t1), (hw.block _ (by omega)).trans n1, (hw.block _ (by omega)).trans q1, hw.size⟩
  have HIN := hide (within_ok (hN.keep hB1 hM) (n : Int))
  rw [show ins l (n : Int) = true from ins_iff'.2 ⟨by omega, by omega⟩] at HIN
  have HWK := hide (hW W1 hB1)
  have HOK := hide hOk
  have HN := hide hN
  have hlen := hN.1
  obtain ⟨bb, o, cap, _, _, rfl, hvc, hvm, hbM, _⟩ := hN.at hn
  have ht1 := t1.cell
  have hn1 := n1.cell
  have hs1 : W.heap.size + 1 < W1.heap.size := by omega
  have hs0 : W.heap.size < W1.heap.size := by omega
  have HZ1 := hide hz1
  clear hN hW hOk t1 n1 q1 hz1
  go_enter Tryz.func21, Tryz.ntmps21
  go_wp2_with (first
    | (go_at_call 37; refine (unhide HIN).mono ?_; rintro e w1 ⟨rfl, hw1⟩; have hw1' := hw1.symm; clear hw1; subst hw1')
    | (go_at_call 16; refine (unhide HWK).mono ?_; rintro e w2 ⟨wf, wc, rfl, hok2, hB2⟩; have hz2 := hB2.size; have hB3 : Below W1.heap.size W1 (w2.alloc (.cells #[.func (.func wf) #[] wc] 35)) := hB2.alloc hz2 _; obtain ⟨a3, b3, c3, d3, e3⟩ := unhide HF _ hB3; have HOK2 := hide hok2; clear hok2)
    | (at_make; refine wpList_make_full _ rfl _ _ 27 rfl W1.heap.size 3 j0 (.int .i64 0) 1 Tryz.underlying27 hj hy0 hy1 .i64 .i64 (l.length : Int) (l.length : Int) l.length rfl rfl rfl rfl ?m1 ?m2 ?m3 ?_))
  case m1 => rw [hy2]; omega
  case m2 => unfold maxLen; omega
  case m3 => simp; omega
  intro w4 hown4 hg4
  obtain ⟨w3, hw3⟩ : ∃ w3, w2.alloc (.cells #[.func (.func wf) #[] wc] 35) = w3 := ⟨_, rfl⟩
  have hz3 : w3.heap.size = w2.heap.size + 1 := by rw [← hw3]; simp
  have hBa3 : Boxed w3 w2.heap.size 35 (.func (.func wf) #[] wc) := by rw [← hw3]; exact rat_a1 w2 _
  have hB23 : Below w2.heap.size w2 w3 := by rw [← hw3]; exact (Below.refl _ w2).alloc (Nat.le_refl _) _
  have hz1 := unhide HZ1
  rw [← hz3] at hown4
  rw [hw3] at hg4 hB3
  clear hw3 a3 b3 c3 d3 e3
  have hz4 : w3.heap.size < w4.heap.size := (hown4.lt w3.heap.size (by simp [Value.ownBlock])).2
  have e0 : (madeCells #[Value.int .i64 0] l.length).toList = mixF (kndV l) l.length 0 := by rw [mixF_zero]; exact toList_madeCells_one _ _
  have hown4' : w4.ownsRow W1.heap.size 3 1 (.slice (some ⟨w3.heap.size, 0, none⟩) l.length l.length) l.length (mixF (kndV l) l.length 0) := by rw [← e0]; simpa using hown4
  have hB34 : Below w3.heap.size w3 w4 := (Below.refl _ w3).grown hg4 (Nat.le_refl _) (fun k hk => by cases hk)
  obtain ⟨w5, hw5⟩ : ∃ w5, w4.alloc (.cells #[.slice (some ⟨w3.heap.size, 0, none⟩) l.length l.length] 27) = w5 := ⟨_, rfl⟩
  have hz5 : w5.heap.size = w4.heap.size + 1 := by rw [← hw5]; simp
  have hB45 : Below w4.heap.size w4 w5 := by rw [← hw5]; exact (Below.refl _ w4).alloc (Nat.le_refl _) _
  have hBk5 : Boxed w5 w4.heap.size 27 (.slice (some ⟨w3.heap.size, 0, none⟩) l.length l.length) := by rw [← hw5]; exact rat_a1 w4 _
  have hown5 : w5.ownsRow W1.heap.size 3 1 (.slice (some ⟨w3.heap.size, 0, none⟩) l.length l.length) l.length (mixF (kndV l) l.length 0) := by rw [← hw5]; exact hown4'.alloc _
  have hB35 : Below w3.heap.size w3 w5 := hB34.trans (hB45.mono (by omega))
  have HG : Hid (∀ w, Below w3.heap.size w5 w → Below w2.heap.size w2 w ∧ Boxed w w2.heap.size 35 (.func (.func wf) #[] wc) ∧ Below W1.heap.size W1 w) := fun w hw => by
    have h1 : Below w3.heap.size w3 w := hB35.trans hw
    exact ⟨hB23.trans (h1.mono (by omega)), (h1.block _ (by omega)).trans hBa3, hB3.trans (h1.mono (by omega))⟩
  have HO5 := hide hown5
  have HBk5 := hide hBk5
  obtain ⟨ck, hck⟩ : ∃ ck, w3.heap.size = ck := ⟨_, rfl⟩
  obtain ⟨Bk, hBk⟩ : ∃ Bk, w4.heap.size = Bk := ⟨_, rfl⟩
  obtain ⟨Ba, hBa⟩ : ∃ Ba, w2.heap.size = Ba := ⟨_, rfl⟩
  have hl1 : ck < Bk := by omega
  have hl2 : Bk < w5.heap.size := by omega
  have hl3 : W1.heap.size ≤ ck := by omega
  obtain ⟨p1, p2, p3, p4, p5⟩ := unhide HF w5 ((unhide HG w5 (Below.refl _ _)).2.2)
  have hW5 : W.heap.size < w5.heap.size := by omega
  have cX : w4.cell? ⟨W.heap.size, 0, none⟩ = some (.slice (some ⟨bb, o, none⟩) l.length cap) := by
    obtain ⟨_, h2, _⟩ := unhide HF w4 (hB3.trans (hB34.mono (by omega)))
    exact h2
  have hW4 : W.heap.size < w4.heap.size := by omega
  rw [hck] at HO5 HBk5 HG hw5
  rw [hBk] at HBk5
  rw [hBa] at HG
  have hz3' : w2.heap.size + 1 = ck := by omega
  rw [hz3']
  have HW5 := hide hw5
  have HBK := hide hBk
  have HBA := hide hBa
  clear hown4 hown4' e0 hg4 hown5 hBk5 hw5 hB34 hB45 hB35 hB3 hBa3 hB23 hck hBk hBa p1 p2 p3 p4 p5 hz3 hz4 hz5 hz3'
  go_wp2
  rw [unhide HW5, unhide HBK, unhide HBA]
  clear cX hW4
  go_loopw [25] (fun t25 wr => ∃ i : Nat, i ≤ l.length ∧ t25 = .int .i64 (i : Int) ∧ wr.ownsRow W1.heap.size 3 1 (.slice (some ⟨ck, 0, none⟩) l.length l.length) l.length (mixF (kndV l) l.length i) ∧ Boxed wr Bk 27 (.slice (some ⟨ck, 0, none⟩) l.length l.length) ∧ Below ck w5 wr) (fun t25 _ => l.length - (intOf t25).toNat)
  case atStart => exact ⟨0, Nat.zero_le _, rfl, unhide HO5, unhide HBk5, Below.refl _ _⟩
  case round =>
    obtain ⟨i, hil, rfl, hown, hbx, hB⟩ := hrel
    obtain ⟨g1, g2, g3⟩ := unhide HG wr hB
    obtain ⟨p1, p2', p3, p4, p5⟩ := unhide HF wr g3
    have HO := hide hown
    have HBX' := hide hbx
    have cb := hbx.cell
    have hbl := hbx.lt
    have hzr := hB.size
    clear hown hbx
    by_cases hlt : i < l.length
    · have hlt' : (i : Int) < l.length := by omega
      obtain ⟨b3, o3, cap3, ka, kc, hv, _, _, hb3, d0, d1, d2, d3, d4, _, _, _⟩ := ((unhide HN).keep p1 hM).at hlt
      obtain ⟨rfl, rfl, rfl⟩ : bb = b3 ∧ o = o3 ∧ cap = cap3 := by injection hv with h1 _ h3; injection h1 with h1; injection h1 with h4 h5; exact ⟨h4, h5, h3⟩
      have hbw : bb < wr.heap.size := by have := p1.size; omega
      clear hv
      obtain ⟨x, hnd⟩ : ∃ x, nd l i = x := ⟨_, rfl⟩
      rw [hnd] at d0 d1 d2 d3 d4
      have HND := hide hnd
      obtain ⟨kdd, tx, nm, ks, at'⟩ := x
      simp only at d0 d1 d2 d3 d4
      clear hnd
      obtain ⟨w6, hw6⟩ : ∃ w6, wr.alloc (.cells #[.int .i64 kdd, .string tx, .int .i64 nm, .slice ka ks.length kc, .int .i64 at'] 29) = w6 := ⟨_, rfl⟩
      have ho1 := (unhide HO).alloc (.cells #[.int .i64 kdd, .string tx, .int .i64 nm, .slice ka ks.length kc, .int .i64 at'] 29)
      have hb1 := (unhide HBX').alloc (.cells #[.int .i64 kdd, .string tx, .int .i64 nm, .slice ka ks.length kc, .int .i64 at'] 29)
      have hB1' := hB.alloc (show ck ≤ wr.heap.size by omega) (.cells #[.int .i64 kdd, .string tx, .int .i64 nm, .slice ka ks.length kc, .int .i64 at'] 29)
      have h29 := World.alloc_heap_new wr (.cells #[.int .i64 kdd, .string tx, .int .i64 nm, .slice ka ks.length kc, .int .i64 at'] 29)
      have hsz6 : w6.heap.size = wr.heap.size + 1 := by rw [← hw6]; simp
      rw [hw6] at ho1 hb1 hB1' h29
      have cb1 := hb1.cell
      have k29 := (rcells5 h29).1
      obtain ⟨xi, ci⟩ : ∃ x, w6.cell? ⟨ck, i, none⟩ = some x := by
        rw [ho1.cellAt i (by omega)]
        exact ⟨_, List.getElem?_eq_getElem (by rw [mixF_len]; exact hlt)⟩
      have fi := ho1.frozenAt i
      obtain ⟨hst, hgr⟩ := ho1.stored i (.int .i64 kdd)
      have e2 : Value.int .i64 kdd = kndV l i := by rw [kndV, unhide HND]
      rw [e2, mixF_set _ _ _ hlt, ← e2] at hst
      have hb2 : Boxed (w6.setCell ⟨ck, i, none⟩ (.int .i64 kdd)) Bk 27 (.slice (some ⟨ck, 0, none⟩) l.length l.length) := (Below.heap_setCell _ _ _ _ (by simp; omega)).trans hb1
      have hB2' := hB1'.setCell (p := ⟨ck, i, none⟩) (Nat.le_refl _) (.int .i64 kdd)
      have HST := hide hst
      have HB1 := hide hb2
      have HBB := hide hB2'
      have hlw : ck < w6.heap.size := (ho1.lt _ rfl).2
      clear hst hgr hb2 hB2' ho1 hb1 h29 hB1' e2
      go_wp2
      exact ⟨⟨i + 1, by omega, by go_num, unhide HST, unhide HB1, unhide HBB⟩, by simp [intOf]; omega⟩
    · have hlt' : ¬ (i : Int) < l.length := by omega
      obtain rfl : i = l.length := by omega
      go_wp2
      go_ret
      refine ⟨Ba, Bk, ck, wf, wc, rfl, g2, p3, p4, unhide HBX', fun j hj => ?_, unhide HOK _ _ _ _ (unhide HOK2) (by rw [unhide HBA]; exact g1), ((unhide HO).lt ck rfl).2, p1⟩
      rw [(unhide HO).cellAt j (by omega)]
      exact mixF_get _ _ _ _ hj (Nat.le_refl _)
end Go.Proofs.YtoffpbaddehncaaGreatDoor

/- tree.Find's function value under a plain function. -/
namespace Go.Proofs.YtoffpbaddehncaaGreatDoor
set_option linter.unusedSimpArgs false
set_option linter.unusedVariables false
open Go.RowKit Go.Shelf
attribute [local go_sem] Oper.semAt_some

theorem en_nest {l : List Nd} {n g : Nat} (hn : Fine l n) (hg : Fine l g) (h1 : n < g) (h2 : g < en l n) : en l g ≤ en l n := by
  rcases Nat.lt_or_ge (en l n) (en l g) with h | h
  · have a := dep_in hg (k := en l n) h2 h
    have b := dep_in hn h1 h2
    have c := dep_end hn
    omega
  · exact h
/-- What Find's walk has in mind ahead of a node: what was found last, and what is still to come. -/
def StF (l : List Nd) (n : Nat) (kd : Int) (i : Nat) (fd : Int) (rest : List Nat) : Prop :=
  (fd = 9223372036854775807 ∧ rest = frA l n kd i) ∨ (∃ g, n < g ∧ g < i ∧ i ≤ en l g ∧ g < en l n ∧ fd = (depAt l g : Int) ∧ rest = frA l n kd (en l g))
/-- What it holds, ahead of node i. -/
def PreF (l : List Nd) (n : Nat) (kd : Int) (i : Nat) (tp fd : Int) (done rest : List Nat) : Prop :=
  if i ≤ n then fd = 9223372036854775807 ∧ done = [] ∧ rest = frA l n kd (n + 1) else tp = (depAt l n : Int) ∧ i ≤ en l n ∧ StF l n kd i fd rest
theorem pre_low {l : List Nd} {n : Nat} {kd : Int} {i : Nat} {tp fd : Int} {done rest : List Nat} (hf : ∀ m, m < l.length → Fine l m) (hn : n < l.length) (h : PreF l n kd i tp fd done rest) (hi : i ≤ n) : PreF l n kd (i + 1) (depAt l i : Int) fd done rest := by
  simp only [PreF, if_pos hi] at h
  obtain ⟨h1, h2, h3⟩ := h
  have hle := (hf n hn).le
  by_cases e : i + 1 ≤ n
  · simp only [PreF, if_pos e]
    exact ⟨h1, h2, h3⟩
  · obtain rfl : i = n := by omega
    simp only [PreF, if_neg e]
    exact ⟨by trivial, by omega, .inl ⟨h1, h3⟩⟩
theorem pre_stop {l : List Nd} {n : Nat} {kd : Int} {i : Nat} {tp fd : Int} {done rest : List Nat} (hf : ∀ m, m < l.length → Fine l m) (hn : n < l.length) (h : PreF l n kd i tp fd done rest) (hi : n < i) (hd : (depAt l i : Int) ≤ tp) : rest = [] := by
  simp only [PreF, if_neg (show ¬ i ≤ n by omega)] at h
  obtain ⟨rfl, h1, h2⟩ := h
  have he : i = en l n := by
    rcases Nat.lt_or_ge i (en l n) with h | h
    · have := dep_in (hf n hn) hi h; omega
    · omega
  have hr : frA l n kd i = [] := frA_end (by omega)
  rcases h2 with ⟨_, h2⟩ | ⟨g, g1, g2, g3, g4, g5, g6⟩
  · rw [h2]; exact hr
  · have hgl : g < l.length := by have := (hf n hn).le; omega
    have := en_nest (hf n hn) (hf g hgl) g1 g4
    rw [g6, show en l g = i by omega]; exact hr
theorem pre_in {l : List Nd} {n : Nat} {kd : Int} {i : Nat} {tp fd : Int} {done rest : List Nat} (hf : ∀ m, m < l.length → Fine l m) (hn : n < l.length) (h : PreF l n kd i tp fd done rest) (hi : n < i) (hil : i < l.length) (hd : ¬ (depAt l i : Int) ≤ tp) : i < en l n := by
  simp only [PreF, if_neg (show ¬ i ≤ n by omega)] at h
  obtain ⟨rfl, h1, h2⟩ := h
  rcases Nat.lt_or_ge i (en l n) with h | h
  · exact h
  · have := dep_end (hf n hn)
    rw [show en l n = i by omega] at this
    omega
theorem pre_skip {l : List Nd} {n : Nat} {kd : Int} {i : Nat} {tp fd : Int} {done rest : List Nat} (hf : ∀ m, m < l.length → Fine l m) (hn : n < l.length) (h : PreF l n kd i tp fd done rest) (hi : n < i) (hil : i < l.length) (hin : i < en l n) (hlen : l.length ≤ 2199023255552) (hfd : fd < (depAt l i : Int)) : PreF l n kd (i + 1) tp fd done rest := by
  have hdi : depAt l i ≤ i := Nat.le_trans (popZ_len _) (stAt_len l i)
  simp only [PreF, if_neg (show ¬ i ≤ n by omega)] at h
  simp only [PreF, if_neg (show ¬ i + 1 ≤ n by omega)]
  obtain ⟨h0, h1, h2⟩ := h
  refine ⟨h0, by omega, ?_⟩
  rcases h2 with ⟨rfl, h2⟩ | ⟨g, g1, g2, g3, g4, g5, g6⟩
  · right
    omega
  · refine .inr ⟨g, g1, by omega, ?_, g4, g5, g6⟩
    have hgl : g < l.length := by omega
    rcases Nat.lt_or_ge i (en l g) with h | h
    · omega
    · have := dep_end (hf g hgl)
      rw [show en l g = i by omega] at this
      omega
theorem pre_look {l : List Nd} {n : Nat} {kd : Int} {i : Nat} {tp fd : Int} {done rest : List Nat} (hf : ∀ m, m < l.length → Fine l m) (hn : n < l.length) (h : PreF l n kd i tp fd done rest) (hi : n < i) (hil : i < l.length) (hin : i < en l n) (hfd : ¬ fd < (depAt l i : Int)) : rest = frA l n kd i ∧ tp = (depAt l n : Int) := by
  simp only [PreF, if_neg (show ¬ i ≤ n by omega)] at h
  obtain ⟨h0, h1, h2⟩ := h
  refine ⟨?_, h0⟩
  rcases h2 with ⟨_, h2⟩ | ⟨g, g1, g2, g3, g4, g5, g6⟩
  · exact h2
  · have hgl : g < l.length := by omega
    rcases Nat.lt_or_ge i (en l g) with h | h
    · have := dep_in (hf g hgl) g2 h
      omega
    · rw [g6, show en l g = i by omega]
theorem pre_no {l : List Nd} {n : Nat} {kd : Int} {i : Nat} {done : List Nat} (hf : ∀ m, m < l.length → Fine l m) (hn : n < l.length) (hi : n < i) (hin : i < en l n) (hk : ¬ (nd l i).kind = kd) : PreF l n kd (i + 1) (depAt l n : Int) 9223372036854775807 done (frA l n kd i) := by
  simp only [PreF, if_neg (show ¬ i + 1 ≤ n by omega)]
  exact ⟨by trivial, by omega, .inl ⟨rfl, frA_no hf hn hin hk⟩⟩
theorem pre_yes {l : List Nd} {n : Nat} {kd : Int} {i : Nat} {done : List Nat} (hf : ∀ m, m < l.length → Fine l m) (hn : n < l.length) (hi : n < i) (hin : i < en l n) (hk : (nd l i).kind = kd) : frA l n kd i = i :: frA l n kd (en l i) ∧ PreF l n kd (i + 1) (depAt l n : Int) (depAt l i : Int) done (frA l n kd (en l i)) := by
  refine ⟨frA_yes hf hn hin hk, ?_⟩
  have hle := (hf n hn).le
  have := (hf i (by omega)).le
  simp only [PreF, if_neg (show ¬ i + 1 ≤ n by omega)]
  exact ⟨by trivial, by omega, .inr ⟨i, hi, by omega, by omega, hin, rfl, rfl⟩⟩
theorem pre_done {l : List Nd} {n : Nat} {kd : Int} {tp fd : Int} {done rest : List Nat} (hf : ∀ m, m < l.length → Fine l m) (hn : n < l.length) (h : PreF l n kd l.length tp fd done rest) : rest = [] := by
  have hle := (hf n hn).le
  simp only [PreF, if_neg (show ¬ l.length ≤ n by omega)] at h
  obtain ⟨h0, h1, h2⟩ := h
  rcases h2 with ⟨_, h2⟩ | ⟨g, g1, g2, g3, g4, g5, g6⟩
  · rw [h2]; exact frA_end (by omega)
  · have := (hf g g2).le
    rw [g6]; exact frA_end (by omega)
end Go.Proofs.YtoffpbaddehncaaGreatDoor
