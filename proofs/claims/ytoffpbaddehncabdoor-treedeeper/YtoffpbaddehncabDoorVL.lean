/- The law TreeDeeper over a row of trees. -/
import Derived.LoopN
import Derived.OwnWalk
import Derived.Test.YtoffpbaddehncabDoorVT
import Derived.Test.YtoffpbaddehncabDoorTR
import Derived.Test.YtoffpbaddehncabDoorUG
namespace Go.Proofs.YtoffpbaddehncabDoor
set_option linter.unusedSimpArgs false
set_option linter.unusedVariables false
open Go.RowKit Go.Shelf

theorem mk_mem (ts : List (List Nd)) : ∀ (i : Nat) (x : Nd), x ∈ (mk ts i).1 → ∃ j, j < i ∧ ∃ y ∈ ts.getD j [], ∃ p : Int, x = shN p y
  | 0, x, h => by cases h
  | i + 1, x, h => by
    simp only [mk] at h
    split at h
    · obtain ⟨j, hj, r⟩ := mk_mem ts i x h
      exact ⟨j, by omega, r⟩
    · rcases List.mem_append.1 h with h | h
      · obtain ⟨j, hj, r⟩ := mk_mem ts i x h
        exact ⟨j, by omega, r⟩
      · obtain ⟨y, hy, rfl⟩ := List.mem_map.1 h
        exact ⟨i, by omega, y, hy, _, rfl⟩
theorem small_nodes {t : List Nd} (h : szN t t.length ≤ 3000) {y : Nd} (hy : y ∈ t) : y.text.size ≤ 3000 ∧ y.kids.length ≤ 3000 := by
  obtain ⟨j, hj⟩ := List.getElem?_of_mem hy
  have hjl := (List.getElem?_eq_some_iff.1 hj).1
  have e : nd t j = y := by simp [nd, List.getD_eq_getElem?_getD, hj]
  have := szN_at t hjl
  rw [e] at this
  omega
theorem szs_small {ts : List (List Nd)} (h : ∀ i, i < ts.length → szN (ts.getD i []) (ts.getD i []).length ≤ 3000) : ∀ i, i ≤ ts.length → szs ts i ≤ 3000 * i
  | 0, _ => Nat.le_refl _
  | i + 1, hi => by
    have h1 := szs_small h i (by omega)
    have h2 := h i hi
    have h3 := szN_len (ts.getD i []) (ts.getD i []).length
    simp only [szs]
    omega
theorem make_nodes {W : World} {B : Nat} {v : Value} {es : List NE} {ts : List (List Nd)} (h : OwnN W B v es) (he : es.map NE.x = makeT rootL ts) (h6 : ts.length ≤ 6) (hs : ∀ i, i < ts.length → szN (ts.getD i []) (ts.getD i []).length ≤ 3000) : Nodes W W.heap.size v (makeT rootL ts) := by
  have hl := make_len rootL ts
  have hz := szs_small hs ts.length (Nat.le_refl _)
  have hel : es.length = (makeT rootL ts).length := by rw [← he]; simp
  rw [← he]
  refine h.nodes (by omega) fun e hm => ?_
  have hx : e.x ∈ makeT rootL ts := by rw [← he]; exact List.mem_map_of_mem hm
  simp only [makeT] at hx
  rcases List.mem_cons.1 hx with hx | hx
  · rw [hx]
    have := mkr_len ts ts.length
    exact ⟨by show (⟨#[]⟩ : ByteArray).size ≤ _; decide, by show (mk ts ts.length).2.length ≤ _; omega⟩
  · obtain ⟨j, hj, y, hy, p, hp⟩ := mk_mem ts _ _ hx
    have := small_nodes (hs j hj) hy
    rw [hp]
    exact ⟨by show y.text.size ≤ _; omega, by show (y.kids.map _).length ≤ _; rw [List.length_map]; omega⟩
theorem own_len {W : World} {B : Nat} {v : Value} {es : List NE} {ts : List (List Nd)} (h : OwnN W B v es) (he : es.map NE.x = makeT rootL ts) : ∃ g c, v = .slice (some ⟨g, 0, none⟩) (szs ts ts.length + 1) c := by
  have hel : es.length = szs ts ts.length + 1 := by rw [← make_len rootL ts, ← he]; simp
  obtain ⟨g, c, hv, _⟩ := h.1.form (by omega)
  exact ⟨g, c, by rw [hv, hel]⟩

set_option maxRecDepth 100000 in
set_option maxHeartbeats 8000000 in
theorem deeper_any (W : World) (M : Nat) (a : Option Addr) (cap : Nat) (ts : List (List Nd)) (hT : TreesAt W M a ts) (hn : ts.length ≤ 1048576) (hM : M ≤ W.heap.size) :
    Calls Tryd.prog 3 #[.slice a ts.length cap] W fun e w' => e = .returned (.bool true) ∧ Below W.heap.size W w' := by
  have HT := hide hT
  clear hT
  go_enter Tryd.func3, Tryd.ntmps3
  go_wp2
  go_loopw [3, 4, 5] (fun t3 t4 t5 wr => ∃ i : Nat, i ≤ ts.length ∧ t5 = .int .i64 (i : Int) ∧ t3 = .int .i64 ((szs ts i + 1 : Nat) : Int) ∧ t4 = .int .i64 (deepP ts i) ∧ (∀ j, j < i → (chkP (ts.getD j [])).2 = 0 ∧ szN (ts.getD j []) (ts.getD j []).length ≤ 3000) ∧ (0 < i → ts.length ≤ 6) ∧ szs ts i ≤ 3000 * i ∧ Below W.heap.size W wr) (fun _ _ t5 _ => ts.length - (intOf t5).toNat)
  case atStart => exact ⟨0, Nat.zero_le _, rfl, rfl, rfl, fun j hj => by omega, fun h => by omega, Nat.le_refl _, Below.refl _ _⟩
  case round =>
    obtain ⟨i, hil, rfl, rfl, rfl, hgood, h6, hsz, hBr⟩ := hrel
    obtain ⟨w0, hw0⟩ : ∃ w0, w0 = wr := ⟨_, rfl⟩
    subst hw0
    have HGD := hide hgood
    have HH6 := hide h6
    clear hgood h6
    obtain ⟨dp, hdp⟩ : ∃ dp, deepP ts i = dp := ⟨_, rfl⟩
    rw [hdp]
    have HDP := hide hdp
    clear hdp
    by_cases hlt : i < ts.length
    · have hlt' : (i : Int) < ts.length := by omega
      have hi0 : (0 : Int) ≤ (i : Int) := by omega
      rcases unhide HT with h | ⟨tb, to, rfl, htb, htc⟩
      · subst h; simp at hlt
      obtain ⟨tv, dt, hNt⟩ := htc i hlt
      obtain ⟨t, ht⟩ : ∃ t, ts.getD i [] = t := ⟨_, rfl⟩
      rw [ht] at hNt
      have htW : tb < W.heap.size := by omega
      obtain ⟨ta, tc, rfl, htc1, _⟩ := hNt.len
      have hKC : ∀ w, Below W.heap.size W w → w.cell? ⟨tb, to + i, none⟩ = some (.slice ta t.length tc) ∧ tb < w.heap.size ∧ Nodes w M (.slice ta t.length tc) t ∧ M ≤ w.heap.size := fun w hw => ⟨(hw.cell (p := ⟨tb, to + i, none⟩) htW).trans dt, by have := hw.size; omega, hNt.keep hw hM, by have := hw.size; omega⟩
      have HKC := hide hKC
      have hl1 := hNt.1
      clear htc hKC dt hNt
      have HTT := hide ht
      clear ht
      obtain ⟨c0, c1, c2, c3⟩ := unhide HKC w0 hBr
      have HC : Hid (Calls Tryd.prog 4 #[.agg #[.slice ta t.length tc]] w0 fun e w2 => e = .returned (.tuple #[.int .i64 (chkP t).1, .int .i64 (chkP t).2]) ∧ Below w0.heap.size w0 w2) := check_ok w0 M _ t c2 c3
      have HG : Hid (∀ w, Below W.heap.size W w → Calls Tryd.prog 5 #[.agg #[.slice ta t.length tc]] w fun e w2 => e = .returned (.bool (decide (3000 < szN t t.length))) ∧ Below w.heap.size w w2) := fun w hw => great_any w M _ t (unhide HKC w hw).2.2.1 (unhide HKC w hw).2.2.2
      clear c2 c3
      have HKN : Hid (∀ w, Calls Tryd.prog 6 #[] w fun e w2 => e = .returned (.bool true) ∧ Below w.heap.size w w2) := fun w => known3_any w
      cases hgr : decide (3000 < szN t t.length) with
      | true =>
        rw [hgr] at HG
        obtain ⟨cp, hcp⟩ : ∃ cp, chkP t = cp := ⟨_, rfl⟩
        rw [hcp] at HC
        clear hgr hcp
        go_wp2_with (first
          | (go_at_call 4; refine (unhide HC).mono ?_; rintro e w2 ⟨rfl, hB2⟩; have hb2 := hBr.trans (hB2.mono hBr.size); obtain ⟨e0, e1, _, _⟩ := unhide HKC w2 hb2)
          | (go_at_call 5; refine (unhide HG w2 hb2).mono ?_; rintro e w3 ⟨rfl, hB3⟩)
          | (go_at_call 6; refine (unhide HKN _).mono ?_; rintro e w4 ⟨rfl, hB4⟩))
        go_ret
        exact ⟨rfl, (hb2.trans (hB3.mono hb2.size)).trans (hB4.mono (Nat.le_trans hb2.size hB3.size))⟩
      | false =>
        rw [hgr] at HG
        have hs3 : szN t t.length ≤ 3000 := by simpa using hgr
        clear hgr
        by_cases hc : (chkP t).2 = 0
        · rw [hc] at HC
          obtain ⟨cp, hcp⟩ : ∃ cp, (chkP t).1 = cp := ⟨_, rfl⟩
          rw [hcp] at HC
          clear hcp
          by_cases h7 : ts.length ≤ 6
          · have h7' : ¬ (6 : Int) < ts.length := by omega
            have HD : Hid (∀ w, Below W.heap.size W w → Calls Tryd.prog 7 #[.agg #[.slice ta t.length tc]] w fun e w2 => e = .returned (.int .i64 (mdp t t.length)) ∧ Below w.heap.size w w2) := fun w hw => callsIn_wide.1 (depth_good w M _ t (unhide HKC w hw).2.2.1 (unhide HKC w hw).2.2.2 hc)
            have htl : t.length ≤ 3000 := by have := szN_len t t.length; omega
            obtain ⟨md, hmd⟩ : ∃ md, mdp t t.length = md := ⟨_, rfl⟩
            rw [hmd] at HD
            have HMD := hide hmd
            have HCC := hide hc
            clear hmd hc
            go_wp2_with (first
              | (go_at_call 4; refine (unhide HC).mono ?_; rintro e w2 ⟨rfl, hB2⟩; have hb2 := hBr.trans (hB2.mono hBr.size); obtain ⟨e0, e1, _, _⟩ := unhide HKC w2 hb2)
              | (go_at_call 5; refine (unhide HG w2 hb2).mono ?_; rintro e w3 ⟨rfl, hB3⟩; have hb3 := hb2.trans (hB3.mono hb2.size); obtain ⟨f0, f1, _, _⟩ := unhide HKC w3 hb3)
              | (go_at_call 7; refine (unhide HD w3 hb3).mono ?_; rintro e w4 ⟨rfl, hB4⟩; have hb4 := hb3.trans (hB4.mono hb3.size)))
            refine ⟨⟨i + 1, by omega, by go_num, ?_, ?_, fun j hj => ?_, fun _ => h7, ?_, hb4⟩, by simp [intOf]; omega⟩
            · simp only [szs, unhide HTT]; go_num
            · simp only [deepP, unhide HTT, unhide HMD, unhide HDP]
            · by_cases hji : j = i
              · subst hji; rw [unhide HTT]; exact ⟨unhide HCC, hs3⟩
              · exact unhide HGD j (by omega)
            · simp only [szs, unhide HTT]; omega
          · have h7' : (6 : Int) < ts.length := by omega
            clear hc
            go_wp2_with (first
              | (go_at_call 4; refine (unhide HC).mono ?_; rintro e w2 ⟨rfl, hB2⟩; have hb2 := hBr.trans (hB2.mono hBr.size); obtain ⟨e0, e1, _, _⟩ := unhide HKC w2 hb2)
              | (go_at_call 5; refine (unhide HG w2 hb2).mono ?_; rintro e w3 ⟨rfl, hB3⟩)
              | (go_at_call 6; refine (unhide HKN _).mono ?_; rintro e w4 ⟨rfl, hB4⟩))
            go_ret
            exact ⟨rfl, (hb2.trans (hB3.mono hb2.size)).trans (hB4.mono (Nat.le_trans hb2.size hB3.size))⟩
        · have hc' : ((chkP t).2 != 0) = true := by simpa using hc
          obtain ⟨cp, hcp⟩ : ∃ cp, chkP t = cp := ⟨_, rfl⟩
          rw [hcp] at HC hc'
          obtain ⟨p1, p2⟩ := cp
          simp only at hc' HC
          clear hcp hc
          go_wp2_with (first
            | (go_at_call 4; refine (unhide HC).mono ?_; rintro e w2 ⟨rfl, hB2⟩; have hb2 := hBr.trans (hB2.mono hBr.size); obtain ⟨e0, e1, _, _⟩ := unhide HKC w2 hb2)
            | (go_at_call 5; refine (unhide HG w2 hb2).mono ?_; rintro e w3 ⟨rfl, hB3⟩)
            | (go_at_call 6; refine (unhide HKN _).mono ?_; rintro e w4 ⟨rfl, hB4⟩))
          go_ret
          exact ⟨rfl, (hb2.trans (hB3.mono hb2.size)).trans (hB4.mono (Nat.le_trans hb2.size hB3.size))⟩
    · have hlt' : ¬ (i : Int) < ts.length := by omega
      obtain rfl : i = ts.length := by omega
      have h6 : ts.length ≤ 6 := by
        by_cases h0 : 0 < ts.length
        · exact unhide HH6 h0
        · omega
      have hgt : GoodTs ts := fun t ht => by
        obtain ⟨j, hj⟩ := List.getElem?_of_mem ht
        have hjl := (List.getElem?_eq_some_iff.1 hj).1
        have := (unhide HGD j hjl).1
        rwa [List.getD_eq_getElem?_getD, hj] at this
      have hbig : szs ts ts.length + 1 ≤ 2199023255552 := by omega
      have hs3 : ∀ j, j < ts.length → szN (ts.getD j []) (ts.getD j []).length ≤ 3000 := fun j hj => (unhide HGD j hj).2
      have HMK : Hid (Calls Tryd.prog 8 #[.agg #[.int .i64 2, .string ⟨#[]⟩, .int .i64 0, .slice none 0 0, .int .i64 0], .slice a ts.length cap] w0 (MakeQ rootL ts w0)) := make_any rootL (.slice none 0 0) none 0 0 ts a cap M w0 rfl (by have := hBr.size; omega) ((unhide HT).keep hBr hM) (by decide) hbig (by omega)
      have HNX : Hid (∀ (w : World) (v : Value) (es : List NE), OwnN w w0.heap.size v es → es.map NE.x = makeT rootL ts → Nodes w w.heap.size v (makeT rootL ts)) := fun w v es h1 h2 => make_nodes h1 h2 h6 hs3
      have hchk := chk_make hgt hbig
      have hdeep := (deep_make hgt hbig ts.length (Nat.le_refl _)).2
      rw [unhide HDP, ← make_len rootL ts] at hdeep
      obtain ⟨nz, hnz⟩ : ∃ nz, szs ts ts.length + 1 = nz := ⟨_, rfl⟩
      have HSL : Hid (∀ (w : World) (v : Value) (es : List NE), OwnN w w0.heap.size v es → es.map NE.x = makeT rootL ts → ∃ g c, v = .slice (some ⟨g, 0, none⟩) nz c) := fun w v es h1 h2 => by rw [← hnz]; exact own_len h1 h2
      have HC : Hid (∀ (w : World) (v : Value), Nodes w w.heap.size v (makeT rootL ts) → Calls Tryd.prog 4 #[.agg #[v]] w fun e w2 => e = .returned (.tuple #[.int .i64 (chkP (makeT rootL ts)).1, .int .i64 0]) ∧ Below w.heap.size w w2) := fun w v hw => by
        have := check_ok w w.heap.size v _ hw (Nat.le_refl _)
        rwa [hchk] at this
      have HD : Hid (∀ (w : World) (v : Value), Nodes w w.heap.size v (makeT rootL ts) → Calls Tryd.prog 7 #[.agg #[v]] w fun e w2 => e = .returned (.int .i64 (dp + 1)) ∧ Below w.heap.size w w2) := fun w v hw => by
        have := callsIn_wide.1 (depth_good w w.heap.size v _ hw (Nat.le_refl _) hchk)
        rwa [hdeep] at this
      have hdpb : -1 ≤ dp ∧ dp ≤ 100000 := by
        have hmm : ∀ (l : List Nd) (i : Nat), 0 ≤ mdp l i ∧ mdp l i ≤ i := fun l i => by
          induction i with
          | zero => exact ⟨Int.le_refl _, Int.le_refl _⟩
          | succ i ih =>
            have h1 : depAt l i ≤ i := Nat.le_trans (popZ_len _) (stAt_len l i)
            simp only [mdp]
            omega
        have := hmm (makeT rootL ts) (makeT rootL ts).length
        rw [hdeep, make_len] at this
        omega
      obtain ⟨ck, hck⟩ : ∃ ck, (chkP (makeT rootL ts)).1 = ck := ⟨_, rfl⟩
      rw [hck] at HC
      rw [hnz]
      clear hck hchk hdeep hgt hs3
      go_wp2_with (first
        | (go_at_call 8; refine (unhide HMK).mono ?_; rintro e w2 ⟨v2, es2, rfl, hm2, ho2, hB2⟩; have hN2 := unhide HNX w2 v2 es2 ho2 hm2; obtain ⟨g2, c2, rfl⟩ := unhide HSL w2 v2 es2 ho2 hm2; have HN2 := hide hN2; clear hm2 ho2 hN2)
        | (go_at_call 4; refine (unhide HC _ _ (((unhide HN2).keep ((Below.refl _ w2).alloc (Nat.le_refl _) _) (Nat.le_refl _)).mono (by simp))).mono ?_; rintro e w3 ⟨rfl, hB3⟩; have hb3 : Below w2.heap.size w2 w3 := ((Below.refl _ w2).alloc (Nat.le_refl _) _).trans (hB3.mono (by simp)); have c3 : w3.cell? ⟨w2.heap.size, 0, none⟩ = some (.slice (some ⟨g2, 0, none⟩) nz c2) := (by rw [Lib.cell_of_heap ((hB3.block w2.heap.size (by simp)).trans (World.alloc_heap_new w2 _))]; rfl); have s3 : w2.heap.size < w3.heap.size := (by have := hB3.size; simp at this; omega))
        | (go_at_call 7; refine (unhide HD _ _ (((unhide HN2).keep hb3 (Nat.le_refl _)).mono hb3.size)).mono ?_; rintro e w4 ⟨rfl, hB4⟩)
        | (go_at_call 6; refine (known3_any _).mono ?_; rintro e w5 ⟨rfl, hB5⟩))
      all_goals go_ret
      all_goals exact ⟨rfl, hBr.trans ((hB2.mono hBr.size).trans ((hb3.mono (Nat.le_trans hBr.size hB2.size)).trans ((hB4.mono (Nat.le_trans hBr.size (Nat.le_trans hB2.size hb3.size))).trans (hB5.mono (Nat.le_trans hBr.size (Nat.le_trans hB2.size (Nat.le_trans hb3.size hB4.size)))))))⟩
end Go.Proofs.YtoffpbaddehncabDoor
