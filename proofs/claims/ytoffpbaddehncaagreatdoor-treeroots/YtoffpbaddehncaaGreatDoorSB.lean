/- The law TreeRoots over a root and a row of trees. -/
import Derived.LoopN
import Derived.OwnWalk
import Derived.Test.YtoffpbaddehncaaGreatDoorG7
import Derived.Test.YtoffpbaddehncaaGreatDoorVT
import Derived.Test.YtoffpbaddehncaaGreatDoorTR
import Derived.Test.YtoffpbaddehncaaGreatDoorUG
namespace Go.Proofs.YtoffpbaddehncaaGreatDoor
set_option linter.unusedSimpArgs false
set_option linter.unusedVariables false
open Go.RowKit Go.Shelf

theorem mk_mem (ts : List (List Nd)) : ∀ (i : Nat) (x : Nd), x ∈ (mk ts i).1 → ∃ j, j < i ∧ ∃ y ∈ ts.getD j [], ∃ p : Int, x = shN p y
  | 0, x, h => by cases h
  | i + 1, x, h => by
    simp only [mk] at h
    split at h
    · obtain ⟨j, hj, r⟩ := mk_mem ts i x h
      exact ⟨j, by omega, r⟩
    · rcases List.mem_append.1 h with h | h
      · obtain ⟨j, hj, r⟩ := mk_mem ts i x h
        exact ⟨j, by omega, r⟩
      · obtain ⟨y, hy, rfl⟩ := List.mem_map.1 h
        exact ⟨i, by omega, y, hy, _, rfl⟩
theorem small_nodes {t : List Nd} (h : szN t t.length ≤ 3000) {y : Nd} (hy : y ∈ t) : y.text.size ≤ 3000 ∧ y.kids.length ≤ 3000 := by
  obtain ⟨j, hj⟩ := List.getElem?_of_mem hy
  have hjl := (List.getElem?_eq_some_iff.1 hj).1
  have e : nd t j = y := by simp [nd, List.getD_eq_getElem?_getD, hj]
  have := szN_at t hjl
  rw [e] at this
  omega
theorem szs_small {ts : List (List Nd)} (h : ∀ i, i < ts.length → szN (ts.getD i []) (ts.getD i []).length ≤ 3000) : ∀ i, i ≤ ts.length → szs ts i ≤ 3000 * i
  | 0, _ => Nat.le_refl _
  | i + 1, hi => by
    have h1 := szs_small h i (by omega)
    have h2 := h i hi
    have h3 := szN_len (ts.getD i []) (ts.getD i []).length
    simp only [szs]
    omega
theorem root_bd {root : Nd} {ts : List (List Nd)} (ht : root.text.size ≤ 1048576) (h6 : ts.length ≤ 6) (hs : ∀ i, i < ts.length → szN (ts.getD i []) (ts.getD i []).length ≤ 3000) : ∀ x ∈ makeT root ts, x.text.size ≤ 1048576 ∧ x.kids.length ≤ 17592186044416 := by
  intro x hx
  simp only [makeT] at hx
  rcases List.mem_cons.1 hx with hx | hx
  · rw [hx]
    have := mkr_len ts ts.length
    exact ⟨ht, by show (mk ts ts.length).2.length ≤ _; omega⟩
  · obtain ⟨j, hj, y, hy, p, hp⟩ := mk_mem ts _ _ hx
    have := small_nodes (hs j hj) hy
    rw [hp]
    exact ⟨by show y.text.size ≤ _; omega, by show (y.kids.map _).length ≤ _; rw [List.length_map]; omega⟩
theorem make_nodes {W : World} {B : Nat} {v : Value} {es : List NE} {root : Nd} {ts : List (List Nd)} (h : OwnN W B v es) (he : es.map NE.x = makeT root ts) (ht : root.text.size ≤ 1048576) (h6 : ts.length ≤ 6) (hs : ∀ i, i < ts.length → szN (ts.getD i []) (ts.getD i []).length ≤ 3000) : Nodes W W.heap.size v (makeT root ts) := by
  have hl := make_len root ts
  have hz := szs_small hs ts.length (Nat.le_refl _)
  have hel : es.length = (makeT root ts).length := by rw [← he]; simp
  rw [← he]
  refine h.nodes (by omega) fun e hm => ?_
  have hx : e.x ∈ makeT root ts := by rw [← he]; exact List.mem_map_of_mem hm
  have := root_bd ht h6 hs _ hx
  exact ⟨by omega, this.2⟩
theorem own_len {W : World} {B : Nat} {v : Value} {es : List NE} {root : Nd} {ts : List (List Nd)} (h : OwnN W B v es) (he : es.map NE.x = makeT root ts) : ∃ g c, v = .slice (some ⟨g, 0, none⟩) (szs ts ts.length + 1) c := by
  have hel : es.length = szs ts ts.length + 1 := by rw [← make_len root ts, ← he]; simp
  obtain ⟨g, c, hv, _⟩ := h.1.form (by omega)
  exact ⟨g, c, by rw [hv, hel]⟩
theorem chk_root (root : Nd) {ts : List (List Nd)} (h : GoodTs ts) (hb : szs ts ts.length + 1 ≤ 2199023255552) : (chkP (makeT root ts)).2 = 0 ∨ ((chkP (makeT root ts)).1 = 0 ∧ (chkP (makeT root ts)).2 = 7) := by
  have hl := make_len root ts
  cases hf : fitP (makeT root ts) 0 with
  | false => right; rw [chk_bad (by omega) hf]; exact ⟨rfl, rfl⟩
  | true =>
    left
    have hc := chain_make root h hb ts.length (Nat.le_refl _)
    obtain ⟨f1, f2⟩ := fine_of_chain (l := makeT root ts) (n := 0) (by omega) hf hc
    have h0 : ¬ (makeT root ts).length = 0 := by omega
    have h1 := f1.2
    have h2 : (lookP (makeT root ts) (makeT root ts).length 0).2 = szs ts ts.length + 1 := f2
    simp only [chkP, if_neg h0, outP, if_pos h1, h2]
    rw [if_neg (by omega)]

set_option maxRecDepth 100000 in
set_option maxHeartbeats 8000000 in
theorem roots_any (W : World) (M : Nat) (root : Nd) (ka : Option Addr) (kc : Nat) (a : Option Addr) (cap : Nat) (ts : List (List Nd)) (hT : TreesAt W M a ts) (hn : ts.length ≤ 1048576) (hM : M ≤ W.heap.size) (htx : root.text.size ≤ 1048576) (hkl : root.kids.length ≤ 1048576) :
    Calls Tryz.prog 8 #[.agg #[.int .i64 root.kind, .string root.text, .int .i64 root.num, .slice ka root.kids.length kc, .int .i64 root.at'], .slice a ts.length cap] W fun e w' => e = .returned (.bool true) ∧ Below W.heap.size W w' := by
  have HT := hide hT
  clear hT
  obtain ⟨W1, hW1⟩ : ∃ W1, W.alloc (.cells #[.int .i64 root.kind, .string root.text, .int .i64 root.num, .slice ka root.kids.length kc, .int .i64 root.at'] 29) = W1 := ⟨_, rfl⟩
  have hB1 : Below W.heap.size W W1 := by rw [← hW1]; exact (Below.refl _ W).alloc (Nat.le_refl _) _
  have c1 : W1.heap[W.heap.size]? = some (.cells #[.int .i64 root.kind, .string root.text, .int .i64 root.num, .slice ka root.kids.length kc, .int .i64 root.at'] 29) := by rw [← hW1]; exact rat_a1 W _
  have hz1 : W1.heap.size = W.heap.size + 1 := by rw [← hW1]; simp
  have HX : Hid (∀ w, Below W1.heap.size W1 w → Below W.heap.size W w ∧ w.heap[W.heap.size]? = some (.cells #[.int .i64 root.kind, .string root.text, .int .i64 root.num, .slice ka root.kids.length kc, .int .i64 root.at'] 29) ∧ W.heap.size < w.heap.size) := fun w hw => ⟨hB1.trans (hw.mono (by omega)), (hw.block _ (by omega)).trans c1, by have := hw.size; omega⟩
  obtain ⟨x0, x1, x2, x3, x4⟩ := rcells5 c1
  have hs1 : W.heap.size < W1.heap.size := by omega
  have HB1 := hide hB1
  clear c1 hz1 hB1
  by_cases h7 : ts.length ≤ 6
  case neg =>
    have h7' : (6 : Int) < ts.length := by omega
    go_enter Tryz.func8, Tryz.ntmps8
    go_wp2
    go_ret
    exact ⟨rfl, unhide HB1⟩
  have h7' : ¬ (6 : Int) < ts.length := by omega
  by_cases h3 : root.kids.length ≤ 3000
  case neg =>
    have h3' : (3000 : Int) < root.kids.length := by omega
    go_enter Tryz.func8, Tryz.ntmps8
    go_wp2
    go_ret
    exact ⟨rfl, unhide HB1⟩
  have h3' : ¬ (3000 : Int) < root.kids.length := by omega
  go_enter Tryz.func8, Tryz.ntmps8
  go_wp2
  clear x0 x1 x2 x3 x4 hW1
  go_loopw [5] (fun t5 wr => ∃ i : Nat, i ≤ ts.length ∧ t5 = .int .i64 (i : Int) ∧ (∀ j, j < i → (chkP (ts.getD j [])).2 = 0 ∧ szN (ts.getD j []) (ts.getD j []).length ≤ 3000) ∧ Below W1.heap.size W1 wr) (fun t5 _ => ts.length - (intOf t5).toNat)
  case atStart => exact ⟨0, Nat.zero_le _, rfl, fun j hj => by omega, Below.refl _ _⟩
  case round =>
    obtain ⟨i, hil, rfl, hgood, hBr⟩ := hrel
    obtain ⟨w0, hw0⟩ : ∃ w0, w0 = wr := ⟨_, rfl⟩
    subst hw0
    have HGD := hide hgood
    obtain ⟨r1, r2, r3⟩ := unhide HX w0 hBr
    have HR1 := hide r1
    clear hgood
    by_cases hlt : i < ts.length
    · have hlt' : (i : Int) < ts.length := by omega
      have hi0 : (0 : Int) ≤ (i : Int) := by omega
      rcases unhide HT with h | ⟨tb, to, ha, htb, htc⟩
      · subst h; simp at hlt
      obtain ⟨tv, dt, hNt⟩ := htc i hlt
      obtain ⟨t, ht⟩ : ∃ t, ts.getD i [] = t := ⟨_, rfl⟩
      rw [ht] at hNt
      have htW : tb < W.heap.size := by omega
      obtain ⟨ta, tc, rfl, htc1, _⟩ := hNt.len
      have HKC : Hid (∀ w, Below W.heap.size W w → w.cell? ⟨tb, to + i, none⟩ = some (.slice ta t.length tc) ∧ tb < w.heap.size ∧ Nodes w M (.slice ta t.length tc) t ∧ M ≤ w.heap.size) := fun w hw => ⟨(hw.cell (p := ⟨tb, to + i, none⟩) htW).trans dt, by have := hw.size; omega, hNt.keep hw hM, by have := hw.size; omega⟩
      have hl1 := hNt.1
      clear htc dt hNt
      have HTT := hide ht
      clear ht
      subst ha
      obtain ⟨c0, c1, c2, c3⟩ := unhide HKC w0 r1
      have HC : Hid (Calls Tryz.prog 24 #[.agg #[.slice ta t.length tc]] w0 fun e w2 => e = .returned (.tuple #[.int .i64 (chkP t).1, .int .i64 (chkP t).2]) ∧ Below w0.heap.size w0 w2) := check_ok w0 M _ t c2 c3
      have HG : Hid (∀ w, Below W1.heap.size W1 w → Calls Tryz.prog 9 #[.agg #[.slice ta t.length tc]] w fun e w2 => e = .returned (.bool (decide (3000 < szN t t.length))) ∧ Below W1.heap.size W1 w2) := fun w hw => (great_any w M _ t (unhide HKC w (unhide HX w hw).1).2.2.1 (unhide HKC w (unhide HX w hw).1).2.2.2).mono fun e w' h => ⟨h.1, hw.trans (h.2.mono hw.size)⟩
      clear c2 c3 r1 r2
      have HKN : Hid (∀ w, Below W1.heap.size W1 w → Calls Tryz.prog 13 #[] w fun e w2 => e = .returned (.bool true) ∧ Below W1.heap.size W1 w2) := fun w hw => (known3_any w).mono fun e w' h => ⟨h.1, hw.trans (h.2.mono hw.size)⟩
      cases hgr : decide (3000 < szN t t.length) with
      | true =>
        rw [hgr] at HG
        obtain ⟨cp, hcp⟩ : ∃ cp, chkP t = cp := ⟨_, rfl⟩
        rw [hcp] at HC
        clear hgr hcp
        go_wp2_with (first
          | (go_at_call 24; refine (unhide HC).mono ?_; rintro e w2 ⟨rfl, hB2⟩; have hb2 := hBr.trans (hB2.mono hBr.size); obtain ⟨e0, e1, _, _⟩ := unhide HKC w2 (unhide HX w2 hb2).1)
          | (go_at_call 9; refine (unhide HG w2 hb2).mono ?_; rintro e w3 ⟨rfl, hb3⟩)
          | (go_at_call 13; refine (unhide HKN w3 hb3).mono ?_; rintro e w4 ⟨rfl, hb4⟩))
        go_ret
        exact ⟨rfl, (unhide HX w4 hb4).1⟩
      | false =>
        rw [hgr] at HG
        have hs3 : szN t t.length ≤ 3000 := by simpa using hgr
        clear hgr
        by_cases hc : (chkP t).2 = 0
        · rw [hc] at HC
          obtain ⟨cp, hcp⟩ : ∃ cp, (chkP t).1 = cp := ⟨_, rfl⟩
          rw [hcp] at HC
          have HCC := hide hc
          clear hcp hc
          go_wp2_with (first
            | (go_at_call 24; refine (unhide HC).mono ?_; rintro e w2 ⟨rfl, hB2⟩; have hb2 := hBr.trans (hB2.mono hBr.size); obtain ⟨e0, e1, _, _⟩ := unhide HKC w2 (unhide HX w2 hb2).1)
            | (go_at_call 9; refine (unhide HG w2 hb2).mono ?_; rintro e w3 ⟨rfl, hb3⟩))
          refine ⟨⟨i + 1, by omega, by go_num, fun j hj => ?_, hb3⟩, by simp [intOf]; omega⟩
          by_cases hji : j = i
          · subst hji; rw [unhide HTT]; exact ⟨unhide HCC, hs3⟩
          · exact unhide HGD j (by omega)
        · have hc' : ((chkP t).2 != 0) = true := by simpa using hc
          obtain ⟨cp, hcp⟩ : ∃ cp, chkP t = cp := ⟨_, rfl⟩
          rw [hcp] at HC hc'
          obtain ⟨p1, p2⟩ := cp
          simp only at hc' HC
          clear hcp hc
          go_wp2_with (first
            | (go_at_call 24; refine (unhide HC).mono ?_; rintro e w2 ⟨rfl, hB2⟩; have hb2 := hBr.trans (hB2.mono hBr.size); obtain ⟨e0, e1, _, _⟩ := unhide HKC w2 (unhide HX w2 hb2).1)
            | (go_at_call 9; refine (unhide HG w2 hb2).mono ?_; rintro e w3 ⟨rfl, hb3⟩)
            | (go_at_call 13; refine (unhide HKN w3 hb3).mono ?_; rintro e w4 ⟨rfl, hb4⟩))
          go_ret
          exact ⟨rfl, (unhide HX w4 hb4).1⟩
    · have hlt' : ¬ (i : Int) < ts.length := by omega
      obtain rfl : i = ts.length := by omega
      have hgt : GoodTs ts := fun t ht => by
        obtain ⟨j, hj⟩ := List.getElem?_of_mem ht
        have hjl := (List.getElem?_eq_some_iff.1 hj).1
        have := (unhide HGD j hjl).1
        rwa [List.getD_eq_getElem?_getD, hj] at this
      have hs3 : ∀ j, j < ts.length → szN (ts.getD j []) (ts.getD j []).length ≤ 3000 := fun j hj => (unhide HGD j hj).2
      have hz := szs_small hs3 ts.length (Nat.le_refl _)
      have hbig : szs ts ts.length + 1 ≤ 2199023255552 := by omega
      obtain ⟨y0, y1, y2, y3, y4⟩ := rcells5 r2
      have hsz0 := hBr.size
      have HMK : Hid (Calls Tryz.prog 26 #[.agg #[.int .i64 root.kind, .string root.text, .int .i64 root.num, .slice ka root.kids.length kc, .int .i64 root.at'], .slice a ts.length cap] w0 (MakeQ root ts w0)) := make_any root (.slice ka root.kids.length kc) ka _ kc ts a cap M w0 rfl (by have := r1.size; omega) ((unhide HT).keep r1 hM) (by omega) hbig (by omega)
      have HNX : Hid (∀ (w : World) (v : Value) (es : List NE), OwnN w w0.heap.size v es → es.map NE.x = makeT root ts → Nodes w w.heap.size v (makeT root ts)) := fun w v es h1 h2 => make_nodes h1 h2 htx h7 hs3
      have hchk := chk_root root hgt hbig
      obtain ⟨nz, hnz⟩ : ∃ nz, szs ts ts.length + 1 = nz := ⟨_, rfl⟩
      have HSL : Hid (∀ (w : World) (v : Value) (es : List NE), OwnN w w0.heap.size v es → es.map NE.x = makeT root ts → ∃ g c, v = .slice (some ⟨g, 0, none⟩) nz c) := fun w v es h1 h2 => by rw [← hnz]; exact own_len h1 h2
      have htl : ∀ m, m < (makeT root ts).length → (nd (makeT root ts) m).text.size ≤ 1048576 := fun m hm => (root_bd htx h7 hs3 _ (by simp only [nd, List.getD_eq_getElem?_getD, List.getElem?_eq_getElem hm]; exact List.getElem_mem hm)).1
      have HC : Hid (∀ (w : World) (v : Value), Nodes w w.heap.size v (makeT root ts) → Calls Tryz.prog 24 #[.agg #[v]] w fun e w2 => e = .returned (.tuple #[.int .i64 (chkP (makeT root ts)).1, .int .i64 (chkP (makeT root ts)).2]) ∧ Below w.heap.size w w2) := fun w v hw => check_ok w w.heap.size v _ hw (Nat.le_refl _)
      have HGO : Hid (∀ (w : World) (v : Value), Nodes w w.heap.size v (makeT root ts) → Calls Tryz.prog 27 #[.agg #[v]] w fun e w2 => e = .returned (.bool ((chkP (makeT root ts)).2 == 0)) ∧ Below w.heap.size w w2) := fun w v hw => rGood_any w w.heap.size v _ hw (Nat.le_refl _) htl
      have HKN : Hid (∀ w, Calls Tryz.prog 13 #[] w fun e w2 => e = .returned (.bool true) ∧ Below w.heap.size w w2) := fun w => known3_any w
      obtain ⟨cp, hcp⟩ : ∃ cp, chkP (makeT root ts) = cp := ⟨_, rfl⟩
      rw [hcp] at HC HGO hchk
      obtain ⟨ck, er⟩ := cp
      simp only at HC HGO hchk
      clear hcp hgt hs3 htl hnz hz hbig r2
      rcases hchk with rfl | ⟨rfl, rfl⟩
      all_goals (
        go_wp2_with (first
          | (go_at_call 26; refine (unhide HMK).mono ?_; rintro e w2 ⟨v2, es2, rfl, hm2, ho2, hB2⟩; have hN2 := unhide HNX w2 v2 es2 ho2 hm2; obtain ⟨g2, c2, rfl⟩ := unhide HSL w2 v2 es2 ho2 hm2; have HN2 := hide hN2; clear hm2 ho2 hN2)
          | (go_at_call 24; refine (unhide HC _ _ (((unhide HN2).keep ((Below.refl _ w2).alloc (Nat.le_refl _) _) (Nat.le_refl _)).mono (by simp))).mono ?_; rintro e w3 ⟨rfl, hB3⟩; have hb3 : Below w2.heap.size w2 w3 := ((Below.refl _ w2).alloc (Nat.le_refl _) _).trans (hB3.mono (by simp)); have c3 : w3.cell? ⟨w2.heap.size, 0, none⟩ = some (.slice (some ⟨g2, 0, none⟩) nz c2) := (by rw [Lib.cell_of_heap ((hB3.block w2.heap.size (by simp)).trans (World.alloc_heap_new w2 _))]; rfl); have s3 : w2.heap.size < w3.heap.size := (by have := hB3.size; simp at this; omega))
          | (go_at_call 27; refine (unhide HGO _ _ (((unhide HN2).keep hb3 (Nat.le_refl _)).mono hb3.size)).mono ?_; rintro e w4 ⟨rfl, hB4⟩)
          | (go_at_call 13; refine (unhide HKN _).mono ?_; rintro e w5 ⟨rfl, hB5⟩))
        go_ret
        refine ⟨rfl, ?_⟩
        have h2 := hB2.size
        have h3 := hb3.size
        have h4 := hB4.size
        exact (unhide HX w5 (hBr.trans ((hB2.mono (by omega)).trans ((hb3.mono (by omega)).trans ((hB4.mono (by omega)).trans (hB5.mono (by omega))))))).1)
end Go.Proofs.YtoffpbaddehncaaGreatDoor
