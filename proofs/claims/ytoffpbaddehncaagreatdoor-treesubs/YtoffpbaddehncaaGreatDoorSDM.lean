/- How deep a kid stands; the reference's Depths. -/
import Derived.LoopN
import Derived.OwnWalk
import Derived.Deep.RegionWith
import Derived.Test.YtoffpbaddehncaaGreatDoorG7
import Derived.Test.YtoffpbaddehncaaGreatDoorVT2
namespace Go.Proofs.YtoffpbaddehncaaGreatDoor
set_option linter.unusedSimpArgs false
set_option linter.unusedVariables false
open Go.RowKit Go.Shelf

theorem kid_rs {l : List Nd} {n : Nat} : ∀ (ks : List Int) (next e : Nat), n < next → Chain l ks next e → popZ (rs l n (next - n - 1)) = popZ [(ks.length : Int)] → ∀ k ∈ ks, ∃ q : Nat, k = (q : Int) ∧ n < q ∧ q < e ∧ ∃ c, popZ (rs l n (q - n - 1)) = [c]
  | [], _, _, _, _, _, k, hk => by cases hk
  | k0 :: ks, next, e, hn, hc, h0, k, hk => by
    obtain ⟨hk0, hfn, hc'⟩ := hc
    have hle := hfn.le
    have hce := chain_le _ _ _ hc'
    obtain ⟨r1, r2⟩ := rs_fine _ next (Nat.le_refl _) hfn
    obtain ⟨q, hq⟩ : ∃ q, next = n + q + 1 := ⟨next - n - 1, by omega⟩
    have e0 : next - n - 1 = q := by omega
    have hpz : popZ [((k0 :: ks).length : Int)] = [((k0 :: ks).length : Int)] := by
      have : ¬ (((k0 :: ks).length : Nat) : Int) = 0 := by simp only [List.length_cons]; omega
      simp only [popZ, this, if_false]
    rw [hpz] at h0
    rcases List.mem_cons.1 hk with rfl | hk
    · exact ⟨next, hk0, hn, by omega, _, h0⟩
    · rw [e0] at h0
      have hS := stk_rs l n q
      rw [← hq] at hS
      have hb := stk_base (m := en l next - next) hS (B := [(ks.length : Int)]) (by show decT (popZ (rs l n (q + 0))) = _; rw [Nat.add_zero, h0]; simp [decT]) (fun j hj => r1 j (by omega))
      have hb' : ∀ j, j < en l next - next → rs l n (q + j + 1) = rs l next j ++ [(ks.length : Int)] := fun j hj => hb j hj
      have hend : popZ (rs l n (en l next - n - 1)) = popZ [(ks.length : Int)] := by
        have h1 := hb' (en l next - next - 1) (by omega)
        rw [show en l next - n - 1 = q + (en l next - next - 1) + 1 from by omega, h1, popZ_append, if_pos (r2 _ (by omega))]
      exact kid_rs ks (en l next) e (by omega) hc' hend k hk
/-- A kid stands one deeper. -/
theorem dep_kid {l : List Nd} {n : Nat} (hf : Fine l n) {k : Int} (hk : k ∈ (nd l n).kids) : depAt l k.toNat = depAt l n + 1 := by
  have h0 : popZ (rs l n (n + 1 - n - 1)) = popZ [((nd l n).kids.length : Int)] := by rw [show n + 1 - n - 1 = 0 from by omega]; rfl
  obtain ⟨q, rfl, h1, h2, c, hc⟩ := kid_rs _ _ _ (by omega) hf.chain h0 k hk
  obtain ⟨r1, _⟩ := rs_fine _ n (Nat.le_refl _) hf
  have hb := stk_base (m := en l n - n) (stk_st l n) rfl (fun j hj => r1 j (by omega)) (q - n - 1) (by omega)
  have hb' : stAt l q = rs l n (q - n - 1) ++ decT (popZ (stAt l n)) := by
    have h3 : stAt l (n + (q - n - 1 + 1)) = _ := hb
    rw [show n + (q - n - 1 + 1) = q by omega] at h3
    exact h3
  simp only [depAt, Int.toNat_natCast, hb']
  rw [popZ_append, hc]
  simp [decT_len]
theorem chain_mem2 {l : List Nd} : ∀ (ks : List Int) (next e m : Nat), Chain l ks next e → next ≤ m → m < e → ∃ q : Nat, (q : Int) ∈ ks ∧ Fine l q ∧ next ≤ q ∧ q ≤ m ∧ m < en l q
  | [], next, e, m, h, h1, h2 => by rw [show e = next from h] at h2; omega
  | k :: ks, next, e, m, h, h1, h2 => by
    by_cases hm : m < en l next
    · exact ⟨next, by rw [h.1]; simp, h.2.1, Nat.le_refl _, h1, hm⟩
    · obtain ⟨q, a, b, c, d, f⟩ := chain_mem2 ks _ _ m h.2.2 (by omega) h2
      have := h.2.1.le
      exact ⟨q, by simp [a], b, by omega, d, f⟩
/-- Every node beneath has a parent ahead of it. -/
theorem parent_ex {l : List Nd} : ∀ (d n m : Nat), l.length - n ≤ d → Fine l n → n < m → m < en l n → ∃ p, p < m ∧ (m : Int) ∈ (nd l p).kids
  | 0, n, m, hd, h, _, _ => by have := h.1; omega
  | d + 1, n, m, hd, h, h1, h2 => by
    obtain ⟨q, a, b, c, e, f⟩ := chain_mem2 _ _ _ m h.chain (by omega) h2
    by_cases hq : q = m
    · subst hq; exact ⟨n, h1, a⟩
    · exact parent_ex d q m (by omega) b (by omega) f

/-- What Depths has reckoned when it is at the j-th kid of node i. -/
def Kn (l : List Nd) (i j m : Nat) : Prop := m = 0 ∨ (∃ p, p < i ∧ (m : Int) ∈ (nd l p).kids) ∨ (∃ q, q < j ∧ q < (nd l i).kids.length ∧ (nd l i).kids.getD q 0 = (m : Int))
def DepQ (l : List Nd) (W : World) (e : Ending) (w' : World) : Prop := ∃ c xs, e = .returned (.slice (some ⟨c, 0, none⟩) l.length l.length) ∧ w'.ownsRow W.heap.size 3 1 (.slice (some ⟨c, 0, none⟩) l.length l.length) l.length xs ∧ (∀ m, m < l.length → xs[m]? = some (.int .i64 (depAt l m : Int))) ∧ Below W.heap.size W w'

set_option maxRecDepth 100000 in
theorem depths_bad (W : World) (M : Nat) (v : Value) (l : List Nd) (hN : Nodes W M v l) (hM : M ≤ W.heap.size) (hT : ∀ m, m < l.length → (nd l m).text.size ≤ 1048576) (h : ¬ (chkP l).2 = 0) :
    Calls Tryz.prog 15 #[.agg #[v]] W fun e w' => e = .returned (.slice none 0 0) ∧ Below W.heap.size W w' := by
  obtain ⟨W1, hW1⟩ : ∃ W1, W.alloc (.cells #[v] 24) = W1 := ⟨_, rfl⟩
  have HK : Hid (∀ w, Below W1.heap.size W1 w → _) := fun w hw => rbox_at (W := W) (v := v) (by rw [hW1]; exact hw.mono (by rw [← hW1]; simp))
  obtain ⟨k1, k2, k3⟩ := unhide HK W1 (Below.refl _ _)
  have HC := hide (rGood_any W1 M v l (hN.keep k1 hM) (Nat.le_trans hM k1.size) hT)
  rw [show ((chkP l).2 == 0) = false by simpa using h] at HC
  clear hN k1 h
  go_enter Tryz.func15, Tryz.ntmps15
  go_wp2_with (go_at_call 27; refine (unhide HC).mono ?_; rintro e w2 ⟨rfl, hB2⟩)
  go_ret
  exact ⟨rfl, (unhide HK w2 hB2).1⟩

set_option maxRecDepth 100000 in
set_option maxHeartbeats 4000000 in
theorem depths_good (W : World) (M : Nat) (v : Value) (l : List Nd) (hN : Nodes W M v l) (hM : M ≤ W.heap.size) (hT : ∀ m, m < l.length → (nd l m).text.size ≤ 1048576) (h : (chkP l).2 = 0) (h3 : l.length ≤ 3000) :
    Calls Tryz.prog 15 #[.agg #[v]] W (DepQ l W) := by
  obtain ⟨j0, hj, hy0, hy1, hy2⟩ := info_parts infoInt
  obtain ⟨W1, hW1⟩ : ∃ W1, W.alloc (.cells #[v] 24) = W1 := ⟨_, rfl⟩
  have HK : Hid (∀ w, Below W1.heap.size W1 w → _) := fun w hw => rbox_at (W := W) (v := v) (by rw [hW1]; exact hw.mono (by rw [← hW1]; simp))
  obtain ⟨k1, k2, k3⟩ := unhide HK W1 (Below.refl _ _)
  have HC := hide (rGood_any W1 M v l (hN.keep k1 hM) (Nat.le_trans hM k1.size) hT)
  rw [show ((chkP l).2 == 0) = true by simpa using h] at HC
  have HN := hide hN
  have HFI : Hid (∀ m, m < l.length → Fine l m) := fun m hm => chk_all h hm
  have HPA : Hid (∀ m, 0 < m → m < l.length → ∃ p, p < m ∧ (m : Int) ∈ (nd l p).kids) := fun m h1 h2 => by
    obtain ⟨a, b, c⟩ := chk_fine h
    exact parent_ex _ 0 m (Nat.le_refl _) b h1 (by omega)
  have hl0 := (chk_fine h).1
  obtain ⟨va, vc, rfl, hvc, _⟩ := hN.len
  have HK1 := hide k1
  clear hN k1 h
  go_enter Tryz.func15, Tryz.ntmps15
  go_wp2_with (first | (go_at_call 27; refine (unhide HC).mono ?_; rintro e w2 ⟨rfl, hB2⟩; obtain ⟨y1, y2, y3⟩ := unhide HK w2 hB2) | (at_make; refine wpList_make_full _ rfl _ _ 27 rfl W1.heap.size 3 j0 (.int .i64 0) 1 Tryz.underlying27 hj hy0 hy1 .i64 .i64 (l.length : Int) (l.length : Int) l.length rfl rfl rfl rfl ?m1 ?m2 ?m3 ?_))
  case m1 => rw [hy2]; omega
  case m2 => unfold maxLen; omega
  case m3 => exact hB2.size
  intro w3 hown3 hg3
  have hz3 : w2.heap.size < w3.heap.size := (hown3.lt w2.heap.size (by simp [Value.ownBlock])).2
  have hB3 : Below W1.heap.size W1 w3 := hB2.grown hg3 (hB2.size) (fun k hk => by cases hk)
  have e0 : ∀ m, m < l.length → (madeCells #[Value.int .i64 0] l.length).toList[m]? = some (.int .i64 0) := fun m hm => by
    rw [toList_madeCells_one]; simp [hm]
  obtain ⟨xs0, hx0⟩ : ∃ xs0, (madeCells #[Value.int .i64 0] l.length).toList = xs0 := ⟨_, rfl⟩
  have HO3 : Hid (w3.ownsRow W1.heap.size 3 1 (.slice (some ⟨w2.heap.size, 0, none⟩) l.length l.length) l.length xs0) := by
    show w3.ownsRow W1.heap.size 3 1 _ _ _
    rw [← hx0]; simpa using hown3
  rw [hx0] at e0
  obtain ⟨c, hc⟩ : ∃ c, w2.heap.size = c := ⟨_, rfl⟩
  rw [hc] at HO3 ⊢
  have HE0 := hide e0
  have HB3 := hide hB3
  clear hown3 hg3 hx0 hc hB3 e0 y1 y2 y3 hB2 hz3
  go_wp2
  go_loopw [4] (fun t4 wr => ∃ i : Nat, i ≤ l.length ∧ t4 = .int .i64 (i : Int) ∧ (∃ xs, wr.ownsRow W1.heap.size 3 1 (.slice (some ⟨c, 0, none⟩) l.length l.length) l.length xs ∧ ∀ m, m < l.length → Kn l i 0 m → xs[m]? = some (.int .i64 (depAt l m : Int))) ∧ Below W1.heap.size W1 wr) (fun t4 _ => l.length - (intOf t4).toNat)
  case atStart =>
    refine ⟨0, Nat.zero_le _, rfl, ⟨xs0, unhide HO3, fun m hm hk => ?_⟩, unhide HB3⟩
    rcases hk with rfl | ⟨p, hp, _⟩ | ⟨q, hq, _⟩
    · rw [unhide HE0 0 hm]; rfl
    · omega
    · omega
  case round =>
    obtain ⟨i, hil, rfl, ⟨xs, hown, hxs⟩, hBr⟩ := hrel
    obtain ⟨r1, r2, r3⟩ := unhide HK wr hBr
    have HOW := hide hown
    have HXS := hide hxs
    clear hown hxs
    by_cases hlt : i < l.length
    case neg =>
      have hlt' : ¬ (i : Int) < l.length := by omega
      obtain rfl : i = l.length := by omega
      go_wp2
      go_ret
      refine ⟨c, xs, rfl, ?_, fun m hm => ?_, r1⟩
      · have := unhide HOW
        exact ⟨this.1, by
          rcases this.2 with h | ⟨g, cap, cur, hv, hb, r⟩
          · exact .inl h
          · exact .inr ⟨g, cap, cur, hv, Nat.le_trans (Nat.le_of_lt k3) hb, r⟩⟩
      · refine unhide HXS m hm ?_
        by_cases h0 : m = 0
        · exact .inl h0
        · obtain ⟨p, h1, h2⟩ := unhide HPA m (by omega) hm
          exact .inr (.inl ⟨p, by omega, h2⟩)
    have hlt' : (i : Int) < l.length := by omega
    have hi0 : (0 : Int) ≤ (i : Int) := by omega
    obtain ⟨bb, o, cap', ka, kc, hv, _, _, hb, _, _, _, d3, _, hkc, hkm, hK⟩ := (unhide HN).at hlt
    obtain ⟨hva, hvc2⟩ : va = some ⟨bb, o, none⟩ ∧ cap' = vc := by injection hv with h1 _ h3; exact ⟨h1, h3.symm⟩
    have hbW : bb < W.heap.size := by omega
    have hkl := ((unhide HN).2.1 i hlt).2
    have HD : Hid (∀ w, Below W1.heap.size W1 w → w.cell? ⟨W.heap.size, 0, none⟩ = some (.slice (some ⟨bb, o, none⟩) l.length vc) ∧ w.cell? ⟨bb, o + i * 5 + 3, none⟩ = some (.slice ka (nd l i).kids.length kc) ∧ KidsAt w M ka (nd l i).kids ∧ W.heap.size < w.heap.size ∧ bb < w.heap.size ∧ Below W.heap.size W w) := fun w hw => by
      obtain ⟨h1, h2, h4⟩ := unhide HK w hw
      rw [hva] at h2
      exact ⟨h2, (h1.cell (p := ⟨bb, o + i * 5 + 3, none⟩) hbW).trans d3, hK.keep h1 hM, h4, by have := h1.size; omega, h1⟩
    have HDK : Hid (∀ k ∈ (nd l i).kids, ins l k = true ∧ depAt l k.toNat = depAt l i + 1) := fun k hk => ⟨(unhide HFI i hlt).ins k hk, dep_kid (unhide HFI i hlt) hk⟩
    have hdi : depAt l i ≤ i := Nat.le_trans (popZ_len _) (stAt_len l i)
    have HKI : Hid (∀ j, Kn l i j i) := fun j => by
      by_cases h0 : i = 0
      · exact .inl h0
      · obtain ⟨p, h1, h2⟩ := unhide HPA i (by omega) hlt
        exact .inr (.inl ⟨p, h1, h2⟩)
    have HMK : Hid (∀ m, Kn l (i + 1) 0 m → Kn l i (nd l i).kids.length m) := fun m hm => by
      rcases hm with h | ⟨p, hp, hm⟩ | ⟨q, hq, _⟩
      · exact .inl h
      · by_cases e : p = i
        · subst e
          obtain ⟨q, hq⟩ := List.getElem?_of_mem hm
          have hql := (List.getElem?_eq_some_iff.1 hq).1
          exact .inr (.inr ⟨q, hql, hql, by rw [List.getD_eq_getElem?_getD, hq]; rfl⟩)
        · exact .inr (.inl ⟨p, by omega, hm⟩)
      · omega
    have HKS : Hid (∀ j m, Kn l i (j + 1) m → Kn l i j m ∨ (nd l i).kids.getD j 0 = (m : Int)) := fun j m hm => by
      rcases hm with h | h | ⟨q, hq, hq2, h⟩
      · exact .inl (.inl h)
      · exact .inl (.inr (.inl h))
      · by_cases e : q = j
        · subst e; exact .inr h
        · exact .inl (.inr (.inr ⟨q, by omega, hq2, h⟩))
    obtain ⟨ks, hks⟩ : ∃ ks, (nd l i).kids = ks := ⟨_, rfl⟩
    rw [hks] at HD HDK HMK HKS hkl hkc
    obtain ⟨nk, hnk⟩ : ∃ nk, ks.length = nk := ⟨_, rfl⟩
    rw [hnk] at HD HMK hkl hkc
    have HNK := hide hnk
    obtain ⟨dp, hdp⟩ : ∃ dp, depAt l i = dp := ⟨_, rfl⟩
    rw [hdp] at hdi HDK
    have HDP := hide hdp
    have hva' := hva
    clear hv d3 hK hva hvc2 hks hnk hdp r2
    subst hva'
    obtain ⟨r2, _⟩ := unhide HD wr hBr
    go_wp2
    go_loopw [5] (fun t5 wq => ∃ j : Nat, j ≤ nk ∧ t5 = .int .i64 (j : Int) ∧ (∃ xs, wq.ownsRow W1.heap.size 3 1 (.slice (some ⟨c, 0, none⟩) l.length l.length) l.length xs ∧ ∀ m, m < l.length → Kn l i j m → xs[m]? = some (.int .i64 (depAt l m : Int))) ∧ Below W1.heap.size W1 wq) (fun t5 _ => nk - (intOf t5).toNat)
    case atStart => exact ⟨0, Nat.zero_le _, rfl, ⟨xs, unhide HOW, unhide HXS⟩, hBr⟩
    case round =>
      obtain ⟨j, hjl, rfl, ⟨ys, hown, hys⟩, hBq⟩ := hrel
      obtain ⟨q2, q3, q4, q5, q6, q1⟩ := unhide HD wr hBq
      have HYS := hide hys
      clear hys
      by_cases hjlt : j < nk
      case neg =>
        have hlt2 : ¬ (j : Int) < nk := by omega
        obtain rfl : j = nk := by omega
        have HO2 := hide hown
        clear hown
        go_wp2
        exact ⟨⟨i + 1, by omega, by go_num, ⟨ys, unhide HO2, fun m hm hk => unhide HYS m hm (unhide HMK m hk)⟩, hBq⟩, by simp [intOf]; omega⟩
      have hlt2 : (j : Int) < nk := by omega
      have hj0 : (0 : Int) ≤ (j : Int) := by omega
      rcases q4 with h | ⟨kb, ko, hka, hkb, hkc0⟩
      · rw [h] at HNK; simp [Hid] at HNK; omega
      have dk := hkc0 j (by rw [unhide HNK]; exact hjlt)
      have hkbw : kb < wr.heap.size := by have := q1.size; omega
      obtain ⟨k, hk⟩ : ∃ k, ks.getD j 0 = k := ⟨_, rfl⟩
      obtain ⟨hik, hdk⟩ := unhide HDK k (by
        have h3 := unhide HNK
        rw [← hk, List.getD_eq_getElem?_getD, List.getElem?_eq_getElem (by omega)]
        exact List.getElem_mem _)
      rw [hk] at dk
      have hq := ins_iff'.1 hik
      obtain ⟨q, hqq⟩ : ∃ q : Nat, k = (q : Int) := ⟨k.toNat, by omega⟩
      subst hqq
      rw [Int.toNat_natCast] at hdk
      have hql : q < l.length := by omega
      have hql' : (q : Int) < l.length := by omega
      have hq0 : (0 : Int) ≤ (q : Int) := by omega
      rw [hka] at q3
      have ci : wr.cell? ⟨c, i, none⟩ = some (.int .i64 (dp : Int)) := by
        rw [hown.cellAt i (by omega), unhide HYS i hlt (unhide HKI j), unhide HDP]
      obtain ⟨xq, cq⟩ : ∃ x, wr.cell? ⟨c, q, none⟩ = some x := by
        have hle : ys.length = l.length := by
          have := hown.1
          omega
        rw [hown.cellAt q (by omega)]
        exact ⟨_, List.getElem?_eq_getElem (by omega)⟩
      have fq := hown.frozenAt q
      have hcl : c < wr.heap.size := (hown.lt c rfl).2
      have hcb : W1.heap.size ≤ c := (hown.lt c rfl).1
      obtain ⟨hst, hgr⟩ := hown.stored q (.int .i64 ((dp : Int) + 1))
      have HST := hide hst
      have HBS : Hid (Below W1.heap.size W1 (wr.setCell ⟨c, q, none⟩ (.int .i64 ((dp : Int) + 1)))) := hBq.setCell (p := ⟨c, q, none⟩) hcb _
      have HNEW : Hid (∀ m, m < l.length → Kn l i (j + 1) m → (ys.set q (.int .i64 ((dp : Int) + 1)))[m]? = some (.int .i64 (depAt l m : Int))) := fun m hm hkn => by
        by_cases e : m = q
        · subst e
          have hle : ys.length = l.length := by
            have := hown.1
            omega
          rw [List.getElem?_set_self (by omega), hdk]
          simp
        · rw [List.getElem?_set_ne (by omega)]
          refine unhide HYS m hm ?_
          rcases unhide HKS j m hkn with h | h
          · exact h
          · rw [hk] at h; omega
      clear hkc0 hk hik hq hka hown hst hgr hdk
      go_wp2
      go_region
      all_goals (
        go_wp2
        exact ⟨⟨j + 1, by omega, by go_num, ⟨_, unhide HST, unhide HNEW⟩, (unhide HBS).drew⟩, by simp [intOf]; omega⟩)
end Go.Proofs.YtoffpbaddehncaaGreatDoor
