/- Merged: KMb. -/
import Derived.Deep.AppendLies
import Derived.Deep.DrawnRows
import Derived.Deep.RegionLaw
import Derived.LoopN
import Derived.Test.YtnnpkomedpjlcaaGreatDoorKCX
/- core.Strip's strip in general. -/
namespace Go.Proofs.YtnnpkomedpjlcaaGreatDoor
set_option linter.unusedSimpArgs false
set_option linter.unusedVariables false
open Go.RowKit Go.Shelf

/-- Kids that lie in new rows. -/
def NewX (W : World) (es : List NE) : Prop := ∀ e ∈ es, e.x.kids ≠ [] → ∃ kb, e.a = some ⟨kb, 0, none⟩ ∧ W.heap.size ≤ kb
/-- Kids in rows apart, node by node. -/
def KidP (es : List NE) : Prop := es.Pairwise fun e f => ∀ kb, e.x.kids ≠ [] → f.x.kids ≠ [] → e.a = some ⟨kb, 0, none⟩ → f.a ≠ some ⟨kb, 0, none⟩
theorem aloneN_kids (x : Nd) : (aloneN x).kids = [] := by
  unfold aloneN
  split
  · rfl
  split
  · rfl
  split
  · rfl
  · rfl

theorem layK_idx (one : Nat → Nat → List Nd) : ∀ (ks : List Int) (p : Nat), (layK one ks p).1.length = ks.length
  | [], p => rfl
  | k :: ks, p => by simp [layK, layK_idx one ks]
theorem chain_take {l : List Nd} : ∀ (ks : List Int) (next e j : Nat), Chain l ks next e → j < ks.length → Chain l (ks.take j) next (ks.getD j 0).toNat
  | [], _, _, j, _, hj => by simp at hj
  | k :: ks, next, e, 0, h, _ => by
    obtain ⟨h1, _, _⟩ := h
    show ((k :: ks).getD 0 0).toNat = next
    simp [h1]
  | k :: ks, next, e, j + 1, h, hj => by
    obtain ⟨h1, hf, hc⟩ := h
    have := chain_take ks _ e j hc (by simpa using hj)
    exact ⟨h1, hf, by simpa using this⟩
theorem layF_open {l : List Nd} (hc : (chkP l).2 = 0) {n : Nat} (hn : n < l.length) (p : Nat) : layF l l.length n p = { aloneN (nd l (inn l n)) with kids := (layK (layF l l.length) ((nd l (inn l n)).kids.filter fun k => !leftP (ruleF (nd l n).kind) l k.toNat) (p + 1)).1 } :: (layK (layF l l.length) ((nd l (inn l n)).kids.filter fun k => !leftP (ruleF (nd l n).kind) l k.toNat) (p + 1)).2 := by
  obtain ⟨f, hf⟩ : ∃ f, l.length = f + 1 := ⟨l.length - 1, by omega⟩
  obtain ⟨a, b, c, _⟩ := inn_in hc _ n (Nat.le_refl _) hn
  have hfi := chk_all hc b
  have e : layK (layF l f) ((nd l (inn l n)).kids.filter fun k => !leftP (ruleF (nd l n).kind) l k.toNat) (p + 1) = layK (layF l (f + 1)) ((nd l (inn l n)).kids.filter fun k => !leftP (ruleF (nd l n).kind) l k.toNat) (p + 1) :=
    layK_same _ _ fun k hk p' => by
      obtain ⟨q, rfl, hq, h1, h2⟩ := chain_kids _ _ _ hfi.chain k (List.mem_filter.1 hk).1
      simp only [Int.toNat_natCast]
      have := hq.le
      exact layF_fuel hc f (f + 1) q p' hq.1 (by omega) (by omega)
  rw [hf, ← e]
  rfl

set_option maxRecDepth 100000 in
set_option maxHeartbeats 8000000 in
theorem strip_any {l : List Nd} (hc : (chkP l).2 = 0) (hl : l.length ≤ 100000) (M B S : Nat) (v : Value) (hMB : M ≤ B) (hBS : B ≤ S) : ∀ (d n : Nat), en l n - n ≤ d → n < l.length → ∀ (W : World) (lv : Value) (es : List NE), Nodes W M v l → B ≤ W.heap.size → StAt W B S v lv es → es.length + (en l n - n) ≤ 200000 →
    Calls Tryz.prog 25 #[.pointer (some ⟨S, 0, none⟩), .int .i64 (n : Int), .func (.func (ruleF (nd l n).kind)) #[] #[]] W fun e w' => e = .returned (.int .i64 (es.length : Int)) ∧ ∃ lv' es', StAt w' B S v lv' (es ++ es') ∧ es'.map NE.x = layF l l.length n es.length ∧ NewX W es' ∧ KidP es' ∧ StF W w' S lv lv'
  | 0, n, hd, hn, W, lv, es, hN, hBW, hst, hle => by
    have := (chk_all hc hn).le
    omega
  | d + 1, n, hd, hn, W, lv, es, hN, hBW, hst, hle => by
    obtain ⟨i0, hi, hz0, hz1, hz2⟩ := info_parts infoNode
    obtain ⟨j0, hj, hy0, hy1, hy2⟩ := info_parts infoInt
    have IH : Hid (∀ n, en l n - n ≤ d → n < l.length → ∀ (W : World) (lv : Value) (es : List NE), Nodes W M v l → B ≤ W.heap.size → StAt W B S v lv es → es.length + (en l n - n) ≤ 200000 → _) := fun n h1 h2 W lv es h3 h4 h5 h6 => strip_any hc hl M B S v hMB hBS d n h1 h2 W lv es h3 h4 h5 h6
    have hSl : S < W.heap.size := (Array.getElem?_eq_some_iff.1 hst.1).1
    have s0 : W.cell? ⟨S, 0, none⟩ = some v := by rw [Lib.cell_of_heap hst.1]; rfl
    have s1 : W.cell? ⟨S, 1, none⟩ = some lv := by rw [Lib.cell_of_heap hst.1]; rfl
    have fS : W.frozen? ⟨S, 1, none⟩ = false := rfrozen_at hst.1 1
    have HA := hide (about_any W M S v l n hN (by omega) hc hn s0 hSl)
    obtain ⟨m1, m2, m3, m4⟩ := inn_in hc _ n (Nat.le_refl _) hn
    obtain ⟨m, hm⟩ : ∃ m, inn l n = m := ⟨_, rfl⟩
    rw [hm] at HA m1 m2 m3 m4
    have hl1 := hN.1
    obtain ⟨b, o, cap, ka, kc, rfl, hc1, hc2, hb, d0, d1, d2, d3, d4, hkc, hkm, hK⟩ := hN.at m2
    have hts := hN.2.1 m m2
    obtain ⟨la, lc, rfl, hlc, hlf⟩ : ∃ a c, lv = .slice a es.length c ∧ es.length ≤ c ∧ (0 < es.length → ∃ g, a = some ⟨g, 0, none⟩) := by
      rcases hst.2.1.2 with ⟨rfl, h0⟩ | ⟨g, c, cur, rfl, _, _, hc', _⟩
      · exact ⟨none, 0, by rw [h0], by omega, fun h => by omega⟩
      · exact ⟨_, _, rfl, hc', fun _ => ⟨g, rfl⟩⟩
    obtain ⟨x, hx⟩ : ∃ x, nd l m = x := ⟨_, rfl⟩
    rw [hx] at d0 d1 d2 d3 d4 hts hkc hK
    obtain ⟨yk, yt, yn, ya, hy⟩ : ∃ yk yt yn ya, aloneN x = ⟨yk, yt, yn, [], ya⟩ := ⟨_, _, _, _, by have := aloneN_kids x; rw [← this]⟩
    have HAL : Hid (∀ w', Calls Tryz.prog 42 #[.agg #[.int .i64 x.kind, .string x.text, .int .i64 x.num, .slice ka x.kids.length kc, .int .i64 x.at']] w' fun e w'' => e = .returned (.agg #[.int .i64 yk, .string yt, .int .i64 yn, .slice none 0 0, .int .i64 ya]) ∧ Below w'.heap.size w' w'') := fun w' => by
      have := alone_any w' x ka kc (by omega)
      rw [hy] at this
      exact this
    have hSS : ∀ w', Below W.heap.size W w' → w'.cell? ⟨S, 0, none⟩ = some (.slice (some ⟨b, o, none⟩) l.length cap) ∧ w'.cell? ⟨S, 1, none⟩ = some (.slice la es.length lc) ∧ S < w'.heap.size ∧ w'.ownsRow B 41 5 (.slice la es.length lc) es.length (flatN es) := fun w' h =>
      ⟨(h.cell (p := ⟨S, 0, none⟩) hSl).trans s0, (h.cell (p := ⟨S, 1, none⟩) hSl).trans s1, by have := h.size; omega, ownsRow_heap hst.2.1 fun k hk => h.block k (hst.2.1.lt k hk).2⟩
    have HSS := hide hSS
    have hSo : some S ≠ (Value.slice la es.length lc).ownBlock := fun e => by
      rcases hst.2.1.2 with ⟨h1, _⟩ | ⟨g1, cap1, cur1, h1, _, hh1, _⟩
      · rw [h1] at e; cases e
      · rw [h1] at e
        simp only [Value.ownBlock, Option.some.injEq] at e
        rw [← e, hst.1] at hh1
        cases hh1
    have t1 : (m : Int) < l.length := by omega
    have t2 : (0 : Int) ≤ (m : Int) := by omega
    have t3 : b < W.heap.size := by omega
    have HN := hide hN
    have HST := hide hst
    have HX := hide hx
    have HY := hide hy
    have HM := hide hm
    have HK := hide hK
    obtain ⟨kl, hkl⟩ : ∃ kl, x.kids.length = kl := ⟨_, rfl⟩
    rw [hkl] at d3 HAL
    have HKL := hide hkl
    have HEY := hide (rule_enter (nd l n).kind)
    obtain ⟨r, hr⟩ : ∃ r, ruleF (nd l n).kind = r := ⟨_, rfl⟩
    have HR := hide hr
    rw [hr]
    clear hSS hN hst hx hy hm hK hkl hr
    go_enter Tryz.func25, Tryz.ntmps25
    go_wp2_with (go_at_call 41; refine (unhide HA).mono ?_; rintro e w1 ⟨rfl, hw1⟩; rw [hw1]; clear hw1)
    go_region_law (first
      | (refine step_append_lies _ (by rfl) _ _ _ (by rfl) B 41 i0 _ 5 64 Tryz.underlying22 hi hz0 hz1 hz2 rfl (by omega) _ es.length (flatN es) (by rfl) (unhide HSS _ (hb6.alloc hb6.size _)).2.2.2 ⟨_, 0, none⟩ 1 1 (cellN ⟨⟨yk, yt, yn, [], ya⟩, none, 0⟩) (by rfl) (by rfl) (World.news_of_block (cs := #[.int .i64 yk, .string yt, .int .i64 yn, .slice none 0 0, .int .i64 ya]) (t := 41) (fr := (0, 0)) (World.alloc_heap_new _ _)) (by intro u hu; simp [cellN] at hu; rcases hu with rfl | rfl | rfl | rfl | rfl <;> rfl) (by omega) (by unfold maxLen; omega) (by omega) (by have := hb6.size; simp; omega) _ rfl ?_; intro g4 cap4 w4 hown4 hgrow4 hat4 hlt4; have hcp4 := (own_cap hown4).1; have hs4 : w4.heap[S]? = some (.cells #[.slice (some ⟨b, o, none⟩) l.length cap, .slice la es.length lc] 50) := ((hgrow4.block S (by have := hb6.size; simp; omega) hSo).trans ((hb6.alloc hb6.size _).block S hSl)).trans (unhide HST).1; have fz4 : w4.frozen? ⟨S, 1, none⟩ = false := rfrozen_at hs4 1; have sl4 : S < w4.heap.size := (Array.getElem?_eq_some_iff.1 hs4).1; have cz4 : w4.cell? ⟨S, 1, none⟩ = some (.slice la es.length lc) := (by rw [Lib.cell_of_heap hs4]; rfl))
      | (go_simp; go_at_call 42; refine (unhide HAL _).mono ?_; rintro e w6 ⟨rfl, hB6⟩; have hb6 : Below W.heap.size W w6 := (Below.refl _ W).drew.trans hB6; obtain ⟨q60, q61, sl6, _⟩ := unhide HSS w6 hb6; clear hB6))
    all_goals (
      have hlaid := StAt.laid (e0 := ⟨⟨yk, yt, yn, [], ya⟩, none, 0⟩) (unhide HST) hBS hBW hb6 hgrow4 hown4 hat4 rfl rfl rfl
      obtain ⟨W5, hW5⟩ : ∃ W5, w4.setCell ⟨S, 1, none⟩ (.slice (some ⟨g4, 0, none⟩) (es.length + 1) cap4) = W5 := ⟨_, rfl⟩
      rw [hW5] at hlaid ⊢
      obtain ⟨hst5, hf5⟩ := hlaid
      clear hW5 hgrow4 hown4 hat4 hlt4 hs4 fz4 sl4 cz4 hb6 q60 q61 sl6
      have hB5 := hf5.below (unhide HST) hBS hBW
      have a0 : W5.cell? ⟨S, 0, none⟩ = some (.slice (some ⟨b, o, none⟩) l.length cap) := by rw [Lib.cell_of_heap hst5.1]; rfl
      have a3 : W5.cell? ⟨b, o + m * 5 + 3, none⟩ = some (.slice ka kl kc) := (hB5.cell (p := ⟨b, o + m * 5 + 3, none⟩) (by show b < B; omega)).trans d3
      have l5 : S < W5.heap.size := (Array.getElem?_eq_some_iff.1 hst5.1).1
      have b5 : b < W5.heap.size := by have := hB5.size; omega
      have HST5 := hide hst5
      have HF5 := hide hf5
      have ey : ∀ args w, (callFunc r args).run Tryz.prog w = .ok (.enter r args) w := by have h := unhide HEY; rw [unhide HR] at h; exact h
      clear hst5 hf5 hB5 s0 s1 d0 d1 d2 d3 d4 fS
      go_wp2
      go_loopw [8, 45] (fun t8 t45 wr => ∃ (j : Nat) (lvj : Value) (body : List NE) (ua : Option Addr) (uc : Nat) (idx : List Int), j ≤ kl ∧ t45 = .int .i64 (j : Int) ∧ t8 = .slice ua idx.length uc ∧ wr.ownsRow B 3 1 (.slice ua idx.length uc) idx.length (kvs idx) ∧ (∀ k, (Value.slice ua idx.length uc).ownBlock = some k → W.heap.size ≤ k) ∧ (idx = [] → ua = none ∧ uc = 0) ∧ StAt wr B S (.slice (some ⟨b, o, none⟩) l.length cap) lvj (es ++ ⟨⟨yk, yt, yn, [], ya⟩, none, 0⟩ :: body) ∧ StF W wr S (.slice la es.length lc) lvj ∧ KidB (es ++ ⟨⟨yk, yt, yn, [], ya⟩, none, 0⟩ :: body) (.slice ua idx.length uc) ∧ NewX W body ∧ KidP body ∧ layK (layF l l.length) ((x.kids.take j).filter fun k => !leftP r l k.toNat) (es.length + 1) = (idx, body.map NE.x)) (fun _ t45 _ => kl - (intOf t45).toNat)
      case atStart => exact ⟨0, _, [], none, 0, [], Nat.zero_le _, rfl, rfl, World.ownsRow_nil _ _ _ _, fun k hk => (by cases hk), fun _ => ⟨rfl, rfl⟩, unhide HST5, unhide HF5, fun e _ _ kb _ h => (by cases h), fun e he => (by cases he), List.Pairwise.nil, by simp [layK]⟩
      case round =>
        obtain ⟨w0, hw0⟩ : ∃ w0, w0 = wr := ⟨_, rfl⟩
        subst hw0
        obtain ⟨j, lvj, body, ua, uc, idx, hjl, rfl, rfl, hrow, hunew, hemp, hstj, hfj, hkbj, hnew, hkp, hlay⟩ := hrel
        have hBr := hfj.below (unhide HST) hBS hBW
        have hNr := (unhide HN).keep hBr hMB
        have cS : w0.cell? ⟨S, 0, none⟩ = some (.slice (some ⟨b, o, none⟩) l.length cap) := by rw [Lib.cell_of_heap hstj.1]; rfl
        have lS : S < w0.heap.size := (Array.getElem?_eq_some_iff.1 hstj.1).1
        have lb0 : b < w0.heap.size := by have := hBr.size; omega
        by_cases hjlt : j < kl
        · have hjlt' : (j : Int) < kl := by omega
          have hj0' : (0 : Int) ≤ (j : Int) := by omega
          have hkj : j < x.kids.length := by have := unhide HKL; omega
          have hfm := chk_all hc m2
          have hmem : x.kids.getD j 0 ∈ (nd l m).kids := by rw [unhide HX, List.getD_eq_getElem?_getD, List.getElem?_eq_getElem hkj]; exact List.getElem_mem _
          obtain ⟨q, hq1, hqf, hq2, hq3⟩ := chain_kids _ _ _ hfm.chain _ hmem
          rcases unhide HK with hK0 | ⟨kb, ko, hka, hkb, hkc0⟩
          · rw [hK0] at hkj; simp at hkj
          subst hka
          have dk : w0.cell? ⟨kb, ko + j, none⟩ = some (.int .i64 (q : Int)) := (hBr.cell (p := ⟨kb, ko + j, none⟩) (by show kb < B; omega)).trans ((hkc0 j hkj).trans (by rw [hq1]))
          have lkb : kb < w0.heap.size := by have := hBr.size; omega
          have HRC : Hid (Calls Tryz.prog r #[.slice (some ⟨b, o, none⟩) l.length cap, .int .i64 (q : Int)] w0 fun e w' => e = .returned (.bool (leftP r l q)) ∧ w' = w0) := by
            have h := rule_call w0 M _ l q (nd l n).kind hNr (by have := hBr.size; omega) hqf
            rw [unhide HR] at h
            exact h
          have htake : (x.kids.take (j + 1)).filter (fun k => !leftP r l k.toNat) = (x.kids.take j).filter (fun k => !leftP r l k.toNat) ++ (if leftP r l q = true then [] else [(q : Int)]) := by
            have e1 : x.kids[j]? = some (q : Int) := by rw [← hq1, List.getD_eq_getElem?_getD, List.getElem?_eq_getElem hkj]; rfl
            rw [List.take_add_one, e1, List.filter_append]
            congr 1
            cases hl0 : leftP r l q <;> simp [hl0]
          have HROW := hide hrow
          have HUN := hide hunew
          have HEM := hide hemp
          have HSTJ := hide hstj
          have HFJ := hide hfj
          have HKB := hide hkbj
          have HNW := hide hnew
          have HKP := hide hkp
          have HLAY := hide hlay
          have HBR := hide hBr
          have HNR := hide hNr
          have HTK := hide htake
          clear hrow hunew hemp hstj hfj hkbj hnew hkp hlay hBr hNr hmem hkc0 htake
          cases hout : leftP r l q with
          | true =>
            rw [hout] at HRC HTK
            go_wp2
            refine (unhide HRC).mono ?_
            rintro e w7 ⟨rfl, hw7⟩
            rw [hw7]
            clear hw7
            go_wp2
            exact ⟨⟨j + 1, lvj, body, ua, uc, idx, by omega, by go_num, rfl, unhide HROW, unhide HUN, unhide HEM, unhide HSTJ, unhide HFJ, unhide HKB, unhide HNW, unhide HKP, by rw [unhide HTK]; simpa using unhide HLAY⟩, by simp [intOf]; omega⟩
          | false =>
            rw [hout] at HRC HTK
            obtain ⟨b2, o2, cap2, qa, qc, hv2, _, _, _, eq0, _, _, _, _, _, _, _⟩ := (unhide HNR).at hqf.1
            cases hv2
            have hql := hqf.le
            have hqlt : (q : Int) < l.length := by have := hqf.1; omega
            have hq0 : (0 : Int) ≤ (q : Int) := by omega
            have hblen : body.length ≤ q - (m + 1) := by
              have hch := chain_take _ _ _ j hfm.chain (by rw [unhide HX]; exact hkj)
              rw [unhide HX, hq1] at hch
              simp only [Int.toNat_natCast] at hch
              have h := layK_len (layF l l.length) (l := l) (fun k => !leftP r l k.toNat) _ _ _ (es.length + 1) hch (fun k hk p' => by
                obtain ⟨q', rfl, hq', _, _⟩ := chain_kids _ _ _ hch k hk
                simp only [Int.toNat_natCast]
                exact layF_len hc _ q' p' hq'.1)
              rw [unhide HLAY] at h
              simpa using h
            have hlenj : (es ++ (⟨⟨yk, yt, yn, [], ya⟩, none, 0⟩ : NE) :: body).length = es.length + 1 + body.length := by simp; omega
            have hBw0 : B ≤ w0.heap.size := by have := (unhide HBR).size; omega
            have HIH := hide (unhide IH q (by omega) hqf.1 w0 lvj _ (unhide HNR) hBw0 (unhide HSTJ) (by rw [hlenj]; omega))
            have hlfm := hfm.le
            have hpos : es.length + 1 + body.length ≤ 200000 := by omega
            have hidx : idx.length ≤ j := by
              have h := layK_idx (layF l l.length) ((x.kids.take j).filter fun k => !leftP r l k.toNat) (es.length + 1)
              rw [unhide HLAY] at h
              have h2 := List.length_filter_le (fun k => !leftP r l k.toNat) (x.kids.take j)
              rw [List.length_take] at h2
              have h3 : idx.length = _ := h
              omega
            have hkl17 : kl ≤ 17592186044416 := by have := unhide HKL; omega
            rw [hlenj] at HIH
            go_wp2
            refine (unhide HRC).mono ?_
            rintro e w7 ⟨rfl, hw7⟩
            rw [hw7]
            clear hw7
            go_wp2_with (first
              | (go_at_call 26; refine (rule_any w0 _).mono ?_; rintro e w8 ⟨rfl, hw8⟩; rw [hw8]; clear hw8)
              | (go_at_call 25
                 refine (unhide HIH).mono ?_
                 rintro e w9 ⟨rfl, lv9, es9, hst9, hmap9, hnew9, hkp9, hf9⟩
                 have HRW9 := hide (hf9.row (unhide HSTJ) (unhide HROW))
                 have HST9 := hide hst9
                 have HMP9 := hide hmap9
                 have HNW9 := hide hnew9
                 have HKP9 := hide hkp9
                 have HF9 := hide hf9
                 have hsz9 := hf9.2.2.2.1
                 clear hst9 hmap9 hnew9 hkp9 hf9)
              | (at_builtin
                 refine wpList_append_lies _ rfl _ _ 39 rfl B 3 j0 _ 1 8 Tryz.underlying39 hj hy0 hy1 hy2 rfl (by decide) _ idx.length (kvs idx) rfl ((unhide HRW9).alloc _) ⟨w9.heap.size, 0, none⟩ 1 1 [.int .i64 ((es.length : Int) + 1 + (body.length : Int))] rfl rfl ?c1 ?c2 (by decide) ?c3 ?c4 ?c5 _ rfl ?_))
            case c1 => exact World.news_of_block (cs := #[.int .i64 ((es.length : Int) + 1 + (body.length : Int))]) (t := 3) (fr := (0, 0)) (World.alloc_heap_new _ _)
            case c2 => intro u hu; simp at hu; subst hu; rfl
            case c3 => unfold maxLen; omega
            case c4 => omega
            case c5 => simp; omega
            intro g10 cap10 w10 hown10 hgrow10 hat10 hlt10
            have hkb9 : KidB ((es ++ ⟨⟨yk, yt, yn, [], ya⟩, none, 0⟩ :: body) ++ es9) (.slice ua idx.length uc) := fun e he hks kb' ha' hob => by
              rcases List.mem_append.1 he with he | he
              · exact unhide HKB e he hks kb' ha' hob
              · obtain ⟨kb2, h1, h2⟩ := unhide HNW9 e he hks
                rw [ha'] at h1
                have h3 := ((unhide HROW).lt kb' hob.symm).2
                injection h1 with h1
                injection h1 with h1 _ _
                omega
            obtain ⟨hst10, hf10⟩ := (unhide HST9).grown ((unhide HFJ).trans (unhide HF9)) (unhide HRW9) (unhide HUN) hkb9 hgrow10
            have hWw : W.heap.size ≤ w9.heap.size := ((unhide HFJ).trans (unhide HF9)).2.2.2.1
            have HNEXT : Hid (∃ (j' : Nat) (lvj' : Value) (body' : List NE) (ua' : Option Addr) (uc' : Nat) (idx' : List Int), j' ≤ kl ∧ Value.int .i64 ((j : Int) + 1) = .int .i64 (j' : Int) ∧ Value.slice (some ⟨g10, 0, none⟩) (idx.length + 1) cap10 = .slice ua' idx'.length uc' ∧ w10.ownsRow B 3 1 (.slice ua' idx'.length uc') idx'.length (kvs idx') ∧ (∀ k, (Value.slice ua' idx'.length uc').ownBlock = some k → W.heap.size ≤ k) ∧ (idx' = [] → ua' = none ∧ uc' = 0) ∧ StAt w10 B S (.slice (some ⟨b, o, none⟩) l.length cap) lvj' (es ++ ⟨⟨yk, yt, yn, [], ya⟩, none, 0⟩ :: body') ∧ StF W w10 S (.slice la es.length lc) lvj' ∧ KidB (es ++ ⟨⟨yk, yt, yn, [], ya⟩, none, 0⟩ :: body') (.slice ua' idx'.length uc') ∧ NewX W body' ∧ KidP body' ∧ layK (layF l l.length) ((x.kids.take j').filter fun k => !leftP r l k.toNat) (es.length + 1) = (idx', body'.map NE.x)) := by
              have hil : (idx ++ [((es.length : Int) + 1 + (body.length : Int))]).length = idx.length + 1 := by simp
              have happ : (es ++ (⟨⟨yk, yt, yn, [], ya⟩, none, 0⟩ : NE) :: body) ++ es9 = es ++ ⟨⟨yk, yt, yn, [], ya⟩, none, 0⟩ :: (body ++ es9) := by simp
              refine ⟨j + 1, lv9, body ++ es9, some ⟨g10, 0, none⟩, cap10, idx ++ [((es.length : Int) + 1 + (body.length : Int))], by omega, by simp, by rw [hil], ?_, fun k hk => ?_, fun h => absurd h (by simp), by rw [← happ]; exact hst10, hf10, fun e he hks kb' ha' hob => ?_, fun e he hks => ?_, List.pairwise_append.2 ⟨unhide HKP, unhide HKP9, fun e he f hf kb hke hkf ha hb => ?_⟩, ?_⟩
              · rw [hil]
                have : kvs (idx ++ [((es.length : Int) + 1 + (body.length : Int))]) = kvs idx ++ [.int .i64 ((es.length : Int) + 1 + (body.length : Int))] := by simp [kvs]
                rw [this]
                exact hown10
              · have e1 : k = g10 := by simpa [Value.ownBlock] using hk.symm
                rcases hat10 with h | h
                · exact unhide HUN k (by rw [h, e1])
                · omega
              · rw [← happ] at he
                have e1 : kb' = g10 := by simpa [Value.ownBlock] using hob
                rcases hat10 with h | h
                · exact hkb9 e he hks kb' ha' (by rw [h, e1])
                · obtain ⟨⟨_, _, k3⟩, _⟩ := (unhide HST9).2.2 e he
                  rcases k3 with k3 | ⟨kb3, cur3, ha3, _, hkh3, _⟩
                  · exact hks k3
                  · have hlt3 := (Array.getElem?_eq_some_iff.1 hkh3).1
                    rw [ha'] at ha3
                    injection ha3 with ha3
                    injection ha3 with ha3 _ _
                    omega
              · rcases List.mem_append.1 he with he | he
                · exact unhide HNW e he hks
                · obtain ⟨kb2, h1, h2⟩ := unhide HNW9 e he hks
                  have h3 := (unhide HFJ).2.2.2.1
                  exact ⟨kb2, h1, by omega⟩
              · obtain ⟨⟨_, _, k3⟩, _⟩ := (unhide HSTJ).2.2 e (by simp [he])
                rcases k3 with k3 | ⟨kb3, cur3, ha3, _, hkh3, _⟩
                · exact hke k3
                · have hlt3 := (Array.getElem?_eq_some_iff.1 hkh3).1
                  obtain ⟨kb2, h1, h2⟩ := unhide HNW9 f hf hkf
                  rw [ha] at ha3
                  rw [hb] at h1
                  injection ha3 with ha3
                  injection ha3 with ha3 _ _
                  injection h1 with h1
                  injection h1 with h1 _ _
                  omega
              · rw [unhide HTK, layK_append, unhide HLAY]
                have hP : es.length + 1 + (body.map NE.x).length = es.length + 1 + body.length := by simp
                simp only [layK, Bool.false_eq_true, if_false, Int.toNat_natCast, List.append_nil, List.map_append]
                rw [hP, ← unhide HMP9]
                simp
            clear hst10 hf10 hkb9 hgrow10 hown10 hat10 hlt10
            go_wp2
            exact ⟨unhide HNEXT, by simp [intOf]; omega⟩
        · have hjlt' : ¬ (j : Int) < kl := by omega
          obtain ⟨gj, cj, hvj, _⟩ := hstj.2.1.form (by simp; omega)
          have hlenj : (es ++ (⟨⟨yk, yt, yn, [], ya⟩, none, 0⟩ : NE) :: body).length = es.length + 1 + body.length := by simp; omega
          rw [hlenj] at hvj
          subst hvj
          obtain ⟨hst9, hf9⟩ := hstj.kids hlenj hrow hemp hfj
          have hrow41 := hstj.2.1
          rw [hlenj] at hrow41
          have cS1 : w0.cell? ⟨S, 1, none⟩ = some (.slice (some ⟨gj, 0, none⟩) (es.length + 1 + body.length) cj) := by rw [Lib.cell_of_heap hstj.1]; rfl
          have cg : w0.cell? ⟨gj, es.length * 5 + 3, none⟩ = some (.slice none 0 0) := by
            rw [hrow41.cellAt _ (by omega), flatN_append, List.getElem?_append_right (by rw [flatN_len]; omega), flatN_len]
            have : es.length * 5 + 3 - es.length * 5 = 3 := by omega
            rw [this]
            rfl
          have fg : w0.frozen? ⟨gj, es.length * 5 + 3, none⟩ = false := hrow41.frozenAt _
          have lg : gj < w0.heap.size := (hrow41.lt gj rfl).2
          have u1 : (es.length : Int) < (es.length : Int) + 1 + (body.length : Int) := by omega
          have u2 : (0 : Int) ≤ (es.length : Int) := by omega
          have HE : Hid (∃ lv' es', StAt (w0.setCell ⟨gj, es.length * 5 + 3, none⟩ (.slice ua idx.length uc)) B S (.slice (some ⟨b, o, none⟩) l.length cap) lv' (es ++ es') ∧ es'.map NE.x = layF l l.length n es.length ∧ NewX W es' ∧ KidP es' ∧ StF W (w0.setCell ⟨gj, es.length * 5 + 3, none⟩ (.slice ua idx.length uc)) S (.slice la es.length lc) lv') := by
            refine ⟨_, ⟨⟨yk, yt, yn, idx, ya⟩, ua, uc⟩ :: body, hst9, ?_, ?_, List.pairwise_cons.2 ⟨fun f hf kb h1 h2 h3 h4 => hkbj f (by simp [hf]) h2 kb h4 (by have h3' : ua = some ⟨kb, 0, none⟩ := h3; rw [h3']; rfl), hkp⟩, hf9⟩
            · have hk : j = x.kids.length := by have := unhide HKL; omega
              rw [hk, List.take_length] at hlay
              rw [layF_open hc hn, unhide HM, unhide HX, unhide HR, hlay, unhide HY]
              rfl
            · intro e he hks
              rcases List.mem_cons.1 he with rfl | he
              · have hks' : idx ≠ [] := hks
                rcases hrow.2 with ⟨_, h0⟩ | ⟨g', cap', cur, h0, _⟩
                · exact absurd (List.length_eq_zero_iff.1 h0) hks'
                · injection h0 with h1 _ _
                  exact ⟨g', h1, hunew g' (by rw [h1]; rfl)⟩
              · exact hnew e he hks
          clear hst9 hf9 hrow41 hstj hfj hrow hunew hemp hkbj hnew hkp hlay hBr hNr
          go_wp2
          go_ret
          exact ⟨rfl, unhide HE⟩)
end Go.Proofs.YtnnpkomedpjlcaaGreatDoor
