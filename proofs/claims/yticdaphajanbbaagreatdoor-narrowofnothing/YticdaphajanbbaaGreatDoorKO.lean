/- A type is laid: the first one. -/
import Derived.Test.YticdaphajanbbaaGreatDoorKN
namespace Go.Proofs.YticdaphajanbbaaGreatDoor
set_option linter.unusedSimpArgs false
set_option linter.unusedVariables false
set_option maxRecDepth 100000
set_option maxHeartbeats 4000000
open Go.RowKit Go.Shelf

variable {P : Program} {lo M : Nat} {mo : Option Nat} {dv : Value} {L : List Kt} {W : World}
theorem laid_first (h : AAt Tryz.prog lo M none dv [] W) (k n : Int) (s wd : ByteArray) (pa na ma : Option Addr) (pc nc mc : Nat) (ps : List Int) (ns : List ByteArray) (ms : List Bool) (hp : RowR 3 W (.slice pa ps.length pc) (iv ps)) (hn : RowR 9 W (.slice na ns.length nc) (sv ns)) (hm : RowR 4 W (.slice ma ms.length mc) (bv ms)) (hv : ∀ p ∈ ps, IsX [] p) (l1 : ps.length ≤ 1000000000) (l2 : ns.length ≤ 1000000000) (l3 : ms.length ≤ 1000000000) (hss : s.size ≤ 281474976710656) (hns : ∀ x ∈ ns, x.size ≤ 281474976710656) (hz : sizeP [] ps 1 ≤ 500)
    (hw : WdIs M (.agg (tyV k n s (.slice pa ps.length pc) (.slice na ns.length nc) (.slice ma ms.length mc))) W wd) (hwl : wd.size ≤ maxLen)  :
    Calls Tryz.prog 17 #[.pointer (some ⟨M, 0, none⟩), .agg (tyV k n s (.slice pa ps.length pc) (.slice na ns.length nc) (.slice ma ms.length mc))] W (LaidQ lo M none dv [⟨k, n, s, ps, ns, ms, wd, sizeP [] ps 1⟩] 0 W) := by
  have hcop : ∀ w', Below W.heap.size W w' → Calls Tryz.prog 36 #[.agg (tyV k n s (.slice pa ps.length pc) (.slice na ns.length nc) (.slice ma ms.length mc))] w' (CopQ k n s ps ns ms w') := fun w' hb => copied_any k n s _ _ _ ps ns ms w' (hp.below hb) (hn.below hb) (hm.below hb) hss hns l1 l2 l3
  have HCL : Hid (∀ w', RowR 3 w' (.slice pa ps.length pc) (iv ps) → RowR 9 w' (.slice na ns.length nc) (sv ns) → RowR 4 w' (.slice ma ms.length mc) (bv ms) → Calls Tryz.prog 36 #[.agg #[.int .i64 k, .int .i64 n, .string s, .slice pa ps.length pc, .slice na ns.length nc, .slice ma ms.length mc]] w' (CopQ k n s ps ns ms w')) := fun w' h1 h2 h3 => copied_any k n s _ _ _ ps ns ms w' h1 h2 h3 hss hns l1 l2 l3
  have HPW : Hid (∀ w', Below W.heap.size W w' → RowR 3 w' (.slice pa ps.length pc) (iv ps) ∧ RowR 9 w' (.slice na ns.length nc) (sv ns) ∧ RowR 4 w' (.slice ma ms.length mc) (bv ms)) := fun w' hb => ⟨hp.below hb, hn.below hb, hm.below hb⟩
  unfold tyV at hw hcop ⊢
  have hb1 := (Below.refl _ W).alloc (Nat.le_refl _) (.cells #[.int .i64 k, .int .i64 n, .string s, .slice pa ps.length pc, .slice na ns.length nc, .slice ma ms.length mc] 36)
  obtain ⟨W1, hW1⟩ : ∃ W1, W.alloc (.cells #[.int .i64 k, .int .i64 n, .string s, .slice pa ps.length pc, .slice na ns.length nc, .slice ma ms.length mc] 36) = W1 := ⟨_, rfl⟩
  have hx1 : Bx W1 W.heap.size #[.int .i64 k, .int .i64 n, .string s, .slice pa ps.length pc, .slice na ns.length nc, .slice ma ms.length mc] 36 := by rw [← hW1]; exact al_at W _
  rw [hW1] at hb1
  have HB1 := hide hb1
  have HX1 := hide hx1
  have HSO := hide (sizeOver_any (h.below hb1) _ ps (hp.below hb1) hv (fun k hk => by cases hk) l1)
  have HWD := hide (hw W1 hb1)
  have HCO := hide hcop
  have HA : Hid (∀ w', Below W.heap.size W w' → AAt Tryz.prog lo M none dv [] w') := fun w' hb => h.below hb
  have HK := hide (WideMaps.keyOf_string_mk Tryz.underlying9 hwl)
  have hlk := fun wx : World => Maps.look_nil (P := Tryz.prog) true law9 Tryz.underlying59 (zero3 wx) (unhide HK)
  have hmm := @run_makeMap Tryz.prog
  have hqn := fun wx : World => run_eql_map_nil (P := Tryz.prog) wx 59 9 3 none Tryz.underlying59
  simp only [Option.isNone_none] at hqn
  have d3 := hx1.cell 3 rfl
  have dl := hx1.lt
  have hM := h.lt
  have hgt : ¬ sizeP [] ps 1 > 500 := by omega
  obtain ⟨z, hzz⟩ : ∃ z, sizeP [] ps 1 = z := ⟨_, rfl⟩
  rw [hzz] at hgt HSO ⊢
  have HH := hide h
  clear h hp hn hm hv l1 l2 l3 hz hb1 hx1 hzz hw hcop hss hns
  go_enter Tryz.func17, Tryz.ntmps17
  go_wp2_with (first
    | (go_at_call 34
       refine (unhide HSO).mono ?_
       rintro e w2 ⟨rfl, rfl⟩)
    | (refine wpList_load_row rfl 36 _ rfl W.heap.size rfl 36 _ (0, 0) _ (unhide HX1) Tryz.underlying36 rfl info26 ?_)
    | (go_at_call 35
       refine (unhide HWD).mono ?_
       rintro e w2 ⟨rfl, hb2⟩
       have HB2 := hide ((unhide HB1).trans (hb2.mono (unhide HB1).size))
       have HX2 := hide ((unhide HX1).below hb2 (unhide HX1).lt)
       have HA2 := hide (unhide HA w2 (unhide HB2))
       obtain ⟨ta, tc, m0, m1, m2, mf, hMM, hrow, htc, htm⟩ := (unhide HA2).cells
       have HMM := hide hMM
       have HRW := hide hrow
       have hM2 := (unhide HA2).lt
       have hm2 := hide htm
       clear hb2 hMM hrow htm))
  have hMb : Bx w2 M #[.slice ta 0 tc, .map none, dv] 62 := unhide HMM
  obtain ⟨V1, hV1⟩ : ∃ V1, w2.setCell ⟨M, 1, none⟩ (.map (some w2.heap.size)) = V1 := ⟨_, rfl⟩
  obtain ⟨V2, hV2⟩ : ∃ V2, V1.alloc (.map #[] 0) = V2 := ⟨_, rfl⟩
  have hs1 : V1.heap.size = w2.heap.size := by rw [← hV1]; exact set_size _ _ _
  have hM1 : Bx V1 M #[.slice ta 0 tc, .map (some w2.heap.size), dv] 62 := by rw [← hV1]; exact hMb.set _
  have hb12 : Below V1.heap.size V1 V2 := by rw [← hV2]; exact (Below.refl _ V1).alloc (Nat.le_refl _) _
  have hM2' : Bx V2 M #[.slice ta 0 tc, .map (some w2.heap.size), dv] 62 := hM1.below hb12 hM1.lt
  have hmp : V2.heap[w2.heap.size]? = some (.map #[] 0) := by rw [← hV2, ← hs1]; exact al_at V1 _
  have hXV : Bx V2 W.heap.size #[.int .i64 k, .int .i64 n, .string s, .slice pa ps.length pc, .slice na ns.length nc, .slice ma ms.length mc] 36 := by
    refine Bx.below ?_ hb12 (by rw [hs1]; exact (unhide HX2).lt)
    rw [← hV1]
    exact (Below.heap_setCell _ _ _ _ (fun e => by have e : W.heap.size = M := e; omega)).trans (unhide HX2)
  obtain ⟨hpV, hnV, hmV⟩ := unhide HPW w2 (unhide HB2)
  have hpV : RowR 3 V2 (.slice pa ps.length pc) (iv ps) := by have h := hpV.set (i := 1) hMb (by omega) (.map (some w2.heap.size)); rw [hV1] at h; exact h.below hb12
  have hnV : RowR 9 V2 (.slice na ns.length nc) (sv ns) := by have h := hnV.set (i := 1) hMb (by omega) (.map (some w2.heap.size)); rw [hV1] at h; exact h.below hb12
  have hmV : RowR 4 V2 (.slice ma ms.length mc) (bv ms) := by have h := hmV.set (i := 1) hMb (by omega) (.map (some w2.heap.size)); rw [hV1] at h; exact h.below hb12
  have hlo : lo ≤ M := (unhide HH).lo
  have hrow : V2.ownsRow lo 75 8 (.slice ta 0 tc) 0 [] := by
    obtain ⟨vs, hvl, hown, _⟩ := unhide HRW
    have hown : w2.ownsRow lo 75 8 (.slice ta 0 tc) 0 [] := hown
    refine row_keep hown fun j hj => ?_
    obtain ⟨t1, t2, t3⟩ := row_ty hown hj
    refine (hb12.block j (by omega)).trans ?_
    rw [← hV1]
    refine Below.heap_setCell _ _ _ _ (fun e => ?_)
    have e : j = M := e
    subst e
    have h2 : w2.heap[j]? = _ := hMb
    simp [tyOf, h2] at t1
  have hom : V2.ownsMap Tryz.prog 9 (plainElem Tryz.prog 3) w2.heap.size 0 (.map [] : DataW Unit) := by rw [← hV2, ← hs1]; exact World.ownsMap_made V1 _ _ _
  have hlob : lo ≤ w2.heap.size := Nat.le_trans hlo (Nat.le_of_lt hM2)
  have hAV : AAt Tryz.prog lo M (some w2.heap.size) dv [] V2 := ⟨⟨_, hM2', [], rfl, hrow, fun j k v h => by simp at h⟩, ⟨hlob, 0, .map [], Nat.zero_le _, hom, NumD.nil⟩, hlo, Nat.zero_le _⟩
  have hfa : Fa M none lo W V2 := by
    have hB2 := unhide HB2
    have h1 : ∀ j, j < w2.heap.size → j ≠ M → V2.heap[j]? = w2.heap[j]? := fun j hj hn => (hb12.block j (by omega)).trans (by rw [← hV1]; exact Below.heap_setCell _ _ _ _ hn)
    refine ⟨?_, ?_, ?_, ?_, fun j hj hn _ _ => (h1 j (Nat.lt_of_lt_of_le hj hB2.size) hn).trans (hB2.block j hj), fun j hj hl => (h1 j (Nat.lt_of_lt_of_le hj hB2.size) (by omega)).trans (hB2.block j hj)⟩
    · refine (hb12.os.trans ?_).trans hB2.os; rw [← hV1]; rfl
    · refine (hb12.tape.trans ?_).trans hB2.tape; rw [← hV1]; rfl
    · refine (hb12.output.trans ?_).trans hB2.output; rw [← hV1]; rfl
    · have := hB2.size; have := hb12.size; omega
  have hWb : W.heap.size ≤ w2.heap.size := (unhide HB2).size
  have HWb := hide hWb
  have HAV := hide hAV
  have HFA := hide hfa
  have HOM := hide hom
  have HLOB := hide hlob
  have HMV := hide hM2'
  have HPV := hide hpV
  have HNV := hide hnV
  have HMVV := hide hmV
  have HOW := hide hrow
  obtain ⟨c0, c1, c2, c3, c4, c5, f0, f1, f2, f3, f4, f5, lt⟩ := Bx6 hXV
  have m0 := hM2'.cell 0 rfl
  have mf0 := hM2'.free 0
  have mb0 := hM2'.cell 1 rfl
  have hMV2 := hM2'.lt
  obtain ⟨bb, hbb⟩ : ∃ bb, w2.heap.size = bb := ⟨_, rfl⟩
  rw [hbb] at HAV HOM HLOB HMV mb0 HWb
  have hVV : (w2.setCell ⟨M, 1, none⟩ (.map (some w2.heap.size))).alloc (.map #[] 0) = V2 := by rw [hV1, hV2]
  rw [hbb] at hVV ⊢
  rw [hVV]
  clear hVV hbb hV1 hV2 hs1 hM1 hb12 hM2' hmp hXV hpV hnV hmV hrow hom hAV hfa hWb hMb hlob m1 m2 mf HMM HRW hlk hmm hqn
  have HLM := hide hlo
  obtain ⟨i0, hi0, hz0, hz1, hz2⟩ := info_parts infoKept
  have HNT : Hid ((Value.slice ta 0 tc).ownBlock ≠ some M) := fun e => by
    have h1 := (row_ty (unhide HOW) e).1
    have h2 : V2.heap[M]? = _ := unhide HMV
    simp [tyOf, h2] at h1
  go_region_law (first
    | (go_simp; go_at_call 36; refine (unhide HCL _ (by first | exact unhide HPV | exact (unhide HPV).below (Below.refl _ _).drew) (by first | exact unhide HNV | exact (unhide HNV).below (Below.refl _ _).drew) (by first | exact unhide HMVV | exact (unhide HMVV).below (Below.refl _ _).drew)).mono ?_; rintro e w3 ⟨pv3, nv3, mv3, rfl, hp3, hn3, hm3, hb3⟩; obtain ⟨pa3, pc3, rfl, -⟩ := id hp3; obtain ⟨na3, nc3, rfl, -⟩ := id hn3; obtain ⟨ma3, mc3, rfl, -⟩ := id hm3; unfold tyV; have HP3 := hide hp3; have HN3 := hide hn3; have HM3 := hide hm3; have hb3' : Below V2.heap.size V2 w3 := (Below.refl _ V2).drew.trans hb3; have HB3 := hide hb3'; have mc0 := (hb3'.cell (p := ⟨M, 0, none⟩) hMV2).trans m0; have mg0 := (hb3'.frozen (p := ⟨M, 0, none⟩) hMV2).trans mf0; have hM3 := Nat.lt_of_lt_of_le hMV2 hb3'.size; have HOW3 := hide (row_keep (unhide HOW) (fun j hj => hb3'.block j (row_ty (unhide HOW) hj).2.1)); clear hp3 hn3 hm3 hb3 hb3')
    | (refine step_append_old _ (by rfl) _ _ _ (by rfl) lo 75 i0 _ 8 128 Tryz.underlying58 hi0 hz0 hz1 hz2 rfl (by omega) _ 0 [] (by rfl) ((unhide HOW3).alloc _) ⟨_, 0, none⟩ 1 1 [.int .i64 k, .int .i64 n, .string s, .slice pa3 (iv ps).length pc3, .slice na3 (sv ns).length nc3, .slice ma3 (bv ms).length mc3, .string wd, .int .i64 z] (by rfl) (by rfl) (World.news_of_block (cs := #[.int .i64 k, .int .i64 n, .string s, .slice pa3 (iv ps).length pc3, .slice na3 (sv ns).length nc3, .slice ma3 (bv ms).length mc3, .string wd, .int .i64 z]) (t := 75) (fr := (0, 0)) (al_at w3 _)) (by intro u hu; simp at hu; rcases hu with rfl | rfl | rfl | rfl | rfl | rfl | rfl | rfl <;> rfl) (by omega) (by unfold maxLen; omega) (by omega) (by have := unhide HLM; simp; omega) _ rfl ?_; intro g4 cap4 w4 hown4 hgrow4 hat4 hlt4 hold4; clear hold4; have hM4 : w4.heap[M]? = w3.heap[M]? := (hgrow4.block M (by simp; omega) (fun e => unhide HNT e.symm)).trans (Below.heap_alloc w3 _ M hM3); have me0 := (World.cell?_of_block (w := w3) (a := ⟨M, 0, none⟩) hM4).trans mc0; have me1 := (World.frozen?_of_block (w := w3) (a := ⟨M, 0, none⟩) hM4).trans mg0; have HW4 := hide hown4; have HG4 := hide hgrow4; have HM4 := hide hM4; clear hown4 hgrow4 hat4 hM4))
  all_goals (
    have hb3 := unhide HB3
    have htb : ∀ j, (Value.slice ta 0 tc).ownBlock = some j → tyOf V2 j = 75 := fun j hj => (row_ty (unhide HOW) hj).1
    have hbl := map_lt (unhide HOM)
    have hbt : tyOf V2 bb = 0 := by obtain ⟨es, cl, h1, _⟩ := unhide HOM; simp [tyOf, h1]
    have hMt : tyOf V2 M = 62 := by have h2 : V2.heap[M]? = _ := unhide HMV; simp [tyOf, h2]
    have hbM : bb ≠ M := ne_ty (w := V2) (by omega)
    have hnb : (Value.slice ta 0 tc).ownBlock ≠ some bb := fun e => by have := htb bb e; omega
    have h34 : ∀ j, j < w3.heap.size → (Value.slice ta 0 tc).ownBlock ≠ some j → w4.heap[j]? = w3.heap[j]? := fun j hj hn => ((unhide HG4).block j (by simp; omega) (fun e => hn e.symm)).trans (Below.heap_alloc w3 _ j hj)
    have h24 : ∀ j, j < V2.heap.size → (Value.slice ta 0 tc).ownBlock ≠ some j → w4.heap[j]? = V2.heap[j]? := fun j hj hn => (h34 j (Nat.lt_of_lt_of_le hj hb3.size) hn).trans (hb3.block j hj)
    have HO5 : Hid ((w4.setCell ⟨M, 0, none⟩ (.slice (some ⟨g4, 0, none⟩) 1 cap4)).ownsMap Tryz.prog 9 (plainElem Tryz.prog 3) bb 0 (.map [] : DataW Unit)) := map_keep (unhide HOM) ((Below.heap_setCell _ _ _ _ hbM).trans (h24 bb hbl hnb))
    have m41 := (World.cell?_of_block (w := V2) (a := ⟨M, 1, none⟩) (h24 M hMV2 (unhide HNT))).trans mb0
    have hM4l : M < w4.heap.size := by have := (unhide HG4).size; simp at this; omega
    clear hb3 htb hbt hMt hnb h34 h24
    go_wp2_with (first
      | (at_mapUpdate
         refine wpList_mapUpdate_own _ rfl _ _ _ 59 rfl 9 3 law9 Tryz.underlying59 _ bb 0 _ rfl (unhide HO5) (by unfold maxLen; omega) _ _ _ rfl rfl (unhide HK) _ [] (plainElem_int Tryz.underlying3 (WalkArith.wf_i64 (by omega))) ?_
         intro w6 hown6 hgrow6
         have HO6 := hide hown6
         have HG6 := hide hgrow6
         clear hown6 hgrow6))
    obtain ⟨r1, r2⟩ := laid_end (L := []) (vs := []) (k := ⟨k, n, s, ps, ns, ms, wd, z⟩) (v := (.slice pa3 (iv ps).length pc3, .slice na3 (sv ns).length nc3, .slice ma3 (bv ms).length mc3)) (unhide HAV) (unhide HMV) rfl (unhide HOW) (fun j k v h => by simp at h) (unhide HLOB) (by omega) (unhide HOM) NumD.nil rfl (by simp) (unhide HB3) ⟨unhide HP3, unhide HN3, unhide HM3⟩ (unhide HG4) (unhide HW4) (unhide HO6) (unhide HG6)
    have HR1 := hide r1
    have HR2 := hide ((unhide HFA).trans r2 (.inr ⟨bb, rfl, unhide HWb⟩))
    clear r1 r2
    go_ret
    exact ⟨rfl, _, unhide HR1, unhide HR2, .inr ⟨bb, rfl, unhide HWb⟩⟩)
end Go.Proofs.YticdaphajanbbaaGreatDoor
