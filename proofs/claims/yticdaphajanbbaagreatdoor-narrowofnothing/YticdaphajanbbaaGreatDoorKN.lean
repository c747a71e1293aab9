/- A type is laid: one that is new. -/
import Derived.Test.YticdaphajanbbaaGreatDoorKM
namespace Go.Proofs.YticdaphajanbbaaGreatDoor
set_option linter.unusedSimpArgs false
set_option linter.unusedVariables false
set_option maxRecDepth 100000
set_option maxHeartbeats 4000000
open Go.RowKit Go.Shelf

variable {P : Program} {lo M : Nat} {mo : Option Nat} {dv : Value} {L : List Kt} {W : World}
theorem at_drew {w : World} {k : Nat} {o : Obj} (h : w.heap[k]? = some o) : w.drew.heap[k]? = some o := h
/-- What stands behind the laying of a type. -/
theorem laid_end {b nn g4 cap4 tc : Nat} {ta : Option Addr} {D : DataW Unit} {w2 w3 w4 w6 : World} {k : Kt} {v : Value × Value × Value} {vs : List (Value × Value × Value)} (hA : AAt Tryz.prog lo M (some b) dv L w2) (hM : w2.heap[M]? = some (.cells #[.slice ta L.length tc, .map (some b), dv] 62)) (hvl : vs.length = L.length) (how : w2.ownsRow lo 75 8 (.slice ta L.length tc) L.length (ktsC L vs)) (hki : ∀ (j : Nat) (k : Kt) (v : Value × Value × Value), L[j]? = some k → vs[j]? = some v → KtIn w2 k v)
    (hlo : lo ≤ b) (hnn : nn ≤ 1000000000 + L.length) (hom : w2.ownsMap Tryz.prog 9 (plainElem Tryz.prog 3) b nn D) (hD : NumD D L) (hpos : pos L k.words = none) (hL : L.length + 1 ≤ 1000000)
    (hb3 : Below w2.heap.size w2 w3) (hin : KtIn w3 k v) {o4 : Obj} (hg4 : (w3.alloc o4).grownBy w4 (Value.slice ta L.length tc).ownBlock) (ho4 : w4.ownsRow lo 75 8 (.slice (some ⟨g4, 0, none⟩) (L.length + 1) cap4) (L.length + 1) (ktsC L vs ++ ktC k v))
    (ho6 : w6.ownsMap Tryz.prog 9 (plainElem Tryz.prog 3) b (nn + 1) (D.put (kl k.words) (.lit (.int .i64 (L.length : Int))))) (hg6 : (w4.setCell ⟨M, 0, none⟩ (.slice (some ⟨g4, 0, none⟩) (L.length + 1) cap4)).grownBy w6 (some b)) :
    AAt Tryz.prog lo M (some b) dv (L ++ [k]) w6 ∧ Fa M (some b) lo w2 w6 := by
  have htb : ∀ j, (Value.slice ta L.length tc).ownBlock = some j → tyOf w2 j = 75 ∧ lo ≤ j := fun j hj => ⟨(row_ty how hj).1, (row_ty how hj).2.2⟩
  have hbl := map_lt hom
  have hbt : tyOf w2 b = 0 := by obtain ⟨es, cl, h1, _⟩ := hom; simp [tyOf, h1]
  have hMt : tyOf w2 M = 62 := by simp [tyOf, hM]
  have hMl : M < w2.heap.size := hA.lt
  have hbM : b ≠ M := ne_ty (w := w2) (by omega)
  have hTM : (Value.slice ta L.length tc).ownBlock ≠ some M := fun e => by have := (htb M e).1; omega
  have h34 : ∀ j, j < w3.heap.size → (Value.slice ta L.length tc).ownBlock ≠ some j → w4.heap[j]? = w3.heap[j]? := fun j hj hn => (hg4.block j (by simp; omega) (fun e => hn e.symm)).trans (Below.heap_alloc w3 _ j hj)
  have s34 : w3.heap.size ≤ w4.heap.size := by have := hg4.size; simp at this; omega
  have h46 : ∀ j, j < w4.heap.size → j ≠ M → j ≠ b → w6.heap[j]? = w4.heap[j]? := fun j hj h1 h2 => (hg6.block j (by simpa using hj) (fun e => h2 (Option.some.inj e))).trans (Below.heap_setCell _ _ _ _ h1)
  have s46 : w4.heap.size ≤ w6.heap.size := by have := hg6.size; simp at this; omega
  have h36 : ∀ j, j < w3.heap.size → (Value.slice ta L.length tc).ownBlock ≠ some j → j ≠ M → j ≠ b → w6.heap[j]? = w3.heap[j]? := fun j hj h0 h1 h2 => (h46 j (by omega) h1 h2).trans (h34 j hj h0)
  have h26 : ∀ j, j < w2.heap.size → (Value.slice ta L.length tc).ownBlock ≠ some j → j ≠ M → j ≠ b → w6.heap[j]? = w2.heap[j]? := fun j hj h0 h1 h2 => (h36 j (Nat.lt_of_lt_of_le hj hb3.size) h0 h1 h2).trans (hb3.block j hj)
  have hty3 : ∀ j, j < w2.heap.size → tyOf w3 j = tyOf w2 j := fun j hj => tyOf_eq (hb3.block j hj)
  have hM6 : w6.heap[M]? = some (.cells #[.slice (some ⟨g4, 0, none⟩) (L.length + 1) cap4, .map (some b), dv] 62) := by
    rw [hg6.block M (by have := hb3.size; simp; omega) (fun e => hbM (Option.some.inj e).symm)]
    have h4 : Bx w4 M #[.slice ta L.length tc, .map (some b), dv] 62 := (h34 M (Nat.lt_of_lt_of_le hMl hb3.size) hTM).trans ((hb3.block M hMl).trans hM)
    exact h4.set _
  have hg4M : ∀ j, (Value.slice (some ⟨g4, 0, none⟩) (L.length + 1) cap4).ownBlock = some j → j < w4.heap.size ∧ j ≠ M ∧ j ≠ b := fun j hj => by
    obtain ⟨t1, t2, _⟩ := row_ty ho4 hj
    refine ⟨t2, fun e => ?_, fun e => ?_⟩
    · subst e
      have : tyOf w4 j = 62 := by rw [tyOf_eq (h34 j (Nat.lt_of_lt_of_le hMl hb3.size) hTM), hty3 j hMl]; exact hMt
      omega
    · subst e
      have hn : (Value.slice ta L.length tc).ownBlock ≠ some j := fun e => by have := (htb j e).1; omega
      have : tyOf w4 j = 0 := by rw [tyOf_eq (h34 j (Nat.lt_of_lt_of_le hbl hb3.size) hn), hty3 j hbl]; exact hbt
      omega
  have hkeep : ∀ (j : Nat), j < w3.heap.size → (tyOf w3 j = 3 ∨ tyOf w3 j = 9 ∨ tyOf w3 j = 4) → w6.heap[j]? = w3.heap[j]? := fun j hj ht => by
    refine h36 j hj (fun e => ?_) (fun e => ?_) (fun e => ?_)
    · obtain ⟨t1, _⟩ := htb j e
      have hj2 := (row_ty how e).2.1
      rw [hty3 j hj2, t1] at ht; omega
    · subst e; rw [hty3 j hMl, hMt] at ht; omega
    · subst e; rw [hty3 j hbl, hbt] at ht; omega
  refine ⟨⟨⟨_, hM6, ?_⟩, ⟨hlo, nn + 1, _, by simp; omega, ho6, hD.snoc hpos⟩, hA.lo, by simp; omega⟩, ?_⟩
  · exact KtRow.snoc (W := w3) hvl (fun j k v h1 h2 => (hki j k v h1 h2).keep fun i hi _ => hb3.block i hi) hkeep (hin.keep hkeep) (row_keep ho4 fun j hj => by obtain ⟨t1, t2, t3⟩ := hg4M j hj; exact h46 j t1 t2 t3)
  · refine ⟨?_, ?_, ?_, ?_, fun j hj h1 h2 h3 => h26 j hj (fun e => h3 (htb j e).1) h1 (fun e => h2 (by rw [e])), fun j hj hl => h26 j hj (fun e => by have := (htb j e).2; omega) (fun e => by have := hA.lo; omega) (fun e => by omega)⟩
    · exact hg6.os.trans (hg4.os.trans hb3.os)
    · exact hg6.tape.trans (hg4.tape.trans hb3.tape)
    · exact hg6.output.trans (hg4.output.trans hb3.output)
    · have := hb3.size; omega
theorem laid_new (b : Nat) (h : AAt Tryz.prog lo M (some b) dv L W) (hs : SzOk L) (k n : Int) (s wd : ByteArray) (pa na ma : Option Addr) (pc nc mc : Nat) (ps : List Int) (ns : List ByteArray) (ms : List Bool) (hp : RowR 3 W (.slice pa ps.length pc) (iv ps)) (hn : RowR 9 W (.slice na ns.length nc) (sv ns)) (hm : RowR 4 W (.slice ma ms.length mc) (bv ms)) (hv : ∀ p ∈ ps, IsX L p) (l1 : ps.length ≤ 1000000000) (l2 : ns.length ≤ 1000000000) (l3 : ms.length ≤ 1000000000) (hss : s.size ≤ 281474976710656) (hns : ∀ x ∈ ns, x.size ≤ 281474976710656) (hz : sizeP L ps 1 ≤ 500)
    (hw : WdIs M (.agg (tyV k n s (.slice pa ps.length pc) (.slice na ns.length nc) (.slice ma ms.length mc))) W wd) (hwl : wd.size ≤ maxLen) (hi : pos L wd = none) (hL : L.length + 1 ≤ 1000000) :
    Calls Tryz.prog 17 #[.pointer (some ⟨M, 0, none⟩), .agg (tyV k n s (.slice pa ps.length pc) (.slice na ns.length nc) (.slice ma ms.length mc))] W (LaidQ lo M (some b) dv (L ++ [⟨k, n, s, ps, ns, ms, wd, sizeP L ps 1⟩]) (L.length : Int) W) := by
  have hcop : ∀ w', Below W.heap.size W w' → Calls Tryz.prog 36 #[.agg (tyV k n s (.slice pa ps.length pc) (.slice na ns.length nc) (.slice ma ms.length mc))] w' (CopQ k n s ps ns ms w') := fun w' hb => copied_any k n s _ _ _ ps ns ms w' (hp.below hb) (hn.below hb) (hm.below hb) hss hns l1 l2 l3
  unfold tyV at hw hcop ⊢
  have hb1 := (Below.refl _ W).alloc (Nat.le_refl _) (.cells #[.int .i64 k, .int .i64 n, .string s, .slice pa ps.length pc, .slice na ns.length nc, .slice ma ms.length mc] 36)
  obtain ⟨W1, hW1⟩ : ∃ W1, W.alloc (.cells #[.int .i64 k, .int .i64 n, .string s, .slice pa ps.length pc, .slice na ns.length nc, .slice ma ms.length mc] 36) = W1 := ⟨_, rfl⟩
  have hx1 : Bx W1 W.heap.size #[.int .i64 k, .int .i64 n, .string s, .slice pa ps.length pc, .slice na ns.length nc, .slice ma ms.length mc] 36 := by rw [← hW1]; exact al_at W _
  rw [hW1] at hb1
  have HB1 := hide hb1
  have HX1 := hide hx1
  have HSO := hide (sizeOver_any (h.below hb1) _ ps (hp.below hb1) hv hs l1)
  have HWD := hide (hw W1 hb1)
  have HCO := hide hcop
  have HA : Hid (∀ w', Below W.heap.size W w' → AAt Tryz.prog lo M (some b) dv L w') := fun w' hb => h.below hb
  have HI := hide hi
  have HK := hide (WideMaps.keyOf_string_mk Tryz.underlying9 hwl)
  have HLL := hide hL
  have hqn := fun wx : World => run_eql_map_nil (P := Tryz.prog) wx 59 9 3 (some b) Tryz.underlying59
  simp only [Option.isNone_some] at hqn
  have d3 := hx1.cell 3 rfl
  have dl := hx1.lt
  have hM := h.lt
  have hgt : ¬ sizeP L ps 1 > 500 := by omega
  obtain ⟨z, hzz⟩ : ∃ z, sizeP L ps 1 = z := ⟨_, rfl⟩
  rw [hzz] at hgt HSO ⊢
  have HH := hide h
  clear h hs hp hn hm hv l1 l2 l3 hz hb1 hx1 hzz hi hw hcop hss hns
  go_enter Tryz.func17, Tryz.ntmps17
  go_wp2_with (first
    | (go_at_call 34
       refine (unhide HSO).mono ?_
       rintro e w2 ⟨rfl, rfl⟩)
    | (refine wpList_load_row rfl 36 _ rfl W.heap.size rfl 36 _ (0, 0) _ (unhide HX1) Tryz.underlying36 rfl info26 ?_)
    | (go_at_call 35
       refine (unhide HWD).mono ?_
       rintro e w2 ⟨rfl, hb2⟩
       have HB2 := hide ((unhide HB1).trans (hb2.mono (unhide HB1).size))
       have HX2 := hide ((unhide HX1).below hb2 (unhide HX1).lt)
       have HA2 := hide (unhide HA w2 (unhide HB2))
       obtain ⟨ta, tc, m0, m1, m2, mf, hMM, hrow, htc, htm⟩ := (unhide HA2).cells
       have HMM := hide hMM
       have HRW := hide hrow
       have hM2 := (unhide HA2).lt
       have hm2 := hide htm
       clear hb2 hMM hrow htm)
    | (at_lookup
       obtain ⟨hlo, nn, D, hnn, ho, hD⟩ := (unhide HA2).num
       have hDi := (hD.2 wd).1
       rw [unhide HI] at hDi
       refine wpList_lookup_own_ok_int _ rfl _ _ 59 rfl 9 3 .i64 law9 Tryz.underlying59 Tryz.underlying3 (zero3 _) b nn D rfl ho _ _ rfl (unhide HK) ?_
       intro cc hat hwc
       have hhas : Maps.has D (.string wd.data.toList) = false := hDi
       have HO := hide ho
       have HD := hide hD
       have HNN := hide hnn
       have HLO := hide hlo
       clear hDi hat ho hD hnn hlo))
  obtain ⟨i0, hi0, hz0, hz1, hz2⟩ := info_parts infoKept
  obtain ⟨vs, hvl, hown, hkin⟩ := unhide HRW
  obtain ⟨c0, c1, c2, c3, c4, c5, f0, f1, f2, f3, f4, f5, lt⟩ := Bx6 (unhide HX2)
  have HOW := hide hown
  have HKI := hide hkin
  have HVL := hide hvl
  have mf0 := mf 0
  clear hown hkin hvl
  have h1000 := unhide HLL
  have HNT : Hid ((Value.slice ta L.length tc).ownBlock ≠ some M) := fun e => by
    have h1 := (row_ty (unhide HOW) e).1
    have h2 : w2.heap[M]? = _ := unhide HMM
    simp [tyOf, h2] at h1
  have HLM : Hid (lo ≤ M) := (unhide HH).lo
  go_region_law (first
    | (go_simp; go_at_call 36; refine (unhide HCO _ (by first | exact unhide HB2 | exact (unhide HB2).drew | exact (unhide HB2).drew.drew)).mono ?_; rintro e w3 ⟨pv3, nv3, mv3, rfl, hp3, hn3, hm3, hb3⟩; obtain ⟨pa3, pc3, rfl, -⟩ := id hp3; obtain ⟨na3, nc3, rfl, -⟩ := id hn3; obtain ⟨ma3, mc3, rfl, -⟩ := id hm3; unfold tyV; have HP3 := hide hp3; have HN3 := hide hn3; have HM3 := hide hm3; have hb3' : Below w2.heap.size w2 w3 := (Below.refl _ w2).drew.trans hb3; have HB3 := hide hb3'; have mc0 := (hb3'.cell (p := ⟨M, 0, none⟩) hM2).trans m0; have mg0 := (hb3'.frozen (p := ⟨M, 0, none⟩) hM2).trans mf0; have hM3 := Nat.lt_of_lt_of_le hM2 hb3'.size; have HOW3 := hide (row_keep (unhide HOW) (fun j hj => hb3'.block j (row_ty (unhide HOW) hj).2.1)); clear hp3 hn3 hm3 hb3 hb3')
    | (refine step_append_old _ (by rfl) _ _ _ (by rfl) lo 75 i0 _ 8 128 Tryz.underlying58 hi0 hz0 hz1 hz2 rfl (by omega) _ L.length (ktsC L vs) (by rfl) ((unhide HOW3).alloc _) ⟨_, 0, none⟩ 1 1 [.int .i64 k, .int .i64 n, .string s, .slice pa3 (iv ps).length pc3, .slice na3 (sv ns).length nc3, .slice ma3 (bv ms).length mc3, .string wd, .int .i64 z] (by rfl) (by rfl) (World.news_of_block (cs := #[.int .i64 k, .int .i64 n, .string s, .slice pa3 (iv ps).length pc3, .slice na3 (sv ns).length nc3, .slice ma3 (bv ms).length mc3, .string wd, .int .i64 z]) (t := 75) (fr := (0, 0)) (al_at w3 _)) (by intro u hu; simp at hu; rcases hu with rfl | rfl | rfl | rfl | rfl | rfl | rfl | rfl <;> rfl) (by omega) (by unfold maxLen; omega) (by omega) (by have := unhide HLM; simp; omega) _ rfl ?_; intro g4 cap4 w4 hown4 hgrow4 hat4 hlt4 hold4; clear hold4; have hM4 : w4.heap[M]? = w3.heap[M]? := (hgrow4.block M (by simp; omega) (fun e => unhide HNT e.symm)).trans (Below.heap_alloc w3 _ M hM3); have me0 := (World.cell?_of_block (w := w3) (a := ⟨M, 0, none⟩) hM4).trans mc0; have me1 := (World.frozen?_of_block (w := w3) (a := ⟨M, 0, none⟩) hM4).trans mg0; have HW4 := hide hown4; have HG4 := hide hgrow4; have HM4 := hide hM4; clear hown4 hgrow4 hat4 hM4))
  all_goals (
    have hb3 := unhide HB3
    have htb : ∀ j, (Value.slice ta L.length tc).ownBlock = some j → tyOf w2 j = 75 := fun j hj => (row_ty (unhide HOW) hj).1
    have hbm : ∃ es cl, w2.heap[b]? = some (.map es cl) := by obtain ⟨es, cl, h1, _⟩ := unhide HO; exact ⟨es, cl, h1⟩
    have hbl := map_lt (unhide HO)
    have hbt : tyOf w2 b = 0 := by obtain ⟨es, cl, h1⟩ := hbm; simp [tyOf, h1]
    have hMt : tyOf w2 M = 62 := by have h2 : w2.heap[M]? = _ := unhide HMM; simp [tyOf, h2]
    have hbM : b ≠ M := ne_ty (w := w2) (by omega)
    have hnb : (Value.slice ta L.length tc).ownBlock ≠ some b := fun e => by have := htb b e; omega
    have h34 : ∀ j, j < w3.heap.size → (Value.slice ta L.length tc).ownBlock ≠ some j → w4.heap[j]? = w3.heap[j]? := fun j hj hn => ((unhide HG4).block j (by simp; omega) (fun e => hn e.symm)).trans (Below.heap_alloc w3 _ j hj)
    have h24 : ∀ j, j < w2.heap.size → (Value.slice ta L.length tc).ownBlock ≠ some j → w4.heap[j]? = w2.heap[j]? := fun j hj hn => (h34 j (Nat.lt_of_lt_of_le hj hb3.size) hn).trans (hb3.block j hj)
    have HO5 : Hid ((w4.setCell ⟨M, 0, none⟩ (.slice (some ⟨g4, 0, none⟩) (L.length + 1) cap4)).ownsMap Tryz.prog 9 (plainElem Tryz.prog 3) b nn D) := map_keep (unhide HO) ((Below.heap_setCell _ _ _ _ hbM).trans (h24 b hbl hnb))
    have m41 := (World.cell?_of_block (w := w2) (a := ⟨M, 1, none⟩) (h24 M hM2 (unhide HNT))).trans m1
    have hnm : nn < maxLen := by have := unhide HNN; unfold maxLen; omega
    have HNM := hide hnm
    have H34 := hide h34
    have H24 := hide h24
    have HNB := hide hnb
    have HTB := hide htb
    have hM4l : M < w4.heap.size := by have := (unhide HG4).size; simp at this; omega
    clear hb3 htb hbm hbt hMt hnb h34 h24 hnm
    go_wp2_with (first
      | (at_mapUpdate
         refine wpList_mapUpdate_own _ rfl _ _ _ 59 rfl 9 3 law9 Tryz.underlying59 _ b nn D rfl (unhide HO5) (unhide HNM) _ _ _ rfl rfl (unhide HK) _ [] (plainElem_int Tryz.underlying3 (WalkArith.wf_i64 (by omega))) ?_
         intro w6 hown6 hgrow6
         have HO6 := hide hown6
         have HG6 := hide hgrow6
         clear hown6 hgrow6))
    obtain ⟨r1, r2⟩ := laid_end (k := ⟨k, n, s, ps, ns, ms, wd, z⟩) (v := (.slice pa3 (iv ps).length pc3, .slice na3 (sv ns).length nc3, .slice ma3 (bv ms).length mc3)) (unhide HA2) (unhide HMM) (unhide HVL) (unhide HOW) (unhide HKI) (unhide HLO) (unhide HNN) (unhide HO) (unhide HD) (unhide HI) (unhide HLL) (unhide HB3) ⟨unhide HP3, unhide HN3, unhide HM3⟩ (unhide HG4) (unhide HW4) (unhide HO6) (unhide HG6)
    have HR1 := hide r1
    have HR2 := hide ((below_fa (unhide HB2)).trans r2 (.inl rfl))
    clear r1 r2
    go_ret
    exact ⟨rfl, _, unhide HR1, unhide HR2, .inl rfl⟩)
end Go.Proofs.YticdaphajanbbaaGreatDoor
