/- A value more in an array: lay. -/
import Derived.Test.YtdgocaokmmhenaaGreatDoorH7
namespace Go.Proofs.YtdgocaokmmhenaaGreatDoor
set_option linter.unusedSimpArgs false
set_option linter.unusedVariables false
set_option maxRecDepth 100000
set_option maxHeartbeats 2000000
open Go.RowKit Go.Shelf

variable {w W : World} {l : Ly} {hb : Nat} {H : PH}
theorem cells_set : ∀ (ths : List Th) (i : Nat) (t t' : Th), ths[i]? = some t → cellsH (ths.set i t') + cellsT t = cellsH ths + cellsT t'
  | [], i, t, t', h => by simp at h
  | u :: ths, 0, t, t', h => by simp at h; subst h; simp [cellsH]; omega
  | u :: ths, i + 1, t, t', h => by
    have := cells_set ths i t t' (by simpa using h)
    simp [cellsH] at this ⊢
    omega
theorem ifs_set (l : Ly) (ths : List Th) (i : Nat) (t t' : Th) (hi : ths[i]? = some t) (hk : t'.kind = t.kind) : ifs l (ths.set i t') = ifs l ths := by
  apply List.ext_getElem?
  intro j
  rw [ifs_get, ifs_get]
  by_cases e : i = j
  · subst e
    have hl := (List.getElem?_eq_some_iff.1 hi).1
    rw [List.getElem?_set_self hl, hi]
    simp [ifv, hk]
  · rw [List.getElem?_set_ne e]
/-- One thing of the heap has turned. -/
theorem HAt.upd {w1 w5 : World} {l' : Ly} {r u : Nat} {ths : List Th} (h : HAt w1 l hb ⟨r, u, ths⟩) {i : Nat} {t t' : Th} (hi : ths[i]? = some t) (hk : t'.kind = t.kind) (hbe : t'.beh = t.beh) (hbx : l'.bx = l.bx) (hlow : ∀ k, k < w1.heap.size → l'.L k = l.L k) (hfr : ∀ k, w5.heap.size ≤ k → l'.L k = 0)
    (hx : ∀ k, k < w1.heap.size → l.L k ≠ 3 * i + 3 → l.L k ≠ 3 * i + 4 → l.L k ≠ 3 * i + 5 → w5.heap[k]? = w1.heap[k]?) (ht : ThAt w5 l' i t') (hc : cellsH (ths.set i t') ≤ u) : HAt w5 l' hb ⟨r, u, ths.set i t'⟩ := by
  have hlt := h.lt
  have hlh := h.lh
  have hil := (List.getElem?_eq_some_iff.1 hi).1
  have e1 : ifs l' (ths.set i t') = ifs l ths := by
    rw [ifs_set l' ths i t t' hi hk]
    unfold ifs
    congr 1
    funext j v
    simp [ifv, hbx]
  obtain ⟨sv, b1, b2, b3⟩ := h.box
  refine { box := ⟨sv, (hx hb hlt (by omega) (by omega) (by omega)).trans b1, ?_, fun g hg => (hlow g (row_lt b2 hg)).trans (b3 g hg)⟩, lh := (hlow hb hlt).trans hlh, fresh := hfr, th := fun j v hj => ?_, obj := fun j v q hj hq => ?_, room := h.room, sum := hc, used := h.used }
  · rw [e1]
    have := row_keep b2 (w' := w5) fun g hg => hx g (row_lt b2 hg) (by rw [b3 g hg]; omega) (by rw [b3 g hg]; omega) (by rw [b3 g hg]; omega)
    simpa using this
  · simp only at hj
    by_cases e : i = j
    · subst e
      rw [List.getElem?_set_self hil] at hj
      cases hj
      exact ht
    · rw [List.getElem?_set_ne e] at hj
      exact (h.th j v hj).keep (by rw [hbx]) (fun _ _ => by rw [hbx]) (fun k hk' ho => hx k hk' (by omega) (by omega) (by omega)) hlow
  · have key : ∀ q, (∃ v : Th, ths[q]? = some v ∧ (v.kind = 1 ∨ v.kind = 4)) → ∃ v : Th, (ths.set i t')[q]? = some v ∧ (v.kind = 1 ∨ v.kind = 4) := fun q hex => by
      obtain ⟨v, hv, hk'⟩ := hex
      by_cases e : i = q
      · subst e
        rw [hi] at hv
        cases hv
        exact ⟨t', List.getElem?_set_self hil, by rw [hk]; exact hk'⟩
      · exact ⟨v, by rw [List.getElem?_set_ne e]; exact hv, hk'⟩
    simp only at hj
    by_cases e : i = j
    · subst e
      rw [List.getElem?_set_self hil] at hj
      cases hj
      exact key q (h.obj i t q hi (by rw [← hbe]; exact hq))
    · rw [List.getElem?_set_ne e] at hj
      exact key q (h.obj j v q hj hq)
def setL (l : Ly) (N : Nat) (f : Nat → Nat) : Ly := ⟨fun k => if k < N then l.L k else f k, l.bx⟩
theorem setL_low (l : Ly) (N : Nat) (f : Nat → Nat) {k : Nat} (h : k < N) : (setL l N f).L k = l.L k := by simp [setL, h]
theorem info32v : (Tryz.prog.info? 23).map (fun i => (i.zero, i.size, i.bytes)) = some (some (.agg (Vc 0 0 ⟨#[]⟩)), 3, 32) := by kernel_rfl
def PH.lay (H : PH) (i : Nat) (t : Th) (v : PV) : PH := ⟨H.room, H.used + 1, H.ths.set i ⟨t.kind, t.beh, t.slots, t.vals ++ [stl H v]⟩⟩
theorem stl_used (H : PH) (u : Nat) (v : PV) : stl ⟨H.room, u, H.ths⟩ v = stl H v := rfl
theorem lay_full (h : HAt W l hb H) (hf : H.used = H.room) (p : Value) (v : PV) : Calls Tryz.prog 60 #[ptr hb, p, v.agg] W fun e w' => e = .returned (.int .i64 3) ∧ Below W.heap.size W w' := by
  have HB := hide (below_one W (.cells #[.int .i64 v.k, .int .i64 v.n, .string v.t] 23))
  have HT := hide (take_full (h.below (unhide HB)) hf)
  unfold PV.agg Vc
  unfold ptr at HT ⊢
  clear h hf
  go_enter Tryz.func60, Tryz.ntmps60
  go_wp2_with (first | (go_at_call 33; refine (unhide HT).mono ?_; rintro e' w1 ⟨rfl, hb1⟩; have HB1 := hide hb1; clear hb1))
  go_ret
  exact ⟨rfl, Below.up (unhide HB) (unhide HB1)⟩
theorem stl_size (H : PH) (v : PV) : (stl H v).t.size ≤ v.t.size := by
  unfold stl
  split; exact Nat.zero_le _
  split; exact Nat.zero_le _
  split; exact Nat.zero_le _
  split; exact Nat.le_refl _
  split <;> exact Nat.zero_le _
theorem lay_end {w1 w3 : World} {a : Option Addr} {c : Nat} (h : HAt w1 l hb ⟨H.room, H.used + 1, H.ths⟩) (hs : St l.L l.L W w1) (hc : cellsH H.ths ≤ H.used) (i : Nat) (t : Th) (hi : H.ths[i]? = some t) (hk : t.kind = 2) (v : PV) (har : ArAt w1 l i t (.slice a t.vals.length c))
    (hb3 : Below w1.heap.size w1 w3) (o : Obj) (g4 cap4 : Nat) (w4 : World)
    (how : w4.ownsRow 0 23 3 (.slice (some ⟨g4, 0, none⟩) (t.vals.length + 1) cap4) (t.vals.length + 1) (t.vals.flatMap PV.cells ++ (stl H v).cells))
    (hgr : (w3.alloc o).grownBy w4 (Value.slice a t.vals.length c).ownBlock) (hat : (Value.slice a t.vals.length c).ownBlock = some g4 ∨ g4 = (w3.alloc o).heap.size) (hg4 : g4 < w4.heap.size) :
    HAt (w4.setCell ⟨l.bx i, 0, none⟩ (.slice (some ⟨g4, 0, none⟩) (t.vals.length + 1) cap4)) (setL l w1.heap.size fun k => if k = g4 then 3 * i + 5 else 0) hb (H.lay i t v) ∧ St l.L (setL l w1.heap.size fun k => if k = g4 then 3 * i + 5 else 0).L W (w4.setCell ⟨l.bx i, 0, none⟩ (.slice (some ⟨g4, 0, none⟩) (t.vals.length + 1) cap4)) := by
  have hth := h.th i t hi
  obtain ⟨hsl, hbe, _⟩ := hth.arr hk
  have hlb := hth.lb
  have hbl := har.box.lt
  have hnb : (Value.slice a t.vals.length c).ownBlock ≠ some (l.bx i) := fun e => by have := har.lr _ e; omega
  have h4 : w3.heap.size + 1 ≤ w4.heap.size := by have := hgr.size; simpa using this
  have hs5 : ∀ v, (w4.setCell ⟨l.bx i, 0, none⟩ v).heap.size = w4.heap.size := fun v => by simp [World.setCell]
  have hs3 := hb3.size
  have hol : ∀ g, (Value.slice a t.vals.length c).ownBlock = some g → g < w1.heap.size := fun g hg => row_lt har.row hg
  have hne4 : g4 ≠ l.bx i := by
    rcases hat with e | e
    · exact fun e' => hnb (e' ▸ e)
    · rw [e]; simp; omega
  have h34 : ∀ j, j < w3.heap.size → (Value.slice a t.vals.length c).ownBlock ≠ some j → w4.heap[j]? = w3.heap[j]? := fun j hj hn => (hgr.block j (by simp; omega) (fun e => hn e.symm)).trans (Below.heap_alloc w3 _ j hj)
  have h45 : ∀ v j, j ≠ l.bx i → (w4.setCell ⟨l.bx i, 0, none⟩ v).heap[j]? = w4.heap[j]? := fun v j hj => Below.heap_setCell _ _ _ _ hj
  have hx4 : Bx w4 (l.bx i) #[.slice a t.vals.length c] 115 := ((h34 _ (by omega) hnb).trans (hb3.block _ hbl)).trans har.box
  have hlow : ∀ k, k < w1.heap.size → (setL l w1.heap.size fun k => if k = g4 then 3 * i + 5 else 0).L k = l.L k := fun k hk' => setL_low _ _ _ hk'
  have hL4 : (setL l w1.heap.size fun k => if k = g4 then 3 * i + 5 else 0).L g4 = 3 * i + 5 := by
    rcases hat with e | e
    · rw [hlow g4 (hol g4 e)]; exact har.lr g4 e
    · simp at e
      simp [setL]; omega
  have hblk : ∀ v j, j < w1.heap.size → l.L j ≠ 3 * i + 3 → l.L j ≠ 3 * i + 5 → (w4.setCell ⟨l.bx i, 0, none⟩ v).heap[j]? = w1.heap[j]? := fun v j hj h1 h2 => (h45 _ j (fun e => h1 (by rw [e]; exact hlb))).trans ((h34 j (by omega) (fun e => h2 (har.lr j e))).trans (hb3.block j hj))
  refine ⟨HAt.upd h hi (t' := ⟨t.kind, t.beh, t.slots, t.vals ++ [stl H v]⟩) rfl rfl rfl hlow ?_ (fun k hk' h1 _ h3 => hblk _ k hk' h1 h3) ?_ ?_, hs.trans ⟨hgr.os.trans hb3.os, hgr.tape.trans hb3.tape, hgr.output.trans hb3.output, by rw [hs5]; omega, hlow, fun j hj h0 => hblk _ j hj (by omega) (by omega)⟩⟩
  · intro k hk'
    rw [hs5] at hk'
    have h1 : ¬ k < w1.heap.size := by omega
    have h2 : k ≠ g4 := by omega
    simp [setL, h1, h2]
  · refine { lb := (hlow _ hbl).trans hlb, kd := hth.kd, arr := fun _ => ⟨hsl, hbe, .slice (some ⟨g4, 0, none⟩) (t.vals.length + 1) cap4, ?_⟩, obj := fun e => absurd hk e, beh := hth.beh }
    refine { box := ?_, row := ?_, lr := fun g hg => ?_ }
    · have := hx4.set (i := 0) (.slice (some ⟨g4, 0, none⟩) (t.vals.length + 1) cap4)
      simpa [setL] using this
    · have := row_keep how (w' := w4.setCell ⟨l.bx i, 0, none⟩ (.slice (some ⟨g4, 0, none⟩) (t.vals.length + 1) cap4)) (fun g hg => by simp [Value.ownBlock] at hg; subst hg; exact h45 _ _ hne4)
      simpa using this
    · simp [Value.ownBlock] at hg
      subst hg
      exact hL4
  · have := cells_set H.ths i t ⟨t.kind, t.beh, t.slots, t.vals ++ [stl H v]⟩ hi
    have e1 : cellsT ⟨t.kind, t.beh, t.slots, t.vals ++ [stl H v]⟩ = cellsT t + 1 := by simp [cellsT]; omega
    omega
theorem lay_ok (h : HAt W l hb H) (hc : cellsH H.ths ≤ H.used) (hf : H.used < H.room) (i : Nat) (t : Th) (hi : H.ths[i]? = some t) (hk : t.kind = 2) (v : PV) (hv : v.t.size ≤ 281474976710656) : Calls Tryz.prog 60 #[ptr hb, ptr (l.bx i), v.agg] W fun e w' => e = .returned (.int .i64 0) ∧ ∃ l', HAt w' l' hb (H.lay i t v) ∧ St l.L l'.L W w' ∧ l'.bx = l.bx := by
  obtain ⟨W0, hW0⟩ : ∃ W0, W.alloc (.cells #[.int .i64 v.k, .int .i64 v.n, .string v.t] 23) = W0 := ⟨_, rfl⟩
  have hb0 : Below W.heap.size W W0 := by rw [← hW0]; exact below_one _ _
  have hx0 : Bv W0 W.heap.size v.k v.n v.t := by rw [← hW0]; exact Bx.new _ _ _
  have h0 := h.below hb0
  have HT := hide (take_ok h0 hf)
  obtain ⟨ht1, hs1⟩ := h0.take hf
  have hx1 : Bv (W0.setCell ⟨hb, 1, none⟩ (.int .i64 ((H.used : Int) + 1))).drew W.heap.size v.k v.n v.t := Bx.other hx0 (by have := h.lt; omega) _
  obtain ⟨w1, hw1⟩ : ∃ w1, (W0.setCell ⟨hb, 1, none⟩ (.int .i64 ((H.used : Int) + 1))).drew = w1 := ⟨_, rfl⟩
  rw [hw1] at HT ht1 hs1 hx1
  have hlen := h.len
  obtain ⟨y, hy⟩ : ∃ y, stl H v = y := ⟨_, rfl⟩
  have hys := stl_size H v
  rw [hy] at hys
  have HST : Hid (∀ w', Below w1.heap.size w1 w' → Calls Tryz.prog 41 #[.pointer (some ⟨hb, 0, none⟩), .agg #[.int .i64 v.k, .int .i64 v.n, .string v.t]] w' fun e w2 => e = .returned (.agg #[.int .i64 y.k, .int .i64 y.n, .string y.t]) ∧ Below w'.heap.size w' w2) := fun w' hb' => by
    have := settled_any (ht1.below hb') v
    rw [stl_used, hy] at this
    exact this
  have HCP : Hid (∀ w', Calls Tryz.prog 40 #[.agg #[.int .i64 y.k, .int .i64 y.n, .string y.t]] w' fun e w2 => e = .returned (.agg #[.int .i64 y.k, .int .i64 y.n, .string y.t]) ∧ Below w'.heap.size w' w2) := fun w' => copied_any y.k y.n y.t (by omega) w'
  have hth := ht1.th i t hi
  obtain ⟨hsl, hbe, sv, har⟩ := hth.arr hk
  have hbx := har.box
  have hrow := har.row
  have hlr := har.lr
  obtain ⟨a, c, hsv⟩ : ∃ a c, sv = .slice a t.vals.length c := by
    rcases hrow.2 with ⟨h1, h2⟩ | ⟨g, cap, cur, h1, _⟩
    · exact ⟨none, 0, by rw [h1]; simp at h2; simp [h2]⟩
    · exact ⟨_, _, h1⟩
  subst hsv
  have hvl : t.vals.length ≤ 1048576 := by
    have := cells_at H.ths i t hi
    have := h.room
    unfold cellsT at this
    have := h.used
    have e := cells_at H.ths i t hi
    unfold cellsT at e
    omega
  obtain ⟨b, hbb⟩ : ∃ b, l.bx i = b := ⟨_, rfl⟩
  rw [hbb] at hbx
  have m0 := hbx.cell 0 rfl
  have mf := hbx.free 0
  have hbl := hbx.lt
  obtain ⟨q0, q1, q2, r0, r1, r2, ql⟩ := hx1.all
  have HX1 := hide hx1
  have HR := hide hrow
  have HX := hide hbx
  have HLR := hide hlr
  have HT1 := hide ht1
  have HS1 := hide hs1
  have HC := hide hc
  have HI := hide hi
  have HK := hide hk
  have HAR := hide har
  have HS := hide ((St.of_below hb0 (L := l.L)).trans hs1)
  have HBB := hide hbb
  have HY := hide hy
  have HNB : Hid ((Value.slice a t.vals.length c).ownBlock ≠ some b) := fun e => by have := hlr b e; rw [← hbb, hth.lb] at this; omega
  rw [hbb]
  clear h h0 hf ht1 hs1 hw1 hbx hrow hlr hc hx0 hx1 hth hsl hbe har hbb hi hk
  obtain ⟨i0, hi0, hz0, hz1, hz2⟩ := info_parts info32v
  unfold PV.agg Vc
  unfold ptr at HT ⊢
  go_enter Tryz.func60, Tryz.ntmps60
  go_wp2_with (first | (go_at_call 33; refine (unhide HT).mono ?_; rintro e' w1' ⟨rfl, hw⟩; have hw' := hw.symm; subst hw'))
  go_region_law (first
    | (go_simp; go_at_call 41; refine (unhide HST w1.drew (Below.refl _ w1).drew).mono ?_; rintro e' w2 ⟨rfl, hb2⟩; have hb2' : Below w1.heap.size w1 w2 := (Below.refl _ w1).drew.trans hb2; have HB2 := hide hb2'; have m2 := (hb2'.cell (p := ⟨b, 0, none⟩) hbl).trans m0; have f2 := (hb2'.frozen (p := ⟨b, 0, none⟩) hbl).trans mf; clear hb2 hb2')
    | (go_simp; go_at_call 40; refine (unhide HCP _).mono ?_; rintro e' w3 ⟨rfl, hb3⟩; have hb3' := Below.up (unhide HB2) hb3; have HB3 := hide hb3'; have hl3 := Nat.lt_of_lt_of_le hbl hb3'.size; have m3 := (hb3'.cell (p := ⟨b, 0, none⟩) hbl).trans m0; have f3 := (hb3'.frozen (p := ⟨b, 0, none⟩) hbl).trans mf; clear hb3 hb3')
    | (refine step_app _ (by rfl) _ _ _ (by rfl) 0 23 i0 _ 3 32 Tryz.underlying91 hi0 hz0 hz1 hz2 rfl (by omega) _ t.vals.length (t.vals.flatMap PV.cells) (by rfl) ((row_keep (unhide HR) (fun g hg => (unhide HB3).block g (row_lt (unhide HR) hg))).alloc _) ⟨_, 0, none⟩ 1 1 [.int .i64 y.k, .int .i64 y.n, .string y.t] (by rfl) (by rfl) (World.news_of_block (cs := #[.int .i64 y.k, .int .i64 y.n, .string y.t]) (t := 23) (fr := (0, 0)) (al_at w3 _)) (by intro u hu; simp at hu; rcases hu with rfl | rfl | rfl <;> rfl) (by omega) (by unfold maxLen; omega) (by omega) (by omega) _ rfl ?_
       intro g4 cap4 w4 hown4 hgrow4 hat4 hlt4
       have hM4 : w4.heap[b]? = w3.heap[b]? := (hgrow4.block b (by simp; omega) (fun e => unhide HNB e.symm)).trans (Below.heap_alloc w3 _ b hl3)
       have m4 := (World.cell?_of_block (w := w3) (a := ⟨b, 0, none⟩) hM4).trans m3
       have f4 := (World.frozen?_of_block (w := w3) (a := ⟨b, 0, none⟩) hM4).trans f3
       have HW4 := hide hown4
       have HG4 := hide hgrow4
       have HM4 := hide hM4
       have HA4 := hide hat4
       clear hown4 hgrow4 hM4 hat4))
  all_goals (
    go_wp2
    go_ret
    have hbb := unhide HBB
    subst hbb
    have hw := unhide HW4
    have hy := unhide HY
    subst hy
    have q := lay_end (unhide HT1) (unhide HS) (unhide HC) i t (unhide HI) (unhide HK) v (unhide HAR) (unhide HB3) _ g4 cap4 w4 hw (unhide HG4) (unhide HA4) hlt4
    exact ⟨rfl, _, q.1, q.2, rfl⟩)
end Go.Proofs.YtdgocaokmmhenaaGreatDoor
