/- A copy of a type. -/
import Derived.LoopTactic
import Derived.Deep.RegionLaw
import Derived.Deep.RegionHeld3
import Derived.Test.YticdaphajanbbaaGreatDoorKE
namespace Go.Proofs.YticdaphajanbbaaGreatDoor
set_option linter.unusedSimpArgs false
set_option linter.unusedVariables false
set_option maxRecDepth 100000
set_option maxHeartbeats 2000000
open Go.RowKit Go.Shelf

/-- A box: a block of cells. -/
def Bx (w : World) (b : Nat) (cs : Array Value) (t : Nat) : Prop := w.heap[b]? = some (.cells cs t)
theorem Bx.cell {w : World} {b t : Nat} {cs : Array Value} (h : Bx w b cs t) (i : Nat) {x : Value} (hx : cs[i]? = some x) : w.cell? ⟨b, i, none⟩ = some x := by
  have h' : w.heap[b]? = some (.cells cs t) := h
  simp [World.cell?, h', hx]
theorem Bx.free {w : World} {b t : Nat} {cs : Array Value} (h : Bx w b cs t) (i : Nat) : w.frozen? ⟨b, i, none⟩ = false := by
  have h' : w.heap[b]? = some (.cells cs t) := h
  simp [World.frozen?, h']
theorem Bx.lt {w : World} {b t : Nat} {cs : Array Value} (h : Bx w b cs t) : b < w.heap.size := (Array.getElem?_eq_some_iff.1 h).1
theorem Bx.below {w w' : World} {b t B : Nat} {cs : Array Value} (h : Bx w b cs t) (hb : Below B w w') (hB : b < B) : Bx w' b cs t := (hb.block b hB).trans h
theorem Bx.set {w : World} {b t i : Nat} {cs : Array Value} (h : Bx w b cs t) (u : Value) : Bx (w.setCell ⟨b, i, none⟩ u) b (cs.setIfInBounds i u) t := by
  have h' : w.heap[b]? = some (.cells cs t) := h
  unfold Bx
  simp [World.setCell, Array.getElem?_modify, h']
theorem Bx6 {w : World} {b t : Nat} {x0 x1 x2 x3 x4 x5 : Value} (h : Bx w b #[x0, x1, x2, x3, x4, x5] t) : w.cell? ⟨b, 0, none⟩ = some x0 ∧ w.cell? ⟨b, 1, none⟩ = some x1 ∧ w.cell? ⟨b, 2, none⟩ = some x2 ∧ w.cell? ⟨b, 3, none⟩ = some x3 ∧ w.cell? ⟨b, 4, none⟩ = some x4 ∧ w.cell? ⟨b, 5, none⟩ = some x5 ∧ w.frozen? ⟨b, 0, none⟩ = false ∧ w.frozen? ⟨b, 1, none⟩ = false ∧ w.frozen? ⟨b, 2, none⟩ = false ∧ w.frozen? ⟨b, 3, none⟩ = false ∧ w.frozen? ⟨b, 4, none⟩ = false ∧ w.frozen? ⟨b, 5, none⟩ = false ∧ b < w.heap.size :=
  ⟨h.cell 0 rfl, h.cell 1 rfl, h.cell 2 rfl, h.cell 3 rfl, h.cell 4 rfl, h.cell 5 rfl, h.free 0, h.free 1, h.free 2, h.free 3, h.free 4, h.free 5, h.lt⟩
theorem set_size (w : World) (a : Addr) (u : Value) : (w.setCell a u).heap.size = w.heap.size := by simp [World.setCell]
theorem setCell_same {w : World} {g i t : Nat} {cur : Array Value} {fr : Nat × Nat} {x : Value} (h : w.heap[g]? = some (.cells cur t fr)) (hx : cur[i]? = some x) : w.setCell ⟨g, i, none⟩ x = w := by
  have hi : i < cur.size := (Array.getElem?_eq_some_iff.1 hx).1
  have e : cur.setIfInBounds i x = cur := by
    apply Array.ext
    · simp
    · intro j h1 h2
      by_cases hj : j = i
      · subst hj
        simp [Array.getElem_setIfInBounds, hi]
        have := hx
        rw [Array.getElem?_eq_getElem hi] at this
        simpa using this.symm
      · simp [Array.getElem_setIfInBounds, h2, Ne.symm hj]
  have hh : (w.setCell ⟨g, i, none⟩ x).heap = w.heap := by
    apply Array.ext
    · simp [World.setCell]
    · intro j h1 h2
      by_cases hj : g = j
      · subst hj
        have hw : w.heap[g] = .cells cur t fr := by have := h; rw [Array.getElem?_eq_getElem h2] at this; simpa using this
        simp [World.setCell, Array.getElem_modify, hw, e]
      · simp [World.setCell, Array.getElem_modify, hj]
  cases w
  simp only [World.setCell] at hh ⊢
  rw [hh]
theorem RowR.set {w : World} {t b i t' : Nat} {v : Value} {xs : List Value} {cs : Array Value} (h : RowR t w v xs) (hx : Bx w b cs t') (ht : t ≠ t') (u : Value) : RowR t (w.setCell ⟨b, i, none⟩ u) v xs := by
  refine h.keep fun k hk e => Below.heap_setCell w _ u k fun e' => ?_
  have e' : k = b := e'
  subst e'
  have h' : w.heap[k]? = some (.cells cs t') := hx
  simp [tyOf, h'] at e
  exact ht e.symm
/-- A result that lies in a cell. -/
theorem results_cell1 {P : Program} {fn : Func} {p : Tmp} {ty : TypeId} (h : fn.results = #[.cell p ty]) (tmps : Array Value) (w : World) (g : Nat) (t : TypeId) (cs : Array Value) (fr : Nat × Nat) (d : TypeDesc)
    (hp : tmps.getD p undef = .pointer (some ⟨g, 0, none⟩)) (hg : w.heap[g]? = some (.cells cs t fr))
    (hu : P.underlying ty = some d) (hd : (match d with | .struct _ | .array _ _ => true | _ => false) = true) (hi : (P.info? ty).map (·.size) = some cs.size) :
    (results fn tmps).run P w = .ok (.agg cs) w := by
  have hp' : tmps[p]?.getD undef = .pointer (some ⟨g, 0, none⟩) := by simpa using hp
  simp [results, h, hp', asAddr, run_loadVar_row w g t ty cs fr d hg hu hd hi]
theorem heap_setRow_ne (w : World) (g k : Nat) (cs : Array Value) (h : k ≠ g) : (w.setRow g cs).heap[k]? = w.heap[k]? := by
  simp only [World.setRow, Array.getElem?_modify]
  rw [if_neg (fun e => h e.symm)]
theorem RowR.row {w : World} {t b t' : Nat} {v : Value} {xs : List Value} {cs : Array Value} (h : RowR t w v xs) (hx : Bx w b cs t') (ht : t ≠ t') (u : Array Value) : RowR t (w.setRow b u) v xs := by
  refine h.keep fun k hk e => heap_setRow_ne w b k u fun e' => ?_
  subst e'
  have h' : w.heap[k]? = some (.cells cs t') := hx
  simp [tyOf, h'] at e
  exact ht e.symm
theorem below_row {B : Nat} {a w : World} (h : Below B a w) {g : Nat} (hg : B ≤ g) (cs : Array Value) : Below B a (w.setRow g cs) :=
  ⟨h.os, h.tape, h.output, by simpa using h.size, fun k hk => (heap_setRow_ne w g k cs (by omega)).trans (h.block k hk)⟩
theorem one6 (k n : Int) (s : ByteArray) (pa na ma : Option Addr) (a b c d e f : Nat) : (#[.int .i64 k, .int .i64 n, .string s, .slice pa a b, .slice na c d, .slice ma e f] : Array Value).all (·.oneCell') = true := by simp [Value.oneCell']
theorem info26 : (Tryz.prog.info? 36).map (·.size) = some 6 := by kernel_rfl
def tyV (k n : Int) (s : ByteArray) (pv nv mv : Value) : Array Value := #[.int .i64 k, .int .i64 n, .string s, pv, nv, mv]
def CopQ (k n : Int) (s : ByteArray) (ps : List Int) (ns : List ByteArray) (ms : List Bool) (W : World) (e : Ending) (w' : World) : Prop := ∃ pv nv mv, e = .returned (.agg (tyV k n s pv nv mv)) ∧ RowR 3 w' pv (iv ps) ∧ RowR 9 w' nv (sv ns) ∧ RowR 4 w' mv (bv ms) ∧ Below W.heap.size W w'
theorem copied_any (k n : Int) (s : ByteArray) (pv nv mv : Value) (ps : List Int) (ns : List ByteArray) (ms : List Bool) (W : World) (hp : RowR 3 W pv (iv ps)) (hn : RowR 9 W nv (sv ns)) (hm : RowR 4 W mv (bv ms)) (hs : s.size ≤ 281474976710656) (hns : ∀ x ∈ ns, x.size ≤ 281474976710656) (l1 : ps.length ≤ 1000000000) (l2 : ns.length ≤ 1000000000) (l3 : ms.length ≤ 1000000000) :
    Calls Tryz.prog 36 #[.agg (tyV k n s pv nv mv)] W (CopQ k n s ps ns ms W) := by
  have HP : Hid (∀ w', Below W.heap.size W w' → RowR 3 w' pv (iv ps)) := fun w' h => hp.below h
  have HN : Hid (∀ w', Below W.heap.size W w' → RowR 9 w' nv (sv ns)) := fun w' h => hn.below h
  have HM : Hid (∀ w', Below W.heap.size W w' → RowR 4 w' mv (bv ms)) := fun w' h => hm.below h
  obtain ⟨pa, pc, rfl, -⟩ := hp
  obtain ⟨na, nc, rfl, -⟩ := hn
  obtain ⟨ma, mc, rfl, -⟩ := hm
  have HS := hide hs
  have L1 := hide l1
  have L2 := hide l2
  have L3 := hide l3
  clear hs l1 l2 l3
  unfold tyV
  obtain ⟨W2, hW2⟩ : ∃ W2, (W.alloc (.cells #[.int .i64 k, .int .i64 n, .string s, .slice pa (iv ps).length pc, .slice na (sv ns).length nc, .slice ma (bv ms).length mc] 36)).alloc (.cells #[.int .i64 0, .int .i64 0, .string ⟨#[]⟩, .slice none 0 0, .slice none 0 0, .slice none 0 0] 36) = W2 := ⟨_, rfl⟩
  have hb2 : Below W.heap.size W W2 := by rw [← hW2]; exact ((Below.refl _ W).alloc (Nat.le_refl _) _).alloc (by simp) _
  have hx2 : Bx W2 W.heap.size #[.int .i64 k, .int .i64 n, .string s, .slice pa (iv ps).length pc, .slice na (sv ns).length nc, .slice ma (bv ms).length mc] 36 := by
    rw [← hW2]; exact (Below.heap_alloc _ _ _ (by simp)).trans (al_at W _)
  have hz2 : Bx W2 (W.heap.size + 1) #[.int .i64 0, .int .i64 0, .string ⟨#[]⟩, .slice none 0 0, .slice none 0 0, .slice none 0 0] 36 := by
    rw [← hW2]
    have := al_at (W.alloc (.cells #[.int .i64 k, .int .i64 n, .string s, .slice pa (iv ps).length pc, .slice na (sv ns).length nc, .slice ma (bv ms).length mc] 36)) (.cells #[.int .i64 0, .int .i64 0, .string ⟨#[]⟩, .slice none 0 0, .slice none 0 0, .slice none 0 0] 36)
    simpa [Bx] using this
  obtain ⟨c0, c1, c2, c3, c4, c5, f0, f1, f2, f3, f4, f5, lt⟩ := Bx6 hx2
  have HB2 := hide hb2
  have HX2 := hide hx2
  have HZ2 := hide hz2
  clear hb2 hx2 hz2
  go_enter Tryz.func36, Tryz.ntmps36
  go_wp2_with (first
    | (go_at_call 63
       refine (sclone s _ (unhide HS)).mono ?_
       rintro e w3 ⟨rfl, hb3⟩
       have HX3 := hide ((unhide HX2).below hb3 (unhide HX2).lt)
       have HZ3 := hide ((unhide HZ2).below hb3 (unhide HZ2).lt)
       have HB3 := hide ((unhide HB2).trans (hb3.mono (unhide HB2).size))
       clear c0 c1 c2 c3 c4 c5 f0 f1 f2 f3 f4 f5 lt hb3 HX2 HZ2 HB2
       obtain ⟨c0, c1, c2, c3, c4, c5, f0, f1, f2, f3, f4, f5, lt⟩ := Bx6 (unhide HX3))
    | (go_at_call 64
       have hbx := (unhide HB3).setCell (p := ⟨W.heap.size, 2, none⟩) (Nat.le_refl _) (.string s)
       have hxx : Bx (w3.setCell ⟨W.heap.size, 2, none⟩ (.string s)) W.heap.size #[.int .i64 k, .int .i64 n, .string s, .slice pa (iv ps).length pc, .slice na (sv ns).length nc, .slice ma (bv ms).length mc] 36 := (unhide HX3).set _
       have hzx : Bx (w3.setCell ⟨W.heap.size, 2, none⟩ (.string s)) (W.heap.size + 1) _ 36 := (Below.heap_setCell _ _ _ _ (by simp)).trans (unhide HZ3)
       refine (clone45 _ ps _ (unhide HP _ hbx) (unhide L1)).mono ?_
       rintro e w4 ⟨pv', rfl, ho4, hb4⟩
       have HX4 := hide (hxx.below hb4 hxx.lt)
       have HZ4 := hide (hzx.below hb4 hzx.lt)
       have HB4 := hide (hbx.trans (hb4.mono hbx.size))
       have HP4 := hide (own_rowR ho4)
       clear c0 c1 c2 c3 c4 c5 f0 f1 f2 f3 f4 f5 lt hb4 HX3 HZ3 HB3 hbx hxx hzx ho4
       obtain ⟨pa', pc', rfl, -⟩ := unhide HP4
       obtain ⟨c0, c1, c2, c3, c4, c5, f0, f1, f2, f3, f4, f5, lt⟩ := Bx6 (unhide HX4))
    | (go_at_call 65
       have hbx := (unhide HB4).setCell (p := ⟨W.heap.size, 3, none⟩) (Nat.le_refl _) (.slice pa' (iv ps).length pc')
       have hxx : Bx (w4.setCell ⟨W.heap.size, 3, none⟩ (.slice pa' (iv ps).length pc')) W.heap.size #[.int .i64 k, .int .i64 n, .string s, .slice pa' (iv ps).length pc', .slice na (sv ns).length nc, .slice ma (bv ms).length mc] 36 := (unhide HX4).set _
       have hzx : Bx (w4.setCell ⟨W.heap.size, 3, none⟩ (.slice pa' (iv ps).length pc')) (W.heap.size + 1) _ 36 := (Below.heap_setCell _ _ _ _ (by simp)).trans (unhide HZ4)
       have hpx := (unhide HP4).set (i := 3) (unhide HX4) (by omega) (.slice pa' (iv ps).length pc')
       refine (clone75 _ ns _ (unhide HN _ hbx) (unhide L2)).mono ?_
       rintro e w5 ⟨nv', rfl, ho5, hb5⟩
       have HX5 := hide (hxx.below hb5 hxx.lt)
       have HZ5 := hide (hzx.below hb5 hzx.lt)
       have HB5 := hide (hbx.trans (hb5.mono hbx.size))
       have HP5 := hide (hpx.below hb5)
       have HN5 := hide ho5
       clear c0 c1 c2 c3 c4 c5 f0 f1 f2 f3 f4 f5 lt hb5 HX4 HZ4 HB4 HP4 hbx hxx hzx hpx ho5
       obtain ⟨na', nc', rfl, -⟩ := own_rowR (unhide HN5)
       obtain ⟨c0, c1, c2, c3, c4, c5, f0, f1, f2, f3, f4, f5, lt⟩ := Bx6 (unhide HX5)))
  obtain ⟨w6, hw6⟩ : ∃ w6, w5.setCell ⟨W.heap.size, 4, none⟩ (.slice na' (sv ns).length nc') = w6 := ⟨_, rfl⟩
  have HX6 : Hid (Bx w6 W.heap.size #[.int .i64 k, .int .i64 n, .string s, .slice pa' (iv ps).length pc', .slice na' (sv ns).length nc', .slice ma (bv ms).length mc] 36) := by rw [← hw6]; exact (unhide HX5).set _
  have HZ6 : Hid (Bx w6 (W.heap.size + 1) #[.int .i64 0, .int .i64 0, .string ⟨#[]⟩, .slice none 0 0, .slice none 0 0, .slice none 0 0] 36) := by rw [← hw6]; exact (Below.heap_setCell _ _ _ _ (by simp)).trans (unhide HZ5)
  have HB6 : Hid (Below W.heap.size W w6) := by rw [← hw6]; exact (unhide HB5).setCell (Nat.le_refl _) _
  have HP6 : Hid (RowR 3 w6 (.slice pa' (iv ps).length pc') (iv ps)) := by rw [← hw6]; exact (unhide HP5).set (unhide HX5) (by omega) _
  have HN6 : Hid (RowR 9 w6 (.slice na' (sv ns).length nc') (sv ns)) := by rw [← hw6]; exact (own_rowR (unhide HN5)).set (unhide HX5) (by omega) _
  have HNF : Hid (ns = [] ∨ ∃ g cur, na' = some ⟨g, 0, none⟩ ∧ w6.heap[g]? = some (.cells cur 9)) := by
    rcases (unhide HN5).2 with ⟨e, e2⟩ | ⟨g, cap, cur, e, _, hh, _⟩
    · exact .inl (by simpa [sv] using e2)
    · cases e
      refine .inr ⟨g, cur, rfl, ?_⟩
      rw [← hw6]
      refine (Below.heap_setCell _ _ _ _ fun e => ?_).trans hh
      have e : g = W.heap.size := e
      subst e
      have h' : w5.heap[W.heap.size]? = _ := unhide HX5
      rw [h'] at hh
      cases hh
  clear c0 c1 c2 c3 c4 c5 f0 f1 f2 f3 f4 f5 lt HX5 HZ5 HB5 HP5 HN5
  rw [hw6]
  clear hw6
  have hlv : (sv ns).length = ns.length := by simp [sv]
  have l2 := unhide L2
  rw [hlv]
  rw [hlv] at HX6 HN6
  go_loopw [20] (fun t wr => ∃ i : Nat, i ≤ ns.length ∧ t = .int .i64 (i : Int) ∧ Below w6.heap.size w6 wr) (fun t _ => ns.length - (intOf t).toNat)
  case atStart => exact ⟨0, Nat.zero_le _, rfl, Below.refl _ _⟩
  case round =>
    obtain ⟨i, hi, rfl, hbr⟩ := hrel
    have HBR := hide hbr
    have HXR := hide ((unhide HX6).below hbr (unhide HX6).lt)
    obtain ⟨c0, c1, c2, c3, c4, c5, f0, f1, f2, f3, f4, f5, lt⟩ := Bx6 (unhide HXR)
    clear hbr
    by_cases hil : i < ns.length
    · rcases unhide HNF with e | ⟨g, cur, rfl, hcur⟩
      · subst e; simp at hil
      obtain ⟨x, hx⟩ : ∃ x, ns[i]? = some x := ⟨_, List.getElem?_eq_getElem hil⟩
      have HG : Hid (∀ w', Below wr.heap.size wr w' → w'.cell? ⟨W.heap.size, 4, none⟩ = some (.slice (some ⟨g, 0, none⟩) ns.length nc') ∧ w'.setCell ⟨g, i, none⟩ (.string x) = w' ∧ w'.frozen? ⟨g, i, none⟩ = false ∧ w'.cell? ⟨g, i, none⟩ = some (.string x)) := fun w' hb => by
        have hb' : Below w6.heap.size w6 w' := (unhide HBR).trans (hb.mono (unhide HBR).size)
        have hh : w'.heap[g]? = some (.cells cur 9) := (hb'.block g (Array.getElem?_eq_some_iff.1 hcur).1).trans hcur
        have hxc : cur[i]? = some (.string x) := by
          obtain ⟨a, cap, e, _, _, h⟩ := unhide HN6
          simp only [Value.slice.injEq] at e
          obtain ⟨e, _, _⟩ := e
          subst e
          rcases h with h | ⟨b, o, cur', fr, e, hh', hc⟩
          · have : ns.length = 0 := by rw [← hlv, h]; rfl
            omega
          · cases e
            rw [hcur] at hh'
            cases hh'
            have := hc i (.string x) (by simp [sv, hx])
            simpa using this
        have hx' := (unhide HX6).below hb' (unhide HX6).lt
        exact ⟨hx'.cell 4 rfl, setCell_same hh hxc, by simp [World.frozen?, hh], by simp [World.cell?, hh, hxc]⟩
      have HXS := hide (hns x (List.mem_of_getElem? hx))
      obtain ⟨g4, g5, g6, g7⟩ := unhide HG wr (Below.refl _ _)
      have hgl : g < wr.heap.size := Nat.lt_of_lt_of_le (Array.getElem?_eq_some_iff.1 hcur).1 (unhide HBR).size
      clear g5 hcur
      go_wp2
      go_region_held3 (fun w' => w'.cell? ⟨W.heap.size, 4, none⟩ = some (.slice (some ⟨g, 0, none⟩) ns.length nc'))
        (with_reducible first
          | exact (unhide HG _ (Below.refl _ _)).1
          | exact (unhide HG _ (Below.refl _ _).drew).1
          | exact (unhide HG _ hb1).1
          | exact hst
          | assumption)
        ((go_at_call 63; refine (sclone x _ (unhide HXS)).mono ?_; rintro e w1 ⟨rfl, h1⟩; have hb1 : Below wr.heap.size wr w1 := (Below.refl _ wr).drew.trans h1; obtain ⟨d4, d5, d6, d7⟩ := unhide HG w1 hb1; have hst : (w1.setCell ⟨g, i, none⟩ (.string x)).cell? ⟨W.heap.size, 4, none⟩ = some (.slice (some ⟨g, 0, none⟩) ns.length nc') := (by rw [d5]; exact d4); have D5 := hide d5; clear h1 d5))
      all_goals (
        have hBw : Below w6.heap.size w6 (w1.setCell ⟨g, i, none⟩ (.string x)) := by rw [unhide D5]; exact (unhide HBR).trans (hb1.mono (unhide HBR).size)
        have HBW := hide hBw
        clear hBw
        go_wp2
        go_roundw
        case rel => exact ⟨i + 1, by omega, by go_num, unhide HBW⟩
        case measure => simp [intOf]; omega)
    · have hie : i = ns.length := by omega
      subst hie
      go_wp2_with (first
       | (go_at_call 66
          refine (clone76 _ ms _ (unhide HM _ ((unhide HB6).trans ((unhide HBR).mono (unhide HB6).size))) (unhide L3)).mono ?_
          rintro e w7 ⟨mv', rfl, ho7, hb7⟩
          have HX7 := hide ((unhide HXR).below hb7 (unhide HXR).lt)
          have HZ7 := hide (((unhide HZ6).below (unhide HBR) (unhide HZ6).lt).below hb7 (Nat.lt_of_lt_of_le (unhide HZ6).lt (unhide HBR).size))
          have HB7 := hide (((unhide HB6).trans ((unhide HBR).mono (unhide HB6).size)).trans (hb7.mono (Nat.le_trans (unhide HB6).size (unhide HBR).size)))
          have HP7 := hide (((unhide HP6).below (unhide HBR)).below hb7)
          have HN7 := hide (((unhide HN6).below (unhide HBR)).below hb7)
          have HM7 := hide (own_rowR ho7)
          clear c0 c1 c2 c3 c4 c5 f0 f1 f2 f3 f4 f5 lt hb7 ho7
          obtain ⟨ma', mc', rfl, -⟩ := unhide HM7
          have HXL : Hid (Bx (w7.setCell ⟨W.heap.size, 5, none⟩ (.slice ma' (bv ms).length mc')) W.heap.size #[.int .i64 k, .int .i64 n, .string s, .slice pa' (iv ps).length pc', .slice na' ns.length nc', .slice ma' (bv ms).length mc'] 36) := (unhide HX7).set _
          have HZL : Hid (Bx (w7.setCell ⟨W.heap.size, 5, none⟩ (.slice ma' (bv ms).length mc')) (W.heap.size + 1) #[.int .i64 0, .int .i64 0, .string ⟨#[]⟩, .slice none 0 0, .slice none 0 0, .slice none 0 0] 36) := (Below.heap_setCell _ _ _ _ (by simp)).trans (unhide HZ7)
          have c5 := (unhide HX7).cell 5 rfl
          have f5 := (unhide HX7).free 5
          have lt := (unhide HX7).lt)
       | (refine wpList_load_row rfl 36 _ rfl W.heap.size rfl 36 _ (0, 0) _ (unhide HXL) Tryz.underlying36 rfl (by kernel_rfl) ?_)
       | (refine wpList_store_row rfl 36 _ _ rfl (W.heap.size + 1) _ rfl rfl 36 _ (unhide HZL) info26 rfl (one6 _ _ _ _ _ _ _ _ _ _ _ _) ?_))
      have HE : Hid (Bx ((w7.setCell ⟨W.heap.size, 5, none⟩ (.slice ma' (bv ms).length mc')).setRow (W.heap.size + 1) #[.int .i64 k, .int .i64 n, .string s, .slice pa' (iv ps).length pc', .slice na' ns.length nc', .slice ma' (bv ms).length mc']) (W.heap.size + 1) #[.int .i64 k, .int .i64 n, .string s, .slice pa' (iv ps).length pc', .slice na' ns.length nc', .slice ma' (bv ms).length mc'] 36) := setRow_heap _ _ _ _ _ _ (unhide HZL)
      refine bodyPost_ret (results_cell_row rfl _ _ (W.heap.size + 1) 36 _ (0, 0) _ rfl (unhide HE) Tryz.underlying36 rfl info26) rfl ?_
      refine ⟨_, _, _, by unfold tyV; rfl, ((unhide HP7).set (unhide HX7) (by omega) _).row (unhide HZL) (by omega) _, ((unhide HN7).set (unhide HX7) (by omega) _).row (unhide HZL) (by omega) _, ((unhide HM7).set (unhide HX7) (by omega) _).row (unhide HZL) (by omega) _, below_row ((unhide HB7).setCell (Nat.le_refl _) _) (by omega) _⟩
end Go.Proofs.YticdaphajanbbaaGreatDoor
