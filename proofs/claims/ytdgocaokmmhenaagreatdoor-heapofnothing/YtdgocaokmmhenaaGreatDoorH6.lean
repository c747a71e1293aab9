/- Make. -/
import Derived.Deep.AppendLies
import Derived.Deep.RegionLaw
import Derived.Deep.RegionWith
import Derived.Laws.Append
import Derived.Test.YtdgocaokmmhenaaGreatDoorH5b
namespace Go.Proofs.YtdgocaokmmhenaaGreatDoor
set_option linter.unusedSimpArgs false
set_option linter.unusedVariables false
set_option maxRecDepth 100000
set_option maxHeartbeats 2000000
open Go.RowKit

variable {w W : World} {l : Ly} {hb : Nat} {H : PH}
theorem step_app {P : Program} (w : World) {ops : Array Oper} {o : Oper} {a : Act} {K : Act → World → Prop} {Q : Exit → Act → World → Prop} {E : Prop} (hgd : o.guard = none) (s x : Operand) (t : TypeId)
    (ho : o.op = .call { callee := .builtin .append, args := #[s, x], argTypes := #[t, t] })
    (base : Nat) (e : TypeId) (i : TypeInfo) (z : Value) (size bytes : Nat) (ht : P.underlying t = some (.slice e)) (hi : P.info? e = some i) (hz : i.zero = some z)
    (hsize : i.size = size) (hby : i.bytes = bytes) (hzs : z.cells.size = size) (hsz : 0 < size)
    (v : Value) (n : Nat) (xs : List Value) (hs : a.eval s = v) (hown : w.ownsRow base e size v n xs)
    (ad : Addr) (m c : Nat) (news : List Value) (hx : a.eval x = .slice (some ad) m c) (hl : news.length = m * size) (hnews : ∀ j u, news[j]? = some u → w.cell? (ad.add j) = some u) (h1 : ∀ u ∈ news, u.oneCell' = true)
    (hm : 0 < m) (h63 : n + m ≤ maxLen) (hbytes : (n + m) * bytes ≤ 140737488355328) (hbase : base ≤ w.heap.size) (H : Nat) (hH : w.heap.size = H)
    (h : ∀ g cap w', w'.ownsRow base e size (.slice (some ⟨g, 0, none⟩) (n + m) cap) (n + m) (xs ++ news) → w.grownBy w' v.ownBlock → (v.ownBlock = some g ∨ g = H) → g < w'.heap.size → K (a.put o.dst (.slice (some ⟨g, 0, none⟩) (n + m) cap)) w') :
    if Region.wanted o (yielded ops a.tmps) = true then Oper.wp P o a w K Q else E := by
  have hw : Region.wanted o (yielded ops a.tmps) = true := by simp [Region.wanted, hgd]
  rw [if_pos hw]
  obtain ⟨g, cap, w', hr, h2, h3, h4, h5⟩ := run_append_lies (P := P) w t o.type base e i z size bytes ht hi hz hsize hby hzs hsz v n xs hown ad m c news hl hnews h1 hm h63 hbytes hbase H hH
  unfold Oper.wp execOp
  simp only [ho, resolve, invoke, builtin, Sem.run_bind, Sem.run_pure, Result.andThen_ok, List.map_toArray, List.map_cons, List.map_nil, hs, hx, hr]
  exact h g cap w' h2 h3 h4 h5
theorem Below.up {A W w : World} (h : Below A.heap.size A W) (k : Below W.heap.size W w) : Below A.heap.size A w := h.trans (k.mono h.size)
theorem info51 : (Tryz.prog.info? 68).map (fun i => (i.zero, i.size, i.bytes)) = some (some .nilIface, 1, 16) := by kernel_rfl
/-- A cell is taken: what lies in the heap is what it was. -/
theorem HAt.take (h : HAt W l hb H) (hf : H.used < H.room) : HAt (W.setCell ⟨hb, 1, none⟩ (.int .i64 ((H.used : Int) + 1))).drew l hb ⟨H.room, H.used + 1, H.ths⟩ ∧ St l.L l.L W (W.setCell ⟨hb, 1, none⟩ (.int .i64 ((H.used : Int) + 1))).drew := by
  have hk : ∀ k, k ≠ hb → (W.setCell ⟨hb, 1, none⟩ (.int .i64 ((H.used : Int) + 1))).heap[k]? = W.heap[k]? := fun k hne => Below.heap_setCell _ _ _ _ hne
  have hsz : (W.setCell ⟨hb, 1, none⟩ (.int .i64 ((H.used : Int) + 1))).heap.size = W.heap.size := by simp [World.setCell]
  have hne : ∀ k, l.L k ≠ 1 → k ≠ hb := fun k hk e => hk (e ▸ h.lh)
  refine ⟨?_, ?_⟩
  · exact {
      box := by
        obtain ⟨sv, h1, h2, h3⟩ := h.box
        refine ⟨sv, ?_, row_keep h2 fun g hg => hk g (hne g (by rw [h3 g hg]; decide)), h3⟩
        have := h1.set (i := 1) (.int .i64 ((H.used : Int) + 1))
        have h4 : Bx (W.setCell ⟨hb, 1, none⟩ (.int .i64 ((H.used : Int) + 1))) hb #[.int .i64 H.room, .int .i64 ((H.used : Int) + 1), sv] 36 := by simpa using this
        exact h4
      lh := h.lh
      fresh := fun k hk' => h.fresh k (by rw [← hsz]; exact hk')
      th := fun i t hi => (h.th i t hi).keep rfl (fun _ _ => rfl) (fun k _ ho => hk k (hne k (by omega))) (fun _ _ => rfl)
      obj := h.obj
      room := h.room
      sum := Nat.le_succ_of_le h.sum
      used := hf }
  · exact ⟨rfl, rfl, rfl, Nat.le_of_eq hsz.symm, fun _ _ => rfl, fun k _ h0 => hk k (hne k (by omega))⟩
theorem Make_full (h : HAt W l hb H) (hf : H.used = H.room) (k n : Int) : Calls Tryz.prog 10 #[ptr hb, .int .i64 k, .int .i64 n] W fun e w' => e = .returned (.tuple #[.int .i64 (-1), .int .i64 3]) ∧ Below W.heap.size W w' := by
  have HT := hide (take_full h hf)
  unfold ptr at HT ⊢
  clear h hf
  go_enter Tryz.func10, Tryz.ntmps10
  go_wp2_with (first | (go_at_call 33; refine (unhide HT).mono ?_; rintro e' w1 ⟨rfl, hb1⟩; have HB1 := hide hb1; clear hb1))
  refine bodyPost_ret (by simp [results, Tryz.results10, go_sem]) rfl ⟨rfl, unhide HB1⟩
/-- Where a value may lie behind a thing. -/
theorem behP_ok (H : PH) (n : Int) : ∀ j, behP H n = some j → ∃ t : Th, H.ths[j]? = some t ∧ (t.kind = 1 ∨ t.kind = 4) := by
  intro j hj
  unfold behP at hj
  split at hj
  · rename_i hk
    obtain ⟨i, t, rfl, hi, hkt⟩ := kindP_some H n (by omega)
    rw [hkt] at hk
    cases hj
    exact ⟨t, by simpa using hi, by omega⟩
  · cases hj
def behK (k : Int) (H : PH) (n : Int) : Option Nat := if kdP k = 2 then none else behP H n
def PH.make (H : PH) (k n : Int) : PH := ⟨H.room, H.used + 1, H.ths ++ [⟨kdP k, behK k H n, [], []⟩]⟩
theorem make_end {w1 w3 : World} {a : Option Addr} {c : Nat} (h : HAt w1 l hb ⟨H.room, H.used + 1, H.ths⟩) (hs : St l.L l.L W w1) (hc : cellsH H.ths ≤ H.used) (k n : Int) (bp : Option Addr) (hbp : bpv l (behP ⟨H.room, H.used + 1, H.ths⟩ n) = .pointer bp)
    (hx : Bx w1 hb #[.int .i64 H.room, .int .i64 ((H.used + 1 : Nat) : Int), .slice a H.ths.length c] 36) (hr : w1.ownsRow 0 68 1 (.slice a H.ths.length c) H.ths.length (ifs l H.ths)) (hlr : ∀ g, (Value.slice a H.ths.length c).ownBlock = some g → l.L g = 2)
    (hb3 : Below w1.heap.size w1 w3) (g3 : Nat) (hg3 : w1.heap.size ≤ g3) (hx3 : Bx w3 g3 (newCells (kdP k) (.pointer bp)) (tyB (kdP k))) (o : Obj) (g4 cap4 : Nat) (w4 : World)
    (how : w4.ownsRow 0 68 1 (.slice (some ⟨g4, 0, none⟩) (H.ths.length + 1) cap4) (H.ths.length + 1) (ifs l H.ths ++ [.iface (tyP (kdP k)) (.pointer (some ⟨g3, 0, none⟩))]))
    (hgr : (w3.alloc o).grownBy w4 (Value.slice a H.ths.length c).ownBlock) (hat : (Value.slice a H.ths.length c).ownBlock = some g4 ∨ g4 = (w3.alloc o).heap.size) :
    HAt (w4.setCell ⟨hb, 2, none⟩ (.slice (some ⟨g4, 0, none⟩) (H.ths.length + 1) cap4)) (addLy l w1.heap.size H.ths.length g3 (.slice (some ⟨g4, 0, none⟩) (H.ths.length + 1) cap4)) hb (H.make k n) ∧ St l.L (addLy l w1.heap.size H.ths.length g3 (.slice (some ⟨g4, 0, none⟩) (H.ths.length + 1) cap4)).L W (w4.setCell ⟨hb, 2, none⟩ (.slice (some ⟨g4, 0, none⟩) (H.ths.length + 1) cap4)) := by
  have hbl := hx.lt
  have hnb : (Value.slice a H.ths.length c).ownBlock ≠ some hb := fun e => by have := hlr hb e; rw [h.lh] at this; omega
  have h4 : w3.heap.size + 1 ≤ w4.heap.size := by have := hgr.size; simpa using this
  have hs5 : ∀ v, (w4.setCell ⟨hb, 2, none⟩ v).heap.size = w4.heap.size := fun v => by simp [World.setCell]
  have hs3 := hb3.size
  have hol : ∀ g, (Value.slice a H.ths.length c).ownBlock = some g → g < w1.heap.size := fun g hg => row_lt hr hg
  have hne4 : g4 ≠ hb := by
    rcases hat with e | e
    · exact fun e' => hnb (e' ▸ e)
    · rw [e]; simp; omega
  have h34 : ∀ j, j < w3.heap.size → (Value.slice a H.ths.length c).ownBlock ≠ some j → w4.heap[j]? = w3.heap[j]? := fun j hj hn => (hgr.block j (by simp; omega) (fun e => hn e.symm)).trans (Below.heap_alloc w3 _ j hj)
  have h45 : ∀ v j, j ≠ hb → (w4.setCell ⟨hb, 2, none⟩ v).heap[j]? = w4.heap[j]? := fun v j hj => Below.heap_setCell _ _ _ _ hj
  have hx4 : Bx w4 hb #[.int .i64 H.room, .int .i64 ((H.used + 1 : Nat) : Int), .slice a H.ths.length c] 36 := ((h34 hb (by omega) hnb).trans (hb3.block hb hbl)).trans hx
  have hG := HAt.grown (w5 := w4.setCell ⟨hb, 2, none⟩ (.slice (some ⟨g4, 0, none⟩) (H.ths.length + 1) cap4)) (sv' := .slice (some ⟨g4, 0, none⟩) (H.ths.length + 1) cap4) h (by omega) (kdP k) (behK k H n) (kdP_range k)
    (fun j hj => by
      unfold behK at hj
      split at hj
      · cases hj
      · exact behP_ok H n j hj)
    (fun e => by simp [behK, e]) hlr (by rw [hs5]; omega) g3 hg3
    (fun j hj hne hno => (h45 _ j hne).trans ((h34 j (by omega) (fun e => hno e.symm)).trans (hb3.block j hj)))
    (by
      have e : newCells (kdP k) (bpv l (behK k H n)) = newCells (kdP k) (.pointer bp) := by
        by_cases e : kdP k = 2
        · simp [newCells, e]
        · have : bpv l (behP H n) = .pointer bp := hbp
          simp [newCells, e, behK, this]
      rw [e]
      exact ((h45 _ g3 (by omega)).trans (h34 g3 hx3.lt (fun e => by have := hol g3 e; omega))).trans hx3)
    (by
      have := hx4.set (i := 2) (.slice (some ⟨g4, 0, none⟩) (H.ths.length + 1) cap4)
      simpa using this)
    (row_keep how (fun g hg => by simp [Value.ownBlock] at hg; subst hg; exact h45 _ _ hne4))
    (fun g hg => by
      simp [Value.ownBlock] at hg
      subst hg
      rcases hat with e | e
      · exact .inl e
      · have := hx3.lt
        simp at e
        exact .inr ⟨by omega, by omega⟩)
  refine ⟨hG, hs.trans ⟨hgr.os.trans hb3.os, hgr.tape.trans hb3.tape, hgr.output.trans hb3.output, by rw [hs5]; omega, fun j hj => addLy_low _ _ _ _ _ hj, fun j hj h0 => (h45 _ j (fun e => by subst e; rw [h.lh] at h0; omega)).trans ((h34 j (by omega) (fun e => by have := hlr j e; omega)).trans (hb3.block j hj))⟩⟩
theorem Make_ok (h : HAt W l hb H) (hc : cellsH H.ths ≤ H.used) (hf : H.used < H.room) (k n : Int) : Calls Tryz.prog 10 #[ptr hb, .int .i64 k, .int .i64 n] W fun e w' => e = .returned (.tuple #[.int .i64 H.ths.length, .int .i64 0]) ∧ ∃ l', HAt w' l' hb (H.make k n) ∧ St l.L l'.L W w' := by
  have HT := hide (take_ok h hf)
  obtain ⟨ht1, hs1⟩ := h.take hf
  obtain ⟨w1, hw1⟩ : ∃ w1, (W.setCell ⟨hb, 1, none⟩ (.int .i64 ((H.used : Int) + 1))).drew = w1 := ⟨_, rfl⟩
  rw [hw1] at HT ht1 hs1
  have hlen := h.len
  obtain ⟨bp, hbp⟩ := bpv_form l (behP ⟨H.room, H.used + 1, H.ths⟩ n)
  have HBE : Hid (∀ w', Below w1.heap.size w1 w' → Calls Tryz.prog 35 #[.pointer (some ⟨hb, 0, none⟩), .int .i64 n] w' fun e w2 => e = .returned (.pointer bp) ∧ Below w'.heap.size w' w2) := fun w' hb' => by
    have := behind_any (ht1.below hb') n
    rw [hbp] at this
    exact this
  have HMA : Hid (∀ w', Calls Tryz.prog 34 #[.int .i64 k, .pointer bp] w' fun e w2 => ∃ g, e = .returned (.iface (tyP (kdP k)) (.pointer (some ⟨g, 0, none⟩))) ∧ Bx w2 g (newCells (kdP k) (.pointer bp)) (tyB (kdP k)) ∧ w'.heap.size ≤ g ∧ Below w'.heap.size w' w2) := fun w' => made_any k bp w'
  obtain ⟨sv, hbx, hrow, hlr⟩ := ht1.box
  have hrl := hrow.1
  obtain ⟨a, c, hsv⟩ : ∃ a c, sv = .slice a H.ths.length c := by
    rcases hrow.2 with ⟨h1, h2⟩ | ⟨g, cap, cur, h1, _⟩
    · exact ⟨none, 0, by rw [h1]; simp at h2; simp [h2]⟩
    · exact ⟨_, _, h1⟩
  subst hsv
  have m0 := hbx.cell 2 rfl
  have mf := hbx.free 2
  have hbl := hbx.lt
  have HR := hide hrow
  have HX := hide hbx
  have HBP := hide hbp
  have HLR := hide hlr
  have HT1 := hide ht1
  have HS1 := hide hs1
  have HC := hide hc
  have HNB : Hid ((Value.slice a H.ths.length c).ownBlock ≠ some hb) := fun e => by have := hlr hb e; rw [ht1.lh] at this; omega
  clear h hf ht1 hs1 hw1 hbp hbx hrow hlr hrl hc
  obtain ⟨i0, hi0, hz0, hz1, hz2⟩ := info_parts info51
  unfold ptr at HT ⊢
  go_enter Tryz.func10, Tryz.ntmps10
  go_wp2_with (first | (go_at_call 33; refine (unhide HT).mono ?_; rintro e' w1' ⟨rfl, hw⟩; have hw' := hw.symm; subst hw'))
  go_region_law (first
    | (go_simp; go_at_call 35; refine (unhide HBE w1.drew (Below.refl _ w1).drew).mono ?_; rintro e' w2 ⟨rfl, hb2⟩; have hb2' : Below w1.heap.size w1 w2 := (Below.refl _ w1).drew.trans hb2; have HB2 := hide hb2'; have m2 := (hb2'.cell (p := ⟨hb, 2, none⟩) hbl).trans m0; have f2 := (hb2'.frozen (p := ⟨hb, 2, none⟩) hbl).trans mf; clear hb2 hb2')
    | (go_simp; go_at_call 34; refine (unhide HMA _).mono ?_; rintro e' w3 ⟨g3, rfl, hx3, hg3, hb3⟩; have hg3' := Nat.le_trans (unhide HB2).size hg3; have hb3' := Below.up (unhide HB2) hb3; have HX3 := hide hx3; have HB3 := hide hb3'; have hl3 := Nat.lt_of_lt_of_le hbl hb3'.size; have m3 := (hb3'.cell (p := ⟨hb, 2, none⟩) hbl).trans m0; have f3 := (hb3'.frozen (p := ⟨hb, 2, none⟩) hbl).trans mf; clear hb3 hb3' hx3)
    | (refine step_app _ (by rfl) _ _ _ (by rfl) 0 68 i0 _ 1 16 Tryz.underlying34 hi0 hz0 hz1 hz2 rfl (by omega) _ H.ths.length (ifs l H.ths) (by rfl) ((row_keep (unhide HR) (fun g hg => (unhide HB3).block g (row_lt (unhide HR) hg))).alloc _) ⟨_, 0, none⟩ 1 1 [.iface (tyP (kdP k)) (.pointer (some ⟨g3, 0, none⟩))] (by rfl) (by rfl) (World.news_of_block (cs := #[.iface (tyP (kdP k)) (.pointer (some ⟨g3, 0, none⟩))]) (t := 68) (fr := (0, 0)) (al_at w3 _)) (by intro u hu; simp at hu; subst hu; rfl) (by omega) (by unfold maxLen; omega) (by omega) (by omega) _ rfl ?_
       intro g4 cap4 w4 hown4 hgrow4 hat4 hlt4
       have hM4 : w4.heap[hb]? = w3.heap[hb]? := (hgrow4.block hb (by simp; omega) (fun e => unhide HNB e.symm)).trans (Below.heap_alloc w3 _ hb hl3)
       have m4 := (World.cell?_of_block (w := w3) (a := ⟨hb, 2, none⟩) hM4).trans m3
       have f4 := (World.frozen?_of_block (w := w3) (a := ⟨hb, 2, none⟩) hM4).trans f3
       have HW4 := hide hown4
       have HG4 := hide hgrow4
       have HM4 := hide hM4
       have HA4 := hide hat4
       clear hown4 hgrow4 hM4 hat4))
  all_goals (
    go_wp2
    refine bodyPost_ret (by simp [results, Tryz.results10, go_sem]; rfl) rfl ?_
    exact ⟨rfl, _, make_end (unhide HT1) (unhide HS1) (unhide HC) k n bp (unhide HBP) (unhide HX) (unhide HR) (unhide HLR) (unhide HB3) g3 hg3' (unhide HX3) _ g4 cap4 w4 (unhide HW4) (unhide HG4) (unhide HA4)⟩)
end Go.Proofs.YtdgocaokmmhenaaGreatDoor
