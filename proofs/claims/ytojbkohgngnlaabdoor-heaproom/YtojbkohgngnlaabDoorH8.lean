/- A value more in an array: lay. -/
import Derived.Test.YtojbkohgngnlaabDoorH7
namespace Go.Proofs.YtojbkohgngnlaabDoor
set_option linter.unusedSimpArgs false
set_option linter.unusedVariables false
set_option maxRecDepth 100000
set_option maxHeartbeats 2000000
open Go.RowKit Go.Shelf

variable {w W : World} {l : Ly} {hb : Nat} {H : PH}
theorem cells_set : ∀ (ths : List Th) (i : Nat) (t t' : Th), ths[i]? = some t → cellsH (ths.set i t') + cellsT t = cellsH ths + cellsT t'
  | [], i, t, t', h => by simp at h
  | u :: ths, 0, t, t', h => by simp at h; subst h; simp [cellsH]; omega
  | u :: ths, i + 1, t, t', h => by
    have := cells_set ths i t t' (by simpa using h)
    simp [cellsH] at this ⊢
    omega
theorem ifs_set (l : Ly) (ths : List Th) (i : Nat) (t t' : Th) (hi : ths[i]? = some t) (hk : t'.kind = t.kind) : ifs l (ths.set i t') = ifs l ths := by
  apply List.ext_getElem?
  intro j
  rw [ifs_get, ifs_get]
  by_cases e : i = j
  · subst e
    have hl := (List.getElem?_eq_some_iff.1 hi).1
    rw [List.getElem?_set_self hl, hi]
    simp [ifv, hk]
  · rw [List.getElem?_set_ne e]
/-- One thing of the heap has turned. -/
theorem HAt.upd {w1 w5 : World} {l' : Ly} {r u : Nat} {ths : List Th} (h : HAt w1 l hb ⟨r, u, ths⟩) {i : Nat} {t t' : Th} (hi : ths[i]? = some t) (hk : t'.kind = t.kind) (hbe : t'.beh = t.beh) (hbx : l'.bx = l.bx) (hlow : ∀ k, k < w1.heap.size → l'.L k = l.L k) (hfr : ∀ k, w5.heap.size ≤ k → l'.L k = 0)
    (hx : ∀ k, k < w1.heap.size → l.L k ≠ 3 * i + 3 → l.L k ≠ 3 * i + 4 → l.L k ≠ 3 * i + 5 → w5.heap[k]? = w1.heap[k]?) (ht : ThAt w5 l' i t') (hc : cellsH (ths.set i t') ≤ u) : HAt w5 l' hb ⟨r, u, ths.set i t'⟩ := by
  have hlt := h.lt
  have hlh := h.lh
  have hil := (List.getElem?_eq_some_iff.1 hi).1
  have e1 : ifs l' (ths.set i t') = ifs l ths := by
    rw [ifs_set l' ths i t t' hi hk]
    unfold ifs
    congr 1
    funext j v
    simp [ifv, hbx]
  obtain ⟨sv, b1, b2, b3⟩ := h.box
  refine { box := ⟨sv, (hx hb hlt (by omega) (by omega) (by omega)).trans b1, ?_, fun g hg => (hlow g (row_lt b2 hg)).trans (b3 g hg)⟩, lh := (hlow hb hlt).trans hlh, fresh := hfr, th := fun j v hj => ?_, obj := fun j v q hj hq => ?_, room := h.room, sum := hc, used := h.used }
  · rw [e1]
    have := row_keep b2 (w' := w5) fun g hg => hx g (row_lt b2 hg) (by rw [b3 g hg]; omega) (by rw [b3 g hg]; omega) (by rw [b3 g hg]; omega)
    simpa using this
  · simp only at hj
    by_cases e : i = j
    · subst e
      rw [List.getElem?_set_self hil] at hj
      cases hj
      exact ht
    · rw [List.getElem?_set_ne e] at hj
      exact (h.th j v hj).keep (by rw [hbx]) (fun _ _ => by rw [hbx]) (fun k hk' ho => hx k hk' (by omega) (by omega) (by omega)) hlow
  · have key : ∀ q, (∃ v : Th, ths[q]? = some v ∧ (v.kind = 1 ∨ v.kind = 4)) → ∃ v : Th, (ths.set i t')[q]? = some v ∧ (v.kind = 1 ∨ v.kind = 4) := fun q hex => by
      obtain ⟨v, hv, hk'⟩ := hex
      by_cases e : i = q
      · subst e
        rw [hi] at hv
        cases hv
        exact ⟨t', List.getElem?_set_self hil, by rw [hk]; exact hk'⟩
      · exact ⟨v, by rw [List.getElem?_set_ne e]; exact hv, hk'⟩
    simp only at hj
    by_cases e : i = j
    · subst e
      rw [List.getElem?_set_self hil] at hj
      cases hj
      exact key q (h.obj i t q hi (by rw [← hbe]; exact hq))
    · rw [List.getElem?_set_ne e] at hj
      exact key q (h.obj j v q hj hq)
def setL (l : Ly) (N : Nat) (f : Nat → Nat) : Ly := ⟨fun k => if k < N then l.L k else f k, l.bx⟩
theorem setL_low (l : Ly) (N : Nat) (f : Nat → Nat) {k : Nat} (h : k < N) : (setL l N f).L k = l.L k := by simp [setL, h]
theorem info32v : (Tryd.prog.info? 35).map (fun i => (i.zero, i.size, i.bytes)) = some (some (.agg (Vc 0 0 ⟨#[]⟩)), 3, 32) := by kernel_rfl
def PH.lay (H : PH) (i : Nat) (t : Th) (v : PV) : PH := ⟨H.room, H.used + 1, H.ths.set i ⟨t.kind, t.beh, t.slots, t.vals ++ [stl H v]⟩⟩
theorem stl_used (H : PH) (u : Nat) (v : PV) : stl ⟨H.room, u, H.ths⟩ v = stl H v := rfl
theorem stl_size (H : PH) (v : PV) : (stl H v).t.size ≤ v.t.size := by
  unfold stl
  split; exact Nat.zero_le _
  split; exact Nat.zero_le _
  split; exact Nat.zero_le _
  split; exact Nat.le_refl _
  split <;> exact Nat.zero_le _
theorem lay_end {w1 w3 : World} {a : Option Addr} {c : Nat} (h : HAt w1 l hb ⟨H.room, H.used + 1, H.ths⟩) (hs : St l.L l.L W w1) (hc : cellsH H.ths ≤ H.used) (i : Nat) (t : Th) (hi : H.ths[i]? = some t) (hk : t.kind = 2) (v : PV) (har : ArAt w1 l i t (.slice a t.vals.length c))
    (hb3 : Below w1.heap.size w1 w3) (o : Obj) (g4 cap4 : Nat) (w4 : World)
    (how : w4.ownsRow 0 35 3 (.slice (some ⟨g4, 0, none⟩) (t.vals.length + 1) cap4) (t.vals.length + 1) (t.vals.flatMap PV.cells ++ (stl H v).cells))
    (hgr : (w3.alloc o).grownBy w4 (Value.slice a t.vals.length c).ownBlock) (hat : (Value.slice a t.vals.length c).ownBlock = some g4 ∨ g4 = (w3.alloc o).heap.size) (hg4 : g4 < w4.heap.size) :
    HAt (w4.setCell ⟨l.bx i, 0, none⟩ (.slice (some ⟨g4, 0, none⟩) (t.vals.length + 1) cap4)) (setL l w1.heap.size fun k => if k = g4 then 3 * i + 5 else 0) hb (H.lay i t v) ∧ St l.L (setL l w1.heap.size fun k => if k = g4 then 3 * i + 5 else 0).L W (w4.setCell ⟨l.bx i, 0, none⟩ (.slice (some ⟨g4, 0, none⟩) (t.vals.length + 1) cap4)) := by
  have hth := h.th i t hi
  obtain ⟨hsl, hbe, _⟩ := hth.arr hk
  have hlb := hth.lb
  have hbl := har.box.lt
  have hnb : (Value.slice a t.vals.length c).ownBlock ≠ some (l.bx i) := fun e => by have := har.lr _ e; omega
  have h4 : w3.heap.size + 1 ≤ w4.heap.size := by have := hgr.size; simpa using this
  have hs5 : ∀ v, (w4.setCell ⟨l.bx i, 0, none⟩ v).heap.size = w4.heap.size := fun v => by simp [World.setCell]
  have hs3 := hb3.size
  have hol : ∀ g, (Value.slice a t.vals.length c).ownBlock = some g → g < w1.heap.size := fun g hg => row_lt har.row hg
  have hne4 : g4 ≠ l.bx i := by
    rcases hat with e | e
    · exact fun e' => hnb (e' ▸ e)
    · rw [e]; simp; omega
  have h34 : ∀ j, j < w3.heap.size → (Value.slice a t.vals.length c).ownBlock ≠ some j → w4.heap[j]? = w3.heap[j]? := fun j hj hn => (hgr.block j (by simp; omega) (fun e => hn e.symm)).trans (Below.heap_alloc w3 _ j hj)
  have h45 : ∀ v j, j ≠ l.bx i → (w4.setCell ⟨l.bx i, 0, none⟩ v).heap[j]? = w4.heap[j]? := fun v j hj => Below.heap_setCell _ _ _ _ hj
  have hx4 : Bx w4 (l.bx i) #[.slice a t.vals.length c] 69 := ((h34 _ (by omega) hnb).trans (hb3.block _ hbl)).trans har.box
  have hlow : ∀ k, k < w1.heap.size → (setL l w1.heap.size fun k => if k = g4 then 3 * i + 5 else 0).L k = l.L k := fun k hk' => setL_low _ _ _ hk'
  have hL4 : (setL l w1.heap.size fun k => if k = g4 then 3 * i + 5 else 0).L g4 = 3 * i + 5 := by
    rcases hat with e | e
    · rw [hlow g4 (hol g4 e)]; exact har.lr g4 e
    · simp at e
      simp [setL]; omega
  have hblk : ∀ v j, j < w1.heap.size → l.L j ≠ 3 * i + 3 → l.L j ≠ 3 * i + 5 → (w4.setCell ⟨l.bx i, 0, none⟩ v).heap[j]? = w1.heap[j]? := fun v j hj h1 h2 => (h45 _ j (fun e => h1 (by rw [e]; exact hlb))).trans ((h34 j (by omega) (fun e => h2 (har.lr j e))).trans (hb3.block j hj))
  refine ⟨HAt.upd h hi (t' := ⟨t.kind, t.beh, t.slots, t.vals ++ [stl H v]⟩) rfl rfl rfl hlow ?_ (fun k hk' h1 _ h3 => hblk _ k hk' h1 h3) ?_ ?_, hs.trans ⟨hgr.os.trans hb3.os, hgr.tape.trans hb3.tape, hgr.output.trans hb3.output, by rw [hs5]; omega, hlow, fun j hj h0 => hblk _ j hj (by omega) (by omega)⟩⟩
  · intro k hk'
    rw [hs5] at hk'
    have h1 : ¬ k < w1.heap.size := by omega
    have h2 : k ≠ g4 := by omega
    simp [setL, h1, h2]
  · refine { lb := (hlow _ hbl).trans hlb, kd := hth.kd, arr := fun _ => ⟨hsl, hbe, .slice (some ⟨g4, 0, none⟩) (t.vals.length + 1) cap4, ?_⟩, obj := fun e => absurd hk e, beh := hth.beh }
    refine { box := ?_, row := ?_, lr := fun g hg => ?_ }
    · have := hx4.set (i := 0) (.slice (some ⟨g4, 0, none⟩) (t.vals.length + 1) cap4)
      simpa [setL] using this
    · have := row_keep how (w' := w4.setCell ⟨l.bx i, 0, none⟩ (.slice (some ⟨g4, 0, none⟩) (t.vals.length + 1) cap4)) (fun g hg => by simp [Value.ownBlock] at hg; subst hg; exact h45 _ _ hne4)
      simpa using this
    · simp [Value.ownBlock] at hg
      subst hg
      exact hL4
  · have := cells_set H.ths i t ⟨t.kind, t.beh, t.slots, t.vals ++ [stl H v]⟩ hi
    have e1 : cellsT ⟨t.kind, t.beh, t.slots, t.vals ++ [stl H v]⟩ = cellsT t + 1 := by simp [cellsT]; omega
    omega
end Go.Proofs.YtojbkohgngnlaabDoor
