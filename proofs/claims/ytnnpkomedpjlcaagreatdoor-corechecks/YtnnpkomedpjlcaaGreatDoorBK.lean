/- shucklaw3.back in general: a lent tree that is as it was. -/
import Derived.BigQuiet
import Derived.Deep.QuietTactic
import Derived.LoopN
import Derived.OwnWalk
import Derived.Test.YtnnpkomedpjlcaaGreatDoorM1
import Derived.Test.YtnnpkomedpjlcaaGreatDoorM3
import Derived.Test.YtnnpkomedpjlcaaGreatDoorM4
import Derived.Test.YtnnpkomedpjlcaaGreatDoorM6
namespace Go.Proofs.YtnnpkomedpjlcaaGreatDoor
set_option linter.unusedSimpArgs false
set_option linter.unusedVariables false
open Go.RowKit Go.Shelf

set_option maxRecDepth 100000 in
set_option maxHeartbeats 4000000 in
theorem ints_quiet (W : World) (M : Nat) (a1 a2 : Option Addr) (x : List Int) (c1 c2 : Nat) (h1 : KidsAt W M a1 x) (h2 : KidsAt W M a2 x) (hl1 : x.length ≤ 17592186044416) :
    Calls Tryz.prog 23 #[.slice a1 x.length c1, .slice a2 x.length c2] W fun e w' => e = .returned (.bool true) ∧ ∃ m, w' = W.drewN m := by
  have H1 := hide h1
  have H2 := hide h2
  clear h1 h2
  go_enter Tryz.func23, Tryz.ntmps23
  go_wp2
  go_loopw [5] (fun t wr => ∃ i m : Nat, i ≤ x.length ∧ t = .int .i64 (i : Int) ∧ wr = W.drewN m) (fun t _ => x.length - (intOf t).toNat)
  case atStart => exact ⟨0, 0, Nat.zero_le _, rfl, rfl⟩
  case round =>
    obtain ⟨i, m, hi, rfl, rfl⟩ := hrel
    by_cases hil : i < x.length
    · have hil' : (i : Int) < x.length := by omega
      have hk1 := unhide H1
      have hk2 := unhide H2
      rcases hk1 with hk1 | ⟨b1, o1, rfl, hb1, hk1⟩
      · subst hk1; simp at hil
      rcases hk2 with hk2 | ⟨b2, o2, rfl, hb2, hk2⟩
      · subst hk2; simp at hil
      have d1 := hk1 i hil
      have d2 := hk2 i hil
      clear hk1 hk2
      obtain ⟨k1, hk1⟩ : ∃ k, x.getD i 0 = k := ⟨_, rfl⟩
      rw [hk1] at d1 d2
      clear hk1
      have hkk : (k1 != k1) = false := by simp
      go_wp2
      go_quiet (fail)
      go_wp2
      exact ⟨⟨i + 1, _, by omega, by go_num, rfl⟩, by simp [intOf]; omega⟩
    · have hil' : ¬ (i : Int) < x.length := by omega
      go_wp2
      go_ret
      exact ⟨rfl, _, rfl⟩

/-- A row of kids with a mark, as kids that can be read, and the mark. -/
theorem KidS.kids {W : World} {B : Nat} {e : NE} (h : KidS W B e) : ∃ kb, e.a = some ⟨kb, 0, none⟩ ∧ kb < W.heap.size ∧ KidsAt W W.heap.size e.a e.x.kids ∧ W.cell? ⟨kb, e.x.kids.length, none⟩ = some (.int .i64 171) ∧ e.x.kids.length + 1 ≤ e.cap ∧ e.cap ≤ maxLen := by
  obtain ⟨kb, cur, ha, hb, hh, hj, hm, hc1, hc2⟩ := h
  have hlt := (Array.getElem?_eq_some_iff.1 hh).1
  refine ⟨kb, ha, hlt, .inr ⟨kb, 0, ha, hlt, fun j hjl => ?_⟩, ?_, hc1, hc2⟩
  · rw [Lib.cell_of_heap hh, Nat.zero_add, hj j hjl]
  · rw [Lib.cell_of_heap hh, hm]

set_option maxRecDepth 100000 in
set_option maxHeartbeats 4000000 in
theorem back_any (W : World) (M B g cap : Nat) (v : Value) (l : List Nd) (es : List NE) (hN : Nodes W M v l) (hM : M ≤ W.heap.size) (hes : es.map NE.x = l) (hown : W.ownsRow B 41 5 (.slice (some ⟨g, 0, none⟩) (l.length + 1) cap) (l.length + 1) (flatN es ++ cellN markN))
    (hks : ∀ e ∈ es, KidS W B e) (hl : l.length ≤ 100000) (hkl : ∀ m, m < l.length → (nd l m).kids.length ≤ 100000) :
    Calls Tryz.prog 10 #[.agg #[.slice (some ⟨g, 0, none⟩) l.length cap], .agg #[v]] W fun e w' => e = .returned (.bool true) ∧ Below W.heap.size W w' := by
  have HN := hide hN
  obtain ⟨a', cap', rfl, _, _⟩ := hN.len
  obtain ⟨W1, hW1⟩ : ∃ W1, (W.alloc (.cells #[.slice (some ⟨g, 0, none⟩) l.length cap] 24)).alloc (.cells #[.slice a' l.length cap'] 24) = W1 := ⟨_, rfl⟩
  have hz1 : W1.heap.size = W.heap.size + 1 + 1 := by rw [← hW1]; simp
  have hB1 : Below W.heap.size W W1 := by rw [← hW1]; exact ((Below.refl _ W).alloc (Nat.le_refl _) _).alloc (by simp) _
  have hcapl := own_cap hown
  have hgl : g < W.heap.size := (hown.lt g rfl).2
  have hell : es.length = l.length := by rw [← hes]; simp
  have hfl : (flatN es).length = l.length * 5 := by rw [flatN_len, hell]
  have HK : Hid (∀ w', Below (W.heap.size + 1 + 1) W1 w' → Below W.heap.size W w' ∧ w'.cell? ⟨W.heap.size, 0, none⟩ = some (.slice (some ⟨g, 0, none⟩) l.length cap) ∧ w'.cell? ⟨W.heap.size + 1, 0, none⟩ = some (.slice a' l.length cap') ∧ W.heap.size < w'.heap.size ∧ W.heap.size + 1 < w'.heap.size ∧ g < w'.heap.size) := fun w' h => by
    obtain ⟨c1, c2⟩ := two_boxes _ _ _ _ (by rw [hW1]; exact h)
    have hs := h.size
    exact ⟨hB1.trans (h.mono (by omega)), c1, c2, by omega, by omega, by omega⟩
  have HC : Hid (∀ w', Below W.heap.size W w' → w'.cell? ⟨g, l.length * 5, none⟩ = some (.int .i64 171) ∧ ∀ (i : Nat) (e : NE), es[i]? = some e → w'.cell? ⟨g, i * 5, none⟩ = some (.int .i64 e.x.kind) ∧ w'.cell? ⟨g, i * 5 + 1, none⟩ = some (.string e.x.text) ∧ w'.cell? ⟨g, i * 5 + 2, none⟩ = some (.int .i64 e.x.num) ∧ w'.cell? ⟨g, i * 5 + 3, none⟩ = some (.slice e.a e.x.kids.length e.cap) ∧ w'.cell? ⟨g, i * 5 + 4, none⟩ = some (.int .i64 e.x.at')) := fun w' h => by
    have hc : ∀ j, j < (l.length + 1) * 5 → w'.cell? ⟨g, j, none⟩ = (flatN es ++ cellN markN)[j]? := fun j hj => by
      rw [h.cell (p := ⟨g, j, none⟩) hgl]
      exact hown.cellAt j hj
    refine ⟨?_, fun i e he => ?_⟩
    · rw [hc _ (by omega), List.getElem?_append_right (by omega), hfl, Nat.sub_self]; rfl
    · have hil : i < l.length := by have := (List.getElem?_eq_some_iff.1 he).1; omega
      have hq : ∀ k, k < 5 → w'.cell? ⟨g, i * 5 + k, none⟩ = (cellN e)[k]? := fun k hk => by
        rw [hc _ (by omega), List.getElem?_append_left (by omega), flatN_get es i e he k hk]
      exact ⟨hq 0 (by omega), hq 1 (by omega), hq 2 (by omega), hq 3 (by omega), hq 4 (by omega)⟩
  have HKS := hide hks
  have HES := hide hes
  have HW1 := hide hW1
  have HKL := hide hkl
  have hb0 := unhide HK W1 (by rw [← hz1]; exact Below.refl _ _)
  obtain ⟨_, c1, c2, s1, s2, s3⟩ := hb0
  have m1 := (unhide HC W1 hB1).1
  have g1 : (((l.length : Nat) : Int) != ((l.length : Nat) : Int)) = false := by simp
  have hcp : (l.length : Int) + 1 ≤ (cap : Int) := by omega
  clear hN hW1 hes hks hown hkl hfl
  go_enter Tryz.func10, Tryz.ntmps10
  go_wp2
  rw [unhide HW1]
  go_quiet (fail)
  go_wp2
  clear c1 c2 s1 s2 s3 m1
  go_loopw [5] (fun t wr => ∃ i : Nat, i ≤ l.length ∧ t = .int .i64 (i : Int) ∧ Below (W.heap.size + 1 + 1) W1 wr) (fun t _ => l.length - (intOf t).toNat)
  case atStart => exact ⟨0, Nat.zero_le _, rfl, below_drewN (by rw [← hz1]; exact Below.refl _ _) _⟩
  case round =>
    obtain ⟨w0, hw0⟩ : ∃ w0, w0 = wr := ⟨_, rfl⟩
    subst hw0
    obtain ⟨i, hil, rfl, hBr⟩ := hrel
    obtain ⟨hB0, c1, c2, s1, s2, s3⟩ := unhide HK w0 hBr
    have HBR := hide hBr
    have HB0 := hide hB0
    clear hBr
    by_cases hlt : i < l.length
    · have hlt' : (i : Int) < l.length := by omega
      have hi0' : (0 : Int) ≤ (i : Int) := Int.natCast_nonneg _
      obtain ⟨⟨x, a0, cap0⟩, he0⟩ : ∃ e0, es[i]? = some e0 := ⟨_, List.getElem?_eq_getElem (by omega)⟩
      have hx : nd l i = x := by
        rw [← unhide HES]
        simp [nd, List.getD_eq_getElem?_getD, he0]
      obtain ⟨kb, ha0, hkb, hK0, mk, hkc1, hkc2⟩ := (unhide HKS _ (List.mem_of_getElem? he0)).kids
      obtain ⟨q0, q1, q2, q3, q4⟩ := (unhide HC w0 hB0).2 i _ he0
      obtain ⟨b', o', cap1', ka', kc', hv', _, _, hb', e0, e1, e2, e3, e4, _, _, hK'⟩ := ((unhide HN).keep hB0 hM).at hlt
      cases hv'
      have hkl := unhide HKL i hlt
      rw [hx] at e0 e1 e2 e3 e4 hK' hkl
      simp only at ha0 hK0 mk hkc1 hkc2 q0 q1 q2 q3 q4
      subst ha0
      obtain ⟨kl, hkl'⟩ : ∃ kl, x.kids.length = kl := ⟨_, rfl⟩
      obtain ⟨W2, hW2⟩ : ∃ W2, w0.alloc (.cells #[.int .i64 x.kind, .string x.text, .int .i64 x.num, .slice ka' kl kc', .int .i64 x.at'] 41) = W2 := ⟨_, rfl⟩
      have hB2 : Below w0.heap.size w0 W2 := by rw [← hW2]; exact (Below.refl _ w0).alloc (Nat.le_refl _) _
      have hz2 : W2.heap.size = w0.heap.size + 1 := by rw [← hW2]; simp
      have hz0 := hB0.size
      have HQ : Hid (∀ n, Calls Tryz.prog 23 #[.slice (some ⟨kb, 0, none⟩) kl cap0, .slice ka' kl kc'] (W2.drewN n) fun e w' => e = .returned (.bool true) ∧ ∃ m, w' = (W2.drewN n).drewN m) := fun n => by
        have hA : KidsAt (W2.drewN n) w0.heap.size (some ⟨kb, 0, none⟩) x.kids := (hK0.keep (hB0.trans (hB2.mono hz0)) (Nat.le_refl _)).mono hz0
        have hC : KidsAt (W2.drewN n) w0.heap.size ka' x.kids := (hK'.keep hB2 (by omega)).mono (by omega)
        have := ints_quiet (W2.drewN n) w0.heap.size (some ⟨kb, 0, none⟩) ka' x.kids cap0 kc' hA hC (by omega)
        rw [hkl'] at this
        exact this
      rw [hkl'] at q3 e3 mk hkc1
      have p1 := (hB2.cell (p := ⟨W.heap.size, 0, none⟩) s1).trans c1
      have p2 := (hB2.cell (p := ⟨W.heap.size + 1, 0, none⟩) s2).trans c2
      have p3 := (hB2.cell (p := ⟨g, i * 5, none⟩) s3).trans q0
      have p4 := (hB2.cell (p := ⟨g, i * 5 + 1, none⟩) s3).trans q1
      have p5 := (hB2.cell (p := ⟨g, i * 5 + 2, none⟩) s3).trans q2
      have p6 := (hB2.cell (p := ⟨g, i * 5 + 4, none⟩) s3).trans q4
      have p7 : W2.cell? ⟨kb, kl, none⟩ = some (.int .i64 171) := ((hB0.trans (hB2.mono hz0)).cell (p := ⟨kb, kl, none⟩) hkb).trans mk
      have hX2 : W2.heap[w0.heap.size]? = some (.cells #[.int .i64 x.kind, .string x.text, .int .i64 x.num, .slice ka' kl kc', .int .i64 x.at'] 41) := by rw [← hW2]; exact at_a1 w0 _
      obtain ⟨r0, r1, r2, r3, r4⟩ := cells5 hX2
      have t1 : W.heap.size < W2.heap.size := by omega
      have t2 : W.heap.size + 1 < W2.heap.size := by omega
      have t3 : g < W2.heap.size := by omega
      have t4 : w0.heap.size < W2.heap.size := by omega
      have t5 : kb < W2.heap.size := by omega
      have hbl' : b' < w0.heap.size := by omega
      have g1' : (x.kind != x.kind) = false := by simp
      have g2' : (x.text.toList != x.text.toList) = false := by simp
      have g3' : (x.num != x.num) = false := by simp
      have g4' : (x.at' != x.at') = false := by simp
      have hk1 : (kl : Int) + 1 ≤ (cap0 : Int) := by omega
      have HS20 : Hid (W.heap.size + 1 + 1 ≤ w0.heap.size) := (by omega : W.heap.size + 1 + 1 ≤ w0.heap.size)
      have HW2 := hide hW2
      have HB2 := hide hB2
      clear hB2 hB0 hW2 hz2 hX2 hK0 hK' q0 q1 q2 q4 mk
      go_wp2
      rw [unhide HW2]
      clear c1 c2 q3 e0 e1 e2 e3 e4 s1 s2 s3
      go_quiet ((go_at_call 23; exact Calls.quiet_of (unhide HQ _)))
      go_wp2
      exact ⟨⟨i + 1, by omega, by go_num, below_drewN ((unhide HBR).trans ((unhide HB2).mono (unhide HS20))) _⟩, by simp [intOf]; omega⟩
    · have hlt' : ¬ (i : Int) < l.length := by omega
      go_wp2
      go_ret
      exact ⟨rfl, hB0⟩
end Go.Proofs.YtnnpkomedpjlcaaGreatDoor
