/- lex.Scan: a copy in a box, and the function value over it, for whatever loop it serves. -/
import Derived.Test.YtpdkeggiokebmaaDoorXB
import Derived.Test.YtpdkeggiokebmaaDoorE1
import Derived.Test.YtpdkeggiokebmaaDoorF2
namespace Go.Proofs.YtpdkeggiokebmaaDoor
set_option linter.unusedSimpArgs false
set_option linter.unusedVariables false
open Go.RowKit Go.Shelf

/-- What Clone answers: a row of the same bytes, in a block of its own. -/
def Cloned (w : World) (len : Nat) (g : Nat → Int) (e : Ending) (w' : World) : Prop :=
  ∃ c a' cap', e = .returned (.slice a' len cap') ∧ Sl w' c (.slice a' len cap') len g ∧ w.heap.size ≤ c ∧ c < w'.heap.size ∧ Below w.heap.size w w' ∧ ∃ cur fr, w'.heap[c]? = some (.cells cur 5 fr)

set_option maxHeartbeats 2000000 in
set_option maxRecDepth 100000 in
theorem clone_some (ad : Addr) (len cap : Nat) (g : Nat → Int) (w : World) (hlen : len ≤ 4294967296) (hsrc : ∀ j, j < len → w.cell? (ad.add j) = some (.int .u8 (g j))) :
    Calls Tryd.prog 23 #[.slice (some ad) len cap] w (Cloned w len g) := by
  obtain ⟨i0, hi, hz0, hz1, hz2⟩ := info_parts infoByte
  have h0 := empty_owns w
  have hnl : (binOp .eql 22 (.slice (some ad) len cap) (.slice none 0 0)).run Tryd.prog w = .ok (.bool false) w := Lib.run_eql_slice_nil w 22 5 (some ad) len cap 0 0 Tryd.underlying22
  go_enter Tryd.func23, Tryd.ntmps23
  go_wp2_with (at_builtin; refine wpList_append_own _ rfl _ _ 22 rfl w.heap.size 5 i0 (.int .u8 0) 1 1 Tryd.underlying22 hi hz0 hz1 hz2 rfl (by decide) _ _ _ rfl h0 ad len cap (bcells g len) rfl ?c1 ?c2 ?c3 ?c4 ?c5 ?c6 ?_)
  case c1 => simp [bcells_length]
  case c2 =>
    intro j u hj
    have hj' : j < len := by have := (List.getElem?_eq_some_iff.1 hj).1; rw [bcells_length] at this; exact this
    rw [bcells_get hj'] at hj
    cases hj
    rw [World.cell?_alloc_lt _ _ _ (World.block_lt_of_cell? w _ (hsrc j hj'))]
    exact hsrc j hj'
  case c3 => intro u hu; obtain ⟨j, _, rfl⟩ := List.mem_map.1 hu; rfl
  case c4 => unfold maxLen; omega
  case c5 => omega
  case c6 => simp
  intro v1 w1 hown1 hg1 hne
  have hs1 : w.heap.size + 1 ≤ w1.heap.size := by have := hg1.size; simp at this; omega
  have hB1 : Below w.heap.size w w1 := ((Below.refl _ w).alloc (Nat.le_refl _) _).grown hg1 (by simp) (fun k e => by simp [Value.ownBlock] at e; omega)
  clear hnl h0
  rcases hown1.2 with ⟨hv, _⟩ | ⟨g1, cap1, cur, rfl, hgb, hgh, hc1, hc2, _, _⟩
  · simp [hv] at hne
  · have hcc := hide (hown1.cells (g := g1) rfl)
    clear hown1 hg1 hne
    go_wp2
    go_ret
    have hlt : g1 < w1.heap.size := (Array.getElem?_eq_some_iff.1 hgh).1
    refine ⟨g1, some ⟨g1, 0, none⟩, cap1, by simp, ?_, hgb, hlt, hB1, _, _, hgh⟩
    by_cases hz : len = 0
    · exact .inl ⟨_, cap1, by rw [hz], hz⟩
    · refine .inr ⟨0, cap1, rfl, by omega, by simpa using hc1, hc2, fun j hj => ?_⟩
      have := unhide hcc j _ (bcells_get hj)
      rw [Addr.add_lit] at this
      exact this

set_option maxHeartbeats 1000000 in
theorem clone_none (g : Nat → Int) (w : World) (hp : 0 < w.heap.size) : Calls Tryd.prog 23 #[.slice none 0 0] w fun e w' => e = .returned (.slice none 0 0) ∧ w' = w := by
  have hnl : (binOp .eql 22 (.slice none 0 0) (.slice none 0 0)).run Tryd.prog w = .ok (.bool true) w := Lib.run_eql_slice_nil w 22 5 none 0 0 0 0 Tryd.underlying22
  go_enter Tryd.func23, Tryd.ntmps23
  go_wp2
  go_ret
  exact ⟨rfl, rfl⟩


/-- lex.Scan of no more than MaxBytes bytes. -/
def ScanMade (w : World) (len : Nat) (g : Nat → Int) (e : Ending) (w' : World) : Prop :=
  ∃ Bk c a' cap', e = .returned (.func (.func 24) #[] #[.pointer (some ⟨Bk, 0, none⟩)]) ∧ Boxed w' Bk 22 (.slice a' len cap') ∧ Sl w' c (.slice a' len cap') len g ∧ w.heap.size ≤ Bk ∧ c < w'.heap.size ∧ w.heap.size ≤ c ∧ Below w.heap.size w w' ∧ ∃ cur fr, w'.heap[c]? = some (.cells cur 5 fr)

set_option maxHeartbeats 1000000 in
theorem scan_some (ad : Addr) (len cap : Nat) (g : Nat → Int) (w : World) (hlen : len ≤ 65536) (hsrc : ∀ j, j < len → w.cell? (ad.add j) = some (.int .u8 (g j))) :
    Calls Tryd.prog 15 #[.slice (some ad) len cap] w (ScanMade w len g) := by
  have H := hide (clone_some ad len cap g w (by omega) hsrc)
  have hl : ¬ (65536 : Int) < len := by omega
  have hlb : decide ((65536 : Int) < len) = false := by simpa using hl
  clear hsrc
  go_enter Tryd.func15, Tryd.ntmps15
  go_wp2_with (go_at_call 23; refine (unhide H).mono ?_; rintro e w1 ⟨c, a', cap', rfl, hS, hc1, hc2, hB, cur, fr, hcur⟩; have HS := hide hS; have HCU := hide hcur; clear hS hcur)
  go_ret
  refine ⟨w1.heap.size, c, a', cap', rfl, Boxed.new w1 22 _, (unhide HS).keep (fun k e => by subst e; exact Below.heap_alloc w1 _ k hc2), hB.size, by simp; omega, hc1, hB.alloc hB.size _, cur, fr, (Below.heap_alloc w1 _ c hc2).trans (unhide HCU)⟩

theorem enter34 : ∀ args w, (callFunc 24 args).run Tryd.prog w = .ok (.enter 24 args) w := enters_of Tryd.func24 (by kernel_rfl) rfl

attribute [local go_sem] Oper.semAt_some
set_option maxRecDepth 100000 in
set_option maxHeartbeats 2000000 in
theorem scan2_in (n : Nat) (hn : 2 ≤ n) (l Bk c : Nat) (a : Option Addr) (len cap : Nat) (g : Nat → Int) (hg : ∀ j, 0 ≤ g j ∧ g j ≤ 255) (hlen : len ≤ 4000) (W : World) (Rch : Nat → List Value → Prop) (hst : StepC W.heap.size c a len cap g (.slice none 0 0) Rch) (J Jx : List Value → World → Prop)
    (hJ : ∀ pre A C, J pre A → Fr (fun k => k = W.heap.size) A C → J pre C)
    (hY : ∀ pre kd S i i' A, J pre A → pre.length < len + 1 → (∃ cs : Array Value, A.heap[W.heap.size]? = some (.cells cs 49)) → YieldAt Fence.wide (n - 1 - 1) Tryd.prog l #[tokV kd S i i', .int .i64 0] A fun e A' =>
      (e = .returned (.bool true) ∧ J (pre ++ [tokV kd S i i']) A' ∧ A'.heap[W.heap.size]? = A.heap[W.heap.size]? ∧ A'.heap[c]? = A.heap[c]? ∧ A.heap.size ≤ A'.heap.size) ∨ (e = .returned (.bool false) ∧ Jx (pre ++ [tokV kd S i i']) A'))
    (h0 : J [] W) (hR : Rch 0 []) (hB : Boxed W Bk 22 (.slice a len cap)) (hS : Sl W c (.slice a len cap) len g) (hc : c < W.heap.size) :
    CallsIn Fence.wide n Tryd.prog 24 #[.func (.yield l) #[] #[], .pointer (some ⟨Bk, 0, none⟩)] W fun e W' => (∃ v, e = .returned v) ∧ ((∃ pre, Rch len pre ∧ J (pre ++ [tokV 10 ⟨#[]⟩ len len]) W') ∨ ∃ pre, Jx pre W') := by
  obtain ⟨W1, hW1⟩ : ∃ W1, W.alloc (.cells #[.slice a len cap, .int .i64 0, .slice none 0 0] 49) = W1 := ⟨_, rfl⟩
  have hF1 : Fr (fun k => k = W.heap.size) W W1 := by rw [← hW1]; exact (Fr.refl _ W).alloc _
  have hM1 : MAt W1 W.heap.size (.slice a len cap) ((0 : Nat) : Int) (.slice none 0 0) := by rw [← hW1]; exact World.alloc_heap_new W _
  have hS1 : Sl W1 c (.slice a len cap) len g := hS.keep (fun k e => by subst e; exact hF1.block k hc (by omega))
  have HC := hide (scan_in (n - 1) (by omega) l W.heap.size c a len cap g hg (.slice none 0 0) hlen (by omega) Rch hst J Jx hJ hY W1 (hJ _ _ _ h0 hF1) hR hM1 hS1 (by have := hF1.size; omega))
  have cb := hB.cell
  have HW1 := hide hW1
  clear hJ hY h0 hst hS hS1 hW1
  refine callsIn_of_wp Tryd.func24 rfl trivial ?_ rfl
  simp only [Tryd.ntmps24, List.size_toArray, List.length_cons, List.length_nil, Nat.reduceAdd, Nat.reduceSub, Array.replicate_succ, Array.replicate_zero, List.push_toArray, List.append_toArray, List.nil_append, List.cons_append]
  gi_wp2
  refine ⟨trivial, fun _ => by omega, ?_⟩
  rw [show W.alloc (.cells #[.slice a len cap, .int .i64 0, .slice none 0 0] 49) = W1 from unhide HW1]
  refine (unhide HC).mono ?_
  rintro x W2 ⟨⟨u, rfl⟩, hor⟩
  have HOR := hide hor
  clear hor
  gi_wp2
  go_end0
  exact ⟨⟨_, rfl⟩, unhide HOR⟩
end Go.Proofs.YtpdkeggiokebmaaDoor
