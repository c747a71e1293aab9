/- Types one by one, each once: what eachApart hands on where no type is a union. -/
import Derived.RangeFuncNested
import Derived.RangeFuncBound
import Derived.RangeFuncCalls
import Derived.RangeFuncLeaves
import Derived.Shelf.RegionOpen
import Derived.OwnWalkIn
import Derived.TacticsInMore
import Derived.LoopNIn
import Derived.LoopIn
import Derived.WalkSmall
import Derived.Maps.OwnIn
import Derived.Test.YticdaphajanbbaaGreatDoorXR
import Derived.Test.YticdaphajanbbaaGreatDoorKP
namespace Go.Proofs.YticdaphajanbbaaGreatDoor
set_option linter.unusedSimpArgs false
set_option linter.unusedVariables false
set_option maxRecDepth 100000
set_option maxHeartbeats 4000000
open Go.RowKit Go.Shelf

variable {P : Program} {lo M : Nat} {mo : Option Nat} {dv : Value} {L : List Kt} {W : World}
def addP (acc : List Int) (p : Int) : List Int := if acc.contains p then acc else acc ++ [p]
/-- Each once, in the order in which they come first. -/
def onceP (ids : List Int) : List Int := ids.foldl addP []
theorem once_step {ids : List Int} {i : Nat} {p : Int} (h : ids[i]? = some p) : onceP (ids.take (i + 1)) = addP (onceP (ids.take i)) p := by
  have : ids.take (i + 1) = ids.take i ++ [p] := by rw [List.take_add_one, h]; rfl
  simp [onceP, this, List.foldl_append]
theorem addP_pre (acc : List Int) (p : Int) : acc <+: addP acc p := by
  unfold addP; split
  · exact List.prefix_refl _
  · exact List.prefix_append _ _
theorem fold_pre : ∀ (l acc : List Int), acc <+: l.foldl addP acc
  | [], acc => List.prefix_refl _
  | p :: l, acc => (addP_pre acc p).trans (fold_pre l _)
theorem once_pre (ids : List Int) (i : Nat) : onceP (ids.take i) <+: onceP ids := by
  conv => rhs; rw [← List.take_append_drop i ids]
  unfold onceP
  rw [List.foldl_append]
  exact fold_pre _ _
theorem once_mem : ∀ (l acc : List Int) (x : Int), x ∈ l.foldl addP acc → x ∈ acc ∨ x ∈ l
  | [], acc, x, h => .inl h
  | p :: l, acc, x, h => by
    rcases once_mem l (addP acc p) x h with h | h
    · unfold addP at h
      split at h
      · exact .inl h
      · rcases List.mem_append.1 h with h | h
        · exact .inl h
        · exact .inr (by simp at h; simp [h])
    · exact .inr (by simp [h])
def keysL (l : List Int) : List Lit := l.map fun p => .int .i64 p
theorem keys_key (l : List Int) : ∀ x ∈ keysL l, WideAt.IsKeyLit x := fun x hx => by
  simp only [keysL, List.mem_map] at hx
  obtain ⟨p, _, rfl⟩ := hx
  trivial
theorem keys_has (l : List Int) (p : Int) : (keysL l).any (fun x => x.sameKey (.int .i64 p)) = l.contains p := by
  rw [Bool.eq_iff_iff]
  simp only [keysL, List.any_map, List.any_eq_true, Function.comp, Lit.sameKey, decide_eq_true_eq, true_and, List.contains_iff_mem]
  exact ⟨fun ⟨x, h1, h2⟩ => h2 ▸ h1, fun h => ⟨p, h, rfl⟩⟩
/-- A set of numbers in memory. -/
def SetAt (w : World) (s n : Nat) (l : List Int) : Prop := w.ownsMap Tryz.prog 3 (unitElem (H := Unit)) s n (Maps.setOf (.agg []) (keysL l))
theorem set_has (l : List Int) (p : Int) : Maps.has (Maps.setOf (.agg [] : DataW Unit) (keysL l)) (.int .i64 p) = l.contains p := by rw [Maps.has_setOf _ _ _ (keys_key l), keys_has]
theorem set_snoc (l : List Int) (p : Int) : Maps.setOf (.agg [] : DataW Unit) (keysL (l ++ [p])) = (Maps.setOf (.agg []) (keysL l)).put (.int .i64 p) (.agg []) := by
  have : keysL (l ++ [p]) = keysL l ++ [.int .i64 p] := by simp [keysL]
  rw [this, Maps.setOf_snoc]
theorem law3 : Maps.Keyed Tryz.prog 3 := Maps.int_keyed Tryz.underlying3
theorem zero167 (w : World) : (zeroValue 119).run Tryz.prog w = .ok (.agg #[]) w := by kernel_rfl
/-- Numbers of types, none of them a union's. -/
def Flat (L : List Kt) (ids : List Int) : Prop := ∀ p ∈ ids, IsX L p ∧ kindP L p ≠ 16
theorem isx_wf {p : Int} (h : IsX L p) (hl : L.length ≤ 1000000) : -1 ≤ p ∧ p ≤ 1000000 := by
  rcases h with rfl | h
  · omega
  · have := h.1; have := h.2; omega
theorem each_flat (n : Nat) (hn : 1 ≤ n) (lp s N : Nat) (ids : List Int) (W0 W : World) (J Jx : Nat → World → Prop) (pv : Value)
    (hA : AAt Tryz.prog lo M mo dv L W0) (hN : W0.heap.size = N) (hp : RowR 3 W0 pv (iv ids)) (hf : Flat L ids) (hl : ids.length ≤ 1000000000)
    (hW : Below N W0 W) (hNW : N ≤ W.heap.size) (hs : SetAt W s 0 []) (hsN : N ≤ s)
    (hJ : ∀ j A B, J j A → A.grownBy B (some s) → J j B)
    (hY : ∀ j A p, J j A → (onceP ids)[j]? = some p → W.heap.size ≤ A.heap.size → YieldAt Fence.wide (n - 1) Tryz.prog lp #[.int .i64 p] A fun e A' => Below N A A' ∧ A'.heap[s]? = A.heap[s]? ∧ ((e = .returned (.bool true) ∧ J (j + 1) A') ∨ (e = .returned (.bool false) ∧ Jx (j + 1) A')))
    (h0 : J 0 W) :
    CallsIn Fence.wide n Tryz.prog 101 #[.pointer (some ⟨M, 0, none⟩), pv, .map (some s), .func (.yield lp) #[] #[]] W fun e W' => (∃ b, e = .returned (.bool b)) ∧ (J (onceP ids).length W' ∨ ∃ j, j ≤ (onceP ids).length ∧ Jx j W') := by
  obtain ⟨pa, pc, rfl, q1, q2⟩ := hp.cap
  have HA : Hid (∀ w', Below N W0 w' → AAt Tryz.prog lo M mo dv L w') := fun w' hb => hA.below (by rw [hN]; exact hb)
  have HP : Hid (∀ w', Below N W0 w' → RowR 3 w' (.slice pa (iv ids).length pc) (iv ids)) := fun w' hb => hp.below (by rw [hN]; exact hb)
  have HF := hide hf
  have HJ := hide hJ
  have HY := hide hY
  have H0 := hide h0
  have HS := hide hs
  have HW := hide hW
  have hLl := hA.len
  clear hA hp hf hJ hY h0 hs hW hN
  rw [iv_len] at *
  refine callsIn_of_wp Tryz.func101 rfl trivial ?_ rfl
  simp only [Tryz.ntmps101, List.size_toArray, List.length_cons, List.length_nil, Nat.reduceAdd, Nat.reduceSub, Array.replicate_succ, Array.replicate_zero, List.push_toArray, List.append_toArray, List.nil_append, List.cons_append]
  gi_wp2
  gi_loopw [16] (fun t wr => ∃ i : Nat, i ≤ ids.length ∧ t = .int .i64 (i : Int) ∧ SetAt wr s i (onceP (ids.take i)) ∧ J (onceP (ids.take i)).length wr ∧ Below N W0 wr ∧ W.heap.size ≤ wr.heap.size) (fun t _ => ids.length - (intOf t).toNat)
  case atStart => exact ⟨0, Nat.zero_le _, rfl, unhide HS, unhide H0, unhide HW, Nat.le_refl _⟩
  case round =>
    obtain ⟨i, hil, rfl, hset, hj, hb, hsz⟩ := hrel
    have HSET := hide hset
    have HJI := hide hj
    have HB := hide hb
    clear hset hj hb
    obtain ⟨w0, hw0⟩ : ∃ w0, w0 = wr := ⟨_, rfl⟩
    subst hw0
    by_cases hlt : i < ids.length
    · obtain ⟨p, hpi⟩ : ∃ p, ids[i]? = some p := ⟨_, List.getElem?_eq_getElem hlt⟩
      have HP' := unhide HP w0 (unhide HB)
      rw [← iv_len] at HP'
      obtain ⟨b, o, rfl, cp, hbl⟩ := HP'.int hpi
      obtain ⟨hix, hk16⟩ := unhide HF p (List.mem_of_getElem? hpi)
      have hpw := isx_wf hix hLl
      have hst := once_step hpi
      have hwf : (Lit.int .i64 p).wf = true := WalkArith.wf_i64 (by omega)
      have HKEY := hide (Maps.keyOf_int_mk Tryz.underlying3 hwf)
      have HIX := hide hix
      have HPI := hide hpi
      clear HP' hpi hix hwf
      cases hc : (onceP (ids.take i)).contains p with
      | true =>
        have hac : onceP (ids.take (i + 1)) = onceP (ids.take i) := by rw [hst]; unfold addP; rw [if_pos hc]
        have hhas : Maps.has (Maps.setOf (.agg [] : DataW Unit) (keysL (onceP (ids.take i)))) (.int .i64 p) = true := by rw [set_has]; exact hc
        have HAC := hide hac
        clear hac hst hc
        gi_wp2_with (first
          | (gi_at_lookup
             refine wpListIn_lookup_own_unit _ rfl _ _ 118 rfl 3 119 law3 Tryz.underlying118 (zero167 _) s i _ rfl (unhide HSET) _ _ rfl (unhide HKEY) ?_))
        refine ⟨⟨i + 1, by omega, by go_num, ?_, ?_, (unhide HB).trans ((Below.refl N w0).alloc (Nat.le_trans hNW hsz) _), Nat.le_trans hsz (by simp)⟩, by simp [intOf]; omega⟩
        · rw [unhide HAC]; exact ((unhide HSET).alloc _).mono (by omega)
        · rw [unhide HAC]; exact unhide HJ _ _ _ (unhide HJI) (World.grownBy_alloc _ _ _)
      | false =>
        have hac : onceP (ids.take (i + 1)) = onceP (ids.take i) ++ [p] := by rw [hst]; unfold addP; rw [hc]; rfl
        have hhas : Maps.has (Maps.setOf (.agg [] : DataW Unit) (keysL (onceP (ids.take i)))) (.int .i64 p) = false := by rw [set_has]; exact hc
        have hget : (onceP ids)[(onceP (ids.take i)).length]? = some p := by
          have h1 := once_pre ids (i + 1)
          rw [hac] at h1
          obtain ⟨t, ht⟩ := h1
          rw [← ht]
          simp
        have hlen1 : (onceP (ids.take (i + 1))).length = (onceP (ids.take i)).length + 1 := by rw [hac]; simp
        have hk16' : (kindP L p == 16) = false := by simpa using hk16
        have hil9 : i < maxLen := by unfold maxLen; omega
        have HAC := hide hac
        have HGET := hide hget
        have HL1 := hide hlen1
        clear hac hst hc hget hlen1 hk16
        gi_wp2_with (first
          | (gi_at_lookup
             refine wpListIn_lookup_own_unit _ rfl _ _ 118 rfl 3 119 law3 Tryz.underlying118 (zero167 _) s i _ rfl (unhide HSET) _ _ rfl (unhide HKEY) ?_)
          | (gi_at_mapUpdate
             refine wpListIn_mapUpdate_in _ rfl _ _ _ 118 rfl 3 119 law3 Tryz.underlying118 (unitElem (H := Unit)) s i _ rfl ((unhide HSET).alloc _) hil9 _ _ _ rfl rfl (unhide HKEY) _ [] unitElem_mk ?_
             intro w2 hown2 hturn2
             rw [← set_snoc, ← unhide HAC] at hown2
             have hg2 : w0.grownBy w2 (some s) := (World.grownBy_alloc w0 _ _).trans hturn2.grown
             have HS2 : Hid (SetAt w2 s (i + 1) (onceP (ids.take (i + 1)))) := hown2
             have HB2 : Hid (Below N W0 w2) := (unhide HB).trans ⟨hg2.os, hg2.tape, hg2.output, hg2.size, fun k hk => hg2.block k (by omega) (fun e => by cases e; omega)⟩
             have HJ2 := hide (unhide HJ _ _ _ (unhide HJI) hg2)
             have hsz2 := Nat.le_trans hsz hg2.size
             clear hown2 hturn2 hg2)
          | (refine ⟨trivial, ?_⟩
             gi_at_call 74
             refine (callsIn_wide.2 (kind_any (unhide HA _ (unhide HB2)) p (unhide HIX))).mono ?_
             rintro e w3 ⟨rfl, rfl⟩
             obtain ⟨fn, tm, asg, bd, hy, hRd⟩ := unhide HY _ _ _ (unhide HJ2) (unhide HGET) hsz2
             have HRD := hide hRd
             clear hRd))
        refine (unhide HRD).mono ?_
        rintro x W6 ⟨hb6, hs6, (⟨rfl, hJ6⟩ | ⟨rfl, hJx6⟩)⟩
        · have HI : Hid (SetAt W6 s (i + 1) (onceP (ids.take (i + 1))) ∧ J (onceP (ids.take (i + 1))).length W6 ∧ Below N W0 W6 ∧ W.heap.size ≤ W6.heap.size) := ⟨map_keep (unhide HS2) hs6, by rw [unhide HL1]; exact hJ6, (unhide HB2).trans hb6, Nat.le_trans hsz2 hb6.size⟩
          clear hb6 hs6 hJ6 HRD hy
          gi_wp2
          obtain ⟨z1, z2, z3, z4⟩ := unhide HI
          exact ⟨⟨i + 1, by omega, by go_num, z1, z2, z3, z4⟩, by simp [intOf]; omega⟩
        · have HX := hide hJx6
          clear hb6 hs6 hJx6 HRD hy
          gi_wp2
          refine bodyPost_ret (v := .bool false) ?_ rfl ⟨⟨false, rfl⟩, .inr ⟨_, ?_, unhide HX⟩⟩
          · simp [results, Tryz.results101, go_sem]
          · exact (List.getElem?_eq_some_iff.1 (unhide HGET)).1
    · have hie : i = ids.length := by omega
      subst hie
      rw [List.take_length] at HJI
      gi_wp2
      refine bodyPost_ret (v := .bool true) ?_ rfl ⟨⟨true, rfl⟩, .inl (unhide HJI)⟩
      simp [results, Tryz.results101, go_sem]
end Go.Proofs.YticdaphajanbbaaGreatDoor
