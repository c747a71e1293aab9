/- tree.Walk's function value under a plain function; Depth of what is no tree; the law's two function values. -/
import Derived.LoopIn
import Derived.LoopN
import Derived.LoopNIn
import Derived.OwnWalk
import Derived.OwnWalkIn
import Derived.RangeFuncBound
import Derived.RangeFuncCalls
import Derived.RangeFuncLeaves
import Derived.RangeFuncNested
import Derived.Shelf.RegionOpen
import Derived.TacticsInMore
import Derived.WalkSmall
import Derived.Test.YtoffpbaddehncaaGreatDoorTP
import Derived.Test.YtoffpbaddehncaaGreatDoorTQ
/- tree.Walk's function value under a plain function. -/
namespace Go.Proofs.YtoffpbaddehncaaGreatDoor
set_option linter.unusedSimpArgs false
set_option linter.unusedVariables false
open Go.RowKit Go.Shelf

set_option maxRecDepth 100000 in
set_option maxHeartbeats 4000000 in
theorem walk2_fn (f : Nat) (ey : ∀ args w, (callFunc f args).run Tryz.prog w = .ok (.enter f args) w) (caps : Array Value) (Bx c : Nat) (l : List Nd) (hl : ∀ j, j < l.length → (nd l j).kids.length ≤ 17592186044416) (hlen : l.length ≤ 2199023255552) (W : World) (J Jx : Nat → World → Prop)
    (hbx : Boxed W Bx 27 (.slice (some ⟨c, 0, none⟩) l.length l.length)) (hrow : W.ownsRow 0 3 1 (.slice (some ⟨c, 0, none⟩) l.length l.length) l.length (mixF (cntV l) l.length l.length))
    (hJ : ∀ i A B, J i A → Below W.heap.size A B → J i B)
    (hY : ∀ i A, J i A → i < l.length → W.heap.size ≤ A.heap.size → Calls Tryz.prog f (#[.int .i64 (i : Int), .int .i64 (depAt l i : Int)] ++ caps) A fun e A' =>
      (∀ k, (W.heap.size ≤ k ∧ k < A.heap.size) ∨ k = Bx ∨ k = c → A'.heap[k]? = A.heap[k]?) ∧ A.heap.size ≤ A'.heap.size ∧ ((e = .returned (.bool true) ∧ J (i + 1) A') ∨ (e = .returned (.bool false) ∧ Jx (i + 1) A')))
    (h0 : J 0 W) :
    Calls Tryz.prog 35 #[.func (.func f) #[] caps, .pointer (some ⟨Bx, 0, none⟩)] W fun e W' => (∃ v, e = .returned v) ∧ (J l.length W' ∨ ∃ i, i ≤ l.length ∧ Jx i W') := by
  obtain ⟨j0, hj, hy0, hy1, hy2⟩ := info_parts infoInt
  have HJ := hide hJ
  have HY := hide hY
  have H0 := hide h0
  have HL := hide hl
  have HROW := hide hrow
  have HBX := hide hbx
  have cb := hbx.cell
  have hbl := hbx.lt
  clear hJ hY h0 hl hrow hbx
  go_enter Tryz.func35, Tryz.ntmps35
  go_wp2
  go_loopw [3, 8] (fun t3 t8 wr => ∃ i : Nat, i ≤ l.length ∧ t8 = .int .i64 (i : Int) ∧ wr.ownsRow W.heap.size 3 1 t3 (stAt l i).length (stC (stAt l i)) ∧ J i wr ∧ wr.heap[Bx]? = W.heap[Bx]? ∧ wr.heap[c]? = W.heap[c]? ∧ W.heap.size ≤ wr.heap.size) (fun _ t8 _ => l.length - (intOf t8).toNat)
  case atStart => exact ⟨0, Nat.zero_le _, rfl, World.ownsRow_nil _ _ _ _, unhide H0, rfl, rfl, Nat.le_refl _⟩
  case round =>
    obtain ⟨i, hil, rfl, hown, hj1, hbb, hcc, hsz⟩ := hrel
    have hcl : c < W.heap.size := ((unhide HROW).lt c rfl).2
    have hcr : wr.cell? ⟨c, i, none⟩ = W.cell? ⟨c, i, none⟩ := World.cell?_of_block (w := W) hcc
    have HOWN := hide hown
    have HJ1 := hide hj1
    have HBB := hide hbb
    have HCC := hide hcc
    clear hown hj1 hbb hcc
    obtain ⟨w0, hw0⟩ : ∃ w0, w0 = wr := ⟨_, rfl⟩
    subst hw0
    by_cases hlt : i < l.length
    · have hlt' : (i : Int) < l.length := by omega
      have dci : w0.cell? ⟨c, i, none⟩ = some (.int .i64 ((nd l i).kids.length : Int)) := by rw [hcr, (unhide HROW).cellAt i (by omega), mixF_get _ _ _ _ hlt (Nat.le_refl _)]; rfl
      have hcw : c < w0.heap.size := by omega
      have hki := unhide HL i hlt
      clear hcr
      go_wp2
      go_loopw [3] (fun t3 wq => ∃ st : List Int, popZ st = popZ (stAt l i) ∧ st.length ≤ i ∧ Fin' st ∧ wq.ownsRow W.heap.size 3 1 t3 st.length (stC st) ∧ wq = w0) (fun t3 _ => match t3 with | .slice _ n _ => n | _ => 0)
      case atStart => exact ⟨stAt l i, rfl, stAt_len l i, stAt_fin (unhide HL) hil, unhide HOWN, rfl⟩
      case round =>
        obtain ⟨st, hpop, hsl, hfin, hown, hw⟩ := hrel
        subst hw
        cases st with
        | nil =>
          obtain ⟨ao, cp, hu3⟩ : ∃ ao cp, u3 = .slice ao 0 cp := by
            rcases hown.2 with ⟨h, _⟩ | ⟨gw, cap, cur, h, _⟩
            · exact ⟨none, 0, h⟩
            · exact ⟨_, cap, h⟩
          subst hu3
          have hp0 : popZ (stAt l i) = [] := hpop.symm
          have hd0 : depAt l i = 0 := by simp [depAt, hp0]
          have HDEP : Hid (((depAt l i : Nat) : Int) = 0) := by show ((depAt l i : Nat) : Int) = 0; rw [hd0]; rfl
          have hdl : depAt l i ≤ i := by omega
          have HOZ : Hid (wr.ownsRow W.heap.size 3 1 (.slice ao 0 cp) (depAt l i) (stC (decT (popZ (stAt l i))))) := by rw [hd0, hp0]; exact hown
          have HBZ := HBB
          have HCZ := HCC
          clear hown hpop hp0 hd0
          have hRd := unhide HY i wr (unhide HJ1) hlt (by omega)
          rw [unhide HDEP] at hRd
          have HRD := hide hRd
          clear hRd
          go_wp2
          refine (unhide HRD).mono ?_
          rintro x W6 ⟨hk6, hz6, (⟨rfl, hJ6⟩ | ⟨rfl, hJx6⟩)⟩
          · have ho6 : W6.ownsRow W.heap.size 3 1 (.slice ao 0 cp) (depAt l i) (stC (decT (popZ (stAt l i)))) := ownsRow_heap (unhide HOZ) (fun g hg => hk6 g (.inl ((unhide HOZ).lt g hg)))
            have hb6 : W6.heap[Bx]? = W.heap[Bx]? := (hk6 Bx (.inr (.inl rfl))).trans (unhide HBZ)
            have hc6 : W6.heap[c]? = W.heap[c]? := (hk6 c (.inr (.inr rfl))).trans (unhide HCZ)
            have HO6 := hide ho6
            have HJ6 := hide hJ6
            have HB6 := hide hb6
            have HC6 := hide hc6
            clear ho6 hJ6 hb6 hc6 hk6 HDEP HOZ
            go_wp2_with (at_builtin; refine wpList_append_own _ rfl _ _ 27 rfl W.heap.size 3 j0 (.int .i64 0) 1 8 Tryz.underlying27 hj hy0 hy1 hy2 rfl (by decide) _ _ _ rfl ((unhide HO6).alloc _) ⟨W6.heap.size, 0, none⟩ 1 1 [.int .i64 ((nd l i).kids.length : Int)] rfl rfl ?c1 ?c2 ?c3 ?c4 ?c5 ?_)
            case c1 =>
              intro j u hj
              rw [Addr.add_lit, Nat.zero_add, World.cell?_alloc_mark]
              rw [← hj]; simp
            case c2 => intro u hu; simp at hu; rcases hu with rfl; rfl
            case c3 => unfold maxLen; have := hdl; omega
            case c4 => have := hdl; omega
            case c5 => simp; omega
            intro v' w8 hown8 hg8 _
            have hs8 := hg8.size
            simp at hs8
            have hB8 : Below W.heap.size W6 w8 := ⟨hg8.os, hg8.tape, hg8.output, by omega, fun k hk => (hg8.block k (by simp; omega) (fun e => by have := ((unhide HO6).lt k e.symm).1; omega)).trans (Below.heap_alloc _ _ _ (by omega))⟩
            have hlS : (stAt l (i + 1)).length = depAt l i + 1 := by simp [stAt, depAt, decT_len]
            have hcS : stC (stAt l (i + 1)) = stC (decT (popZ (stAt l i))) ++ [.int .i64 ((nd l i).kids.length : Int)] := by simp only [stAt, stC_cons]
            have HI8 : Hid (w8.ownsRow W.heap.size 3 1 v' (stAt l (i + 1)).length (stC (stAt l (i + 1))) ∧ J (i + 1) w8 ∧ w8.heap[Bx]? = W.heap[Bx]? ∧ w8.heap[c]? = W.heap[c]? ∧ W.heap.size ≤ w8.heap.size) := ⟨by rw [hlS, hcS]; exact hown8, unhide HJ _ _ _ (unhide HJ6) hB8, (hB8.block Bx hbl).trans (unhide HB6), (hB8.block c hcl).trans (unhide HC6), by omega⟩
            clear hown8 hg8 hB8 hlS hcS
            go_wp2
            obtain ⟨z1, z2, z3, z4, z5⟩ := unhide HI8
            exact ⟨⟨i + 1, by omega, by go_num, z1, z2, z3, z4, z5⟩, by simp [intOf]; omega⟩
          · have HJ6 := hide hJx6
            clear hJx6 hk6
            go_wp2
            refine bodyPost_ret (results_none rfl _ _ _) rfl ?_
            exact ⟨⟨_, rfl⟩, .inr ⟨i + 1, by omega, unhide HJ6⟩⟩
        | cons d s =>
          have hsl' : s.length + 1 ≤ i := by simpa using hsl
          obtain ⟨g, cp, hu3, hgl, hcp⟩ : ∃ g cp, u3 = .slice (some ⟨g, 0, none⟩) (s.length + 1) cp ∧ g < wr.heap.size ∧ s.length + 1 ≤ cp := by
            rcases hown.2 with ⟨_, h⟩ | ⟨gw, cap, cur, h, _, hh, h1, _⟩
            · simp at h
            · exact ⟨gw, cap, h, (Array.getElem?_eq_some_iff.1 hh).1, h1⟩
          subst hu3
          rw [stC_cons, List.length_cons] at hown
          have hgb : W.heap.size ≤ g := (hown.lt g rfl).1
          have ct : wr.cell? ⟨g, s.length, none⟩ = some (.int .i64 d) := by
            rw [hown.cellAt s.length (by omega), List.getElem?_append_right (by rw [stC_len]; omega), stC_len, Nat.sub_self]; rfl
          have ft : wr.frozen? ⟨g, s.length, none⟩ = false := hown.frozenAt _
          have hd := hfin d (by simp)
          by_cases hd0 : d = 0
          · subst hd0
            have hpop27 := stack27_pop g (s.length + 1) cp s.length (by omega) hcp
            have HO2 := hide (ownsRow_pop (by rw [stC_len]; omega) hown)
            have HP := hide hpop
            clear hown hpop
            go_wp2
            refine ⟨⟨s, ?_, by omega, fun x hx => hfin x (by simp [hx]), unhide HO2, trivial⟩, by simp⟩
            have := unhide HP
            simpa [popZ] using this
          · have hd0' : (d == 0) = false := by simpa using hd0
            have hp0 : popZ (stAt l i) = d :: s := by rw [← hpop]; simp [popZ, hd0]
            have hdd : depAt l i = s.length + 1 := by simp [depAt, hp0]
            have HDEP : Hid (((depAt l i : Nat) : Int) = (s.length : Int) + 1) := by show ((depAt l i : Nat) : Int) = _; rw [hdd]; simp
            have hdl : depAt l i ≤ i := by omega
            obtain ⟨hst, hgr⟩ := hown.stored s.length (.int .i64 (d - 1))
            have hset : (stC s ++ [Value.int .i64 d]).set s.length (.int .i64 (d - 1)) = stC (decT (popZ (stAt l i))) := by
              rw [hp0, decT, stC_cons, List.set_append_right _ _ (by rw [stC_len]; omega), stC_len, Nat.sub_self]; rfl
            rw [hset, ← hdd] at hst
            obtain ⟨wz, hwz⟩ : ∃ wz, wr.setCell ⟨g, s.length, none⟩ (.int .i64 (d - 1)) = wz := ⟨_, rfl⟩
            rw [hwz] at hst hgr
            have hBz : Below W.heap.size wr wz := by rw [← hwz]; exact (Below.refl _ _).setCell (p := ⟨g, s.length, none⟩) hgb _
            have HOZ : Hid (wz.ownsRow W.heap.size 3 1 (.slice (some ⟨g, 0, none⟩) (s.length + 1) cp) (depAt l i) (stC (decT (popZ (stAt l i))))) := by rw [hdd] at hst ⊢; exact hst
            have HBZ : Hid (wz.heap[Bx]? = W.heap[Bx]?) := (hBz.block Bx hbl).trans (unhide HBB)
            have HCZ : Hid (wz.heap[c]? = W.heap[c]?) := (hBz.block c hcl).trans (unhide HCC)
            have HJZ := hide (unhide HJ _ _ _ (unhide HJ1) hBz)
            have hzz := hBz.size
            clear hown hst hgr hset hp0 hdd hpop hd0 hBz
            have hRd := unhide HY i wz (unhide HJZ) hlt (by omega)
            rw [unhide HDEP] at hRd
            have HRD := hide hRd
            clear hRd
            go_wp2
            refine (unhide HRD).mono ?_
            rintro x W6 ⟨hk6, hz6, (⟨rfl, hJ6⟩ | ⟨rfl, hJx6⟩)⟩
            · have ho6 : W6.ownsRow W.heap.size 3 1 (.slice (some ⟨g, 0, none⟩) (s.length + 1) cp) (depAt l i) (stC (decT (popZ (stAt l i)))) := ownsRow_heap (unhide HOZ) (fun g hg => hk6 g (.inl ((unhide HOZ).lt g hg)))
              have hb6 : W6.heap[Bx]? = W.heap[Bx]? := (hk6 Bx (.inr (.inl rfl))).trans (unhide HBZ)
              have hc6 : W6.heap[c]? = W.heap[c]? := (hk6 c (.inr (.inr rfl))).trans (unhide HCZ)
              have HO6 := hide ho6
              have HJ6 := hide hJ6
              have HB6 := hide hb6
              have HC6 := hide hc6
              clear ho6 hJ6 hb6 hc6 hk6 HDEP HOZ
              go_wp2_with (at_builtin; refine wpList_append_own _ rfl _ _ 27 rfl W.heap.size 3 j0 (.int .i64 0) 1 8 Tryz.underlying27 hj hy0 hy1 hy2 rfl (by decide) _ _ _ rfl ((unhide HO6).alloc _) ⟨W6.heap.size, 0, none⟩ 1 1 [.int .i64 ((nd l i).kids.length : Int)] rfl rfl ?c1 ?c2 ?c3 ?c4 ?c5 ?_)
              case c1 =>
                intro j u hj
                rw [Addr.add_lit, Nat.zero_add, World.cell?_alloc_mark]
                rw [← hj]; simp
              case c2 => intro u hu; simp at hu; rcases hu with rfl; rfl
              case c3 => unfold maxLen; have := hdl; omega
              case c4 => have := hdl; omega
              case c5 => simp; omega
              intro v' w8 hown8 hg8 _
              have hs8 := hg8.size
              simp at hs8
              have hB8 : Below W.heap.size W6 w8 := ⟨hg8.os, hg8.tape, hg8.output, by omega, fun k hk => (hg8.block k (by simp; omega) (fun e => by have := ((unhide HO6).lt k e.symm).1; omega)).trans (Below.heap_alloc _ _ _ (by omega))⟩
              have hlS : (stAt l (i + 1)).length = depAt l i + 1 := by simp [stAt, depAt, decT_len]
              have hcS : stC (stAt l (i + 1)) = stC (decT (popZ (stAt l i))) ++ [.int .i64 ((nd l i).kids.length : Int)] := by simp only [stAt, stC_cons]
              have HI8 : Hid (w8.ownsRow W.heap.size 3 1 v' (stAt l (i + 1)).length (stC (stAt l (i + 1))) ∧ J (i + 1) w8 ∧ w8.heap[Bx]? = W.heap[Bx]? ∧ w8.heap[c]? = W.heap[c]? ∧ W.heap.size ≤ w8.heap.size) := ⟨by rw [hlS, hcS]; exact hown8, unhide HJ _ _ _ (unhide HJ6) hB8, (hB8.block Bx hbl).trans (unhide HB6), (hB8.block c hcl).trans (unhide HC6), by omega⟩
              clear hown8 hg8 hB8 hlS hcS
              go_wp2
              obtain ⟨z1, z2, z3, z4, z5⟩ := unhide HI8
              exact ⟨⟨i + 1, by omega, by go_num, z1, z2, z3, z4, z5⟩, by simp [intOf]; omega⟩
            · have HJ6 := hide hJx6
              clear hJx6 hk6
              go_wp2
              refine bodyPost_ret (results_none rfl _ _ _) rfl ?_
              exact ⟨⟨_, rfl⟩, .inr ⟨i + 1, by omega, unhide HJ6⟩⟩
    · have hlt' : ¬ (i : Int) < l.length := by omega
      obtain rfl : i = l.length := by omega
      go_wp2
      go_end0
      exact ⟨⟨_, rfl⟩, .inl (unhide HJ1)⟩
end Go.Proofs.YtoffpbaddehncaaGreatDoor

/- Depth of what is no tree; the law's two function values under Walk. -/
namespace Go.Proofs.YtoffpbaddehncaaGreatDoor
set_option linter.unusedSimpArgs false
set_option linter.unusedVariables false
open Go.RowKit Go.Shelf

theorem enter34 : ∀ args w, (callFunc 34 args).run Tryz.prog w = .ok (.enter 34 args) w := enters_of Tryz.func34 (by kernel_rfl) rfl
theorem enter17 : ∀ args w, (callFunc 17 args).run Tryz.prog w = .ok (.enter 17 args) w := enters_of Tryz.func17 (by kernel_rfl) rfl
theorem enter18 : ∀ args w, (callFunc 18 args).run Tryz.prog w = .ok (.enter 18 args) w := enters_of Tryz.func18 (by kernel_rfl) rfl
set_option maxRecDepth 100000 in
theorem walk1_in (n : Nat) (y : Value) (W : World) : CallsIn Fence.wide n Tryz.prog 34 #[y] W fun e W' => (∃ v, e = .returned v) ∧ W' = W := by
  refine callsIn_of_wp Tryz.func34 rfl trivial ?_ rfl
  simp only [Tryz.ntmps34, List.size_toArray, List.length_cons, List.length_nil, Nat.reduceAdd, Nat.reduceSub, Array.replicate_succ, Array.replicate_zero, List.push_toArray, List.append_toArray, List.nil_append, List.cons_append]
  gi_wp2
  simp only [bodyPost]
  exact ⟨trivial, _, results_none rfl _ _ _, ⟨_, rfl⟩, trivial⟩
theorem walk1_any (y : Value) (W : World) : Calls Tryz.prog 34 #[y] W fun e W' => (∃ v, e = .returned v) ∧ W' = W := callsIn_wide.1 (walk1_in 1 y W)

set_option maxRecDepth 100000 in
set_option maxHeartbeats 4000000 in
theorem depth_bad (w : World) (M : Nat) (v : Value) (l : List Nd) (hN : Nodes w M v l) (hM : M ≤ w.heap.size) (h : ¬ (chkP l).2 = 0) :
    CallsIn Fence.wide 8 Tryz.prog 19 #[.agg #[v]] w fun e w' => e = .returned (.int .i64 0) ∧ Below w.heap.size w w' := by
  obtain ⟨W1, hW1⟩ : ∃ W1, (w.alloc (.cells #[v] 24)).alloc (.cells #[.int .i64 0] 3) = W1 := ⟨_, rfl⟩
  have hB1 : Below w.heap.size w W1 := by rw [← hW1]; exact ((Below.refl _ w).alloc (Nat.le_refl _) _).alloc (by simp) _
  have hz1 : W1.heap.size = w.heap.size + 1 + 1 := by rw [← hW1]; simp
  have b1 : Boxed W1 (w.heap.size + 1) 3 (.int .i64 0) := by
    have := Boxed.new (w.alloc (.cells #[v] 24)) 3 (.int .i64 0)
    rw [World.size_alloc] at this
    rw [← hW1]; exact this
  have HW : Hid (Calls Tryz.prog 16 #[.agg #[v]] ((w.alloc (.cells #[v] 24)).alloc (.cells #[.int .i64 0] 3)) fun e w' => e = .returned (.func (.func 34) #[] #[]) ∧ Below W1.heap.size W1 w') := by rw [hW1]; exact walk_bad W1 M v l (hN.keep hB1 hM) (Nat.le_trans hM hB1.size) h
  obtain ⟨va, vc, rfl, _, _⟩ := hN.len
  have HB1 := hide b1
  clear hN b1 hW1
  refine callsIn_of_wp_marks Tryz.func19 rfl trivial ?_ rfl
  simp only [Tryz.ntmps19, List.size_toArray, List.length_cons, List.length_nil, Nat.reduceAdd, Nat.reduceSub, Array.replicate_succ, Array.replicate_zero, List.push_toArray, List.append_toArray, List.nil_append, List.cons_append]
  gi_wp2_with (refine ⟨trivial, ?_⟩; gi_at_call 16; refine (callsIn_wide.2 (unhide HW)).mono ?_; rintro e W2 ⟨rfl, hB2⟩)
  have hz2 := hB2.size
  refine range_enter rfl (by omega) (gf := 34) (lb := #[]) rfl trivial enter34 ?_
  intro fn hfn
  generalize hrc : recOf fn _ _ _ _ _ _ _ = rc
  obtain ⟨W3, hW3⟩ : ∃ W3, ranged W2 rc = W3 := ⟨_, rfl⟩
  have hz3 : W3.heap.size = W2.heap.size + 1 + 1 := by rw [← hW3]; exact ranged_size W2 rc
  have hB3 : Below W2.heap.size W2 W3 := by rw [← hW3]; exact ranged_below W2 rc
  have hl3 : W3.heap[W2.heap.size + 1]? = some (.loop rc) := by rw [← hW3]; exact ranged_l W2 rc
  have hd3 : W3.heap[W2.heap.size]? = some (.deferred (some [])) := by rw [← hW3]; exact ranged_d W2 rc
  rw [hW3]
  clear hW3
  have hB13 : Below W1.heap.size W1 W3 := hB2.trans (hB3.mono hz2)
  refine (walk1_in 7 _ W3).mono ?post
  case post =>
    rintro e W' ⟨⟨u, rfl⟩, rfl⟩
    have a3 : Boxed W' (w.heap.size + 1) 3 (.int .i64 0) := (hB13.block _ (by omega)).trans (unhide HB1)
    have a4 : Below w.heap.size w W' := hB1.trans (hB13.mono hB1.size)
    have hpe : rc.pending = none := by rw [← hrc]; rfl
    have hne : rc.state ≠ .busy := by rw [← hrc]; simp [recOf]
    have hend := run_endLoop (P := Tryz.prog) hl3 hne
    rw [hpe] at hend
    refine ⟨none, _, hend, ?_⟩
    obtain ⟨W7, hW7⟩ : ∃ W7, W'.putObj (W2.heap.size + 1) (.loop { rc with state := .exhausted, pending := none }) = W7 := ⟨_, rfl⟩
    have hk7 : ∀ k, k ≠ W2.heap.size + 1 → W7.heap[k]? = W'.heap[k]? := fun k hk => by rw [← hW7]; exact World.putObj_heap_other hk
    have hB7 : Below w.heap.size w W7 := by
      rw [← hW7]
      exact a4.trans ((Below.refl _ W').grown (grownBy_putObj' W' (W2.heap.size + 1) _) a4.size (fun k e => by cases e; omega))
    rw [hW7]
    clear hW7 hend
    dsimp only
    have bL : Boxed W7 (w.heap.size + 1) 3 (.int .i64 0) := (hk7 _ (by omega)).trans a3
    have hd7 : W7.heap[W2.heap.size]? = some (.deferred (some [])) := (hk7 _ (by omega)).trans hd3
    have cL := bL.cell
    gi_wp2
    refine ⟨by simp, .inl ⟨_, _, rfl, run_takeDeferred hd7, ?_⟩⟩
    refine ⟨.int .i64 0, ?_, rfl, ?_⟩
    · simp [results, Tryz.results19, go_sem]
    · exact hB7.trans ((Below.refl _ W7).grown (grownBy_putObj' W7 W2.heap.size _) hB7.size (fun k e => by cases e; omega))

/-- The first function value, where all is as it should be. -/
theorem fn17_any (i L c2 Bo Bn Bw Bb : Nat) (d bst : Int) (hL : L ≤ 2199023255552) (hi : i < L) (A : World) (ho : Boxed A Bo 4 (.bool true)) (hn : Boxed A Bn 3 (.int .i64 (i : Int))) (hw : Boxed A Bw 27 (.slice (some ⟨c2, 0, none⟩) L L)) (hc : A.cell? ⟨c2, i, none⟩ = some (.int .i64 d)) (hb : Boxed A Bb 3 (.int .i64 bst))
    (h1 : Bo ≠ Bn) (h2 : Bo ≠ Bw) (h3 : Bo ≠ Bb) (h4 : Bn ≠ Bw) (h5 : Bn ≠ Bb) (h6 : Bw ≠ Bb) (h7 : Bo ≠ c2) (h8 : Bn ≠ c2) (h9 : Bb ≠ c2) (hd0 : 0 ≤ d) (hd1 : d ≤ 2199023255552) (hb0 : 0 ≤ bst) (hb1 : bst ≤ 2199023255552) :
    Calls Tryz.prog 17 #[.int .i64 (i : Int), .int .i64 d, .pointer (some ⟨Bo, 0, none⟩), .pointer (some ⟨Bn, 0, none⟩), .pointer (some ⟨Bw, 0, none⟩), .pointer (some ⟨Bb, 0, none⟩)] A fun e A' => e = .returned (.bool true) ∧ Boxed A' Bo 4 (.bool true) ∧ Boxed A' Bn 3 (.int .i64 ((i + 1 : Nat) : Int)) ∧ Boxed A' Bb 3 (.int .i64 (max bst d)) ∧ (∀ k, k ≠ Bo → k ≠ Bn → k ≠ Bb → A'.heap[k]? = A.heap[k]?) ∧ A'.heap.size = A.heap.size ∧ (∀ N, N ≤ Bo → N ≤ Bn → N ≤ Bb → Below N A A') := by
  have co := ho.cell
  have cn := hn.cell
  have cw := hw.cell
  have cb := hb.cell
  have fo := ho.frozen
  have fn := hn.frozen
  have fb := hb.frozen
  have lo := ho.lt
  have ln := hn.lt
  have lw := hw.lt
  have lb := hb.lt
  have hi' : (i : Int) < L := by omega
  have hi0 : (0 : Int) ≤ (i : Int) := by omega
  have h1' := h1.symm
  have h3' := h3.symm
  have h5' := h5.symm
  have lc : c2 < A.heap.size := by
    rcases Nat.lt_or_ge c2 A.heap.size with h | h
    · exact h
    · exfalso
      have : A.heap[c2]? = none := Array.getElem?_eq_none h
      simp [World.cell?, this] at hc
  have HO := hide ho
  have HN := hide hn
  have HB := hide hb
  clear ho hn hw hb
  go_enter Tryz.func17, Tryz.ntmps17
  go_wp2
  go_ret
  obtain ⟨A1, hA1⟩ : ∃ A1, A.setCell ⟨Bo, 0, none⟩ (.bool true) = A1 := ⟨_, rfl⟩
  have p1 : ∀ k, k ≠ Bo → A1.heap[k]? = A.heap[k]? := fun k hk => by rw [← hA1]; exact Below.heap_setCell _ _ _ _ hk
  have b1 : Boxed A1 Bo 4 (.bool true) := by rw [← hA1]; exact (unhide HO).set _
  have z1 : A1.heap.size = A.heap.size := setCell_size hA1
  have B1 : ∀ N, N ≤ Bo → Below N A A1 := fun N h => by rw [← hA1]; exact (Below.refl _ _).setCell (p := ⟨Bo, 0, none⟩) h _
  rw [hA1]
  obtain ⟨A2, hA2⟩ : ∃ A2, A1.setCell ⟨Bb, 0, none⟩ (.int .i64 (max bst d)) = A2 := ⟨_, rfl⟩
  have p2 : ∀ k, k ≠ Bb → A2.heap[k]? = A1.heap[k]? := fun k hk => by rw [← hA2]; exact Below.heap_setCell _ _ _ _ hk
  have b2 : Boxed A2 Bb 3 (.int .i64 (max bst d)) := by rw [← hA2]; exact (show Boxed A1 Bb 3 (.int .i64 bst) from (p1 Bb h3.symm).trans (unhide HB)).set _
  have z2 : A2.heap.size = A1.heap.size := setCell_size hA2
  have B2 : ∀ N, N ≤ Bb → Below N A1 A2 := fun N h => by rw [← hA2]; exact (Below.refl _ _).setCell (p := ⟨Bb, 0, none⟩) h _
  rw [hA2]
  obtain ⟨A3, hA3⟩ : ∃ A3, A2.setCell ⟨Bn, 0, none⟩ (.int .i64 ((i : Int) + 1)) = A3 := ⟨_, rfl⟩
  have p3 : ∀ k, k ≠ Bn → A3.heap[k]? = A2.heap[k]? := fun k hk => by rw [← hA3]; exact Below.heap_setCell _ _ _ _ hk
  have b3 : Boxed A3 Bn 3 (.int .i64 ((i : Int) + 1)) := by rw [← hA3]; exact (show Boxed A2 Bn 3 (.int .i64 (i : Int)) from (p2 Bn h5).trans ((p1 Bn h1.symm).trans (unhide HN))).set _
  have z3 : A3.heap.size = A2.heap.size := setCell_size hA3
  have B3 : ∀ N, N ≤ Bn → Below N A2 A3 := fun N h => by rw [← hA3]; exact (Below.refl _ _).setCell (p := ⟨Bn, 0, none⟩) h _
  rw [hA3]
  exact ⟨rfl, (p3 Bo h1).trans ((p2 Bo h3).trans b1), by simpa using b3, (p3 Bb h5.symm).trans b2, fun k k1 k2 k3 => (p3 k k2).trans ((p2 k k3).trans (p1 k k1)), by omega, fun N n1 n2 n3 => (B1 N n1).trans ((B2 N n3).trans (B3 N n2))⟩

/-- The second function value. -/
theorem fn18_any (i Bn Bs : Nat) (k d st : Int) (hi : i ≤ 2199023255552) (A : World) (hn : Boxed A Bn 3 (.int .i64 (i : Int))) (hs : Boxed A Bs 3 (.int .i64 st)) (h1 : Bn ≠ Bs) :
    Calls Tryz.prog 18 #[.int .i64 k, .int .i64 d, .pointer (some ⟨Bn, 0, none⟩), .pointer (some ⟨Bs, 0, none⟩)] A fun e A' => e = .returned (.bool (decide (((i + 1 : Nat) : Int) < st))) ∧ Boxed A' Bn 3 (.int .i64 ((i + 1 : Nat) : Int)) ∧ (∀ k, k ≠ Bn → A'.heap[k]? = A.heap[k]?) ∧ A'.heap.size = A.heap.size ∧ (∀ N, N ≤ Bn → Below N A A') := by
  have cn := hn.cell
  have cs := hs.cell
  have fn := hn.frozen
  have ln := hn.lt
  have ls := hs.lt
  have h1' := h1.symm
  have HN := hide hn
  clear hn hs
  go_enter Tryz.func18, Tryz.ntmps18
  go_wp2
  go_ret
  obtain ⟨A3, hA3⟩ : ∃ A3, A.setCell ⟨Bn, 0, none⟩ (.int .i64 ((i : Int) + 1)) = A3 := ⟨_, rfl⟩
  have p3 : ∀ k, k ≠ Bn → A3.heap[k]? = A.heap[k]? := fun k hk => by rw [← hA3]; exact Below.heap_setCell _ _ _ _ hk
  have b3 : Boxed A3 Bn 3 (.int .i64 ((i : Int) + 1)) := by rw [← hA3]; exact (unhide HN).set _
  have z3 : A3.heap.size = A.heap.size := setCell_size hA3
  have B3 : ∀ N, N ≤ Bn → Below N A A3 := fun N h => by rw [← hA3]; exact (Below.refl _ _).setCell (p := ⟨Bn, 0, none⟩) h _
  rw [hA3]
  exact ⟨by simp, by simpa using b3, p3, z3, B3⟩
end Go.Proofs.YtoffpbaddehncaaGreatDoor
