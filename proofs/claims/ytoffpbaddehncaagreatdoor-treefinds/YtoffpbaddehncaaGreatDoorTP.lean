/- tree.Walk's function value, for whatever loop it serves. -/
import Derived.RangeFuncNested
import Derived.RangeFuncBound
import Derived.RangeFuncCalls
import Derived.RangeFuncLeaves
import Derived.Shelf.RegionOpen
import Derived.OwnWalkIn
import Derived.TacticsInMore
import Derived.LoopNIn
import Derived.LoopIn
import Derived.WalkSmall
import Derived.Test.YtoffpbaddehncaaGreatDoorXR
import Derived.Test.YtoffpbaddehncaaGreatDoorTO
namespace Go.Proofs.YtoffpbaddehncaaGreatDoor
set_option linter.unusedSimpArgs false
set_option linter.unusedVariables false
open Go.RowKit Go.Shelf

def popZ : List Int → List Int
  | [] => []
  | c :: st => if c = 0 then popZ st else c :: st
def decT : List Int → List Int
  | [] => []
  | c :: st => (c - 1) :: st
/-- The stack ahead of a node, its top first: how many kids are still to come. -/
def stAt (l : List Nd) : Nat → List Int
  | 0 => []
  | i + 1 => ((nd l i).kids.length : Int) :: decT (popZ (stAt l i))
def depAt (l : List Nd) (i : Nat) : Nat := (popZ (stAt l i)).length
theorem popZ_len : ∀ st : List Int, (popZ st).length ≤ st.length
  | [] => Nat.le_refl _
  | c :: st => by
    simp only [popZ]
    split
    · have := popZ_len st; simp; omega
    · simp
theorem decT_len (st : List Int) : (decT st).length = st.length := by cases st <;> simp [decT]
theorem stAt_len (l : List Nd) : ∀ i, (stAt l i).length ≤ i
  | 0 => Nat.le_refl _
  | i + 1 => by
    simp only [stAt, List.length_cons, decT_len]
    have := popZ_len (stAt l i)
    have := stAt_len l i
    omega
def Fin' (st : List Int) : Prop := ∀ c ∈ st, 0 ≤ c ∧ c ≤ 17592186044416
theorem popZ_fin : ∀ {st : List Int}, Fin' st → Fin' (popZ st)
  | [], h => h
  | c :: st, h => by
    simp only [popZ]
    split
    · exact popZ_fin fun x hx => h x (by simp [hx])
    · exact h
theorem popZ_top : ∀ {st : List Int} {c : Int} {s : List Int}, popZ st = c :: s → c ≠ 0
  | [], c, s, h => by cases h
  | d :: st, c, s, h => by
    simp only [popZ] at h
    split at h
    · exact popZ_top h
    · rename_i hd; cases h; exact hd
theorem stAt_fin {l : List Nd} (hl : ∀ j, j < l.length → (nd l j).kids.length ≤ 17592186044416) : ∀ {i}, i ≤ l.length → Fin' (stAt l i)
  | 0, _ => fun c hc => by cases hc
  | i + 1, hi => by
    have h1 := popZ_fin (stAt_fin hl (i := i) (by omega))
    intro c hc
    simp only [stAt] at hc
    rcases List.mem_cons.1 hc with rfl | hc
    · have := hl i (by omega); omega
    · cases hp : popZ (stAt l i) with
      | nil => rw [hp] at hc; cases hc
      | cons d s =>
        rw [hp] at hc h1
        rcases List.mem_cons.1 hc with rfl | hc
        · have := h1 d (by simp); have := popZ_top hp; omega
        · exact h1 c (by simp [hc])
/-- The stack's cells. -/
def stC (st : List Int) : List Value := (st.reverse).map (Value.int .i64)
theorem stC_cons (c : Int) (st : List Int) : stC (c :: st) = stC st ++ [.int .i64 c] := by simp [stC]
theorem stC_len (st : List Int) : (stC st).length = st.length := by simp [stC]
theorem ownsRow_heap {w w' : World} {base : Nat} {e : TypeId} {size : Nat} {v : Value} {n : Nat} {xs : List Value} (h : w.ownsRow base e size v n xs) (hk : ∀ g, v.ownBlock = some g → w'.heap[g]? = w.heap[g]?) : w'.ownsRow base e size v n xs := by
  obtain ⟨h1, h2⟩ := h
  refine ⟨h1, ?_⟩
  rcases h2 with h2 | ⟨g, cap, cur, hv, hb, hh, r⟩
  · exact .inl h2
  · exact .inr ⟨g, cap, cur, hv, hb, (hk g (by rw [hv]; rfl)).trans hh, r⟩

theorem stack27_pop (g n cap h : Nat) (hh : h ≤ n) (hc : n ≤ cap) (W' : World) : (Instr.slice 27 (.slice (some ⟨g, 0, none⟩) n cap) none (some (.int .i64 (h : Int))) none).run Tryz.prog W' = .ok (.slice (some ⟨g, 0, none⟩) h cap) W' := by
  rw [run_slice_h W' 27 (some ⟨g, 0, none⟩) n cap under27 .i64 h (by omega) (by omega), elem27, size3]
  simp [sliced, Result.andThen]
  intro _; rfl

set_option maxRecDepth 100000 in
set_option maxHeartbeats 4000000 in
theorem walk2_in (n : Nat) (hn : 1 ≤ n) (lp Bx c : Nat) (l : List Nd) (hl : ∀ j, j < l.length → (nd l j).kids.length ≤ 17592186044416) (hlen : l.length ≤ 2199023255552) (W : World) (J Jx : Nat → World → Prop)
    (hbx : Boxed W Bx 27 (.slice (some ⟨c, 0, none⟩) l.length l.length)) (hrow : W.ownsRow 0 3 1 (.slice (some ⟨c, 0, none⟩) l.length l.length) l.length (mixF (cntV l) l.length l.length))
    (hJ : ∀ i A B, J i A → Below W.heap.size A B → J i B)
    (hY : ∀ i A, J i A → i < l.length → W.heap.size ≤ A.heap.size → YieldAt Fence.wide (n - 1) Tryz.prog lp #[.int .i64 (i : Int), .int .i64 (depAt l i : Int)] A fun e A' =>
      (∀ k, (W.heap.size ≤ k ∧ k < A.heap.size) ∨ k = Bx ∨ k = c → A'.heap[k]? = A.heap[k]?) ∧ A.heap.size ≤ A'.heap.size ∧ ((e = .returned (.bool true) ∧ J (i + 1) A') ∨ (e = .returned (.bool false) ∧ Jx (i + 1) A')))
    (h0 : J 0 W) :
    CallsIn Fence.wide n Tryz.prog 35 #[.func (.yield lp) #[] #[], .pointer (some ⟨Bx, 0, none⟩)] W fun e W' => (∃ v, e = .returned v) ∧ (J l.length W' ∨ ∃ i, i ≤ l.length ∧ Jx i W') := by
  obtain ⟨j0, hj, hy0, hy1, hy2⟩ := info_parts infoInt
  have HJ := hide hJ
  have HY := hide hY
  have H0 := hide h0
  have HL := hide hl
  have HROW := hide hrow
  have HBX := hide hbx
  have cb := hbx.cell
  have hbl := hbx.lt
  clear hJ hY h0 hl hrow hbx
  refine callsIn_of_wp Tryz.func35 rfl trivial ?_ rfl
  simp only [Tryz.ntmps35, List.size_toArray, List.length_cons, List.length_nil, Nat.reduceAdd, Nat.reduceSub, Array.replicate_succ, Array.replicate_zero, List.push_toArray, List.append_toArray, List.nil_append, List.cons_append]
  gi_wp2
  gi_loopw [3, 8] (fun t3 t8 wr => ∃ i : Nat, i ≤ l.length ∧ t8 = .int .i64 (i : Int) ∧ wr.ownsRow W.heap.size 3 1 t3 (stAt l i).length (stC (stAt l i)) ∧ J i wr ∧ wr.heap[Bx]? = W.heap[Bx]? ∧ wr.heap[c]? = W.heap[c]? ∧ W.heap.size ≤ wr.heap.size) (fun _ t8 _ => l.length - (intOf t8).toNat)
  case atStart => exact ⟨0, Nat.zero_le _, rfl, World.ownsRow_nil _ _ _ _, unhide H0, rfl, rfl, Nat.le_refl _⟩
  case round =>
    obtain ⟨i, hil, rfl, hown, hj1, hbb, hcc, hsz⟩ := hrel
    have hcl : c < W.heap.size := ((unhide HROW).lt c rfl).2
    have hcr : wr.cell? ⟨c, i, none⟩ = W.cell? ⟨c, i, none⟩ := World.cell?_of_block (w := W) hcc
    have HOWN := hide hown
    have HJ1 := hide hj1
    have HBB := hide hbb
    have HCC := hide hcc
    clear hown hj1 hbb hcc
    obtain ⟨w0, hw0⟩ : ∃ w0, w0 = wr := ⟨_, rfl⟩
    subst hw0
    by_cases hlt : i < l.length
    · have hlt' : (i : Int) < l.length := by omega
      have dci : w0.cell? ⟨c, i, none⟩ = some (.int .i64 ((nd l i).kids.length : Int)) := by rw [hcr, (unhide HROW).cellAt i (by omega), mixF_get _ _ _ _ hlt (Nat.le_refl _)]; rfl
      have hcw : c < w0.heap.size := by omega
      have hki := unhide HL i hlt
      clear hcr
      gi_wp2
      gi_loopw [3] (fun t3 wq => ∃ st : List Int, popZ st = popZ (stAt l i) ∧ st.length ≤ i ∧ Fin' st ∧ wq.ownsRow W.heap.size 3 1 t3 st.length (stC st) ∧ wq = w0) (fun t3 _ => match t3 with | .slice _ n _ => n | _ => 0)
      case atStart => exact ⟨stAt l i, rfl, stAt_len l i, stAt_fin (unhide HL) hil, unhide HOWN, rfl⟩
      case round =>
        obtain ⟨st, hpop, hsl, hfin, hown, hw⟩ := hrel
        subst hw
        cases st with
        | nil =>
          obtain ⟨ao, cp, hu3⟩ : ∃ ao cp, u3 = .slice ao 0 cp := by
            rcases hown.2 with ⟨h, _⟩ | ⟨gw, cap, cur, h, _⟩
            · exact ⟨none, 0, h⟩
            · exact ⟨_, cap, h⟩
          subst hu3
          have hp0 : popZ (stAt l i) = [] := hpop.symm
          have hd0 : depAt l i = 0 := by simp [depAt, hp0]
          have HDEP : Hid (((depAt l i : Nat) : Int) = 0) := by show ((depAt l i : Nat) : Int) = 0; rw [hd0]; rfl
          have hdl : depAt l i ≤ i := by omega
          have HOZ : Hid (wr.ownsRow W.heap.size 3 1 (.slice ao 0 cp) (depAt l i) (stC (decT (popZ (stAt l i))))) := by rw [hd0, hp0]; exact hown
          have HBZ := HBB
          have HCZ := HCC
          clear hown hpop hp0 hd0
          obtain ⟨fn, tm, asg, bd, hy5, hRd⟩ := unhide HY i wr (unhide HJ1) hlt (by omega)
          have hy : (Instr.yield lp #[.int .i64 (i : Int), .int .i64 0]).run Tryz.prog wr = .ok (.round lp fn tm asg bd) wr := by have := hy5; rw [unhide HDEP] at this; exact this
          clear hy5
          gi_wp2
          refine hRd.mono ?_
          rintro x W6 ⟨hk6, hz6, (⟨rfl, hJ6⟩ | ⟨rfl, hJx6⟩)⟩
          · have ho6 : W6.ownsRow W.heap.size 3 1 (.slice ao 0 cp) (depAt l i) (stC (decT (popZ (stAt l i)))) := ownsRow_heap (unhide HOZ) (fun g hg => hk6 g (.inl ((unhide HOZ).lt g hg)))
            have hb6 : W6.heap[Bx]? = W.heap[Bx]? := (hk6 Bx (.inr (.inl rfl))).trans (unhide HBZ)
            have hc6 : W6.heap[c]? = W.heap[c]? := (hk6 c (.inr (.inr rfl))).trans (unhide HCZ)
            have HO6 := hide ho6
            have HJ6 := hide hJ6
            have HB6 := hide hb6
            have HC6 := hide hc6
            clear ho6 hJ6 hb6 hc6 hk6 hy hRd HDEP HOZ
            gi_wp2_with (gi_at_builtin; refine wpListIn_append_own _ rfl _ _ 27 rfl W.heap.size 3 j0 (.int .i64 0) 1 8 Tryz.underlying27 hj hy0 hy1 hy2 rfl (by decide) _ _ _ rfl ((unhide HO6).alloc _) ⟨W6.heap.size, 0, none⟩ 1 1 [.int .i64 ((nd l i).kids.length : Int)] rfl rfl ?c1 ?c2 ?c3 ?c4 ?c5 ?_)
            case c1 =>
              intro j u hj
              rw [Addr.add_lit, Nat.zero_add, World.cell?_alloc_mark]
              rw [← hj]; simp
            case c2 => intro u hu; simp at hu; rcases hu with rfl; rfl
            case c3 => unfold maxLen; have := hdl; omega
            case c4 => have := hdl; omega
            case c5 => simp; omega
            intro v' w8 hown8 hg8 _
            have hs8 := hg8.size
            simp at hs8
            have hB8 : Below W.heap.size W6 w8 := ⟨hg8.os, hg8.tape, hg8.output, by omega, fun k hk => (hg8.block k (by simp; omega) (fun e => by have := ((unhide HO6).lt k e.symm).1; omega)).trans (Below.heap_alloc _ _ _ (by omega))⟩
            have hlS : (stAt l (i + 1)).length = depAt l i + 1 := by simp [stAt, depAt, decT_len]
            have hcS : stC (stAt l (i + 1)) = stC (decT (popZ (stAt l i))) ++ [.int .i64 ((nd l i).kids.length : Int)] := by simp only [stAt, stC_cons]
            have HI8 : Hid (w8.ownsRow W.heap.size 3 1 v' (stAt l (i + 1)).length (stC (stAt l (i + 1))) ∧ J (i + 1) w8 ∧ w8.heap[Bx]? = W.heap[Bx]? ∧ w8.heap[c]? = W.heap[c]? ∧ W.heap.size ≤ w8.heap.size) := ⟨by rw [hlS, hcS]; exact hown8, unhide HJ _ _ _ (unhide HJ6) hB8, (hB8.block Bx hbl).trans (unhide HB6), (hB8.block c hcl).trans (unhide HC6), by omega⟩
            clear hown8 hg8 hB8 hlS hcS
            gi_wp2
            obtain ⟨z1, z2, z3, z4, z5⟩ := unhide HI8
            exact ⟨⟨i + 1, by omega, by go_num, z1, z2, z3, z4, z5⟩, by simp [intOf]; omega⟩
          · have HJ6 := hide hJx6
            clear hJx6 hk6 hy hRd
            gi_wp2
            refine bodyPost_ret (results_none rfl _ _ _) rfl ?_
            exact ⟨⟨_, rfl⟩, .inr ⟨i + 1, by omega, unhide HJ6⟩⟩
        | cons d s =>
          have hsl' : s.length + 1 ≤ i := by simpa using hsl
          obtain ⟨g, cp, hu3, hgl, hcp⟩ : ∃ g cp, u3 = .slice (some ⟨g, 0, none⟩) (s.length + 1) cp ∧ g < wr.heap.size ∧ s.length + 1 ≤ cp := by
            rcases hown.2 with ⟨_, h⟩ | ⟨gw, cap, cur, h, _, hh, h1, _⟩
            · simp at h
            · exact ⟨gw, cap, h, (Array.getElem?_eq_some_iff.1 hh).1, h1⟩
          subst hu3
          rw [stC_cons, List.length_cons] at hown
          have hgb : W.heap.size ≤ g := (hown.lt g rfl).1
          have ct : wr.cell? ⟨g, s.length, none⟩ = some (.int .i64 d) := by
            rw [hown.cellAt s.length (by omega), List.getElem?_append_right (by rw [stC_len]; omega), stC_len, Nat.sub_self]; rfl
          have ft : wr.frozen? ⟨g, s.length, none⟩ = false := hown.frozenAt _
          have hd := hfin d (by simp)
          by_cases hd0 : d = 0
          · subst hd0
            have hpop27 := stack27_pop g (s.length + 1) cp s.length (by omega) hcp
            have HO2 := hide (ownsRow_pop (by rw [stC_len]; omega) hown)
            have HP := hide hpop
            clear hown hpop
            gi_wp2
            refine ⟨⟨s, ?_, by omega, fun x hx => hfin x (by simp [hx]), unhide HO2, trivial⟩, by simp⟩
            have := unhide HP
            simpa [popZ] using this
          · have hd0' : (d == 0) = false := by simpa using hd0
            have hp0 : popZ (stAt l i) = d :: s := by rw [← hpop]; simp [popZ, hd0]
            have hdd : depAt l i = s.length + 1 := by simp [depAt, hp0]
            have HDEP : Hid (((depAt l i : Nat) : Int) = (s.length : Int) + 1) := by show ((depAt l i : Nat) : Int) = _; rw [hdd]; simp
            have hdl : depAt l i ≤ i := by omega
            obtain ⟨hst, hgr⟩ := hown.stored s.length (.int .i64 (d - 1))
            have hset : (stC s ++ [Value.int .i64 d]).set s.length (.int .i64 (d - 1)) = stC (decT (popZ (stAt l i))) := by
              rw [hp0, decT, stC_cons, List.set_append_right _ _ (by rw [stC_len]; omega), stC_len, Nat.sub_self]; rfl
            rw [hset, ← hdd] at hst
            obtain ⟨wz, hwz⟩ : ∃ wz, wr.setCell ⟨g, s.length, none⟩ (.int .i64 (d - 1)) = wz := ⟨_, rfl⟩
            rw [hwz] at hst hgr
            have hBz : Below W.heap.size wr wz := by rw [← hwz]; exact (Below.refl _ _).setCell (p := ⟨g, s.length, none⟩) hgb _
            have HOZ : Hid (wz.ownsRow W.heap.size 3 1 (.slice (some ⟨g, 0, none⟩) (s.length + 1) cp) (depAt l i) (stC (decT (popZ (stAt l i))))) := by rw [hdd] at hst ⊢; exact hst
            have HBZ : Hid (wz.heap[Bx]? = W.heap[Bx]?) := (hBz.block Bx hbl).trans (unhide HBB)
            have HCZ : Hid (wz.heap[c]? = W.heap[c]?) := (hBz.block c hcl).trans (unhide HCC)
            have HJZ := hide (unhide HJ _ _ _ (unhide HJ1) hBz)
            have hzz := hBz.size
            clear hown hst hgr hset hp0 hdd hpop hd0 hBz
            obtain ⟨fn, tm, asg, bd, hy5, hRd⟩ := unhide HY i wz (unhide HJZ) hlt (by omega)
            have hy : (Instr.yield lp #[.int .i64 (i : Int), .int .i64 ((s.length : Int) + 1)]).run Tryz.prog wz = .ok (.round lp fn tm asg bd) wz := by have := hy5; rw [unhide HDEP] at this; exact this
            clear hy5
            gi_wp2
            refine hRd.mono ?_
            rintro x W6 ⟨hk6, hz6, (⟨rfl, hJ6⟩ | ⟨rfl, hJx6⟩)⟩
            · have ho6 : W6.ownsRow W.heap.size 3 1 (.slice (some ⟨g, 0, none⟩) (s.length + 1) cp) (depAt l i) (stC (decT (popZ (stAt l i)))) := ownsRow_heap (unhide HOZ) (fun g hg => hk6 g (.inl ((unhide HOZ).lt g hg)))
              have hb6 : W6.heap[Bx]? = W.heap[Bx]? := (hk6 Bx (.inr (.inl rfl))).trans (unhide HBZ)
              have hc6 : W6.heap[c]? = W.heap[c]? := (hk6 c (.inr (.inr rfl))).trans (unhide HCZ)
              have HO6 := hide ho6
              have HJ6 := hide hJ6
              have HB6 := hide hb6
              have HC6 := hide hc6
              clear ho6 hJ6 hb6 hc6 hk6 hy hRd HDEP HOZ
              gi_wp2_with (gi_at_builtin; refine wpListIn_append_own _ rfl _ _ 27 rfl W.heap.size 3 j0 (.int .i64 0) 1 8 Tryz.underlying27 hj hy0 hy1 hy2 rfl (by decide) _ _ _ rfl ((unhide HO6).alloc _) ⟨W6.heap.size, 0, none⟩ 1 1 [.int .i64 ((nd l i).kids.length : Int)] rfl rfl ?c1 ?c2 ?c3 ?c4 ?c5 ?_)
              case c1 =>
                intro j u hj
                rw [Addr.add_lit, Nat.zero_add, World.cell?_alloc_mark]
                rw [← hj]; simp
              case c2 => intro u hu; simp at hu; rcases hu with rfl; rfl
              case c3 => unfold maxLen; have := hdl; omega
              case c4 => have := hdl; omega
              case c5 => simp; omega
              intro v' w8 hown8 hg8 _
              have hs8 := hg8.size
              simp at hs8
              have hB8 : Below W.heap.size W6 w8 := ⟨hg8.os, hg8.tape, hg8.output, by omega, fun k hk => (hg8.block k (by simp; omega) (fun e => by have := ((unhide HO6).lt k e.symm).1; omega)).trans (Below.heap_alloc _ _ _ (by omega))⟩
              have hlS : (stAt l (i + 1)).length = depAt l i + 1 := by simp [stAt, depAt, decT_len]
              have hcS : stC (stAt l (i + 1)) = stC (decT (popZ (stAt l i))) ++ [.int .i64 ((nd l i).kids.length : Int)] := by simp only [stAt, stC_cons]
              have HI8 : Hid (w8.ownsRow W.heap.size 3 1 v' (stAt l (i + 1)).length (stC (stAt l (i + 1))) ∧ J (i + 1) w8 ∧ w8.heap[Bx]? = W.heap[Bx]? ∧ w8.heap[c]? = W.heap[c]? ∧ W.heap.size ≤ w8.heap.size) := ⟨by rw [hlS, hcS]; exact hown8, unhide HJ _ _ _ (unhide HJ6) hB8, (hB8.block Bx hbl).trans (unhide HB6), (hB8.block c hcl).trans (unhide HC6), by omega⟩
              clear hown8 hg8 hB8 hlS hcS
              gi_wp2
              obtain ⟨z1, z2, z3, z4, z5⟩ := unhide HI8
              exact ⟨⟨i + 1, by omega, by go_num, z1, z2, z3, z4, z5⟩, by simp [intOf]; omega⟩
            · have HJ6 := hide hJx6
              clear hJx6 hk6 hy hRd
              gi_wp2
              refine bodyPost_ret (results_none rfl _ _ _) rfl ?_
              exact ⟨⟨_, rfl⟩, .inr ⟨i + 1, by omega, unhide HJ6⟩⟩
    · have hlt' : ¬ (i : Int) < l.length := by omega
      obtain rfl : i = l.length := by omega
      gi_wp2
      go_end0
      exact ⟨⟨_, rfl⟩, .inl (unhide HJ1)⟩
end Go.Proofs.YtoffpbaddehncaaGreatDoor
