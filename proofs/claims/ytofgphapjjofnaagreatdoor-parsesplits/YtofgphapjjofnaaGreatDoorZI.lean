/- Towards the law: TL TM TO TP TQ. -/
import Derived.Deep.AppendLies
import Derived.Deep.Onto
import Derived.Laws.EntriesVeiled
import Derived.Laws.OwnMore
import Derived.LoopIn
import Derived.LoopN
import Derived.LoopNIn
import Derived.OwnWalk
import Derived.OwnWalkIn
import Derived.RangeFuncBound
import Derived.RangeFuncCalls
import Derived.RangeFuncLeaves
import Derived.RangeFuncNested
import Derived.Shelf.Pu.Clone
import Derived.Shelf.RegionOpen
import Derived.TacticsInMore
import Derived.WalkSmall
import Derived.Test.YtofgphapjjofnaaGreatDoorMC
import Derived.Test.YtofgphapjjofnaaGreatDoorZA
import Derived.Test.YtofgphapjjofnaaGreatDoorZH
set_option linter.unusedSimpArgs false
set_option linter.unusedVariables false
set_option maxRecDepth 100000
set_option maxHeartbeats 8000000
namespace Go.Proofs.YtofgphapjjofnaaGreatDoor.Tr
section
open Go.RowKit Go.Shelf
theorem infoInt : (Tryz.prog.info? 3).map (fun i => (i.zero, i.size, i.bytes)) = some (some (.int .i64 0), 1, 8) := by kernel_rfl
structure NE where
 x : Nd
 a : Option Addr
 cap : Nat
def KidO (W : World) (B : Nat) (e : NE) : Prop := e.x.kids.length ≤ e.cap ∧ e.cap ≤ maxLen ∧ (e.x.kids = [] ∨ ∃ kb cur, e.a = some ⟨kb, 0, none⟩ ∧ B ≤ kb ∧ W.heap[kb]? = some (Obj.cells cur 3 (0, 0)) ∧ ∀ j, j < e.x.kids.length → cur[j]? = some (.int .i64 (e.x.kids.getD j 0)))
theorem KidO.keep {W W' : World} {B : Nat} {e : NE} (h : KidO W B e) (hk : ∀ (k : Nat) (cur : Array Value), W.heap[k]? = some (Obj.cells cur 3 (0, 0)) → W'.heap[k]? = W.heap[k]?) : KidO W' B e := by
 obtain ⟨h1, h2, h3⟩ := h;refine ⟨h1, h2, ?_⟩;rcases h3 with h3 | ⟨kb, cur, ha, hb, hh, hc⟩
 · exact .inl h3
 · exact .inr ⟨kb, cur, ha, hb, (hk kb cur hh).trans hh, hc⟩
theorem KidO.below {W W' : World} {B : Nat} {e : NE} (h : KidO W B e) (hB : Below W.heap.size W W') : KidO W' B e :=
 h.keep fun k cur hk => hB.block k (Array.getElem?_eq_some_iff.1 hk).1
theorem cells5 {W : World} {R : Nat} {x0 x1 x2 x3 x4 : Value} (h : W.heap[R]? = some (.cells #[x0, x1, x2, x3, x4] 34)) : W.cell? ⟨R, 0, none⟩ = some x0 ∧ W.cell? ⟨R, 1, none⟩ = some x1 ∧ W.cell? ⟨R, 2, none⟩ = some x2 ∧ W.cell? ⟨R, 3, none⟩ = some x3 ∧ W.cell? ⟨R, 4, none⟩ = some x4 := by
 refine ⟨?_, ?_, ?_, ?_, ?_⟩ <;> rw [Lib.cell_of_heap h] <;> rfl
theorem setCell_size {w w' : World} {a : Addr} {v : Value} (h : w.setCell a v = w') : w'.heap.size = w.heap.size := by subst h; simp [World.setCell]
def mixF (f : Nat → Value) (n i : Nat) : List Value := (List.range n).map fun j => if j < i then f j else .int .i64 0
theorem mixF_len (f : Nat → Value) (n i : Nat) : (mixF f n i).length = n := by simp [mixF]
theorem mixF_zero (f : Nat → Value) (n : Nat) : mixF f n 0 = List.replicate n (.int .i64 0) := by
 apply List.ext_getElem?
 intro j;by_cases h : j < n <;> simp [mixF, h]
theorem mixF_set (f : Nat → Value) (n i : Nat) (h : i < n) : (mixF f n i).set i (f i) = mixF f n (i + 1) := by
 apply List.ext_getElem?
 intro j;rw [List.getElem?_set, mixF_len];by_cases e : i = j
 · subst e
   rw [if_pos rfl, if_pos h];simp [mixF, h]
 · rw [if_neg e]
   by_cases h2 : j < n
   · simp only [mixF, List.getElem?_map, List.getElem?_range h2, Option.map_some]
     by_cases h3 : j < i
     · rw [if_pos h3, if_pos (by omega)]
     · rw [if_neg h3, if_neg (by omega)]
   · rw [List.getElem?_eq_none (by simp [mixF]; omega), List.getElem?_eq_none (by simp [mixF]; omega)]
theorem mixF_get (f : Nat → Value) (n i j : Nat) (h : j < n) (hi : n ≤ i) : (mixF f n i)[j]? = some (f j) := by
 simp [mixF, h, show j < i from by omega]
def cntV (l : List Nd) (j : Nat) : Value := .int .i64 ((nd l j).kids.length : Int)
def WalkMade (W : World) (l : List Nd) (e : Ending) (w' : World) : Prop :=
 ∃ Bx c, e = .returned (.func (.func 45) #[] #[.pointer (some ⟨Bx, 0, none⟩)]) ∧ Boxed w' Bx 32 (.slice (some ⟨c, 0, none⟩) l.length l.length) ∧ w'.ownsRow W.heap.size 3 1 (.slice (some ⟨c, 0, none⟩) l.length l.length) l.length (mixF (cntV l) l.length l.length) ∧ W.heap.size ≤ Bx ∧ Below W.heap.size W w'
theorem walk_good (W : World) (M : Nat) (v : Value) (l : List Nd) (hN : Nodes W M v l) (hM : M ≤ W.heap.size) (h : (chkP l).2 = 0) :
 Calls Tryz.prog 23 #[.agg #[v]] W (WalkMade W l) := by
 obtain ⟨j0, hj, hy0, hy1, hy2⟩ := info_parts infoInt;have hB0 : Below W.heap.size W (W.alloc (.cells #[v] 25)) := (Below.refl _ W).alloc NL _;have HC := Hi (check_ok _ M v l (hN.keep hB0 hM) (Nat.le_trans hM hB0.size));have HN := Hi hN;have hlen := hN.1;obtain ⟨va, vc, rfl, hvc, hvm⟩ := hN.len;obtain ⟨cp, hcp⟩ : ∃ cp, chkP l = cp := ⟨_, rfl⟩;rw [hcp] at HC h;obtain ⟨p1, p2⟩ := cp;simp only at h HC;subst h;clear hN hcp;have hX0 : (W.alloc (.cells #[.slice va l.length vc] 25)).heap[W.heap.size]? = some (.cells #[.slice va l.length vc] 25) := World.alloc_heap_new W _;have HX0 := Hi hX0;clear hX0;go_enter Tryz.func23, Tryz.ntmps23;go_wp2_with (first | (go_at_call 9; refine (U HC).mono ?_; rintro e w2 ⟨rfl, hB2⟩; have hX2 := (hB2.block W.heap.size (by simp)).trans (U HX0); have cX2 : w2.cell? ⟨W.heap.size, 0, none⟩ = some (.slice va l.length vc) := (by rw [Lib.cell_of_heap hX2]; rfl); have hs2 : W.heap.size < w2.heap.size := (by have := hB2.size; simp at this; omega); have HX2 := Hi hX2; clear hX2) | (at_make; refine wpList_make_full _ rfl _ _ 32 rfl W.heap.size 3 j0 (.int .i64 0) 1 Tryz.underlying32 hj hy0 hy1 .i64 .i64 (l.length : Int) (l.length : Int) l.length rfl rfl rfl rfl ?m1 ?m2 ?m3 ?_))
 case m1 => rw [hy2]; omega
 case m2 => unfold maxLen; omega
 case m3 => omega
 intro w3 hown3 hg3;have hz3 : w2.heap.size < w3.heap.size := (hown3.lt w2.heap.size (by simp [Value.ownBlock])).2;have e0 : (madeCells #[Value.int .i64 0] l.length).toList = mixF (cntV l) l.length 0 := by rw [mixF_zero]; exact toList_madeCells_one _ _
 have hown3' : w3.ownsRow W.heap.size 3 1 (.slice (some ⟨w2.heap.size, 0, none⟩) l.length l.length) l.length (mixF (cntV l) l.length 0) := by rw [← e0]; simpa using hown3
 have hB3 : Below W.heap.size W w3 := (hB0.trans (hB2.mono hB0.size)).grown hg3 (by omega) (fun k hk => by cases hk);have hX3 : w3.heap[W.heap.size]? = some (.cells #[.slice va l.length vc] 25) := (hg3.block _ hs2 (by simp)).trans (U HX2)
 have cX3 : ∀ o, (w3.alloc o).cell? ⟨W.heap.size, 0, none⟩ = some (.slice va l.length vc) := fun o => by
  rw [Lib.cell_of_heap ((Below.heap_alloc w3 o _ (by omega)).trans hX3)]; rfl
 have HO3 := Hi (hown3'.alloc (.cells #[.slice (some ⟨w2.heap.size, 0, none⟩) l.length l.length] 32));have HBX := Hi (Boxed.new w3 32 (.slice (some ⟨w2.heap.size, 0, none⟩) l.length l.length));have HB4 := Hi (hB3.alloc (by omega) (.cells #[.slice (some ⟨w2.heap.size, 0, none⟩) l.length l.length] 32));clear hown3 hown3' e0 hX3 hg3;go_wp2;clear cX3;go_loopw [22] (fun t22 wr => ∃ i : Nat, i ≤ l.length ∧ t22 = .int .i64 (i : Int) ∧ wr.ownsRow W.heap.size 3 1 (.slice (some ⟨w2.heap.size, 0, none⟩) l.length l.length) l.length (mixF (cntV l) l.length i) ∧ Boxed wr w3.heap.size 32 (.slice (some ⟨w2.heap.size, 0, none⟩) l.length l.length) ∧ Below W.heap.size W wr) (fun t22 _ => l.length - (intOf t22).toNat)
 case atStart => exact ⟨0, Nat.zero_le _, rfl, U HO3, U HBX, U HB4⟩
 case round =>
  obtain ⟨i, hil, rfl, hown, hbx, hB⟩ := hrel;have HO := Hi hown;have HBX' := Hi hbx;have cb := hbx.cell;have hbl := hbx.lt;clear hown hbx;by_cases hlt : i < l.length
  · have hlt' : (i : Int) < l.length := by omega
    obtain ⟨b, o, cap', ka, kc, hv, _, _, hb, d0, d1, d2, d3, d4, _, _, _⟩ := ((U HN).keep hB hM).at hlt;obtain ⟨rfl, rfl⟩ : va = some ⟨b, o, none⟩ ∧ cap' = vc := by injection hv with h1 _ h3; exact ⟨h1, h3.symm⟩
    have hbw : b < wr.heap.size := by have := hB.size; omega
    have hkl := ((U HN).2.1 i hlt).2;clear hv;obtain ⟨x, hnd⟩ : ∃ x, nd l i = x := ⟨_, rfl⟩;rw [hnd] at d0 d1 d2 d3 d4 hkl;have HND := Hi hnd;obtain ⟨kd, tx, nm, ks, at'⟩ := x;simp only at d0 d1 d2 d3 d4 hkl;clear hnd;obtain ⟨w1, hw1⟩ : ∃ w1, wr.alloc (.cells #[.int .i64 kd, .string tx, .int .i64 nm, .slice ka ks.length kc, .int .i64 at'] 34) = w1 := ⟨_, rfl⟩;have ho1 := (U HO).alloc (.cells #[.int .i64 kd, .string tx, .int .i64 nm, .slice ka ks.length kc, .int .i64 at'] 34);have hb1 := (U HBX').alloc (.cells #[.int .i64 kd, .string tx, .int .i64 nm, .slice ka ks.length kc, .int .i64 at'] 34);have hB1 := hB.alloc hB.size (.cells #[.int .i64 kd, .string tx, .int .i64 nm, .slice ka ks.length kc, .int .i64 at'] 34);have h29 := World.alloc_heap_new wr (.cells #[.int .i64 kd, .string tx, .int .i64 nm, .slice ka ks.length kc, .int .i64 at'] 34);have hsz1 : w1.heap.size = wr.heap.size + 1 := by rw [← hw1]; simp
    rw [hw1] at ho1 hb1 hB1 h29;have cb1 := hb1.cell;have k29 := (cells5 h29).2.2.2.1
    have ci : ∃ x, w1.cell? ⟨w2.heap.size, i, none⟩ = some x := by
     rw [ho1.cellAt i (by omega)];exact ⟨_, List.getElem?_eq_getElem (by rw [mixF_len]; exact hlt)⟩
    obtain ⟨xi, ci⟩ := ci;have fi := ho1.frozenAt i;obtain ⟨hst, hgr⟩ := ho1.stored i (.int .i64 (ks.length : Int));have e2 : Value.int .i64 (ks.length : Int) = cntV l i := by rw [cntV, U HND]
    rw [e2, mixF_set _ _ _ hlt, ← e2] at hst;have hb1' : Boxed (w1.setCell ⟨w2.heap.size, i, none⟩ (.int .i64 (ks.length : Int))) w3.heap.size 32 (.slice (some ⟨w2.heap.size, 0, none⟩) l.length l.length) := (Below.heap_setCell _ _ _ _ (by simp; omega)).trans hb1;have hB1' := hB1.setCell (p := ⟨w2.heap.size, i, none⟩) (by simp; omega) (.int .i64 (ks.length : Int));have HST := Hi hst;have HB1 := Hi hb1';have HBB := Hi hB1';have hlw : w2.heap.size < w1.heap.size := (ho1.lt _ rfl).2;clear hst hgr hb1' hB1' ho1 hb1 h29 hB1 e2;go_wp2;exact ⟨⟨i + 1, by omega, by go_num, U HST, U HB1, U HBB⟩, by simp [intOf]; omega⟩
  · have hlt' : ¬ (i : Int) < l.length := by omega
    obtain rfl : i = l.length := by omega
    go_wp2;go_ret;exact ⟨w3.heap.size, w2.heap.size, rfl, U HBX', U HO, by omega, hB⟩
def popZ : List Int → List Int
 | [] => []
 | c :: st => if c = 0 then popZ st else c :: st
def decT : List Int → List Int
 | [] => []
 | c :: st => (c - 1) :: st
def stAt (l : List Nd) : Nat → List Int
 | 0 => []
 | i + 1 => ((nd l i).kids.length : Int) :: decT (popZ (stAt l i))
def depAt (l : List Nd) (i : Nat) : Nat := (popZ (stAt l i)).length
theorem popZ_len : ∀ st : List Int, (popZ st).length ≤ st.length
 | [] => NL
 | c :: st => by
   simp only [popZ];split
   · have := popZ_len st; simp; omega
   · simp
theorem decT_len (st : List Int) : (decT st).length = st.length := by cases st <;> simp [decT]
theorem stAt_len (l : List Nd) : ∀ i, (stAt l i).length ≤ i
 | 0 => NL
 | i + 1 => by
   simp only [stAt, List.length_cons, decT_len];have := popZ_len (stAt l i);have := stAt_len l i;omega
def Fin' (st : List Int) : Prop := ∀ c ∈ st, 0 ≤ c ∧ c ≤ 17592186044416
theorem popZ_fin : ∀ {st : List Int}, Fin' st → Fin' (popZ st)
 | [], h => h
 | c :: st, h => by
   simp only [popZ];split
   · exact popZ_fin fun x hx => h x (by simp [hx])
   · exact h
theorem popZ_top : ∀ {st : List Int} {c : Int} {s : List Int}, popZ st = c :: s → c ≠ 0
 | [], c, s, h => by cases h
 | d :: st, c, s, h => by
   simp only [popZ] at h;split at h
   · exact popZ_top h
   · rename_i hd; cases h; exact hd
theorem stAt_fin {l : List Nd} (hl : ∀ j, j < l.length → (nd l j).kids.length ≤ 17592186044416) : ∀ {i}, i ≤ l.length → Fin' (stAt l i)
 | 0, _ => fun c hc => by cases hc
 | i + 1, hi => by
   have h1 := popZ_fin (stAt_fin hl (i := i) (by omega));intro c hc;simp only [stAt] at hc;rcases List.mem_cons.1 hc with rfl | hc
   · have := hl i (by omega); omega
   · cases hp : popZ (stAt l i) with
     | nil => rw [hp] at hc; cases hc
     | cons d s =>
       rw [hp] at hc h1;rcases List.mem_cons.1 hc with rfl | hc
       · have := h1 d (by simp); have := popZ_top hp; omega
       · exact h1 c (by simp [hc])
def stC (st : List Int) : List Value := (st.reverse).map (Value.int .i64)
theorem stC_cons (c : Int) (st : List Int) : stC (c :: st) = stC st ++ [.int .i64 c] := by simp [stC]
theorem stC_len (st : List Int) : (stC st).length = st.length := by simp [stC]
theorem ownsRow_heap {w w' : World} {base : Nat} {e : TypeId} {size : Nat} {v : Value} {n : Nat} {xs : List Value} (h : w.ownsRow base e size v n xs) (hk : ∀ g, v.ownBlock = some g → w'.heap[g]? = w.heap[g]?) : w'.ownsRow base e size v n xs := by
 obtain ⟨h1, h2⟩ := h;refine ⟨h1, ?_⟩;rcases h2 with h2 | ⟨g, cap, cur, hv, hb, hh, r⟩
 · exact .inl h2
 · exact .inr ⟨g, cap, cur, hv, hb, (hk g (by rw [hv]; rfl)).trans hh, r⟩
theorem stack27_pop (g n cap h : Nat) (hh : h ≤ n) (hc : n ≤ cap) (W' : World) : (Instr.slice 32 (.slice (some ⟨g, 0, none⟩) n cap) none (some (.int .i64 (h : Int))) none).run Tryz.prog W' = .ok (.slice (some ⟨g, 0, none⟩) h cap) W' := by
 rw [run_slice_h W' 32 (some ⟨g, 0, none⟩) n cap under27 .i64 h (by omega) (by omega), elem27, size3];simp [sliced, Result.andThen];intro _; rfl
theorem walk2_in (n : Nat) (hn : 1 ≤ n) (lp Bx c : Nat) (l : List Nd) (hl : ∀ j, j < l.length → (nd l j).kids.length ≤ 17592186044416) (hlen : l.length ≤ 2199023255552) (W : World) (J Jx : Nat → World → Prop)
 (hbx : Boxed W Bx 32 (.slice (some ⟨c, 0, none⟩) l.length l.length)) (hrow : W.ownsRow 0 3 1 (.slice (some ⟨c, 0, none⟩) l.length l.length) l.length (mixF (cntV l) l.length l.length))
 (hJ : ∀ i A B, J i A → Below W.heap.size A B → J i B)
 (hY : ∀ i A, J i A → i < l.length → W.heap.size ≤ A.heap.size → YieldAt Fence.wide (n - 1) Tryz.prog lp #[.int .i64 (i : Int), .int .i64 (depAt l i : Int)] A fun e A' =>
  (∀ k, (W.heap.size ≤ k ∧ k < A.heap.size) ∨ k = Bx ∨ k = c → A'.heap[k]? = A.heap[k]?) ∧ A.heap.size ≤ A'.heap.size ∧ ((e = .returned (.bool true) ∧ J (i + 1) A') ∨ (e = .returned (.bool false) ∧ Jx (i + 1) A')))
 (h0 : J 0 W) :
 CallsIn Fence.wide n Tryz.prog 45 #[.func (.yield lp) #[] #[], .pointer (some ⟨Bx, 0, none⟩)] W fun e W' => (∃ v, e = .returned v) ∧ (J l.length W' ∨ ∃ i, i ≤ l.length ∧ Jx i W') := by
 obtain ⟨j0, hj, hy0, hy1, hy2⟩ := info_parts infoInt;have HJ := Hi hJ;have HY := Hi hY;have H0 := Hi h0;have HL := Hi hl;have HROW := Hi hrow;have HBX := Hi hbx;have cb := hbx.cell;have hbl := hbx.lt;clear hJ hY h0 hl hrow hbx;refine callsIn_of_wp Tryz.func45 rfl trivial ?_ rfl;simp only [Tryz.ntmps45, List.size_toArray, List.length_cons, List.length_nil, Nat.reduceAdd, Nat.reduceSub, Array.replicate_succ, Array.replicate_zero, List.push_toArray, List.append_toArray, List.nil_append, List.cons_append];gi_wp2
 gi_loopw [3, 8] (fun t3 t8 wr => ∃ i : Nat, i ≤ l.length ∧ t8 = .int .i64 (i : Int) ∧ wr.ownsRow W.heap.size 3 1 t3 (stAt l i).length (stC (stAt l i)) ∧ J i wr ∧ wr.heap[Bx]? = W.heap[Bx]? ∧ wr.heap[c]? = W.heap[c]? ∧ W.heap.size ≤ wr.heap.size) (fun _ t8 _ => l.length - (intOf t8).toNat)
 case atStart => exact ⟨0, Nat.zero_le _, rfl, World.ownsRow_nil _ _ _ _, U H0, rfl, rfl, NL⟩
 case round =>
  obtain ⟨i, hil, rfl, hown, hj1, hbb, hcc, hsz⟩ := hrel;have hcl : c < W.heap.size := ((U HROW).lt c rfl).2;have hcr : wr.cell? ⟨c, i, none⟩ = W.cell? ⟨c, i, none⟩ := World.cell?_of_block (w := W) hcc;have HOWN := Hi hown;have HJ1 := Hi hj1;have HBB := Hi hbb;have HCC := Hi hcc;clear hown hj1 hbb hcc;obtain ⟨w0, hw0⟩ : ∃ w0, w0 = wr := ⟨_, rfl⟩;subst hw0;by_cases hlt : i < l.length
  · have hlt' : (i : Int) < l.length := by omega
    have dci : w0.cell? ⟨c, i, none⟩ = some (.int .i64 ((nd l i).kids.length : Int)) := by rw [hcr, (U HROW).cellAt i (by omega), mixF_get _ _ _ _ hlt NL]; rfl
    have hcw : c < w0.heap.size := by omega
    have hki := U HL i hlt;clear hcr;gi_wp2
    gi_loopw [3] (fun t3 wq => ∃ st : List Int, popZ st = popZ (stAt l i) ∧ st.length ≤ i ∧ Fin' st ∧ wq.ownsRow W.heap.size 3 1 t3 st.length (stC st) ∧ wq = w0) (fun t3 _ => match t3 with | .slice _ n _ => n | _ => 0)
    case atStart => exact ⟨stAt l i, rfl, stAt_len l i, stAt_fin (U HL) hil, U HOWN, rfl⟩
    case round =>
     obtain ⟨st, hpop, hsl, hfin, hown, hw⟩ := hrel;subst hw;cases st with
     | nil =>
       obtain ⟨ao, cp, hu3⟩ : ∃ ao cp, u3 = .slice ao 0 cp := by
        rcases hown.2 with ⟨h, _⟩ | ⟨gw, cap, cur, h, _⟩
        · exact ⟨none, 0, h⟩
        · exact ⟨_, cap, h⟩
       subst hu3;have hp0 : popZ (stAt l i) = [] := hpop.symm;have hd0 : depAt l i = 0 := by simp [depAt, hp0]
       have HDEP : Hid (((depAt l i : Nat) : Int) = 0) := by show ((depAt l i : Nat) : Int) = 0; rw [hd0]; rfl
       have hdl : depAt l i ≤ i := by omega
       have HOZ : Hid (wr.ownsRow W.heap.size 3 1 (.slice ao 0 cp) (depAt l i) (stC (decT (popZ (stAt l i))))) := by rw [hd0, hp0]; exact hown
       have HBZ := HBB;have HCZ := HCC;clear hown hpop hp0 hd0;obtain ⟨fn, tm, asg, bd, hy5, hRd⟩ := U HY i wr (U HJ1) hlt (by omega);have hy : (Instr.yield lp #[.int .i64 (i : Int), .int .i64 0]).run Tryz.prog wr = .ok (.round lp fn tm asg bd) wr := by have := hy5; rw [U HDEP] at this; exact this
       clear hy5;gi_wp2
       refine hRd.mono ?_;rintro x W6 ⟨hk6, hz6, (⟨rfl, hJ6⟩ | ⟨rfl, hJx6⟩)⟩
       · have ho6 : W6.ownsRow W.heap.size 3 1 (.slice ao 0 cp) (depAt l i) (stC (decT (popZ (stAt l i)))) := ownsRow_heap (U HOZ) (fun g hg => hk6 g (.inl ((U HOZ).lt g hg)))
         have hb6 : W6.heap[Bx]? = W.heap[Bx]? := (hk6 Bx (.inr (.inl rfl))).trans (U HBZ);have hc6 : W6.heap[c]? = W.heap[c]? := (hk6 c (.inr (.inr rfl))).trans (U HCZ);have HO6 := Hi ho6;have HJ6 := Hi hJ6;have HB6 := Hi hb6;have HC6 := Hi hc6;clear ho6 hJ6 hb6 hc6 hk6 hy hRd HDEP HOZ;gi_wp2_with (gi_at_builtin; refine wpListIn_append_own _ rfl _ _ 32 rfl W.heap.size 3 j0 (.int .i64 0) 1 8 Tryz.underlying32 hj hy0 hy1 hy2 rfl (by decide) _ _ _ rfl ((U HO6).alloc _) ⟨W6.heap.size, 0, none⟩ 1 1 [.int .i64 ((nd l i).kids.length : Int)] rfl rfl ?c1 ?c2 ?c3 ?c4 ?c5 ?_)
         case c1 =>
          intro j u hj;rw [Addr.add_lit, Nat.zero_add, World.cell?_alloc_mark];rw [← hj]; simp
         case c2 => intro u hu; simp at hu; rcases hu with rfl; rfl
         case c3 => unfold maxLen; have := hdl; omega
         case c4 => have := hdl; omega
         case c5 => simp; omega
         intro v' w8 hown8 hg8 _;have hs8 := hg8.size;simp at hs8;have hB8 : Below W.heap.size W6 w8 := ⟨hg8.os, hg8.tape, hg8.output, by omega, fun k hk => (hg8.block k (by simp; omega) (fun e => by have := ((U HO6).lt k e.symm).1; omega)).trans (Below.heap_alloc _ _ _ (by omega))⟩;have hlS : (stAt l (i + 1)).length = depAt l i + 1 := by simp [stAt, depAt, decT_len]
         have hcS : stC (stAt l (i + 1)) = stC (decT (popZ (stAt l i))) ++ [.int .i64 ((nd l i).kids.length : Int)] := by simp only [stAt, stC_cons]
         have HI8 : Hid (w8.ownsRow W.heap.size 3 1 v' (stAt l (i + 1)).length (stC (stAt l (i + 1))) ∧ J (i + 1) w8 ∧ w8.heap[Bx]? = W.heap[Bx]? ∧ w8.heap[c]? = W.heap[c]? ∧ W.heap.size ≤ w8.heap.size) := ⟨by rw [hlS, hcS]; exact hown8, U HJ _ _ _ (U HJ6) hB8, (hB8.block Bx hbl).trans (U HB6), (hB8.block c hcl).trans (U HC6), by omega⟩;clear hown8 hg8 hB8 hlS hcS;gi_wp2
         obtain ⟨z1, z2, z3, z4, z5⟩ := U HI8;exact ⟨⟨i + 1, by omega, by go_num, z1, z2, z3, z4, z5⟩, by simp [intOf]; omega⟩
       · have HJ6 := Hi hJx6
         clear hJx6 hk6 hy hRd;gi_wp2
         refine bodyPost_ret (results_none rfl _ _ _) rfl ?_;exact ⟨⟨_, rfl⟩, .inr ⟨i + 1, by omega, U HJ6⟩⟩
     | cons d s =>
       have hsl' : s.length + 1 ≤ i := by simpa using hsl
       obtain ⟨g, cp, hu3, hgl, hcp⟩ : ∃ g cp, u3 = .slice (some ⟨g, 0, none⟩) (s.length + 1) cp ∧ g < wr.heap.size ∧ s.length + 1 ≤ cp := by
        rcases hown.2 with ⟨_, h⟩ | ⟨gw, cap, cur, h, _, hh, h1, _⟩
        · simp at h
        · exact ⟨gw, cap, h, (Array.getElem?_eq_some_iff.1 hh).1, h1⟩
       subst hu3;rw [stC_cons, List.length_cons] at hown;have hgb : W.heap.size ≤ g := (hown.lt g rfl).1
       have ct : wr.cell? ⟨g, s.length, none⟩ = some (.int .i64 d) := by
        rw [hown.cellAt s.length (by omega), List.getElem?_append_right (by rw [stC_len]; omega), stC_len, Nat.sub_self]; rfl
       have ft : wr.frozen? ⟨g, s.length, none⟩ = false := hown.frozenAt _;have hd := hfin d (by simp);by_cases hd0 : d = 0
       · subst hd0
         have hpop27 := stack27_pop g (s.length + 1) cp s.length (by omega) hcp;have HO2 := Hi (ownsRow_pop (by rw [stC_len]; omega) hown);have HP := Hi hpop;clear hown hpop;gi_wp2
         refine ⟨⟨s, ?_, by omega, fun x hx => hfin x (by simp [hx]), U HO2, trivial⟩, by simp⟩;have := U HP;simpa [popZ] using this
       · have hd0' : (d == 0) = false := by simpa using hd0
         have hp0 : popZ (stAt l i) = d :: s := by rw [← hpop]; simp [popZ, hd0]
         have hdd : depAt l i = s.length + 1 := by simp [depAt, hp0]
         have HDEP : Hid (((depAt l i : Nat) : Int) = (s.length : Int) + 1) := by show ((depAt l i : Nat) : Int) = _; rw [hdd]; simp
         have hdl : depAt l i ≤ i := by omega
         obtain ⟨hst, hgr⟩ := hown.stored s.length (.int .i64 (d - 1))
         have hset : (stC s ++ [Value.int .i64 d]).set s.length (.int .i64 (d - 1)) = stC (decT (popZ (stAt l i))) := by
          rw [hp0, decT, stC_cons, List.set_append_right _ _ (by rw [stC_len]; omega), stC_len, Nat.sub_self]; rfl
         rw [hset, ← hdd] at hst;obtain ⟨wz, hwz⟩ : ∃ wz, wr.setCell ⟨g, s.length, none⟩ (.int .i64 (d - 1)) = wz := ⟨_, rfl⟩;rw [hwz] at hst hgr;have hBz : Below W.heap.size wr wz := by rw [← hwz]; exact (Below.refl _ _).setCell (p := ⟨g, s.length, none⟩) hgb _
         have HOZ : Hid (wz.ownsRow W.heap.size 3 1 (.slice (some ⟨g, 0, none⟩) (s.length + 1) cp) (depAt l i) (stC (decT (popZ (stAt l i))))) := by rw [hdd] at hst ⊢; exact hst
         have HBZ : Hid (wz.heap[Bx]? = W.heap[Bx]?) := (hBz.block Bx hbl).trans (U HBB);have HCZ : Hid (wz.heap[c]? = W.heap[c]?) := (hBz.block c hcl).trans (U HCC);have HJZ := Hi (U HJ _ _ _ (U HJ1) hBz);have hzz := hBz.size;clear hown hst hgr hset hp0 hdd hpop hd0 hBz;obtain ⟨fn, tm, asg, bd, hy5, hRd⟩ := U HY i wz (U HJZ) hlt (by omega);have hy : (Instr.yield lp #[.int .i64 (i : Int), .int .i64 ((s.length : Int) + 1)]).run Tryz.prog wz = .ok (.round lp fn tm asg bd) wz := by have := hy5; rw [U HDEP] at this; exact this
         clear hy5;gi_wp2
         refine hRd.mono ?_;rintro x W6 ⟨hk6, hz6, (⟨rfl, hJ6⟩ | ⟨rfl, hJx6⟩)⟩
         · have ho6 : W6.ownsRow W.heap.size 3 1 (.slice (some ⟨g, 0, none⟩) (s.length + 1) cp) (depAt l i) (stC (decT (popZ (stAt l i)))) := ownsRow_heap (U HOZ) (fun g hg => hk6 g (.inl ((U HOZ).lt g hg)))
           have hb6 : W6.heap[Bx]? = W.heap[Bx]? := (hk6 Bx (.inr (.inl rfl))).trans (U HBZ);have hc6 : W6.heap[c]? = W.heap[c]? := (hk6 c (.inr (.inr rfl))).trans (U HCZ);have HO6 := Hi ho6;have HJ6 := Hi hJ6;have HB6 := Hi hb6;have HC6 := Hi hc6;clear ho6 hJ6 hb6 hc6 hk6 hy hRd HDEP HOZ;gi_wp2_with (gi_at_builtin; refine wpListIn_append_own _ rfl _ _ 32 rfl W.heap.size 3 j0 (.int .i64 0) 1 8 Tryz.underlying32 hj hy0 hy1 hy2 rfl (by decide) _ _ _ rfl ((U HO6).alloc _) ⟨W6.heap.size, 0, none⟩ 1 1 [.int .i64 ((nd l i).kids.length : Int)] rfl rfl ?c1 ?c2 ?c3 ?c4 ?c5 ?_)
           case c1 =>
            intro j u hj;rw [Addr.add_lit, Nat.zero_add, World.cell?_alloc_mark];rw [← hj]; simp
           case c2 => intro u hu; simp at hu; rcases hu with rfl; rfl
           case c3 => unfold maxLen; have := hdl; omega
           case c4 => have := hdl; omega
           case c5 => simp; omega
           intro v' w8 hown8 hg8 _;have hs8 := hg8.size;simp at hs8;have hB8 : Below W.heap.size W6 w8 := ⟨hg8.os, hg8.tape, hg8.output, by omega, fun k hk => (hg8.block k (by simp; omega) (fun e => by have := ((U HO6).lt k e.symm).1; omega)).trans (Below.heap_alloc _ _ _ (by omega))⟩;have hlS : (stAt l (i + 1)).length = depAt l i + 1 := by simp [stAt, depAt, decT_len]
           have hcS : stC (stAt l (i + 1)) = stC (decT (popZ (stAt l i))) ++ [.int .i64 ((nd l i).kids.length : Int)] := by simp only [stAt, stC_cons]
           have HI8 : Hid (w8.ownsRow W.heap.size 3 1 v' (stAt l (i + 1)).length (stC (stAt l (i + 1))) ∧ J (i + 1) w8 ∧ w8.heap[Bx]? = W.heap[Bx]? ∧ w8.heap[c]? = W.heap[c]? ∧ W.heap.size ≤ w8.heap.size) := ⟨by rw [hlS, hcS]; exact hown8, U HJ _ _ _ (U HJ6) hB8, (hB8.block Bx hbl).trans (U HB6), (hB8.block c hcl).trans (U HC6), by omega⟩;clear hown8 hg8 hB8 hlS hcS;gi_wp2
           obtain ⟨z1, z2, z3, z4, z5⟩ := U HI8;exact ⟨⟨i + 1, by omega, by go_num, z1, z2, z3, z4, z5⟩, by simp [intOf]; omega⟩
         · have HJ6 := Hi hJx6
           clear hJx6 hk6 hy hRd;gi_wp2
           refine bodyPost_ret (results_none rfl _ _ _) rfl ?_;exact ⟨⟨_, rfl⟩, .inr ⟨i + 1, by omega, U HJ6⟩⟩
  · have hlt' : ¬ (i : Int) < l.length := by omega
    obtain rfl : i = l.length := by omega
    gi_wp2
    go_end0
    exact ⟨⟨_, rfl⟩, .inl (U HJ1)⟩
end
section
open Go.RowKit Go.Shelf
attribute [local go_sem] Oper.semAt_some
def mdp (l : List Nd) : Nat → Int
 | 0 => 0
 | i + 1 => max (mdp l i) (depAt l i : Int)
theorem ranged_l (w : World) (r : Loop) : (ranged w r).heap[w.heap.size + 1]? = some (.loop r) := by
 have := World.alloc_heap_new (w.alloc (.deferred (some []))) (.loop r);rw [World.size_alloc] at this;exact this
theorem ranged_d (w : World) (r : Loop) : (ranged w r).heap[w.heap.size]? = some (.deferred (some [])) := (Below.heap_alloc _ _ _ (by simp)).trans (World.alloc_heap_new w _)
theorem ranged_size (w : World) (r : Loop) : (ranged w r).heap.size = w.heap.size + 1 + 1 := by simp [ranged]
theorem ranged_below (w : World) (r : Loop) : Below w.heap.size w (ranged w r) := ((Below.refl _ w).alloc NL _).alloc (by simp) _
theorem enter35 : ∀ args w, (callFunc 45 args).run Tryz.prog w = .ok (.enter 45 args) w := enters_of Tryz.func45 (by kernel_rfl) rfl
theorem grownBy_putObj' (w : World) (k : Nat) (o : Obj) : w.grownBy (w.putObj k o) (some k) := ⟨rfl, rfl, rfl, by simp, fun i _ hne => World.putObj_heap_other (fun e => hne (by rw [e]))⟩
def DJ (w : World) (lp D N : Nat) (rc : Loop) (l : List Nd) (i : Nat) (A : World) : Prop :=
 A.heap[lp]? = some (.loop rc) ∧ A.heap[D]? = some (.deferred (some [])) ∧ Boxed A (w.heap.size + 1) 3 (.int .i64 (mdp l i)) ∧ Below w.heap.size w A ∧ N ≤ A.heap.size
theorem DJ.below {w : World} {lp D N : Nat} {rc : Loop} {l : List Nd} {i : Nat} {A C : World} (h : DJ w lp D N rc l i A) (hB : Below N A C) (h1 : lp < N) (h2 : D < N) (h3 : w.heap.size + 1 < N) : DJ w lp D N rc l i C := by
 obtain ⟨a1, a2, a3, a4, a5⟩ := h;exact ⟨(hB.block lp h1).trans a1, (hB.block D h2).trans a2, (hB.block _ h3).trans a3, a4.trans (hB.mono (by omega)), Nat.le_trans a5 hB.size⟩
theorem depth_good (w : World) (M : Nat) (v : Value) (l : List Nd) (hN : Nodes w M v l) (hM : M ≤ w.heap.size) (h : (chkP l).2 = 0) :
 CallsIn Fence.wide 8 Tryz.prog 14 #[.agg #[v]] w fun e w' => e = .returned (.int .i64 (mdp l l.length)) ∧ Below w.heap.size w w' := by
 obtain ⟨W1, hW1⟩ : ∃ W1, (w.alloc (.cells #[v] 25)).alloc (.cells #[.int .i64 0] 3) = W1 := ⟨_, rfl⟩;have hB1 : Below w.heap.size w W1 := by rw [← hW1]; exact ((Below.refl _ w).alloc NL _).alloc (by simp) _
 have hz1 : W1.heap.size = w.heap.size + 1 + 1 := by rw [← hW1]; simp
 have b1 : Boxed W1 (w.heap.size + 1) 3 (.int .i64 0) := by
  have := Boxed.new (w.alloc (.cells #[v] 25)) 3 (.int .i64 0);rw [World.size_alloc] at this;rw [← hW1]; exact this
 have HW : Hid (Calls Tryz.prog 23 #[.agg #[v]] ((w.alloc (.cells #[v] 25)).alloc (.cells #[.int .i64 0] 3)) (WalkMade W1 l)) := by rw [hW1]; exact walk_good W1 M v l (hN.keep hB1 hM) (Nat.le_trans hM hB1.size) h
 have hlen := hN.1;have hkids : ∀ j, j < l.length → (nd l j).kids.length ≤ 17592186044416 := fun j hj => (hN.2.1 j hj).2
 obtain ⟨va, vc, rfl, _, _⟩ := hN.len;have HB1 := Hi b1;have HKD := Hi hkids;clear hN b1 hkids hW1;refine callsIn_of_wp_marks Tryz.func14 rfl trivial ?_ rfl;simp only [Tryz.ntmps14, List.size_toArray, List.length_cons, List.length_nil, Nat.reduceAdd, Nat.reduceSub, Array.replicate_succ, Array.replicate_zero, List.push_toArray, List.append_toArray, List.nil_append, List.cons_append];gi_wp2_with (refine ⟨trivial, ?_⟩; gi_at_call 23; refine (callsIn_wide.2 (U HW)).mono ?_; rintro e W2 ⟨Bx, c, rfl, hbx, hrow, hBx1, hB2⟩)
 have hz2 := hB2.size;have hbl := hbx.lt;refine range_enter rfl (by omega) (gf := 45) (lb := #[.pointer (some ⟨Bx, 0, none⟩)]) rfl trivial enter35 ?_;intro fn hfn;generalize hrc : recOf fn _ _ _ _ _ _ _ = rc;obtain ⟨W3, hW3⟩ : ∃ W3, ranged W2 rc = W3 := ⟨_, rfl⟩;have hz3 : W3.heap.size = W2.heap.size + 1 + 1 := by rw [← hW3]; exact ranged_size W2 rc
 have hB3 : Below W2.heap.size W2 W3 := by rw [← hW3]; exact ranged_below W2 rc
 have hl3 : W3.heap[W2.heap.size + 1]? = some (.loop rc) := by rw [← hW3]; exact ranged_l W2 rc
 have hd3 : W3.heap[W2.heap.size]? = some (.deferred (some [])) := by rw [← hW3]; exact ranged_d W2 rc
 rw [hW3];clear hW3;have hB13 : Below W1.heap.size W1 W3 := hB2.trans (hB3.mono hz2);have hj0 : DJ w (W2.heap.size + 1) W2.heap.size W3.heap.size rc l 0 W3 := ⟨hl3, hd3, (hB13.block _ (by omega)).trans (U HB1), hB1.trans (hB13.mono hB1.size), NL⟩;have hcl : c < W2.heap.size := (hrow.lt c rfl).2;have hcb : W1.heap.size ≤ c := (hrow.lt c rfl).1
 obtain ⟨curc, hcurc⟩ : ∃ cur, W2.heap[c]? = some (.cells cur 3 (0, 0)) := by
  rcases hrow.2 with ⟨h', _⟩ | ⟨g', cap', cur, h', _, hg, _⟩
  · cases h'
  · cases h'; exact ⟨cur, hg⟩
 refine (walk2_in 7 (by omega) (W2.heap.size + 1) Bx c l (U HKD) hlen W3 (DJ w (W2.heap.size + 1) W2.heap.size W3.heap.size rc l) (fun _ _ => False) ((hB3.block Bx hbl).trans hbx) (ownsRow_heap (hrow.mono (Nat.zero_le _)) (fun g hg => hB3.block g ((hrow.lt g hg).2))) (fun i A C hj hb => hj.below hb (by omega) (by omega) (by omega)) ?hY hj0).mono ?post
 case hY =>
  rintro i A ⟨a1, a2, a3, a4, a5⟩ hi hA;rw [← hrc] at a1;refine yield_round (W₁ := A) hfn a1 rfl ?a1 a1 ?hassign ?hbody
  case hassign =>
   intro K hK;gi_wp2
   exact hK
  case hbody =>
   have hrb : { (recOf fn _ _ _ _ _ .busy none : Loop) with state := .ready, pending := none } = rc := hrc;generalize recOf fn _ _ _ _ _ .busy none = rb at hrb ⊢;have hla : W2.heap.size + 1 < A.heap.size := (Array.getElem?_eq_some_iff.1 a1).1;obtain ⟨A1, hA1⟩ : ∃ A1, A.putObj (W2.heap.size + 1) (.loop rb) = A1 := ⟨_, rfl⟩;have hk1 : ∀ k, k ≠ W2.heap.size + 1 → A1.heap[k]? = A.heap[k]? := fun k hn => by rw [← hA1]; exact World.putObj_heap_other hn
   have hl1 : A1.heap[W2.heap.size + 1]? = some (.loop rb) := by rw [← hA1]; exact World.putObj_heap_same hla
   have hzA1 : A1.heap.size = A.heap.size := by rw [← hA1]; simp
   have hA1os : A1.os = A.os := by rw [← hA1]; rfl
   have hA1tape : A1.tape = A.tape := by rw [← hA1]; rfl
   have hA1out : A1.output = A.output := by rw [← hA1]; rfl
   rw [hA1];clear hA1;have bg : Boxed A1 (w.heap.size + 1) 3 (.int .i64 (mdp l i)) := (hk1 _ (by omega)).trans a3;have cg := bg.cell;have fg := bg.frozen;have hgl := bg.lt;gi_wp2
   obtain ⟨W6, hW6⟩ : ∃ W6, A1.setCell ⟨w.heap.size + 1, 0, none⟩ (.int .i64 (max (mdp l i) (depAt l i : Int))) = W6 := ⟨_, rfl⟩;have hk6 : ∀ k, k ≠ W2.heap.size + 1 → k ≠ w.heap.size + 1 → W6.heap[k]? = A.heap[k]? := fun k h1 h2 => by rw [← hW6, Below.heap_setCell _ _ _ _ h2]; exact hk1 k h1
   have hl6 : W6.heap[W2.heap.size + 1]? = some (.loop rb) := by rw [← hW6, Below.heap_setCell _ _ _ _ (show W2.heap.size + 1 ≠ w.heap.size + 1 by omega)]; exact hl1
   have bg6 : Boxed W6 (w.heap.size + 1) 3 (.int .i64 (mdp l (i + 1))) := by rw [← hW6]; exact bg.set _
   have hz6 : W6.heap.size = A.heap.size := (setCell_size hW6).trans hzA1;have h6os : W6.os = A.os := by rw [← hW6]; exact hA1os
   have h6tape : W6.tape = A.tape := by rw [← hW6]; exact hA1tape
   have h6out : W6.output = A.output := by rw [← hW6]; exact hA1out
   rw [hW6];have e7 : { rb with state := if (none : Option Code).isNone then LoopState.ready else LoopState.done, pending := none } = rc := hrb;refine ⟨_, _, run_endRound none hl6, fun k hk => (World.putObj_heap_other (by omega)).trans (hk6 k (by omega) (by omega)), by simp; omega, rfl, ?_⟩;rw [e7];refine ⟨World.putObj_heap_same (by omega), (World.putObj_heap_other (by omega)).trans ((hk6 _ (by omega) (by omega)).trans a2), (World.putObj_heap_other (by omega)).trans bg6, ?_, by simp; omega⟩;refine ⟨h6os.trans a4.os, h6tape.trans a4.tape, h6out.trans a4.output, by simp; have := a4.size; omega, fun k hk => ?_⟩;exact (World.putObj_heap_other (by omega)).trans ((hk6 k (by omega) (by omega)).trans (a4.block k hk))
 case post =>
  rintro e W' ⟨⟨u, rfl⟩, (⟨a1, a2, a3, a4, a5⟩ | ⟨_, _, hx⟩)⟩
  · have hpe : rc.pending = none := by rw [← hrc]; rfl
    have hne : rc.state ≠ .busy := by rw [← hrc]; simp [recOf]
    have hend := run_endLoop (P := Tryz.prog) a1 hne;rw [hpe] at hend;refine ⟨none, _, hend, ?_⟩;have hlw : W2.heap.size + 1 < W'.heap.size := (Array.getElem?_eq_some_iff.1 a1).1;obtain ⟨W7, hW7⟩ : ∃ W7, W'.putObj (W2.heap.size + 1) (.loop { rc with state := .exhausted, pending := none }) = W7 := ⟨_, rfl⟩;have hk7 : ∀ k, k ≠ W2.heap.size + 1 → W7.heap[k]? = W'.heap[k]? := fun k hk => by rw [← hW7]; exact World.putObj_heap_other hk
    have hB7 : Below w.heap.size w W7 := by
     rw [← hW7];exact a4.trans ((Below.refl _ W').grown (grownBy_putObj' W' (W2.heap.size + 1) _) a4.size (fun k e => by cases e; omega))
    rw [hW7];clear hW7 hend;dsimp only;have bL : Boxed W7 (w.heap.size + 1) 3 (.int .i64 (mdp l l.length)) := (hk7 _ (by omega)).trans a3;have hd7 : W7.heap[W2.heap.size]? = some (.deferred (some [])) := (hk7 _ (by omega)).trans a2;have cL := bL.cell;gi_wp2
    refine ⟨by simp, .inl ⟨_, _, rfl, run_takeDeferred hd7, ?_⟩⟩;refine ⟨.int .i64 (mdp l l.length), ?_, rfl, ?_⟩
    · simp [results, Tryz.results14, go_sem]
    · exact hB7.trans ((Below.refl _ W7).grown (grownBy_putObj' W7 W2.heap.size _) hB7.size (fun k e => by cases e; omega))
  · exact hx.elim
end
end Go.Proofs.YtofgphapjjofnaaGreatDoor.Tr
