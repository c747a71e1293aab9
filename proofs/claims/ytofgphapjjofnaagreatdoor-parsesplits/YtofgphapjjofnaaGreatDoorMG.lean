/- Towards the law: SP SC TY. -/
import Derived.OwnWalkIn
import Derived.RangeFuncLeaves
import Derived.Sort.AtCallIn
import Derived.Stop.RegionWithIn
import Derived.Test.YtofgphapjjofnaaGreatDoorMA
import Derived.Test.YtofgphapjjofnaaGreatDoorMC
import Derived.Test.YtofgphapjjofnaaGreatDoorMF
set_option linter.unusedSimpArgs false
set_option linter.unusedVariables false
set_option maxRecDepth 100000
set_option maxHeartbeats 8000000
namespace Go.Proofs.YtofgphapjjofnaaGreatDoor
section
open Go.RowKit Go.Shelf
abbrev TokD := (Int × List Int × Nat × Nat) × Int
def tdV (t : TokD) : Value := tokV t.1.1 (strOfNums t.1.2.1) (t.1.2.2.1 : Int) (t.1.2.2.2 : Int)
def scF (g : Nat → Int) (len : Nat) : Nat → Nat → List Bool → List TokD
 | 0, _, _ => []
 | f + 1, i, bs =>
   if ¬ i < len then [((10, [], len, len), 0)]
   else if blk (g i) = true then scF g len f (i + 1) bs
   else if g i = 47 ∧ i + 1 < len ∧ g (i + 1) = 47 then scF g len f (stopI (fun c => c != 10) g len i) bs
   else if g i = 47 ∧ i + 1 < len ∧ g (i + 1) = 42 then (if remI g len (i + 2) + 1 < len then scF g len f (remI g len (i + 2) + 2) bs else [((0, [], i, 0), 3)])
   else match tokP g len i bs with
    | none => [((0, [], i, 0), 3)]
    | some (k, t, e, bs') => ((k, t, i, e), 0) :: scF g len f e bs'
def scI (g : Nat → Int) (len i : Nat) (bs : List Bool) : List TokD := scF g len (len - i + 1) i bs
theorem quoF_adv {g : Nat → Int} {len : Nat} {mark : Int} : ∀ (f i : Nat) {t : List Int} {e : Nat}, quoF g len mark f i = some (t, e) → i < e ∧ e ≤ len
 | 0, i, t, e, h => by cases h
 | f + 1, i, t, e, h => by
   simp only [quoF] at h;by_cases hl : i < len
   · rw [if_neg (fun h' => h' hl)] at h
     by_cases h1 : g i = 10 ∨ g i = 13
     · rw [if_pos h1] at h; cases h
     rw [if_neg h1] at h;by_cases h2 : g i = mark
     · rw [if_pos h2] at h; cases h; omega
     rw [if_neg h2] at h;by_cases h3 : g i = 92
     · rw [if_pos h3] at h
       cases he : escE g len i with
       | none => rw [he] at h; cases h
       | some y =>
         obtain ⟨r, w⟩ := y;rw [he] at h;simp only at h;have hw := escE_w he;cases hq : quoF g len mark f (i + w) with
         | none => rw [hq] at h; cases h
         | some z =>
           obtain ⟨t', e'⟩ := z;rw [hq] at h;have := quoF_adv f (i + w) hq;cases h;omega
     · rw [if_neg h3] at h
       have hs := step_pos (g := g) hl;cases hq : quoF g len mark f (i + stepN g len i) with
       | none => rw [hq] at h; cases h
       | some z =>
         obtain ⟨t', e'⟩ := z;rw [hq] at h;have := quoF_adv f (i + stepN g len i) hq;cases h;omega
   · rw [if_pos hl] at h; cases h
theorem pieF_adv {g : Nat → Int} {len : Nat} : ∀ (f i : Nat) {t : List Int} {b : Bool} {e : Nat}, pieF g len f i = some (t, b, e) → i < e ∧ e ≤ len
 | 0, i, t, b, e, h => by cases h
 | f + 1, i, t, b, e, h => by
   simp only [pieF] at h;by_cases hl : i < len
   · rw [if_neg (fun h' => h' hl)] at h
     by_cases h1 : g i = 96
     · rw [if_pos h1] at h; cases h; omega
     rw [if_neg h1] at h;by_cases h2 : g i = 36 ∧ i + 1 < len ∧ g (i + 1) = 123
     · rw [if_pos h2] at h; cases h; omega
     rw [if_neg h2] at h;by_cases h3 : g i = 92
     · rw [if_pos h3] at h
       cases he : escE g len i with
       | none => rw [he] at h; cases h
       | some y =>
         obtain ⟨r, w⟩ := y;rw [he] at h;simp only at h;have hw := escE_w he;cases hq : pieF g len f (i + w) with
         | none => rw [hq] at h; cases h
         | some z =>
           obtain ⟨t', b', e'⟩ := z;rw [hq] at h;have := pieF_adv f (i + w) hq;cases h;omega
     · rw [if_neg h3] at h
       have hs := step_pos (g := g) hl;cases hq : pieF g len f (i + stepN g len i) with
       | none => rw [hq] at h; cases h
       | some z =>
         obtain ⟨t', b', e'⟩ := z;rw [hq] at h;have := pieF_adv f (i + stepN g len i) hq;cases h;omega
   · rw [if_pos hl] at h; cases h
theorem sigQ_adv {g : Nat → Int} {len at' : Nat} {bs : List Bool} {k : Int} {t : List Int} {e : Nat} {bs' : List Bool} (hat : at' < len) (h : sigQ g len at' bs = some (k, t, e, bs')) : at' < e ∧ e ≤ len ∧ bs'.length ≤ bs.length + 1 := by
 have hn := sgN_le g len at';unfold sigQ at h;by_cases h0 : sgN g len at' = 0
 · rw [if_pos h0] at h; cases h
 rw [if_neg h0] at h;split at h
 · cases h; refine ⟨by omega, by omega, by simp⟩
 · split at h
   · cases h; refine ⟨by omega, by omega, by simp; omega⟩
   · cases h; refine ⟨by omega, by omega, by omega⟩
theorem pieQ_adv {g : Nat → Int} {len at' : Nat} {bs : List Bool} {w h0 k : Int} {t : List Int} {e : Nat} {bs' : List Bool} (h : pieQ w h0 bs (pieI g len (at' + 1)) = some (k, t, e, bs')) : at' < e ∧ e ≤ len ∧ bs'.length ≤ bs.length + 1 := by
 unfold pieI at h;cases hq : pieF g len (len + 1 - (at' + 1)) (at' + 1) with
 | none => rw [hq] at h; cases h
 | some z =>
   obtain ⟨t', b', e'⟩ := z;rw [hq] at h;have ha := pieF_adv _ _ hq;cases b' with
   | true => cases h; refine ⟨by omega, by omega, by simp⟩
   | false => cases h; refine ⟨by omega, by omega, by omega⟩
theorem tokP_adv {g : Nat → Int} {len at' : Nat} {bs : List Bool} {k : Int} {t : List Int} {e : Nat} {bs' : List Bool} (hat : at' < len) (h : tokP g len at' bs = some (k, t, e, bs')) : at' < e ∧ e ≤ len ∧ bs'.length ≤ bs.length + 1 := by
 unfold tokP at h;by_cases hL : isL (g at') = true
 · rw [if_pos hL] at h
   have hs := stopI_spec (p := isLD) (g := g) (len := len) (i := at' + 1) (by omega);cases h;exact ⟨by omega, hs.2.1, by omega⟩
 rw [if_neg hL] at h;by_cases hD : isD (g at') = true
 · rw [if_pos hD] at h
   split at h
   · have h1 := stopI_step (p := isD) hat hD
     have hs := stopI_spec (p := isD) (g := g) (len := len) (i := at' + 1) (by omega);cases h;unfold numEnd;exact ⟨by omega, by omega, by omega⟩
   · cases h
 rw [if_neg hD] at h;by_cases hq : g at' = 34 ∨ g at' = 39
 · rw [if_pos hq] at h
   unfold quoP quoI at h;cases hz : quoF g len (g at') (len + 1 - (at' + 1)) (at' + 1) with
   | none => rw [hz] at h; cases h
   | some z =>
     obtain ⟨t', e'⟩ := z;rw [hz] at h;have ha := quoF_adv _ _ hz;cases h;exact ⟨by show at' < e'; omega, by show e' ≤ len; omega, by omega⟩
 rw [if_neg hq] at h;by_cases h96 : g at' = 96
 · rw [if_pos h96] at h
   exact pieQ_adv h
 rw [if_neg h96] at h;split at h
 · have := pieQ_adv h
   rw [List.length_dropLast] at this;omega
 · exact sigQ_adv hat h
theorem scF_fuel {g : Nat → Int} {len : Nat} : ∀ (f f' i : Nat) (bs : List Bool), len - i < f → len - i < f' → scF g len f i bs = scF g len f' i bs
 | 0, _, i, _, h, _ => by omega
 | _ + 1, 0, i, _, _, h => by omega
 | f + 1, f' + 1, i, bs, h, h' => by
   simp only [scF];by_cases hl : i < len
   · have hl' : ¬ ¬ i < len := fun h => h hl
     rw [if_neg hl', if_neg hl'];by_cases hb : blk (g i) = true
     · rw [if_pos hb, if_pos hb]
       exact scF_fuel f f' (i + 1) bs (by omega) (by omega)
     rw [if_neg hb, if_neg hb];by_cases h1 : g i = 47 ∧ i + 1 < len ∧ g (i + 1) = 47
     · rw [if_pos h1, if_pos h1]
       have hp : (g i != 10) = true := by rw [h1.1]; decide
       have h2 := stopI_step (p := fun c => c != 10) (g := g) hl hp;have h3 := (stopI_spec (p := fun c => c != 10) (g := g) (len := len) (i := i + 1) (by omega)).1;exact scF_fuel f f' _ bs (by omega) (by omega)
     rw [if_neg h1, if_neg h1];by_cases h2 : g i = 47 ∧ i + 1 < len ∧ g (i + 1) = 42
     · rw [if_pos h2, if_pos h2]
       split
       · have h3 : i + 2 ≤ remI g len (i + 2) := remF_ge (g := g) (len := len) (len - (i + 2)) (i + 2)
         exact scF_fuel f f' _ bs (by omega) (by omega)
       · rfl
     rw [if_neg h2, if_neg h2];cases ht : tokP g len i bs with
     | none => rfl
     | some z =>
       obtain ⟨k, t, e, bs'⟩ := z;have ha := tokP_adv hl ht;simp only;rw [scF_fuel f f' e bs' (by omega) (by omega)]
   · rw [if_pos hl, if_pos hl]
theorem sc_end {g : Nat → Int} {len i : Nat} {bs : List Bool} (h : ¬ i < len) : scI g len i bs = [((10, [], len, len), 0)] := by
 unfold scI;rw [scF, if_pos h]
theorem sc_blk {g : Nat → Int} {len i : Nat} {bs : List Bool} (h : i < len) (hb : blk (g i) = true) : scI g len i bs = scI g len (i + 1) bs := by
 unfold scI;rw [scF, if_neg (fun h' => h' h), if_pos hb];exact scF_fuel _ _ _ _ (by omega) (by omega)
theorem sc_line {g : Nat → Int} {len i : Nat} {bs : List Bool} (h : i + 1 < len) (h0 : g i = 47) (h1 : g (i + 1) = 47) : scI g len i bs = scI g len (stopI (fun c => c != 10) g len i) bs := by
 have hp : (g i != 10) = true := by rw [h0]; decide
 have h2 := stopI_step (p := fun c => c != 10) (g := g) (len := len) (i := i) (by omega) hp;have h3 := (stopI_spec (p := fun c => c != 10) (g := g) (len := len) (i := i + 1) (by omega)).1;unfold scI;rw [scF, if_neg (by omega), if_neg (by rw [h0]; decide), if_pos ⟨h0, h, h1⟩];exact scF_fuel _ _ _ _ (by omega) (by omega)
theorem sc_rem {g : Nat → Int} {len i : Nat} {bs : List Bool} (h : i + 1 < len) (h0 : g i = 47) (h1 : g (i + 1) = 42) : scI g len i bs = if remI g len (i + 2) + 1 < len then scI g len (remI g len (i + 2) + 2) bs else [((0, [], i, 0), 3)] := by
 have h3 : i + 2 ≤ remI g len (i + 2) := remF_ge (g := g) (len := len) (len - (i + 2)) (i + 2);unfold scI;rw [scF, if_neg (by omega), if_neg (by rw [h0]; decide), if_neg (by rw [h1]; omega), if_pos ⟨h0, h, h1⟩];split
 · exact scF_fuel _ _ _ _ (by omega) (by omega)
 · rfl
def NoGap (g : Nat → Int) (len i : Nat) : Prop := blk (g i) = false ∧ ¬ (g i = 47 ∧ i + 1 < len ∧ g (i + 1) = 47) ∧ ¬ (g i = 47 ∧ i + 1 < len ∧ g (i + 1) = 42)
theorem sc_bad {g : Nat → Int} {len i : Nat} {bs : List Bool} (h : i < len) (hn : NoGap g len i) (ht : tokP g len i bs = none) : scI g len i bs = [((0, [], i, 0), 3)] := by
 unfold scI;rw [scF, if_neg (fun h' => h' h), if_neg (by simp [hn.1]), if_neg hn.2.1, if_neg hn.2.2, ht]
theorem sc_tok {g : Nat → Int} {len i : Nat} {bs : List Bool} {k : Int} {t : List Int} {e : Nat} {bs' : List Bool} (h : i < len) (hn : NoGap g len i) (ht : tokP g len i bs = some (k, t, e, bs')) : scI g len i bs = ((k, t, i, e), 0) :: scI g len e bs' := by
 have ha := tokP_adv h ht;unfold scI;rw [scF, if_neg (fun h' => h' h), if_neg (by simp [hn.1]), if_neg hn.2.1, if_neg hn.2.2, ht];simp only;rw [scF_fuel (len - i) (len - e + 1) e bs' (by omega) (by omega)]
end
section
open Go.RowKit Go.Shelf
attribute [local go_sem] Oper.semAt_some
attribute [local go_sem] tokV
def CC (A : World) (c : Nat) : Prop := ∃ o, A.heap[c]? = some o ∧ ∀ cur, o ≠ .cells cur 40 (0, 0)
theorem own_cells {W : World} {M : Nat} {ov : Value} {bs : List Bool} (h : OwnO W M ov bs) : ∀ k, ov.ownBlock = some k → M < k ∧ ∃ cur, W.heap[k]? = some (.cells cur 4 (0, 0)) := fun k hk => by
 rcases h.form with ⟨rfl, _⟩ | ⟨g, cap, cur, rfl, hg, hh, _⟩
 · cases hk
 · injection hk with hk
   have e : g = k := hk;subst e;exact ⟨by omega, cur, hh⟩
theorem MAt.drewN {W : World} {M : Nat} {bv ov : Value} {at' : Int} (h : MAt W M bv at' ov) (N : Nat) : MAt (W.drewN N) M bv at' ov := h
def Kept (M c : Nat) (ob : Option Nat) (A A' : World) : Prop := (∀ k, k = M ∨ k = c ∨ k = 1 ∨ k = 2 ∨ ob = some k → A'.heap[k]? = A.heap[k]?) ∧ A.heap.size ≤ A'.heap.size
theorem st_no {g : Nat → Int} (hg : ∀ j, 0 ≤ g j ∧ g j ≤ 255) {len at' : Nat} {x y : UInt8} (h : ¬ (g at' = (x.toNat : Int) ∧ at' + 1 < len ∧ g (at' + 1) = (y.toNat : Int))) : hpB (fun j => g (at' + j)) (len - at') (gS ⟨#[x, y]⟩) 2 = false := by
 refine hpB_false (fun j => hg _) (gS_bd _) ?_;rintro ⟨h1, h2⟩;refine h ⟨h2 0 (by omega), by omega, h2 1 (by omega)⟩
theorem st_yes {g : Nat → Int} (hg : ∀ j, 0 ≤ g j ∧ g j ≤ 255) {len at' : Nat} {x y : UInt8} (h0 : g at' = (x.toNat : Int)) (h1 : at' + 1 < len) (h2 : g (at' + 1) = (y.toNat : Int)) : hpB (fun j => g (at' + j)) (len - at') (gS ⟨#[x, y]⟩) 2 = true := by
 refine (hpB_iff (fun j => hg _) (gS_bd _)).2 ⟨by omega, fun j hj => ?_⟩;match j, hj with
 | 0, _ => exact h0
 | 1, _ => exact h2
theorem scanY (n : Nat) (hn : 1 ≤ n) (l M c : Nat) (a : Option Addr) (len cap : Nat) (g : Nat → Int) (hg : ∀ j, 0 ≤ g j ∧ g j ≤ 255) (hlen : len ≤ 4000) (hcM : c < M) (hM2 : 2 < M) (J : List TokD → Option Nat → World → Prop) (Jx : List TokD → World → Prop)
 (hJ : ∀ pre ob ob' A C, J pre ob A → Fr (fun k => k = M ∨ ob = some k) A C → (ob' = ob ∨ ∃ k, ob' = some k ∧ A.heap.size ≤ k) → J pre ob' C)
 (hY : ∀ pre ob t A, t.2 = 0 → J pre ob A → pre.length < len + 1 → (∃ cs : Array Value, A.heap[M]? = some (.cells cs 87)) → (∀ k, ob = some k → M < k ∧ ∃ cur, A.heap[k]? = some (.cells cur 4 (0, 0))) → CC A c → YieldAt Fence.wide (n - 1) Tryz.prog l #[tdV t, .int .i64 t.2] A fun e A' =>
  (e = .returned (.bool true) ∧ J (pre ++ [t]) ob A' ∧ Kept M c ob A A') ∨ (e = .returned (.bool false) ∧ Jx (pre ++ [t]) A'))
 (hYe : ∀ pre ob i A, J pre ob A → pre.length < len + 1 → YieldAt Fence.wide (n - 1) Tryz.prog l #[tdV ((0, [], i, 0), 3), .int .i64 3] A fun e A' => ∃ r : Bool, e = .returned (.bool r) ∧ ((∃ ob', J (pre ++ [((0, [], i, 0), 3)]) ob' A') ∨ Jx (pre ++ [((0, [], i, 0), 3)]) A'))
 (W : World) (h0 : J [] none W) (hM : MAt W M (.slice a len cap) 0 (.slice none 0 0)) (hS : Sl W c (.slice a len cap) len g) (hcc : CC W c) (hE1 : ErrG W 1) (hE2 : ErrG W 2) :
 CallsIn Fence.wide n Tryz.prog 40 #[.pointer (some ⟨M, 0, none⟩), .func (.yield l) #[] #[]] W fun e W' => (∃ v, e = .returned v) ∧ ((∃ ob, J (scI g len 0 []) ob W') ∨ ∃ pre rest, scI g len 0 [] = pre ++ rest ∧ Jx pre W') := by
 obtain ⟨I, hI⟩ : ∃ I, scI g len 0 [] = I := ⟨_, rfl⟩;rw [hI];have HI := Hi hI;clear hI;refine callsIn_of_wp Tryz.func40 rfl trivial ?_ rfl;simp only [Tryz.ntmps40, List.size_toArray, List.length_cons, List.length_nil, Nat.reduceAdd, Nat.reduceSub, Array.replicate_succ, Array.replicate_zero, List.push_toArray, List.append_toArray, List.nil_append, List.cons_append];gi_wp2
 refine wpIn_scope_wide ?_;gi_wp2
 refine wpIn_label ?_;gi_wp2
 have HJ := Hi hJ;have HY := Hi hY;have HYE := Hi hYe;have H0 := Hi h0;have HS := Hi hS;have HE1 := Hi hE1;have HE2 := Hi hE2;have HCC := Hi hcc;have hml := hM.lt;clear hJ hY hYe h0 hS hE1 hE2 hcc;gi_loopw [4] (fun t wr => ∃ (at' : Nat) (pre : List TokD) (bs : List Bool) (ov : Value), pre.length ≤ at' ∧ bs.length ≤ at' ∧ at' ≤ len ∧ t = .int .i64 (pre.length : Int) ∧ Hid (pre ++ scI g len at' bs = I) ∧ Hid (J pre ov.ownBlock wr) ∧ MAt wr M (.slice a len cap) at' ov ∧ Hid (OwnO wr M ov bs) ∧ Hid (wr.heap[c]? = W.heap[c]? ∧ wr.heap[1]? = W.heap[1]? ∧ wr.heap[2]? = W.heap[2]?) ∧ W.heap.size ≤ wr.heap.size) (fun _ wr => len - atOf M wr)
 case atStart => exact ⟨0, [], [], .slice none 0 0, Nat.zero_le _, Nat.zero_le _, Nat.zero_le _, rfl, U HI, U H0, hM, own_nil _ _, ⟨rfl, rfl, rfl⟩, NL⟩
 case round =>
  obtain ⟨W0, hW0⟩ : ∃ W0, W0 = wr := ⟨_, rfl⟩;subst hW0;obtain ⟨at', pre, bs, ov, hpl, hbl, hal, rfl, HIT, HJJ, hm, HOO, HKK, hsz⟩ := hrel;clear HI H0;have c0 := hm.c0;have c1 := hm.c1;have f1 := hm.frozen 1;have hmw := hm.lt;have hS' : Sl W0 c (.slice a len cap) len g := (U HS).keep (fun k e => by subst e; exact (U HKK).1)
  have HE1' : Hid (ErrG W0 1) := by
   obtain ⟨ev, hv, hev⟩ := U HE1;exact ⟨ev, by rw [World.cell?_of_block (w := W) (U HKK).2.1]; exact hv, hev⟩
  have HE2' : Hid (ErrG W0 2) := by
   obtain ⟨ev, hv, hev⟩ := U HE2;exact ⟨ev, by rw [World.cell?_of_block (w := W) (U HKK).2.2]; exact hv, hev⟩
  have hat0 := atOf_eq hm;have HAT0 := Hi hat0;have HM := Hi hm;have hFd : ∀ N, Fr (fun k => k = M) W0 (W0.drewN N) := fun N => ⟨rfl, rfl, rfl, NL, fun _ _ _ => rfl⟩
  -- where the place alone has turned, the round goes on
  have HGO : Hid (∀ (j : Nat) (W' : World), at' < j → j ≤ len → pre ++ scI g len j bs = I → MAt W' M (.slice a len cap) j ov → Fr (fun k => k = M) W0 W' → (∃ (at' : Nat) (pre' : List TokD) (bs : List Bool) (ov : Value), pre'.length ≤ at' ∧ bs.length ≤ at' ∧ at' ≤ len ∧ Value.int .i64 (pre.length : Int) = .int .i64 (pre'.length : Int) ∧ Hid (pre' ++ scI g len at' bs = I) ∧ Hid (J pre' ov.ownBlock W') ∧ MAt W' M (.slice a len cap) at' ov ∧ Hid (OwnO W' M ov bs) ∧ Hid (W'.heap[c]? = W.heap[c]? ∧ W'.heap[1]? = W.heap[1]? ∧ W'.heap[2]? = W.heap[2]?) ∧ W.heap.size ≤ W'.heap.size) ∧ len - atOf M W' < len - atOf M W0) := by
   intro j W' hj1 hj2 hit hmj hF;have hF' : Fr (fun k => k = M ∨ ov.ownBlock = some k) W0 W' := hF.mono fun k _ e => .inl e
   refine ⟨⟨j, pre, bs, ov, by omega, by omega, hj2, rfl, hit, U HJ _ _ _ _ _ (U HJJ) hF' (.inl rfl), hmj, (U HOO).fr hF, ⟨(hF.block c (by omega) (by omega)).trans (U HKK).1, (hF.block 1 (by omega) (by omega)).trans (U HKK).2.1, (hF.block 2 (by omega) (by omega)).trans (U HKK).2.2⟩, Nat.le_trans hsz hF.size⟩, ?_⟩;rw [atOf_eq hmj, U HAT0];omega
  by_cases hlt : at' < len
  · have hlt' : (at' : Int) < len := by omega
    have hltb : decide ((at' : Int) < len) = true := by simpa using hlt'
    have HS2 := Hi hS';obtain ⟨off, rfl, h1, h2, hcc⟩ := U (sl_cells hS') (by omega);unfold maxLen at h2;have hck := hcc at' hlt;have HCL := Hi hcc
    have HST : Hid (∀ (x y : UInt8) (b : Bool) (j : Nat), j ≤ len → hpB (fun i => g (j + i)) (len - j) (gS ⟨#[x, y]⟩) 2 = b → ∀ W', MAt W' M (.slice (some ⟨c, off, none⟩) len cap) (j : Int) ov → Fr (fun k => k = M) W0 W' → Calls Tryz.prog 90 #[.pointer (some ⟨M, 0, none⟩), .string ⟨#[x, y]⟩] W' fun z W'' => z = .returned (.bool b) ∧ Below W'.heap.size W' W'') := fun x y b j hj hb W' hmW hfW => by
     have hz := hfW.size;have hk := stands_any M c _ len cap g j ov ⟨#[x, y]⟩ W' hmW ((U HS2).keep (fun k e => by subst e; exact hfW.block k (by omega) (by omega))) (by omega) hj (by omega) (by show 2 ≤ 4294967296; omega);rw [show (⟨#[x, y]⟩ : ByteArray).size = 2 from rfl, hb] at hk;exact hk
    clear hcc hS';cases hb : isB (g at') with
    | true =>
      have hit := U HIT;rw [sc_blk hlt hb] at hit;have HIT2 := Hi hit;clear hit;gi_wp2
      refine wpIn_wide.2 ?_;go_quiet (fail)
      gi_wp2_with (refine ⟨trivial, ?_⟩; gi_at_call 89; refine (callsIn_wide.2 (isBlank_any _ _)).mono ?_; rintro x w' ⟨rfl, hw⟩; subst w')
      exact U HGO (at' + 1) _ (by omega) (by omega) (U HIT2) (MAt.set1 (W := W0.drewN nq) hm ((at' : Int) + 1)) ((hFd nq).set M 1 _ rfl)
    | false =>
      have hbk : blk (g at') = false := hb;by_cases hln : g at' = 47 ∧ at' + 1 < len ∧ g (at' + 1) = 47
      · -- a remark to the line's end
        have hit := U HIT;rw [sc_line hln.2.1 hln.1 hln.2.2] at hit;have hp : (g at' != 10) = true := by rw [hln.1]; decide
        have s1 := stopI_step (p := fun c => c != 10) (g := g) hlt hp;have s2 := stopI_spec (p := fun c => c != 10) (g := g) (len := len) (i := at' + 1) (by omega);rw [← s1] at s2;obtain ⟨e, he⟩ : ∃ e, stopI (fun c => c != 10) g len at' = e := ⟨_, rfl⟩;rw [he] at s2 hit;obtain ⟨s3, s4, s5, s6⟩ := s2
        have HS5 : Hid (∀ j, at' ≤ j → j < e → (g j != 10) = true) := fun j h1 h2 => by
         by_cases h : j = at'
         · rw [h]; exact hp
         · exact s5 j (by omega) h2
        have HS6 := Hi s6;have HIT2 := Hi hit;have HY1 := Hi (U HST 47 47 true at' hal (st_yes hg hln.1 hln.2.1 hln.2.2));clear hit s5 s6 he s1 hp hln;gi_wp2
        refine wpIn_wide.2 ?_;go_quiet (fail)
        gi_wp2_with (first | (refine ⟨trivial, ?_⟩; gi_at_call 89; refine (callsIn_wide.2 (isBlank_any _ _)).mono ?_; rintro x w' ⟨rfl, hw⟩; subst w') | (refine ⟨trivial, ?_⟩; gi_at_call_has 90 (Value.string ⟨#[47, 47]⟩); refine (callsIn_wide.2 (U HY1 (W0.drewN nq) hm (hFd nq))).mono ?_; rintro x W2 ⟨rfl, hb2⟩))
        have hF2 : Fr (fun k => k = M) W0 W2 := ((hFd nq).below hb2);have hm2 : MAt W2 M (.slice (some ⟨c, off, none⟩) len cap) at' ov := MAt.below (W := W0.drewN nq) hm hb2 hmw;have HF2 := Hi hF2;clear hb2 hF2 c0 c1 f1;gi_loopw [] (fun w3 => ∃ (j : Nat), at' ≤ j ∧ j ≤ e ∧ MAt w3 M (.slice (some ⟨c, off, none⟩) len cap) j ov ∧ Hid (Fr (fun k => k = M) W0 w3)) (fun w3 => len - atOf M w3)
        case atStart => exact ⟨at', NL, by omega, hm2, U HF2⟩
        case round =>
         obtain ⟨w3, hw3⟩ : ∃ w3, w3 = wr := ⟨_, rfl⟩;subst hw3;obtain ⟨j, hj1, hj2, hm3, HF3⟩ := hrel;have c0 := hm3.c0;have c1 := hm3.c1;have f1 := hm3.frozen 1;have hmw3 := hm3.lt;have hat3 := atOf_eq hm3;have HAT3 := Hi hat3;have hFd3 : ∀ N, Fr (fun k => k = M) w3 (w3.drewN N) := fun N => ⟨rfl, rfl, rfl, NL, fun _ _ _ => rfl⟩
         clear hat3;by_cases hjl : j < len
         · have hjl' : (j : Int) < len := by omega
           have hjd : decide ((j : Int) < len) = true := decide_eq_true hjl'
           have hcj : w3.cell? ⟨c, off + j, none⟩ = some (.int .u8 (g j)) := by
            have := U HCL j hjl;rw [World.cell?_of_block (w := W0) ((U HF3).block c (by omega) (by omega))];exact this
           by_cases hje : j < e
           · have hgj : (g j != 10) = true := U HS5 j hj1 hje
             gi_wp2
             refine wpIn_wide.2 ?_;go_quiet (fail)
             gi_wp2
             have hm4 : MAt ((w3.drewN nq).setCell ⟨M, 1, none⟩ (.int .i64 ((j : Int) + 1))) M (.slice (some ⟨c, off, none⟩) len cap) ((j + 1 : Nat) : Int) ov := MAt.set1 (W := w3.drewN nq) hm3 ((j : Int) + 1);refine ⟨⟨j + 1, by omega, by omega, hm4, ((U HF3).trans (hFd3 nq)).set M 1 _ rfl⟩, ?_⟩;rw [atOf_eq hm4, U HAT3];omega
           · obtain rfl : j = e := by omega
             have hgj : (g j != 10) = false := by
              rcases U HS6 with h | h
              · omega
              · exact h
             gi_wp2
             refine wpIn_wide.2 ?_;go_quiet (fail)
             gi_wp2
             exact U HGO j _ (by omega) (by omega) (U HIT2) (MAt.drewN hm3 _) ((U HF3).trans (hFd3 _))
         · have hjl' : ¬ (j : Int) < len := by omega
           have hjd : decide ((j : Int) < len) = false := decide_eq_false hjl';obtain rfl : j = e := by omega
           gi_wp2
           refine wpIn_wide.2 ?_;go_quiet (fail)
           gi_wp2
           exact U HGO j _ (by omega) (by omega) (U HIT2) (MAt.drewN hm3 _) ((U HF3).trans (hFd3 _))
      · by_cases hrm : g at' = 47 ∧ at' + 1 < len ∧ g (at' + 1) = 42
        · -- a remark between its marks
          have hit := U HIT;rw [sc_rem hrm.2.1 hrm.1 hrm.2.2] at hit;have hge : at' + 2 ≤ remI g len (at' + 2) := remF_ge (g := g) (len := len) (len - (at' + 2)) (at' + 2);obtain ⟨e, he⟩ : ∃ e, remI g len (at' + 2) = e := ⟨_, rfl⟩;rw [he] at hit hge;have HE := Hi he;have HIT2 := Hi hit;have HY1 := Hi (U HST 47 47 false at' hal (st_no hg (fun h => hln ⟨h.1, h.2.1, h.2.2⟩)));have HY2 := Hi (U HST 47 42 true at' hal (st_yes hg hrm.1 hrm.2.1 hrm.2.2));have hl2 : at' + 2 ≤ len := by omega
          clear hit he hln hrm;gi_wp2
          refine wpIn_wide.2 ?_;go_quiet (fail)
          gi_wp2_with (first | (refine ⟨trivial, ?_⟩; gi_at_call 89; refine (callsIn_wide.2 (isBlank_any _ _)).mono ?_; rintro x w' ⟨rfl, hw⟩; subst w') | (refine ⟨trivial, ?_⟩; gi_at_call_has 90 (Value.string ⟨#[47, 47]⟩); refine (callsIn_wide.2 (U HY1 (W0.drewN nq) hm (hFd nq))).mono ?_; rintro x W2 ⟨rfl, hb2⟩; have hF2 : Fr (fun k => k = M) W0 W2 := (hFd nq).below hb2; have hm2 : MAt W2 M (.slice (some ⟨c, off, none⟩) len cap) at' ov := MAt.below (W := W0.drewN nq) hm hb2 hmw; clear hb2) | (refine ⟨trivial, ?_⟩; gi_at_call_has 90 (Value.string ⟨#[47, 42]⟩); refine (callsIn_wide.2 (U HY2 W2 hm2 hF2)).mono ?_; rintro x W3 ⟨rfl, hb3⟩; have hF3 : Fr (fun k => k = M) W0 W3 := hF2.below (hb3.mono hF2.size); have hm3 : MAt W3 M (.slice (some ⟨c, off, none⟩) len cap) at' ov := hm2.below hb3 hm2.lt; clear hb3; have c13 := hm3.c1; have f13 := hm3.frozen 1; have hmw3 := hm3.lt))
          have hm4 : MAt (W3.setCell ⟨M, 1, none⟩ (.int .i64 ((at' : Int) + 2))) M (.slice (some ⟨c, off, none⟩) len cap) ((at' + 2 : Nat) : Int) ov := hm3.set1 ((at' : Int) + 2);have hF4 := hF3.set M 1 (.int .i64 ((at' : Int) + 2)) rfl;have HF4 := Hi hF4;have HM4 := Hi hm4;clear hF2 hm2 hF3 hm3 c13 f13 hmw3 hF4 hm4 c0 c1 f1;gi_loopw [] (fun w3 => ∃ (j : Nat), at' + 2 ≤ j ∧ j ≤ len ∧ Hid (remI g len j = e ∨ (j = len ∧ ¬ e + 1 < len)) ∧ MAt w3 M (.slice (some ⟨c, off, none⟩) len cap) j ov ∧ Hid (Fr (fun k => k = M) W0 w3)) (fun w3 => len - atOf M w3)
          case atStart => exact ⟨at' + 2, NL, hl2, .inl (U HE), U HM4, U HF4⟩
          case round =>
           obtain ⟨w3, hw3⟩ : ∃ w3, w3 = wr := ⟨_, rfl⟩;subst hw3;obtain ⟨j, hj1, hj2, HRJ, hm3, HF3⟩ := hrel;clear HF4 HM4;have c0 := hm3.c0;have c1 := hm3.c1;have f1 := hm3.frozen 1;have hmw3 := hm3.lt;have hat3 := atOf_eq hm3;have HAT3 := Hi hat3;have hFd3 : ∀ N, Fr (fun k => k = M) w3 (w3.drewN N) := fun N => ⟨rfl, rfl, rfl, NL, fun _ _ _ => rfl⟩
           clear hat3;by_cases hjl : j < len
           · have hjl' : (j : Int) < len := by omega
             have hjd : decide ((j : Int) < len) = true := decide_eq_true hjl'
             have hrj : remI g len j = e := by
              rcases U HRJ with h | h
              · exact h
              · omega
             by_cases hms : g j = 42 ∧ j + 1 < len ∧ g (j + 1) = 47
             · have HY3 := Hi (U HST 42 47 true j hj2 (st_yes hg hms.1 hms.2.1 hms.2.2))
               rw [remI_stop (fun h => h.2 ⟨hms.1, hms.2.2⟩)] at hrj;subst hrj;have hit := U HIT2;rw [if_pos hms.2.1] at hit;have HIT3 := Hi hit;have hj3 := hms.2.1;clear hit hms;gi_wp2
               refine wpIn_wide.2 ?_;go_quiet (fail)
               gi_wp2_with (refine ⟨trivial, ?_⟩; gi_at_call 90; refine (callsIn_wide.2 (U HY3 (w3.drewN nq) hm3 ((U HF3).trans (hFd3 nq)))).mono ?_; rintro x W4 ⟨rfl, hb4⟩; have hm4 : MAt W4 M (.slice (some ⟨c, off, none⟩) len cap) j ov := MAt.below (W := w3.drewN nq) hm3 hb4 hmw3; have hF4 : Fr (fun k => k = M) W0 W4 := ((U HF3).trans (hFd3 nq)).below (hb4.mono (U HF3).size); have c14 := hm4.c1; have f14 := hm4.frozen 1; have hmw4 := hm4.lt)
               exact U HGO (j + 2) _ (by omega) (by omega) (U HIT3) (hm4.set1 ((j : Int) + 2)) (hF4.set M 1 _ rfl)
             · have HY3 := Hi (U HST 42 47 false j hj2 (st_no hg hms))
               have HRJ2 : Hid (remI g len (j + 1) = e ∨ (j + 1 = len ∧ ¬ e + 1 < len)) := by
                by_cases hj3 : j + 1 < len
                · exact .inl (by rw [← remI_step hj3 (fun h => hms ⟨h.1, hj3, h.2⟩)]; exact hrj)
                · rw [remI_stop (fun h => hj3 h.1)] at hrj
                  exact .inr ⟨by omega, by omega⟩
               clear hms hrj;gi_wp2
               refine wpIn_wide.2 ?_;go_quiet (fail)
               gi_wp2_with (refine ⟨trivial, ?_⟩; gi_at_call 90; refine (callsIn_wide.2 (U HY3 (w3.drewN nq) hm3 ((U HF3).trans (hFd3 nq)))).mono ?_; rintro x W4 ⟨rfl, hb4⟩; have hm4 : MAt W4 M (.slice (some ⟨c, off, none⟩) len cap) j ov := MAt.below (W := w3.drewN nq) hm3 hb4 hmw3; have hF4 : Fr (fun k => k = M) W0 W4 := ((U HF3).trans (hFd3 nq)).below (hb4.mono (U HF3).size); have c14 := hm4.c1; have f14 := hm4.frozen 1; have hmw4 := hm4.lt)
               have hm5 : MAt (W4.setCell ⟨M, 1, none⟩ (.int .i64 ((j : Int) + 1))) M (.slice (some ⟨c, off, none⟩) len cap) ((j + 1 : Nat) : Int) ov := hm4.set1 ((j : Int) + 1);refine ⟨⟨j + 1, by omega, by omega, HRJ2, hm5, hF4.set M 1 _ rfl⟩, ?_⟩;rw [atOf_eq hm5, U HAT3];omega
           · have hjl' : ¬ (j : Int) < len := by omega
             have hjd : decide ((j : Int) < len) = false := decide_eq_false hjl';obtain rfl : j = len := by omega
             have hne : ¬ e + 1 < j := by
              rcases U HRJ with h | h
              · rw [remI_stop (fun h' => by omega)] at h
                omega
              · exact h.2
             have hit := U HIT2;rw [if_neg hne] at hit;have HIT3 := Hi hit;clear hit;gi_wp2
             refine wpIn_wide.2 ?_;go_quiet (fail)
             gi_wp2
             have hF5 := (U HF3).trans (hFd3 nq);have hm5 := MAt.drewN hm3 nq;obtain ⟨fn, tm, asg, bd, hy0, hRd⟩ := U HYE pre ov.ownBlock at' (w3.drewN nq) (U HJ _ _ _ _ _ (U HJJ) (hF5.mono (fun k _ e => .inl e)) (.inl rfl)) (by omega);have hy : (Instr.yield l #[.agg #[.int .i64 0, .string ⟨#[]⟩, .int .i64 (at' : Int), .int .i64 0], .int .i64 3]).run Tryz.prog ((w3.drewN nq)) = .ok (.round l fn tm asg bd) ((w3.drewN nq)) := hy0;clear hy0;rw [hy, Oper.uponIn_round];refine ⟨fun _ => hn, hRd.mono ?_⟩;rintro x W6 ⟨r, rfl, hor⟩;have HOR := Hi hor;clear hor;gi_wp2
             rw [Exit.noGoto_ret];refine bodyPost_ret (results_none rfl _ _ _) rfl ⟨⟨_, rfl⟩, ?_⟩;rcases U HOR with ⟨ob', h⟩ | h
             · exact .inl ⟨ob', by rw [← U HIT3]; exact h⟩
             · exact .inr ⟨_, [], by rw [List.append_nil]; exact (U HIT3).symm, h⟩
        · -- a token
          have hng : NoGap g len at' := ⟨hbk, hln, hrm⟩;have HY1 := Hi (U HST 47 47 false at' hal (st_no hg (fun h => hln ⟨h.1, h.2.1, h.2.2⟩)));have HY2 := Hi (U HST 47 42 false at' hal (st_no hg (fun h => hrm ⟨h.1, h.2.1, h.2.2⟩)));have HTK : Hid (∀ W', MAt W' M (.slice (some ⟨c, off, none⟩) len cap) at' ov → Fr (fun k => k = M) W0 W' → Calls Tryz.prog 91 #[.pointer (some ⟨M, 0, none⟩)] W' (TokO W' M (.slice (some ⟨c, off, none⟩) len cap) ov at' (tokP g len at' bs))) := fun W' hmW hfW => token_any M c _ len cap g hg at' ov bs W' hmW ((U HS2).keep (fun k e => by subst e; exact hfW.block k (by omega) (by omega))) ((U HOO).fr hfW) hcM hM2 hlt (by omega) (by omega) ((U HE1').fr hfW (by omega)) ((U HE2').fr hfW (by omega))
          have n8 : ((pre.length : Int) == 8192) = false := by simp; omega
          have hit := U HIT;have ARM34 : True := trivial;cases htk : tokP g len at' bs with
          | none =>
            rw [sc_bad hlt hng htk] at hit;rw [htk] at HTK;have HTK2 : Hid (∀ W', MAt W' M (.slice (some ⟨c, off, none⟩) len cap) at' ov → Fr (fun k => k = M) W0 W' → Calls Tryz.prog 91 #[.pointer (some ⟨M, 0, none⟩)] W' fun x W'' => x = .returned (.tuple #[tokV 0 ⟨#[]⟩ 0 0, .bool false]) ∧ Fr (fun k => k = M ∨ ov.ownBlock = some k) W' W'') := U HTK;have HIT3 := Hi hit;clear hit htk hng hln hrm HTK;gi_wp2
            refine wpIn_wide.2 ?_;go_quiet (fail)
            gi_wp2_with (first | (refine ⟨trivial, ?_⟩; gi_at_call 89; refine (callsIn_wide.2 (isBlank_any _ _)).mono ?_; rintro x w' ⟨rfl, hw⟩; subst w') | (refine ⟨trivial, ?_⟩; gi_at_call_has 90 (Value.string ⟨#[47, 47]⟩); refine (callsIn_wide.2 (U HY1 (W0.drewN nq) hm (hFd nq))).mono ?_; rintro x W2 ⟨rfl, hb2⟩; have hF2 : Fr (fun k => k = M) W0 W2 := (hFd nq).below hb2; have hm2 : MAt W2 M (.slice (some ⟨c, off, none⟩) len cap) at' ov := MAt.below (W := W0.drewN nq) hm hb2 hmw; clear hb2) | (refine ⟨trivial, ?_⟩; gi_at_call_has 90 (Value.string ⟨#[47, 42]⟩); refine (callsIn_wide.2 (U HY2 W2 hm2 hF2)).mono ?_; rintro x W3 ⟨rfl, hb3⟩; have hF3 : Fr (fun k => k = M) W0 W3 := hF2.below (hb3.mono hF2.size); have hm3 : MAt W3 M (.slice (some ⟨c, off, none⟩) len cap) at' ov := hm2.below hb3 hm2.lt; clear hb3) | (refine ⟨trivial, ?_⟩; gi_at_call 91; refine (callsIn_wide.2 (U HTK2 W3 hm3 hF3)).mono ?_; rintro x W4 ⟨rfl, hF4⟩))
            obtain ⟨W5, hW5⟩ : ∃ W5, W4.alloc (.cells #[.int .i64 0, .string ⟨#[]⟩, .int .i64 0, .int .i64 0] 40) = W5 := ⟨_, rfl⟩;have hF5 : Fr (fun k => k = M ∨ ov.ownBlock = some k) W0 W5 := by rw [← hW5]; exact ((hF3.mono (fun k _ e => .inl e)).trans hF4).alloc _
            rw [hW5];clear hW5;obtain ⟨fn, tm, asg, bd, hy0, hRd⟩ := U HYE pre ov.ownBlock at' W5 (U HJ _ _ _ _ _ (U HJJ) (hF5) (.inl rfl)) (by omega);have hy : (Instr.yield l #[.agg #[.int .i64 0, .string ⟨#[]⟩, .int .i64 (at' : Int), .int .i64 0], .int .i64 3]).run Tryz.prog (W5) = .ok (.round l fn tm asg bd) (W5) := hy0;clear hy0;rw [hy, Oper.uponIn_round];refine ⟨fun _ => hn, hRd.mono ?_⟩;rintro x W6 ⟨r, rfl, hor⟩;have HOR := Hi hor;clear hor;gi_wp2
            rw [Exit.noGoto_ret];refine bodyPost_ret (results_none rfl _ _ _) rfl ⟨⟨_, rfl⟩, ?_⟩;rcases U HOR with ⟨ob', h⟩ | h
            · exact .inl ⟨ob', by rw [← U HIT3]; exact h⟩
            · exact .inr ⟨_, [], by rw [List.append_nil]; exact (U HIT3).symm, h⟩
          | some y =>
            obtain ⟨kd, tx, e', bs'⟩ := y;have hadv := tokP_adv hlt htk;rw [sc_tok hlt hng htk] at hit;rw [htk] at HTK;have HTK2 : Hid (∀ W', MAt W' M (.slice (some ⟨c, off, none⟩) len cap) at' ov → Fr (fun k => k = M) W0 W' → Calls Tryz.prog 91 #[.pointer (some ⟨M, 0, none⟩)] W' fun x W'' => x = .returned (.tuple #[tokV kd (strOfNums tx) at' (e' : Int), .bool true]) ∧ (∃ ov', MAt W'' M (.slice (some ⟨c, off, none⟩) len cap) (e' : Int) ov' ∧ OwnO W'' M ov' bs' ∧ OB W' ov ov') ∧ Fr (fun k => k = M ∨ ov.ownBlock = some k) W' W'') := U HTK
            have HIT3 : Hid ((pre ++ [((kd, tx, at', e'), 0)]) ++ scI g len e' bs' = I) := by
             show _ = _
             rw [List.append_assoc];exact hit
            clear hit htk hng hln hrm HTK;gi_wp2
            refine wpIn_wide.2 ?_;go_quiet (fail)
            gi_wp2_with (first | (refine ⟨trivial, ?_⟩; gi_at_call 89; refine (callsIn_wide.2 (isBlank_any _ _)).mono ?_; rintro x w' ⟨rfl, hw⟩; subst w') | (refine ⟨trivial, ?_⟩; gi_at_call_has 90 (Value.string ⟨#[47, 47]⟩); refine (callsIn_wide.2 (U HY1 (W0.drewN nq) hm (hFd nq))).mono ?_; rintro x W2 ⟨rfl, hb2⟩; have hF2 : Fr (fun k => k = M) W0 W2 := (hFd nq).below hb2; have hm2 : MAt W2 M (.slice (some ⟨c, off, none⟩) len cap) at' ov := MAt.below (W := W0.drewN nq) hm hb2 hmw; clear hb2) | (refine ⟨trivial, ?_⟩; gi_at_call_has 90 (Value.string ⟨#[47, 42]⟩); refine (callsIn_wide.2 (U HY2 W2 hm2 hF2)).mono ?_; rintro x W3 ⟨rfl, hb3⟩; have hF3 : Fr (fun k => k = M) W0 W3 := hF2.below (hb3.mono hF2.size); have hm3 : MAt W3 M (.slice (some ⟨c, off, none⟩) len cap) at' ov := hm2.below hb3 hm2.lt; clear hb3) | (refine ⟨trivial, ?_⟩; gi_at_call 91; refine (callsIn_wide.2 (U HTK2 W3 hm3 hF3)).mono ?_; rintro x W4 ⟨rfl, ⟨ov', hm4, hO4, hOB4⟩, hF4⟩; have HO4 := Hi hO4; have HOB4 := Hi hOB4; clear hO4 hOB4))
            obtain ⟨W5, hW5⟩ : ∃ W5, W4.alloc (.cells #[.int .i64 kd, .string (strOfNums tx), .int .i64 (at' : Int), .int .i64 (e' : Int)] 40) = W5 := ⟨_, rfl⟩;have hF5 : Fr (fun k => k = M ∨ ov.ownBlock = some k) W0 W5 := by rw [← hW5]; exact ((hF3.mono (fun k _ e => .inl e)).trans hF4).alloc _
            have hm5 : MAt W5 M (.slice (some ⟨c, off, none⟩) len cap) (e' : Int) ov' := by rw [← hW5]; exact hm4.below ((Below.refl _ W4).alloc NL _) hm4.lt
            have hO5 : OwnO W5 M ov' bs' := by rw [← hW5]; exact (U HO4).below ((Below.refl _ W4).alloc NL _) NL
            have hnS : ∀ k, k ≤ M → k ≠ M → ¬ (k = M ∨ ov.ownBlock = some k) := fun k h1 h2 h => by
             rcases h with h | h
             · exact h2 h
             · have := ((U HOO).lt h).1; omega
            have hk5 : W5.heap[c]? = W.heap[c]? ∧ W5.heap[1]? = W.heap[1]? ∧ W5.heap[2]? = W.heap[2]? := ⟨(hF5.block c (by omega) (hnS c (by omega) (by omega))).trans (U HKK).1, (hF5.block 1 (by omega) (hnS 1 (by omega) (by omega))).trans (U HKK).2.1, (hF5.block 2 (by omega) (hnS 2 (by omega) (by omega))).trans (U HKK).2.2⟩
            have hob5 : ov'.ownBlock = ov.ownBlock ∨ ∃ k, ov'.ownBlock = some k ∧ W0.heap.size ≤ k := by
             rcases U HOB4 with h | ⟨k, h1, h2⟩
             · exact .inl h
             · exact .inr ⟨k, h1, Nat.le_trans hF3.size h2⟩
            rw [hW5];clear hW5;obtain ⟨fn, tm, asg, bd, hy0, hRd⟩ := U HY pre ov'.ownBlock ((kd, tx, at', e'), 0) W5 rfl (U HJ _ _ _ _ _ (U HJJ) hF5 hob5) (by omega) ⟨_, hm5⟩ (own_cells hO5) (by obtain ⟨o, h, hno⟩ := U HCC; exact ⟨o, hk5.1.trans h, hno⟩);have hy : (Instr.yield l #[.agg #[.int .i64 kd, .string (strOfNums tx), .int .i64 (at' : Int), .int .i64 (e' : Int)], .int .i64 0]).run Tryz.prog W5 = .ok (.round l fn tm asg bd) W5 := hy0;clear hy0;rw [hy, Oper.uponIn_round];refine ⟨fun _ => hn, hRd.mono ?_⟩;have hz5 := hF5.size;have HK5 := Hi hk5;have HO5 := Hi hO5;clear hk5 hO5 hob5 hnS;rintro x W6 (⟨rfl, hJ6, hK6⟩ | ⟨rfl, hJx6⟩)
            · have hm6 : MAt W6 M (.slice (some ⟨c, off, none⟩) len cap) (e' : Int) ov' := (hK6.1 M (.inl rfl)).trans hm5
              have HJ6 := Hi hJ6;have HK6 := Hi hK6;have hz6 := hK6.2;clear hJ6 hK6;gi_wp2
              refine ⟨⟨e', pre ++ [((kd, tx, at', e'), 0)], bs', ov', by simp; omega, by omega, by omega, by simp, U HIT3, U HJ6, hm6, (U HO5).keep (fun k hk => (U HK6).1 k (.inr (.inr (.inr (.inr hk))))), ⟨((U HK6).1 c (.inr (.inl rfl))).trans (U HK5).1, ((U HK6).1 1 (.inr (.inr (.inl rfl)))).trans (U HK5).2.1, ((U HK6).1 2 (.inr (.inr (.inr (.inl rfl))))).trans (U HK5).2.2⟩, by omega⟩, ?_⟩;rw [atOf_eq hm6, U HAT0];omega
            · have HJx6 := Hi hJx6
              clear hJx6;gi_wp2
              rw [Exit.noGoto_ret];refine bodyPost_ret (results_none rfl _ _ _) rfl ?_;exact ⟨⟨_, rfl⟩, .inr ⟨_, _, (U HIT3).symm, U HJx6⟩⟩
  · obtain rfl : at' = len := by omega
    have hltb : decide ((at' : Int) < at') = false := by simp
    have hit := U HIT;rw [sc_end (by omega)] at hit;have HIT3 := Hi hit;clear hit;gi_wp2
    refine wpIn_wide.2 ?_;go_quiet (fail)
    have hF5 : Fr (fun k => k = M ∨ ov.ownBlock = some k) W0 (W0.drewN (nq + 1)) := ⟨rfl, rfl, rfl, NL, fun _ _ _ => rfl⟩;obtain ⟨fn, tm, asg, bd, hy0, hRd0⟩ := U HY pre ov.ownBlock ((10, [], at', at'), 0) (W0.drewN (nq + 1)) rfl (U HJ _ _ _ _ _ (U HJJ) hF5 (.inl rfl)) (by omega) ⟨_, hm⟩ (own_cells (U HOO)) (by obtain ⟨o, h, hno⟩ := U HCC; exact ⟨o, (U HKK).1.trans h, hno⟩);have hy : (Instr.yield l #[.agg #[.int .i64 10, .string ⟨#[]⟩, .int .i64 (at' : Int), .int .i64 (at' : Int)], .int .i64 0]).run Tryz.prog (W0.drewN (nq + 1)) = .ok (.round l fn tm asg bd) (W0.drewN (nq + 1)) := hy0;clear hy0
    have HRd := Hi (hRd0.mono (R' := fun e A' => ∃ r : Bool, e = .returned (.bool r) ∧ ((∃ ob, J I ob A') ∨ ∃ pre rest, I = pre ++ rest ∧ Jx pre A')) (by
     rintro e A' (⟨rfl, h1, _⟩ | ⟨rfl, h1⟩)
     · exact ⟨true, rfl, .inl ⟨_, by rw [← U HIT3]; exact h1⟩⟩
     · exact ⟨false, rfl, .inr ⟨_, [], by rw [List.append_nil]; exact (U HIT3).symm, h1⟩⟩))
    clear hRd0;gi_wp2
    refine wpIn_region_any (by kernel_rfl) ?_;change wpAnyIn _ _ _ _ _ _ _ _ _ (World.drewN W0 (nq + 1));refine wpAnyIn_take (i := 0) (v := ?_) rfl rfl (by kernel_rfl) (by kernel_rfl) (by kernel_rfl) (fun _ _ _ h => h) ⟨Or.inl ⟨by rfl, ?_⟩, fun _ => rfl⟩ ?_;rotate_left
    · intro w; go_simp; try rfl
    refine wpAnyIn_take (i := 1) (v := ?_) rfl rfl (by kernel_rfl) (by kernel_rfl) (by kernel_rfl) (fun _ _ _ h => h) ⟨Or.inl ⟨by rfl, ?_⟩, fun _ => rfl⟩ ?_;rotate_left
    · intro w; go_simp; try rfl
    refine wpAnyIn_take (i := 6) (v := ?_) rfl rfl (by kernel_rfl) (by kernel_rfl) (by kernel_rfl) (fun _ _ _ h => h) ⟨Or.inl ⟨by rfl, ?_⟩, fun _ => rfl⟩ ?_;rotate_left
    · intro w; go_simp; try rfl
    refine wpAnyIn_take (i := 2) (v := ?_) rfl rfl (by kernel_rfl) (by kernel_rfl) (by kernel_rfl) (fun _ _ _ h => h) ⟨Or.inl ⟨by rfl, ?_⟩, fun _ => rfl⟩ ?_;rotate_left
    · intro w; go_simp; try rfl
    refine wpAnyIn_take (i := 7) (v := ?_) rfl rfl (by kernel_rfl) (by kernel_rfl) (by kernel_rfl) (fun _ _ _ h => h) ⟨Or.inl ⟨by rfl, ?_⟩, fun _ => rfl⟩ ?_;rotate_left
    · intro w; go_simp; try rfl
    refine wpAnyIn_take (i := 3) (v := ?_) rfl rfl (by kernel_rfl) (by kernel_rfl) (by kernel_rfl) (fun _ _ _ h => h) ⟨Or.inl ⟨by rfl, ?_⟩, fun _ => rfl⟩ ?_;rotate_left
    · intro w; go_simp; try rfl
    refine wpAnyIn_take (i := 8) (v := ?_) rfl rfl (by kernel_rfl) (by kernel_rfl) (by kernel_rfl) (fun _ _ _ h => h) ⟨Or.inl ⟨by rfl, ?_⟩, fun _ => rfl⟩ ?_;rotate_left
    · intro w; go_simp; try rfl
    refine wpAnyIn_ready (rs := [4, 9]) (by kernel_rfl) (by simp) ?_;refine AllReadyIn.cons rfl (fun K hK => ?_) (AllReadyIn.cons rfl (fun K hK => ?_) AllReadyIn.nil)
    · go_simp
      refine hK _ _ ?_;clear hK K;refine wpAnyIn_take (i := 5) (v := ?_) rfl rfl (by kernel_rfl) (by kernel_rfl) (by kernel_rfl) (fun _ _ _ h => h) ⟨Or.inl ⟨by rfl, ?_⟩, fun _ => rfl⟩ ?_;rotate_left
      · intro w; go_simp; try rfl
      refine wpAnyIn_ready (rs := [9]) (by kernel_rfl) (by simp) ?_;refine AllReadyIn.cons rfl (fun K hK => ?_) AllReadyIn.nil;go_simp
      refine hK _ _ ?_;clear hK K;refine wpAnyIn_take (i := 10) (v := ?_) rfl rfl (by kernel_rfl) (by kernel_rfl) (by kernel_rfl) (fun _ _ _ h => h) ⟨Or.inl ⟨by rfl, ?_⟩, fun _ => rfl⟩ ?_;rotate_left
      · intro w; go_simp; try rfl
      refine wpAnyIn_take (i := 11) (v := ?_) rfl rfl (by kernel_rfl) (by kernel_rfl) (by kernel_rfl) (fun _ _ _ h => h) ⟨Or.inl ⟨by rfl, ?_⟩, fun _ => rfl⟩ ?_;rotate_left
      · intro w; go_simp; try rfl
      refine wpAnyIn_ready (rs := [12]) (by kernel_rfl) (by simp) ?_;refine AllReadyIn.cons rfl (fun K hK => ?_) AllReadyIn.nil;go_simp
      refine (U HRd).mono ?_;rintro x W6 ⟨r, rfl, hor⟩;have HOR := Hi hor;clear hor;go_simp
      refine hK _ _ ?_;clear hK K;refine wpAnyIn_done (by kernel_rfl) ?_ _;rw [Exit.noGoto_normal];go_end0
      exact ⟨⟨_, rfl⟩, U HOR⟩
    · go_simp
      refine hK _ _ ?_;clear hK K;refine wpAnyIn_take (i := 10) (v := ?_) rfl rfl (by kernel_rfl) (by kernel_rfl) (by kernel_rfl) (fun _ _ _ h => h) ⟨Or.inl ⟨by rfl, ?_⟩, fun _ => rfl⟩ ?_;rotate_left
      · intro w; go_simp; try rfl
      refine wpAnyIn_ready (rs := [4]) (by kernel_rfl) (by simp) ?_;refine AllReadyIn.cons rfl (fun K hK => ?_) AllReadyIn.nil;go_simp
      refine hK _ _ ?_;clear hK K;refine wpAnyIn_take (i := 5) (v := ?_) rfl rfl (by kernel_rfl) (by kernel_rfl) (by kernel_rfl) (fun _ _ _ h => h) ⟨Or.inl ⟨by rfl, ?_⟩, fun _ => rfl⟩ ?_;rotate_left
      · intro w; go_simp; try rfl
      refine wpAnyIn_take (i := 11) (v := ?_) rfl rfl (by kernel_rfl) (by kernel_rfl) (by kernel_rfl) (fun _ _ _ h => h) ⟨Or.inl ⟨by rfl, ?_⟩, fun _ => rfl⟩ ?_;rotate_left
      · intro w; go_simp; try rfl
      refine wpAnyIn_ready (rs := [12]) (by kernel_rfl) (by simp) ?_;refine AllReadyIn.cons rfl (fun K hK => ?_) AllReadyIn.nil;go_simp
      refine (U HRd).mono ?_;rintro x W6 ⟨r, rfl, hor⟩;have HOR := Hi hor;clear hor;go_simp
      refine hK _ _ ?_;clear hK K;refine wpAnyIn_done (by kernel_rfl) ?_ _;rw [Exit.noGoto_normal];go_end0
      exact ⟨⟨_, rfl⟩, U HOR⟩
end
section
open Go.RowKit Go.Shelf
attribute [local go_sem] Oper.semAt_some
attribute [local go_sem] tokV
def rowD (l : List TokD) : List Value := l.flatMap fun t => [.int .i64 t.1.1, .string (strOfNums t.1.2.1), .int .i64 (t.1.2.2.1 : Int), .int .i64 (t.1.2.2.2 : Int)]
theorem rowD_snoc (l : List TokD) (t : TokD) : rowD (l ++ [t]) = rowD l ++ [.int .i64 t.1.1, .string (strOfNums t.1.2.1), .int .i64 (t.1.2.2.1 : Int), .int .i64 (t.1.2.2.2 : Int)] := by simp [rowD]
def okI (l : List TokD) : Prop := ∀ t ∈ l, t.2 = 0
theorem one_split {α : Type} {x t : α} {q rest : List α} (h : [x] = q ++ t :: rest) : rest = [] := by
 cases q with
 | nil => injection h with _ h; exact h.symm
 | cons y q => injection h with _ h; cases q <;> cases h
theorem sc_last {g : Nat → Int} {len : Nat} : ∀ (f i : Nat) (bs : List Bool) (q : List TokD) (t : TokD) (rest : List TokD), scF g len f i bs = q ++ t :: rest → t.2 ≠ 0 → rest = []
 | 0, i, bs, q, t, rest, h, ht => by cases q <;> cases h
 | f + 1, i, bs, q, t, rest, h, ht => by
   simp only [scF] at h;by_cases hl : i < len
   · rw [if_neg (fun h' => h' hl)] at h
     by_cases hb : blk (g i) = true
     · rw [if_pos hb] at h; exact sc_last f _ _ q t rest h ht
     rw [if_neg hb] at h;by_cases h1 : g i = 47 ∧ i + 1 < len ∧ g (i + 1) = 47
     · rw [if_pos h1] at h; exact sc_last f _ _ q t rest h ht
     rw [if_neg h1] at h;by_cases h2 : g i = 47 ∧ i + 1 < len ∧ g (i + 1) = 42
     · rw [if_pos h2] at h
       split at h
       · exact sc_last f _ _ q t rest h ht
       · exact one_split h
     rw [if_neg h2] at h;cases hk : tokP g len i bs with
     | none => rw [hk] at h; exact one_split h
     | some y =>
       obtain ⟨k, tx, e, bs'⟩ := y;rw [hk] at h;simp only at h;cases q with
       | nil =>
         injection h with h0 _
         exact absurd (congrArg Prod.snd h0).symm ht
       | cons y q =>
         injection h with _ h
         exact sc_last f _ _ q t rest h ht
   · rw [if_pos hl] at h; exact one_split h
def ScanMade' (w : World) (len : Nat) (g : Nat → Int) (e : Ending) (w' : World) : Prop :=
 ∃ Bk c a' cap', e = .returned (.func (.func 39) #[] #[.pointer (some ⟨Bk, 0, none⟩)]) ∧ Boxed w' Bk 22 (.slice a' len cap') ∧ Sl w' c (.slice a' len cap') len g ∧ w.heap.size ≤ Bk ∧ c < w'.heap.size ∧ w.heap.size ≤ c ∧ Below w.heap.size w w' ∧ CC w' c
theorem scan_nil (g : Nat → Int) (w : World) (hp : 0 < w.heap.size) : Calls Tryz.prog 19 #[.slice none 0 0] w (ScanMade' w 0 g) := by
 have H := Hi (clone_none g w hp);go_enter Tryz.func19, Tryz.ntmps19;go_wp2_with (go_at_call 38; refine (U H).mono ?_; rintro e w1 ⟨rfl, hw⟩; subst w1);go_ret;refine ⟨w.heap.size, w.heap.size, none, 0, rfl, Boxed.new w 22 _, .inl ⟨none, 0, rfl, rfl⟩, NL, by simp, NL, (Below.refl _ w).alloc NL _, _, Boxed.new w 22 _, fun cur e => by cases e⟩
theorem scan_src {a : Option Addr} {len cap c0 : Nat} {g : Nat → Int} {w : World} (hS : Sl w c0 (.slice a len cap) len g) (hnil : a = none → cap = 0) (hlen : len ≤ 65536) (hp : 0 < w.heap.size) : Calls Tryz.prog 19 #[.slice a len cap] w (ScanMade' w len g) := by
 cases a with
 | none =>
   obtain rfl := hnil rfl
   have hl : len = 0 := by
    rcases hS with ⟨_, _, h, h0⟩ | ⟨off, cap', h, _⟩
    · exact h0
    · cases h
   subst hl;exact scan_nil g w hp
 | some ad =>
   refine (scan_some ad len cap g w hlen (fun j hj => ?_)).mono ?_
   · rcases hS with ⟨_, _, h, h0⟩ | ⟨off, cap', h, h0, h1, h2, hc⟩
     · omega
     · cases h
       rw [Addr.add_lit];exact hc j hj
   · rintro e w' ⟨Bk, c, a', cap', h1, h2, h3, h4, h5, h6, h7, cur, fr, h8⟩
     exact ⟨Bk, c, a', cap', h1, h2, h3, h4, h5, h6, h7, _, h8, fun cur e => by cases e⟩
theorem scan2Y (n : Nat) (hn : 2 ≤ n) (l Bk c : Nat) (a : Option Addr) (len cap : Nat) (g : Nat → Int) (hg : ∀ j, 0 ≤ g j ∧ g j ≤ 255) (hlen : len ≤ 4000) (W : World) (hcM : c < W.heap.size) (J : List TokD → Option Nat → World → Prop) (Jx : List TokD → World → Prop)
 (hJ : ∀ pre ob ob' A C, J pre ob A → Fr (fun k => k = W.heap.size ∨ ob = some k) A C → (ob' = ob ∨ ∃ k, ob' = some k ∧ A.heap.size ≤ k) → J pre ob' C)
 (hY : ∀ pre ob t A, t.2 = 0 → J pre ob A → pre.length < len + 1 → (∃ cs : Array Value, A.heap[W.heap.size]? = some (.cells cs 87)) → (∀ k, ob = some k → W.heap.size < k ∧ ∃ cur, A.heap[k]? = some (.cells cur 4 (0, 0))) → CC A c → YieldAt Fence.wide (n - 1 - 1) Tryz.prog l #[tdV t, .int .i64 t.2] A fun e A' =>
  (e = .returned (.bool true) ∧ J (pre ++ [t]) ob A' ∧ Kept W.heap.size c ob A A') ∨ (e = .returned (.bool false) ∧ Jx (pre ++ [t]) A'))
 (hYe : ∀ pre ob i A, J pre ob A → pre.length < len + 1 → YieldAt Fence.wide (n - 1 - 1) Tryz.prog l #[tdV ((0, [], i, 0), 3), .int .i64 3] A fun e A' => ∃ r : Bool, e = .returned (.bool r) ∧ ((∃ ob', J (pre ++ [((0, [], i, 0), 3)]) ob' A') ∨ Jx (pre ++ [((0, [], i, 0), 3)]) A'))
 (h0 : J [] none W) (hB : Boxed W Bk 22 (.slice a len cap)) (hS : Sl W c (.slice a len cap) len g) (hcc : CC W c) (hE1 : ErrG W 1) (hE2 : ErrG W 2) :
 CallsIn Fence.wide n Tryz.prog 39 #[.func (.yield l) #[] #[], .pointer (some ⟨Bk, 0, none⟩)] W fun e W' => (∃ v, e = .returned v) ∧ ((∃ ob, J (scI g len 0 []) ob W') ∨ ∃ pre rest, scI g len 0 [] = pre ++ rest ∧ Jx pre W') := by
 obtain ⟨W1, hW1⟩ : ∃ W1, W.alloc (.cells #[.slice a len cap, .int .i64 0, .slice none 0 0] 87) = W1 := ⟨_, rfl⟩;have hF1 : Fr (fun k => k = W.heap.size ∨ (none : Option Nat) = some k) W W1 := by rw [← hW1]; exact (Fr.refl _ W).alloc _
 have hM1 : MAt W1 W.heap.size (.slice a len cap) ((0 : Nat) : Int) (.slice none 0 0) := by rw [← hW1]; exact World.alloc_heap_new W _
 have hB1 : Below W.heap.size W W1 := by rw [← hW1]; exact (Below.refl _ W).alloc NL _
 have hS1 : Sl W1 c (.slice a len cap) len g := hS.keep (fun k e => by subst e; exact hB1.block k hcM)
 have hcc1 : CC W1 c := by
  obtain ⟨o, h, hno⟩ := hcc;exact ⟨o, (hB1.block c hcM).trans h, hno⟩
 have HC := Hi (scanY (n - 1) (by omega) l W.heap.size c a len cap g hg hlen hcM hE2.lt J Jx hJ hY hYe W1 (hJ _ _ _ _ _ h0 hF1 (.inl rfl)) hM1 hS1 hcc1 (hE1.below hB1 hE1.lt) (hE2.below hB1 hE2.lt));have cb := hB.cell;have HW1 := Hi hW1;clear hJ hY hYe h0 hS hS1 hW1;refine callsIn_of_wp Tryz.func39 rfl trivial ?_ rfl;simp only [Tryz.ntmps39, List.size_toArray, List.length_cons, List.length_nil, Nat.reduceAdd, Nat.reduceSub, Array.replicate_succ, Array.replicate_zero, List.push_toArray, List.append_toArray, List.nil_append, List.cons_append];gi_wp2
 refine ⟨trivial, fun _ => by omega, ?_⟩;rw [show W.alloc (.cells #[.slice a len cap, .int .i64 0, .slice none 0 0] 87) = W1 from U HW1];refine (U HC).mono ?_;rintro x W2 ⟨⟨u, rfl⟩, hor⟩;have HOR := Hi hor;clear hor;gi_wp2
 go_end0
 exact ⟨⟨_, rfl⟩, U HOR⟩
def opsE : Array Oper := #[{ dst := some 14, op := Op.fieldAddr 40 (Operand.tmp 6) 2, type := 0, pos := "lex.go:33", after := #[{ on := 3, ground := Ground.gcOnly Departure.lateStores }], guard := none },
 { dst := some 15, op := Op.load 3 (Operand.tmp 14), type := 3, pos := "lex.go:33", after := #[{ on := 0, ground := Ground.data }, { on := 3, ground := Ground.gcOnly Departure.lateStores }], guard := none },
 { dst := some 16, op := Op.move (Operand.tmp 7), type := 26, pos := "lex.go:33", after := #[{ on := 4, ground := Ground.gcOnly Departure.lateStores }], guard := none },
 { dst := none, op := Op.store 36 (Operand.tmp 2) (Operand.const (Value.slice none 0 0)), type := 0, pos := "lex.go:33", after := #[{ on := 0, ground := Ground.textOnly Departure.lateStores }, { on := 1, ground := Ground.textOnly Departure.lateStores }, { on := 2, ground := Ground.textOnly Departure.lateStores }], guard := none },
 { dst := none, op := Op.store 3 (Operand.tmp 3) (Operand.tmp 15), type := 0, pos := "lex.go:33", after := #[{ on := 1, ground := Ground.data }, { on := 3, ground := Ground.chain }, { on := 0, ground := Ground.phase }, { on := 1, ground := Ground.phase }, { on := 2, ground := Ground.textOnly Departure.lateStores }, { on := 3, ground := Ground.phase }], guard := none },
 { dst := none, op := Op.store 26 (Operand.tmp 4) (Operand.tmp 16), type := 0, pos := "lex.go:33", after := #[{ on := 2, ground := Ground.data }, { on := 4, ground := Ground.chain }, { on := 0, ground := Ground.phase }, { on := 1, ground := Ground.phase }, { on := 2, ground := Ground.phase }, { on := 3, ground := Ground.phase }, { on := 4, ground := Ground.phase }], guard := none }]
def ErrW (A A6 : World) (b0 b1 b2 : Nat) (x : Int) : Prop :=
 Boxed A6 b0 36 (.slice none 0 0) ∧ Boxed A6 b1 3 (.int .i64 x) ∧ Boxed A6 b2 26 (.int .i64 3) ∧ (∀ k, k ≠ b0 → k ≠ b1 → k ≠ b2 → A6.heap[k]? = A.heap[k]?) ∧ A6.heap.size = A.heap.size ∧ A6.os = A.os ∧ A6.tape = A.tape ∧ A6.output = A.output
theorem err_region (lp : Nat) (Q : Exit → Act → World → Prop) (A : World) (b0 b1 b2 bt : Nat) (x x0 x1 : Int) (t0 t1 t5 t8 t9 t10 t11 t12 t13 : Value) (v0 : Value) (nn : Nat)
 (p0 : Boxed A b0 36 v0) (p1 : Boxed A b1 3 (.int .i64 x0)) (p2 : Boxed A b2 26 (.int .i64 x1)) (d1 : b0 ≠ b1) (d2 : b0 ≠ b2) (d3 : b1 ≠ b2) (d4 : bt ≠ b0) (d5 : bt ≠ b1) (d6 : bt ≠ b2)
 (ct : A.cell? ⟨bt, 2, none⟩ = some (.int .i64 x))
 (hQ : ∀ A6, ErrW A A6 b0 b1 b2 x → Q .normal { tmps := #[t0, t1, .pointer (some ⟨b0, 0, none⟩), .pointer (some ⟨b1, 0, none⟩), .pointer (some ⟨b2, 0, none⟩), t5, .pointer (some ⟨bt, 0, none⟩), .int .i64 3, t8, t9, t10, t11, t12, t13, .pointer (some ⟨bt, 2, none⟩), .int .i64 x, .int .i64 3, undef, undef, undef, undef, undef], defers := [] } A6) :
 (Code.region 6 opsE true).wpIn (Fence.wide.inRound lp) nn Tryz.prog Q { tmps := #[t0, t1, .pointer (some ⟨b0, 0, none⟩), .pointer (some ⟨b1, 0, none⟩), .pointer (some ⟨b2, 0, none⟩), t5, .pointer (some ⟨bt, 0, none⟩), .int .i64 3, t8, t9, t10, t11, t12, t13, undef, undef, undef, undef, undef, undef, undef, undef], defers := [] } A := by
 have HQ := Hi hQ;clear hQ;have c0 := p0.cell;have f0 := p0.frozen;have c1 := p1.cell;have f1 := p1.frozen;have c2 := p2.cell;have f2 := p2.frozen;have HP0 := Hi p0;have HP1 := Hi p1;have HP2 := Hi p2;unfold opsE;gi_region
 all_goals (
  refine U HQ _ ⟨?_, ?_, ?_, ?_, ?_, rfl, rfl, rfl⟩
  · exact (((U HP0).set _).other d1 _).other d2 _
  · exact (((U HP1).other d1.symm _).set _).other d3 _
  · exact (((U HP2).other d2.symm _).other d3.symm _).set _
  · intro k h0 h1 h2
    exact ((Below.heap_setCell _ _ _ _ h2).trans (Below.heap_setCell _ _ _ _ h1)).trans (Below.heap_setCell _ _ _ _ h0)
  · simp [World.setCell])
def TW (w : World) (l D L M c : Nat) (rc : Loop) (pre : List TokD) (ob : Option Nat) (A : World) : Prop :=
 okI pre ∧ A.heap[l]? = some (.loop rc) ∧ A.heap[D]? = some (.deferred (some [])) ∧ M ≤ A.heap.size ∧ Below w.heap.size w A ∧ (Boxed A w.heap.size 36 (.slice none 0 0) ∧ Boxed A (w.heap.size + 1) 3 (.int .i64 0) ∧ Boxed A (w.heap.size + 1 + 1) 26 (.int .i64 0)) ∧
  ∃ v, Boxed A L 36 v ∧ A.ownsRow w.heap.size 40 4 v pre.length (rowD pre) ∧ v.ownBlock ≠ some M ∧ ∀ k, ob = some k → M ≤ k ∧ v.ownBlock ≠ some k
theorem TW.fr {w : World} {l D L M c : Nat} {rc : Loop} {pre : List TokD} {ob ob' : Option Nat} {A C : World} (h : TW w l D L M c rc pre ob A) (hf : Fr (fun k => k = M ∨ ob = some k) A C) (hob : ob' = ob ∨ ∃ k, ob' = some k ∧ A.heap.size ≤ k) (h1 : l < M) (h2 : D < M) (h4 : w.heap.size + 1 + 1 < M) (h5 : L < M) : TW w l D L M c rc pre ob' C := by
 obtain ⟨a0, a1, a2, a4, a5, ⟨b0, b1, b2⟩, v, a6, a7, a8, a9⟩ := h;have hsz := hf.size
 have hn : ∀ k, k < M → ¬ (k = M ∨ ob = some k) := fun k hk h => by
  rcases h with h | h
  · omega
  · have := (a9 k h).1; omega
 refine ⟨a0, (hf.block l (by omega) (hn l h1)).trans a1, (hf.block D (by omega) (hn D h2)).trans a2, by omega, a5.trans (hf.toBelow a5.size (fun k hk => hn k (by omega))), ⟨boxed_fr b0 hf (hn _ (by omega)), boxed_fr b1 hf (hn _ (by omega)), boxed_fr b2 hf (hn _ (by omega))⟩, v, boxed_fr a6 hf (hn _ h5), ?_, a8, ?_⟩
 · refine row_keepx a7 fun k hk => hf.block k (World.ownsRow.lt a7 k hk).2 fun h => ?_
   rcases h with h | h
   · subst h; exact a8 hk
   · exact (a9 k h).2 hk
 · intro k hk
   rcases hob with rfl | ⟨k', hk', hl⟩
   · exact a9 k hk
   · rw [hk] at hk'
     injection hk' with hk'
     subst hk';exact ⟨by omega, fun e => by have := (World.ownsRow.lt a7 k e).2; omega⟩
def TX (w : World) (l D : Nat) (rc : Loop) (items : List TokD) (A : World) : Prop :=
 ∃ (p : List TokD) (i : Nat), items = p ++ [((0, [], i, 0), 3)] ∧ okI p ∧ A.heap[l]? = some (.loop { rc with state := .done, pending := some .ret }) ∧ A.heap[D]? = some (.deferred (some [])) ∧ Below w.heap.size w A ∧ Boxed A w.heap.size 36 (.slice none 0 0) ∧ Boxed A (w.heap.size + 1) 3 (.int .i64 (i : Int)) ∧ Boxed A (w.heap.size + 1 + 1) 26 (.int .i64 3)
def TokensR (g : Nat → Int) (len : Nat) (w : World) (e : Ending) (w' : World) : Prop :=
 ((okI (scI g len 0 []) ∧ ∃ v, e = .returned (.tuple #[v, .int .i64 0, .int .i64 0]) ∧ w'.ownsRow w.heap.size 40 4 v (scI g len 0 []).length (rowD (scI g len 0 []))) ∨
   ∃ (p : List TokD) (i : Nat), scI g len 0 [] = p ++ [((0, [], i, 0), 3)] ∧ okI p ∧ e = .returned (.tuple #[.slice none 0 0, .int .i64 (i : Int), .int .i64 3])) ∧ Below w.heap.size w w'
theorem tokens_any (a : Option Addr) (len cap c0 : Nat) (g : Nat → Int) (hg : ∀ j, 0 ≤ g j ∧ g j ≤ 255) (w : World) (hlen : len ≤ 4000) (hS0 : Sl w c0 (.slice a len cap) len g) (hc0 : c0 < w.heap.size) (hnil : a = none → cap = 0) (hE1 : ErrG w 1) (hE2 : ErrG w 2) :
 CallsIn Fence.wide 8 Tryz.prog 11 #[.slice a len cap] w (TokensR g len w) := by
 have h2w := hE2.lt;refine callsIn_of_wp_marks Tryz.func11 rfl trivial ?_ rfl;simp only [Tryz.ntmps11, List.size_toArray, List.length_cons, List.length_nil, Nat.reduceAdd, Nat.reduceSub, Array.replicate_succ, Array.replicate_zero, List.push_toArray, List.append_toArray, List.nil_append, List.cons_append];gi_wp2
 obtain ⟨W1, hW1⟩ : ∃ W1, (((w.alloc (.cells #[.slice none 0 0] 36)).alloc (.cells #[.int .i64 0] 3)).alloc (.cells #[.int .i64 0] 26)).alloc (.cells #[.slice none 0 0] 36) = W1 := ⟨_, rfl⟩;have hB1 : Below w.heap.size w W1 := by rw [← hW1]; exact ((((Below.refl _ w).alloc NL _).alloc (by simp) _).alloc (by simp; omega) _).alloc (by simp; omega) _
 have hz1 : W1.heap.size = w.heap.size + 1 + 1 + 1 + 1 := by rw [← hW1]; simp
 have b0 : Boxed W1 w.heap.size 36 (.slice none 0 0) := by rw [← hW1]; exact (((Boxed.new w 36 _).alloc _).alloc _).alloc _
 have b1 : Boxed W1 (w.heap.size + 1) 3 (.int .i64 0) := by
  have := ((Boxed.new (w.alloc (.cells #[.slice none 0 0] 36)) 3 (.int .i64 0)).alloc (.cells #[.int .i64 0] 26)).alloc (.cells #[.slice none 0 0] 36);rw [World.size_alloc] at this;rw [← hW1]; exact this
 have b2 : Boxed W1 (w.heap.size + 1 + 1) 26 (.int .i64 0) := by
  have := (Boxed.new ((w.alloc (.cells #[.slice none 0 0] 36)).alloc (.cells #[.int .i64 0] 3)) 26 (.int .i64 0)).alloc (.cells #[.slice none 0 0] 36);rw [World.size_alloc, World.size_alloc] at this;rw [← hW1]; exact this
 have b3 : Boxed W1 (w.heap.size + 1 + 1 + 1) 36 (.slice none 0 0) := by
  have := Boxed.new (((w.alloc (.cells #[.slice none 0 0] 36)).alloc (.cells #[.int .i64 0] 3)).alloc (.cells #[.int .i64 0] 26)) 36 (.slice none 0 0);rw [World.size_alloc, World.size_alloc, World.size_alloc] at this;rw [← hW1]; exact this
 rw [hW1];clear hW1;refine ⟨trivial, (callsIn_wide.2 (scan_src (hS0.keep (B := W1) (fun k e => by subst e; exact hB1.block k hc0)) hnil (by omega) (by omega))).mono ?_⟩;rintro e W2 ⟨Bk, c, a', cap', rfl, hBk, hSc, hbk1, hc1, hc2, hB2, hcur⟩;have HSc := Hi hSc;clear hS0 hSc;gi_wp2
 have hz2 := hB2.size;have hbl := hBk.lt;refine range_enter rfl (by omega) (gf := 39) (lb := #[.pointer (some ⟨Bk, 0, none⟩)]) rfl trivial enter34 ?_;intro fn hfn;generalize hrc : recOf fn _ _ _ _ _ _ _ = rc;obtain ⟨W3, hW3⟩ : ∃ W3, ranged W2 rc = W3 := ⟨_, rfl⟩;have hz3 : W3.heap.size = W2.heap.size + 1 + 1 := by rw [← hW3]; exact ranged_size W2 rc
 have hB3 : Below W2.heap.size W2 W3 := by rw [← hW3]; exact ranged_below W2 rc
 have hl3 : W3.heap[W2.heap.size + 1]? = some (.loop rc) := by rw [← hW3]; exact ranged_l W2 rc
 have hd3 : W3.heap[W2.heap.size]? = some (.deferred (some [])) := by rw [← hW3]; exact ranged_d W2 rc
 rw [hW3];clear hW3;have hB12 : Below W1.heap.size W1 W3 := hB2.trans (hB3.mono hz2)
 have hj0 : TW w (W2.heap.size + 1) W2.heap.size (w.heap.size + 1 + 1 + 1) W3.heap.size c rc [] none W3 :=
  ⟨fun t ht => by simp at ht, hl3, hd3, NL, hB1.trans (hB12.mono hB1.size), ⟨boxed_below b0 hB12 (by omega), boxed_below b1 hB12 (by omega), boxed_below b2 hB12 (by omega)⟩, .slice none 0 0, boxed_below b3 hB12 (by omega), World.ownsRow_nil _ _ _ _, by simp [Value.ownBlock], fun k hk => by cases hk⟩
 have hcc3 : CC W3 c := by
  obtain ⟨o, h, hno⟩ := hcur;exact ⟨o, (hB3.block c hc1).trans h, hno⟩
 have hBw3 : Below w.heap.size w W3 := hB1.trans (hB12.mono hB1.size);refine (scan2Y 7 (by omega) (W2.heap.size + 1) Bk c a' len cap' g hg hlen W3 (by omega) (TW w (W2.heap.size + 1) W2.heap.size (w.heap.size + 1 + 1 + 1) W3.heap.size c rc) (TX w (W2.heap.size + 1) W2.heap.size rc) (fun pre ob ob' A C h hf hob => h.fr hf hob (by omega) (by omega) (by omega) (by omega)) ?hY ?hYe hj0 (boxed_below hBk hB3 hbl) ((U HSc).keep (fun k e => by subst e; exact hB3.block k hc1)) hcc3 (hE1.below hBw3 (by omega)) (hE2.below hBw3 (by omega))).mono ?post
 case hY =>
  rintro pre ob ⟨⟨kd, tx, i, i'⟩, er⟩ A her ⟨a0, a1, a2, a4, a5, ⟨q0, q1, q2⟩, v, a6, a7, a8, a9⟩ hpl ⟨cs, hcs⟩ hobc ⟨oc, hoc, hocn⟩;obtain ⟨S, hSx⟩ : ∃ S, strOfNums tx = S := ⟨_, rfl⟩;have HSX := Hi hSx;dsimp only [tdV];rw [hSx];clear hSx;obtain rfl : er = 0 := her;rw [← hrc] at a1;refine yield_round (W₁ := ?W1) hfn a1 rfl ?a1 ?hl1 ?hassign ?hbody
  case hassign =>
   intro K hK;gi_wp2
   exact hK
  case hl1 => exact (Below.heap_alloc A _ _ (Array.getElem?_eq_some_iff.1 a1).1).trans a1
  case hbody =>
   have hrb : { (recOf fn _ _ _ _ _ .busy none : Loop) with state := .ready, pending := none } = rc := hrc;generalize recOf fn _ _ _ _ _ .busy none = rb at hrb ⊢;have hla : W2.heap.size + 1 < A.heap.size := (Array.getElem?_eq_some_iff.1 a1).1;obtain ⟨A1, hA1⟩ : ∃ A1, (A.alloc (.cells #[.int .i64 kd, .string S, .int .i64 (i : Int), .int .i64 (i' : Int)] 40)).putObj (W2.heap.size + 1) (.loop rb) = A1 := ⟨_, rfl⟩;have hk1 : ∀ k, k < A.heap.size → k ≠ W2.heap.size + 1 → A1.heap[k]? = A.heap[k]? := fun k hk hn => by rw [← hA1]; exact (World.putObj_heap_other hn).trans (Below.heap_alloc A _ k hk)
   have hl1 : A1.heap[W2.heap.size + 1]? = some (.loop rb) := by rw [← hA1]; exact World.putObj_heap_same (by simp; omega)
   have ht1 : A1.heap[A.heap.size]? = some (.cells #[.int .i64 kd, .string S, .int .i64 (i : Int), .int .i64 (i' : Int)] 40) := by rw [← hA1]; exact (World.putObj_heap_other (by omega)).trans (World.alloc_heap_new A _)
   have hzA1 : A1.heap.size = A.heap.size + 1 := by rw [← hA1]; simp
   have hA1os : A1.os = A.os := by rw [← hA1]; rfl
   have hA1tape : A1.tape = A.tape := by rw [← hA1]; rfl
   have hA1out : A1.output = A.output := by rw [← hA1]; rfl
   rw [hA1];clear hA1;have hLb := a6.lt;have bL : Boxed A1 (w.heap.size + 1 + 1 + 1) 36 v := (hk1 _ hLb (by omega)).trans a6
   have own1 : A1.ownsRow w.heap.size 40 4 v pre.length (rowD pre) := by
    refine ⟨a7.1, ?_⟩;rcases a7.2 with h | ⟨gw, cp, cr, rfl, p1, p2, p3⟩
    · exact .inl h
    · refine .inr ⟨gw, cp, cr, rfl, p1, (hk1 gw (Array.getElem?_eq_some_iff.1 p2).1 (fun e => ?_)).trans p2, p3⟩
      rw [e, a1] at p2;cases p2
   obtain ⟨ao, cv, rfl⟩ : ∃ ao cv, v = .slice ao pre.length cv := by
    rcases a7.2 with ⟨h, h0⟩ | ⟨gw, cp, cr, h, _⟩
    · exact ⟨none, 0, by rw [h, h0]⟩
    · exact ⟨_, cp, h⟩
   obtain ⟨t0, t1, t2, t3⟩ := tok_cells ht1;obtain ⟨i0, hi, hz0, hz1', hz2'⟩ := info_parts infoTok;have cL := bL.cell;have OWN := Hi own1;clear own1 a7;have hzw := a5.size;gi_wp2_with (gi_at_builtin; refine wpListIn_append_own _ rfl _ _ 36 rfl w.heap.size 40 i0 _ 4 40 Tryz.underlying36 hi hz0 hz1' hz2' rfl (by decide) _ _ _ rfl ((U OWN).alloc _) ⟨A.heap.size + 1, 0, none⟩ 1 1 [.int .i64 kd, .string S, .int .i64 (i : Int), .int .i64 (i' : Int)] rfl rfl ?c1 ?c2 ?c3 ?c4 ?c5 ?_)
   case c2 => exact ⟨rfl, rfl, rfl, rfl⟩
   case c3 => first | (unfold maxLen; omega) | omega
   case c4 => omega
   case c5 => first | omega | (simp; omega)
   intro v' w2 hown2 hgrow _;obtain ⟨x1, x2, x3, x4, x5⟩ := bL.appended (by decide) (U OWN) (by omega) (by omega) hown2 hgrow;obtain ⟨g2, cp2, rfl⟩ := ownsRow_succ hown2;have x1c := x1.cell;have x1f := x1.frozen;have hgr := Hi hgrow;have X3 := Hi x3;clear hgrow hown2 x3;gi_wp2
   obtain ⟨W6, hW6⟩ : ∃ W6, w2.setCell ⟨w.heap.size + 1 + 1 + 1, 0, none⟩ (.slice (some ⟨g2, 0, none⟩) (pre.length + 1) cp2) = W6 := ⟨_, rfl⟩
   have hk6 : ∀ k, k < A.heap.size → k ≠ W2.heap.size + 1 → k ≠ w.heap.size + 1 + 1 + 1 → (Value.slice ao pre.length cv).ownBlock ≠ some k → W6.heap[k]? = A.heap[k]? := fun k h1 h2 h3 h4 => by
    rw [← hW6, Below.heap_setCell _ _ _ _ (by simpa using h3), (U hgr).block k (by simp; omega) (fun e => h4 e.symm), Below.heap_alloc A1 _ k (by omega)];exact hk1 k h1 h2
   rw [hW6] at x2 x4 x5 X3 ⊢;have hl6 : W6.heap[W2.heap.size + 1]? = some (.loop rb) := x4.same _ _ hl1 rfl;have hz6 := x4.size;clear hW6;have own1 := U OWN;have nA : ∀ k o, k < A.heap.size → k ≠ W2.heap.size + 1 → A.heap[k]? = some o → (∀ cr, o ≠ .cells cr 40 (0, 0)) → (Value.slice ao pre.length cv).ownBlock ≠ some k := fun k o h1 h2 h3 h4 => own_ne own1 ((hk1 k h1 h2).trans h3) h4
   have e7 : { rb with state := if (none : Option Code).isNone then LoopState.ready else LoopState.done, pending := none } = rc := hrb;have hMl : W3.heap.size < A.heap.size := (Array.getElem?_eq_some_iff.1 hcs).1;have kM := hk6 W3.heap.size hMl (by omega) (by omega) (nA _ _ hMl (by omega) hcs (fun cr e => by cases e));have hcl : c < A.heap.size := (Array.getElem?_eq_some_iff.1 hoc).1;have kc := hk6 c hcl (by omega) (by omega) (nA _ _ hcl (by omega) hoc hocn);have kD := hk6 W2.heap.size (by omega) (by omega) (by omega) (nA _ _ (by omega) (by omega) a2 (fun cr e => by cases e));have k0 := hk6 w.heap.size (by omega) (by omega) (by omega) (nA _ _ (by omega) (by omega) q0 (fun cr e => by cases e));have k1 := hk6 (w.heap.size + 1) (by omega) (by omega) (by omega) (nA _ _ (by omega) (by omega) q1 (fun cr e => by cases e));have k2 := hk6 (w.heap.size + 1 + 1) (by omega) (by omega) (by omega) (nA _ _ (by omega) (by omega) q2 (fun cr e => by cases e));have hlow : ∀ k, k < w.heap.size → W6.heap[k]? = A.heap[k]? := fun k hk => hk6 k (by omega) (by omega) (by omega) (fun e => by have := (World.ownsRow.lt own1 k e).1; omega)
   have kob : ∀ k, ob = some k → W6.heap[k]? = A.heap[k]? ∧ k ≠ W2.heap.size + 1 := fun k hk => by
    obtain ⟨hk1', cur, hcu⟩ := hobc k hk;have hkl : k < A.heap.size := (Array.getElem?_eq_some_iff.1 hcu).1;exact ⟨hk6 k hkl (by omega) (by omega) (a9 k hk).2, by omega⟩
   have hkk : ∀ k, k = W3.heap.size ∨ k = c ∨ k = 1 ∨ k = 2 ∨ ob = some k → (W6.putObj (W2.heap.size + 1) (.loop rc)).heap[k]? = A.heap[k]? := fun k hk => by
    rcases hk with rfl | rfl | rfl | rfl | hk
    · exact (World.putObj_heap_other (by omega)).trans kM
    · exact (World.putObj_heap_other (by omega)).trans kc
    · exact (World.putObj_heap_other (by omega)).trans (hlow _ (by omega))
    · exact (World.putObj_heap_other (by omega)).trans (hlow _ (by omega))
    · exact (World.putObj_heap_other (kob k hk).2).trans (kob k hk).1
   refine ⟨_, _, run_endRound none hl6, .inl ⟨rfl, ?_, ?_⟩⟩;rotate_left
   · rw [e7]
     exact ⟨hkk, by simp; omega⟩
   rw [e7];refine ⟨fun t ht => ?_, World.putObj_heap_same (by omega), (World.putObj_heap_other (by omega)).trans (kD.trans a2), by simp; omega, ?_, ⟨(World.putObj_heap_other (by omega)).trans (k0.trans q0), (World.putObj_heap_other (by omega)).trans (k1.trans q1), (World.putObj_heap_other (by omega)).trans (k2.trans q2)⟩, _, (World.putObj_heap_other (by omega)).trans x2, ?_, ?_, fun k hk => ⟨(a9 k hk).1, ?_⟩⟩
   · rcases List.mem_append.1 ht with h | h
     · exact a0 t h
     · simp at h; subst h; rfl
   · have hbA : Below w.heap.size w W6 := by
      refine ⟨x5.os.trans ?_, x5.tape.trans ?_, x5.output.trans ?_, by have := a5.size; omega, fun k hk => ?_⟩
      · rw [hA1os]; exact a5.os
      · rw [hA1tape]; exact a5.tape
      · rw [hA1out]; exact a5.output
      · exact (x5.block k hk).trans ((hk1 k (by omega) (by omega)).trans (a5.block k hk))
     exact hbA.trans ((Below.refl _ W6).grown (grownBy_putObj' W6 (W2.heap.size + 1) (.loop rc)) hbA.size (fun k e => by cases e; omega))
   · have := ownsRow_putObj (U X3) (.loop rc) hl6 rfl
     rw [rowD_snoc];simp only [List.length_append, List.length_cons, List.length_nil];rw [show strOfNums tx = S from U HSX];exact this
   · exact own_ne (U X3) (kM.trans hcs) (fun cr e => by cases e)
   · obtain ⟨_, cur, hcu⟩ := hobc k hk
     exact own_ne (U X3) ((kob k hk).1.trans hcu) (fun cr e => by cases e)
 case hYe =>
  rintro pre ob i A ⟨a0, a1, a2, a4, a5, ⟨q0, q1, q2⟩, v, a6, a7, a8, a9⟩ hpl;rw [← hrc] at a1;dsimp only [tdV];rw [show strOfNums [] = ⟨#[]⟩ from rfl];refine yield_round (W₁ := ?W1e) hfn a1 rfl ?a1e ?hl1e ?hassigne ?hbodye
  case hassigne =>
   intro K hK;gi_wp2
   exact hK
  case hl1e => exact (Below.heap_alloc A _ _ (Array.getElem?_eq_some_iff.1 a1).1).trans a1
  case hbodye =>
   have hrb : { (recOf fn _ _ _ _ _ .busy none : Loop) with state := .ready, pending := none } = rc := hrc;generalize recOf fn _ _ _ _ _ .busy none = rb at hrb ⊢;have hla : W2.heap.size + 1 < A.heap.size := (Array.getElem?_eq_some_iff.1 a1).1;obtain ⟨A1, hA1⟩ : ∃ A1, (A.alloc (.cells #[.int .i64 0, .string ⟨#[]⟩, .int .i64 (i : Int), .int .i64 0] 40)).putObj (W2.heap.size + 1) (.loop rb) = A1 := ⟨_, rfl⟩;have hk1 : ∀ k, k < A.heap.size → k ≠ W2.heap.size + 1 → A1.heap[k]? = A.heap[k]? := fun k hk hn => by rw [← hA1]; exact (World.putObj_heap_other hn).trans (Below.heap_alloc A _ k hk)
   have hl1 : A1.heap[W2.heap.size + 1]? = some (.loop rb) := by rw [← hA1]; exact World.putObj_heap_same (by simp; omega)
   have ht1 : A1.heap[A.heap.size]? = some (.cells #[.int .i64 0, .string ⟨#[]⟩, .int .i64 (i : Int), .int .i64 0] 40) := by rw [← hA1]; exact (World.putObj_heap_other (by omega)).trans (World.alloc_heap_new A _)
   have hzA1 : A1.heap.size = A.heap.size + 1 := by rw [← hA1]; simp
   have hA1os : A1.os = A.os := by rw [← hA1]; rfl
   have hA1tape : A1.tape = A.tape := by rw [← hA1]; rfl
   have hA1out : A1.output = A.output := by rw [← hA1]; rfl
   rw [hA1];clear hA1;obtain ⟨t0, t1, t2, t3⟩ := tok_cells ht1;have p0 : Boxed A1 w.heap.size 36 (.slice none 0 0) := (hk1 _ (by omega) (by omega)).trans q0;have p1 : Boxed A1 (w.heap.size + 1) 3 (.int .i64 0) := (hk1 _ (by omega) (by omega)).trans q1;have p2 : Boxed A1 (w.heap.size + 1 + 1) 26 (.int .i64 0) := (hk1 _ (by omega) (by omega)).trans q2;have hd1 : A1.heap[W2.heap.size]? = some (.deferred (some [])) := (hk1 _ (by omega) (by omega)).trans a2;have hBA1 : Below w.heap.size w A1 := ⟨hA1os.trans a5.os, hA1tape.trans a5.tape, hA1out.trans a5.output, by have := a5.size; omega, fun k hk => (hk1 k (by have := a5.size; omega) (by omega)).trans (a5.block k hk)⟩;have HP0 := Hi p0;have HP1 := Hi p1;have HP2 := Hi p2;clear p0 p1 p2;gi_wp2
   refine err_region _ _ _ _ _ _ _ _ _ _ _ _ _ _ _ _ _ _ _ _ _ (U HP0) (U HP1) (U HP2) (by omega) (by omega) (by omega) (by omega) (by omega) (by omega) t2 ?_;intro A6 hA6;obtain ⟨c0, c1, c2, hoth, hsz6, hos6, htp6, hou6⟩ := hA6;have hl6 : A6.heap[W2.heap.size + 1]? = some (.loop rb) := (hoth _ (by omega) (by omega) (by omega)).trans hl1;have hd6 : A6.heap[W2.heap.size]? = some (.deferred (some [])) := (hoth _ (by omega) (by omega) (by omega)).trans hd1;have hB6 : Below w.heap.size w A6 := ⟨hos6.trans hBA1.os, htp6.trans hBA1.tape, hou6.trans hBA1.output, by have := hBA1.size; omega, fun k hk => (hoth k (by omega) (by omega) (by omega)).trans (hBA1.block k hk)⟩;have HA0 := Hi a0;clear a0;gi_wp2
   refine ⟨_, _, run_endRound (some .ret) hl6, false, rfl, .inr ⟨pre, i, rfl, U HA0, ?_, (World.putObj_heap_other (by omega)).trans hd6, ?_, (World.putObj_heap_other (by omega)).trans c0, (World.putObj_heap_other (by omega)).trans c1, (World.putObj_heap_other (by omega)).trans c2⟩⟩
   · rw [show rc = { rb with state := .ready, pending := none } from hrb.symm]; exact World.putObj_heap_same (by omega)
   · exact hB6.trans ((Below.refl _ A6).grown (grownBy_putObj' A6 (W2.heap.size + 1) _) hB6.size (fun k e => by cases e; omega))
 case post =>
  rintro e W' ⟨⟨u, rfl⟩, (⟨ob, ⟨a0, a1, a2, a4, a5, ⟨q0, q1, q2⟩, v, a6, a7, a8, a9⟩⟩ | ⟨pre, rest, hpre, hx⟩)⟩
  · have hpe : rc.pending = none := by rw [← hrc]; rfl
    have hne : rc.state ≠ .busy := by rw [← hrc]; simp [recOf]
    have hend := run_endLoop (P := Tryz.prog) a1 hne;rw [hpe] at hend;refine ⟨none, _, hend, ?_⟩;have hlw : W2.heap.size + 1 < W'.heap.size := (Array.getElem?_eq_some_iff.1 a1).1;obtain ⟨W7, hW7⟩ : ∃ W7, W'.putObj (W2.heap.size + 1) (.loop { rc with state := .exhausted, pending := none }) = W7 := ⟨_, rfl⟩;have hk7 : ∀ k, k ≠ W2.heap.size + 1 → W7.heap[k]? = W'.heap[k]? := fun k hk => by rw [← hW7]; exact World.putObj_heap_other hk
    have own7 : W7.ownsRow w.heap.size 40 4 v (scI g len 0 []).length (rowD (scI g len 0 [])) := by
     have := ownsRow_putObj a7 (.loop { rc with state := .exhausted, pending := none }) a1 rfl;rw [hW7] at this;exact this
    have hB7 : Below w.heap.size w W7 := by
     rw [← hW7];exact a5.trans ((Below.refl _ W').grown (grownBy_putObj' W' (W2.heap.size + 1) _) a5.size (fun k e => by cases e; omega))
    have hz7 : W7.heap.size = W'.heap.size := by rw [← hW7]; simp
    rw [hW7];clear hW7 hend;dsimp only;have b0 : Boxed W7 w.heap.size 36 (.slice none 0 0) := (hk7 _ (by omega)).trans q0;have b1 : Boxed W7 (w.heap.size + 1) 3 (.int .i64 0) := (hk7 _ (by omega)).trans q1;have b2 : Boxed W7 (w.heap.size + 1 + 1) 26 (.int .i64 0) := (hk7 _ (by omega)).trans q2;have bL : Boxed W7 (w.heap.size + 1 + 1 + 1) 36 v := (hk7 _ (by omega)).trans a6;have hd7 : W7.heap[W2.heap.size]? = some (.deferred (some [])) := (hk7 _ (by omega)).trans a2;obtain ⟨RI, hRI⟩ : ∃ RI, rowD (scI g len 0 []) = RI := ⟨_, rfl⟩;obtain ⟨IL, hIL⟩ : ∃ IL, (scI g len 0 []).length = IL := ⟨_, rfl⟩;rw [hRI, hIL] at own7;have HRI := Hi hRI;have HIL := Hi hIL;have HA0 := Hi a0;clear hRI hIL a7 a0
    obtain ⟨ao, cv, rfl⟩ : ∃ ao cv, v = .slice ao IL cv := by
     rcases own7.2 with ⟨h, h0⟩ | ⟨gw, cp, cr, h, _⟩
     · exact ⟨none, 0, by rw [h, h0]⟩
     · exact ⟨_, cp, h⟩
    have cL := bL.cell;have c0 := b0.cell;have f0 := b0.frozen;have e1 := (b1.other (show w.heap.size + 1 ≠ w.heap.size by omega) (.slice ao IL cv)).cell;have e1f := (b1.other (show w.heap.size + 1 ≠ w.heap.size by omega) (.slice ao IL cv)).frozen;have e2 := ((b2.other (show w.heap.size + 1 + 1 ≠ w.heap.size by omega) (.slice ao IL cv)).other (show w.heap.size + 1 + 1 ≠ w.heap.size + 1 by omega) (.int .i64 0)).cell;have e2f := ((b2.other (show w.heap.size + 1 + 1 ≠ w.heap.size by omega) (.slice ao IL cv)).other (show w.heap.size + 1 + 1 ≠ w.heap.size + 1 by omega) (.int .i64 0)).frozen;have OWN := Hi own7;clear own7;gi_wp2
    obtain ⟨V, hV⟩ : ∃ V, Value.slice ao IL cv = V := ⟨_, rfl⟩;rw [hV] at OWN ⊢;have d1 : w.heap.size ≠ w.heap.size + 1 := by omega
    have d2 : w.heap.size ≠ w.heap.size + 1 + 1 := by omega
    have d3 : w.heap.size + 1 ≠ w.heap.size + 1 + 1 := by omega
    have B0 := ((b0.set V).other d1 (.int .i64 0)).other d2 (.int .i64 0);have B1 := ((b1.other d1.symm V).set (.int .i64 0)).other d3 (.int .i64 0);have B2 := ((b2.other d2.symm V).other d3.symm (.int .i64 0)).set (.int .i64 0);have own8 := (((U OWN).kept (grownBy_setCell' W7 w.heap.size V) (.inr (own_ne (U OWN) b0 (fun cr e => by cases e)))).kept (grownBy_setCell' _ (w.heap.size + 1) (.int .i64 0)) (.inr (own_ne (U OWN) b1 (fun cr e => by cases e)))).kept (grownBy_setCell' _ (w.heap.size + 1 + 1) (.int .i64 0)) (.inr (own_ne (U OWN) b2 (fun cr e => by cases e)));have hB8 : Below w.heap.size W7 (((W7.setCell ⟨w.heap.size, 0, none⟩ V).setCell ⟨w.heap.size + 1, 0, none⟩ (.int .i64 0)).setCell ⟨w.heap.size + 1 + 1, 0, none⟩ (.int .i64 0)) := (((Below.refl _ W7).setCell (p := ⟨w.heap.size, 0, none⟩) NL _).setCell (p := ⟨w.heap.size + 1, 0, none⟩) (by show w.heap.size ≤ w.heap.size + 1; omega) _).setCell (p := ⟨w.heap.size + 1 + 1, 0, none⟩) (by show w.heap.size ≤ w.heap.size + 1 + 1; omega) _
    have hd8 : (((W7.setCell ⟨w.heap.size, 0, none⟩ V).setCell ⟨w.heap.size + 1, 0, none⟩ (.int .i64 0)).setCell ⟨w.heap.size + 1 + 1, 0, none⟩ (.int .i64 0)).heap[W2.heap.size]? = some (.deferred (some [])) := by
     rw [Below.heap_setCell _ _ _ _ (by show W2.heap.size ≠ w.heap.size + 1 + 1; omega), Below.heap_setCell _ _ _ _ (by show W2.heap.size ≠ w.heap.size + 1; omega), Below.heap_setCell _ _ _ _ (by show W2.heap.size ≠ w.heap.size; omega)];exact hd7
    obtain ⟨W8, hW8⟩ : ∃ W8, (((W7.setCell ⟨w.heap.size, 0, none⟩ V).setCell ⟨w.heap.size + 1, 0, none⟩ (.int .i64 0)).setCell ⟨w.heap.size + 1 + 1, 0, none⟩ (.int .i64 0)) = W8 := ⟨_, rfl⟩;rw [hW8] at B0 B1 B2 own8 hB8 hd8 ⊢;clear hW8;refine ⟨by simp, .inl ⟨_, _, rfl, run_takeDeferred hd8, ?_⟩⟩;have hdl : W2.heap.size < W8.heap.size := (Array.getElem?_eq_some_iff.1 hd8).1;obtain ⟨W9, hW9⟩ : ∃ W9, W8.putObj W2.heap.size (.deferred none) = W9 := ⟨_, rfl⟩;have E0 : Boxed W9 w.heap.size 36 V := by rw [← hW9]; exact (World.putObj_heap_other (by omega)).trans B0
    have E1 : Boxed W9 (w.heap.size + 1) 3 (.int .i64 0) := by rw [← hW9]; exact (World.putObj_heap_other (by omega)).trans B1
    have E2 : Boxed W9 (w.heap.size + 1 + 1) 26 (.int .i64 0) := by rw [← hW9]; exact (World.putObj_heap_other (by omega)).trans B2
    have own9 : W9.ownsRow w.heap.size 40 4 V IL RI := by rw [← hW9]; exact ownsRow_putObj own8 _ hd8 rfl
    have hB9 : Below w.heap.size w W9 := by
     rw [← hW9];exact (hB7.trans hB8).trans ((Below.refl _ W8).grown (grownBy_putObj' W8 W2.heap.size _) (by have := hB7.size; have := hB8.size; omega) (fun k e => by cases e; omega))
    rw [hW9];clear hW9;have z0 := E0.cell;have z1 := E1.cell;have z2 := E2.cell;refine ⟨.tuple #[V, .int .i64 0, .int .i64 0], ?_, .inl ⟨U HA0, V, rfl, by rw [show (scI g len 0 []).length = IL from U HIL, show rowD (scI g len 0 []) = RI from U HRI]; exact own9⟩, hB9⟩;clear cL c0 f0 e1 e1f e2 e2f;simp [results, Tryz.results11, go_sem, z0, z1, z2]
  · obtain ⟨p, i, hpi, hok, a1, a2, a5, q0, q1, q2⟩ := hx
    have hI : scI g len 0 [] = p ++ [((0, [], i, 0), 3)] := by
     rw [hpi, List.append_assoc] at hpre;have hr := sc_last _ _ _ p ((0, [], i, 0), 3) rest hpre (by show (3 : Int) ≠ 0; decide);rw [hr] at hpre;exact hpre
    have hend := run_endLoop (P := Tryz.prog) a1 (by simp);refine ⟨some .ret, _, hend, ?_⟩;have hlw : W2.heap.size + 1 < W'.heap.size := (Array.getElem?_eq_some_iff.1 a1).1;obtain ⟨W7, hW7⟩ : ∃ W7, W'.putObj (W2.heap.size + 1) (.loop { rc with state := .exhausted, pending := some .ret }) = W7 := ⟨_, rfl⟩;have hk7 : ∀ k, k ≠ W2.heap.size + 1 → W7.heap[k]? = W'.heap[k]? := fun k hk => by rw [← hW7]; exact World.putObj_heap_other hk
    have hB7 : Below w.heap.size w W7 := by
     rw [← hW7];exact a5.trans ((Below.refl _ W').grown (grownBy_putObj' W' (W2.heap.size + 1) _) a5.size (fun k e => by cases e; omega))
    have hz7 : W7.heap.size = W'.heap.size := by rw [← hW7]; simp
    rw [hW7];clear hW7 hend;have b0 : Boxed W7 w.heap.size 36 (.slice none 0 0) := (hk7 _ (by omega)).trans q0;have b1 : Boxed W7 (w.heap.size + 1) 3 (.int .i64 (i : Int)) := (hk7 _ (by omega)).trans q1;have b2 : Boxed W7 (w.heap.size + 1 + 1) 26 (.int .i64 3) := (hk7 _ (by omega)).trans q2;have hd7 : W7.heap[W2.heap.size]? = some (.deferred (some [])) := (hk7 _ (by omega)).trans a2;dsimp only;gi_wp2
    refine ⟨by simp, .inl ⟨_, _, rfl, run_takeDeferred hd7, ?_⟩⟩;have hdl : W2.heap.size < W7.heap.size := (Array.getElem?_eq_some_iff.1 hd7).1;obtain ⟨W9, hW9⟩ : ∃ W9, W7.putObj W2.heap.size (.deferred none) = W9 := ⟨_, rfl⟩;have E0 : Boxed W9 w.heap.size 36 (.slice none 0 0) := by rw [← hW9]; exact (World.putObj_heap_other (by omega)).trans b0
    have E1 : Boxed W9 (w.heap.size + 1) 3 (.int .i64 (i : Int)) := by rw [← hW9]; exact (World.putObj_heap_other (by omega)).trans b1
    have E2 : Boxed W9 (w.heap.size + 1 + 1) 26 (.int .i64 3) := by rw [← hW9]; exact (World.putObj_heap_other (by omega)).trans b2
    have hB9 : Below w.heap.size w W9 := by
     rw [← hW9];exact hB7.trans ((Below.refl _ W7).grown (grownBy_putObj' W7 W2.heap.size _) hB7.size (fun k e => by cases e; omega))
    rw [hW9];clear hW9;have z0 := E0.cell;have z1 := E1.cell;have z2 := E2.cell;refine ⟨.tuple #[.slice none 0 0, .int .i64 (i : Int), .int .i64 3], ?_, .inr ⟨p, i, hI, hok, rfl⟩, hB9⟩;simp [results, Tryz.results11, go_sem, z0, z1, z2]
end
end Go.Proofs.YtofgphapjjofnaaGreatDoor
