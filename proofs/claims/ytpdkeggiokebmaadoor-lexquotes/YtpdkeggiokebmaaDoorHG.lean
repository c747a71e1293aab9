/- Merged: SP, SC. -/
import Derived.Sort.AtCallIn
import Derived.Test.YtpdkeggiokebmaaDoorB3
import Derived.Test.YtpdkeggiokebmaaDoorHF
import Derived.Test.YtpdkeggiokebmaaDoorX3t
import Derived.Test.YtpdkeggiokebmaaDoorXB
import Derived.Test.YtpdkeggiokebmaaDoorXR
/- The tokens of a text, purely. -/
namespace Go.Proofs.YtpdkeggiokebmaaDoor
set_option linter.unusedSimpArgs false
set_option linter.unusedVariables false
open Go.RowKit Go.Shelf

/-- A token: its kind, what it says, where it begins and ends; with it an error's number. -/
abbrev TokD := (Int × List Int × Nat × Nat) × Int
def tdV (t : TokD) : Value := tokV t.1.1 (strOfNums t.1.2.1) (t.1.2.2.1 : Int) (t.1.2.2.2 : Int)
def scF (g : Nat → Int) (len : Nat) : Nat → Nat → List Bool → List TokD
  | 0, _, _ => []
  | f + 1, i, bs =>
    if ¬ i < len then [((10, [], len, len), 0)]
    else if blk (g i) = true then scF g len f (i + 1) bs
    else if g i = 47 ∧ i + 1 < len ∧ g (i + 1) = 47 then scF g len f (stopI (fun c => c != 10) g len i) bs
    else if g i = 47 ∧ i + 1 < len ∧ g (i + 1) = 42 then (if remI g len (i + 2) + 1 < len then scF g len f (remI g len (i + 2) + 2) bs else [((0, [], i, 0), 3)])
    else match tokP g len i bs with
      | none => [((0, [], i, 0), 3)]
      | some (k, t, e, bs') => ((k, t, i, e), 0) :: scF g len f e bs'
def scI (g : Nat → Int) (len i : Nat) (bs : List Bool) : List TokD := scF g len (len - i + 1) i bs

theorem quoF_adv {g : Nat → Int} {len : Nat} {mark : Int} : ∀ (f i : Nat) {t : List Int} {e : Nat}, quoF g len mark f i = some (t, e) → i < e ∧ e ≤ len
  | 0, i, t, e, h => by cases h
  | f + 1, i, t, e, h => by
    simp only [quoF] at h
    by_cases hl : i < len
    · rw [if_neg (fun h' => h' hl)] at h
      by_cases h1 : g i = 10 ∨ g i = 13
      · rw [if_pos h1] at h; cases h
      rw [if_neg h1] at h
      by_cases h2 : g i = mark
      · rw [if_pos h2] at h; cases h; omega
      rw [if_neg h2] at h
      by_cases h3 : g i = 92
      · rw [if_pos h3] at h
        cases he : escE g len i with
        | none => rw [he] at h; cases h
        | some y =>
          obtain ⟨r, w⟩ := y
          rw [he] at h
          simp only at h
          have hw := escE_w he
          cases hq : quoF g len mark f (i + w) with
          | none => rw [hq] at h; cases h
          | some z =>
            obtain ⟨t', e'⟩ := z
            rw [hq] at h
            have := quoF_adv f (i + w) hq
            cases h
            omega
      · rw [if_neg h3] at h
        have hs := step_pos (g := g) hl
        cases hq : quoF g len mark f (i + stepN g len i) with
        | none => rw [hq] at h; cases h
        | some z =>
          obtain ⟨t', e'⟩ := z
          rw [hq] at h
          have := quoF_adv f (i + stepN g len i) hq
          cases h
          omega
    · rw [if_pos hl] at h; cases h
theorem pieF_adv {g : Nat → Int} {len : Nat} : ∀ (f i : Nat) {t : List Int} {b : Bool} {e : Nat}, pieF g len f i = some (t, b, e) → i < e ∧ e ≤ len
  | 0, i, t, b, e, h => by cases h
  | f + 1, i, t, b, e, h => by
    simp only [pieF] at h
    by_cases hl : i < len
    · rw [if_neg (fun h' => h' hl)] at h
      by_cases h1 : g i = 96
      · rw [if_pos h1] at h; cases h; omega
      rw [if_neg h1] at h
      by_cases h2 : g i = 36 ∧ i + 1 < len ∧ g (i + 1) = 123
      · rw [if_pos h2] at h; cases h; omega
      rw [if_neg h2] at h
      by_cases h3 : g i = 92
      · rw [if_pos h3] at h
        cases he : escE g len i with
        | none => rw [he] at h; cases h
        | some y =>
          obtain ⟨r, w⟩ := y
          rw [he] at h
          simp only at h
          have hw := escE_w he
          cases hq : pieF g len f (i + w) with
          | none => rw [hq] at h; cases h
          | some z =>
            obtain ⟨t', b', e'⟩ := z
            rw [hq] at h
            have := pieF_adv f (i + w) hq
            cases h
            omega
      · rw [if_neg h3] at h
        have hs := step_pos (g := g) hl
        cases hq : pieF g len f (i + stepN g len i) with
        | none => rw [hq] at h; cases h
        | some z =>
          obtain ⟨t', b', e'⟩ := z
          rw [hq] at h
          have := pieF_adv f (i + stepN g len i) hq
          cases h
          omega
    · rw [if_pos hl] at h; cases h
theorem sigQ_adv {g : Nat → Int} {len at' : Nat} {bs : List Bool} {k : Int} {t : List Int} {e : Nat} {bs' : List Bool} (hat : at' < len) (h : sigQ g len at' bs = some (k, t, e, bs')) : at' < e ∧ e ≤ len ∧ bs'.length ≤ bs.length + 1 := by
  have hn := sgN_le g len at'
  unfold sigQ at h
  by_cases h0 : sgN g len at' = 0
  · rw [if_pos h0] at h; cases h
  rw [if_neg h0] at h
  split at h
  · cases h; refine ⟨by omega, by omega, by simp⟩
  · split at h
    · cases h; refine ⟨by omega, by omega, by simp; omega⟩
    · cases h; refine ⟨by omega, by omega, by omega⟩
theorem pieQ_adv {g : Nat → Int} {len at' : Nat} {bs : List Bool} {w h0 k : Int} {t : List Int} {e : Nat} {bs' : List Bool} (h : pieQ w h0 bs (pieI g len (at' + 1)) = some (k, t, e, bs')) : at' < e ∧ e ≤ len ∧ bs'.length ≤ bs.length + 1 := by
  unfold pieI at h
  cases hq : pieF g len (len + 1 - (at' + 1)) (at' + 1) with
  | none => rw [hq] at h; cases h
  | some z =>
    obtain ⟨t', b', e'⟩ := z
    rw [hq] at h
    have ha := pieF_adv _ _ hq
    cases b' with
    | true => cases h; refine ⟨by omega, by omega, by simp⟩
    | false => cases h; refine ⟨by omega, by omega, by omega⟩
theorem tokP_adv {g : Nat → Int} {len at' : Nat} {bs : List Bool} {k : Int} {t : List Int} {e : Nat} {bs' : List Bool} (hat : at' < len) (h : tokP g len at' bs = some (k, t, e, bs')) : at' < e ∧ e ≤ len ∧ bs'.length ≤ bs.length + 1 := by
  unfold tokP at h
  by_cases hL : isL (g at') = true
  · rw [if_pos hL] at h
    have hs := stopI_spec (p := isLD) (g := g) (len := len) (i := at' + 1) (by omega)
    cases h
    exact ⟨by omega, hs.2.1, by omega⟩
  rw [if_neg hL] at h
  by_cases hD : isD (g at') = true
  · rw [if_pos hD] at h
    split at h
    · have h1 := stopI_step (p := isD) hat hD
      have hs := stopI_spec (p := isD) (g := g) (len := len) (i := at' + 1) (by omega)
      cases h
      unfold numEnd
      exact ⟨by omega, by omega, by omega⟩
    · cases h
  rw [if_neg hD] at h
  by_cases hq : g at' = 34 ∨ g at' = 39
  · rw [if_pos hq] at h
    unfold quoP quoI at h
    cases hz : quoF g len (g at') (len + 1 - (at' + 1)) (at' + 1) with
    | none => rw [hz] at h; cases h
    | some z =>
      obtain ⟨t', e'⟩ := z
      rw [hz] at h
      have ha := quoF_adv _ _ hz
      cases h
      exact ⟨by show at' < e'; omega, by show e' ≤ len; omega, by omega⟩
  rw [if_neg hq] at h
  by_cases h96 : g at' = 96
  · rw [if_pos h96] at h
    exact pieQ_adv h
  rw [if_neg h96] at h
  split at h
  · have := pieQ_adv h
    rw [List.length_dropLast] at this
    omega
  · exact sigQ_adv hat h
theorem scF_fuel {g : Nat → Int} {len : Nat} : ∀ (f f' i : Nat) (bs : List Bool), len - i < f → len - i < f' → scF g len f i bs = scF g len f' i bs
  | 0, _, i, _, h, _ => by omega
  | _ + 1, 0, i, _, _, h => by omega
  | f + 1, f' + 1, i, bs, h, h' => by
    simp only [scF]
    by_cases hl : i < len
    · have hl' : ¬ ¬ i < len := fun h => h hl
      rw [if_neg hl', if_neg hl']
      by_cases hb : blk (g i) = true
      · rw [if_pos hb, if_pos hb]
        exact scF_fuel f f' (i + 1) bs (by omega) (by omega)
      rw [if_neg hb, if_neg hb]
      by_cases h1 : g i = 47 ∧ i + 1 < len ∧ g (i + 1) = 47
      · rw [if_pos h1, if_pos h1]
        have hp : (g i != 10) = true := by rw [h1.1]; decide
        have h2 := stopI_step (p := fun c => c != 10) (g := g) hl hp
        have h3 := (stopI_spec (p := fun c => c != 10) (g := g) (len := len) (i := i + 1) (by omega)).1
        exact scF_fuel f f' _ bs (by omega) (by omega)
      rw [if_neg h1, if_neg h1]
      by_cases h2 : g i = 47 ∧ i + 1 < len ∧ g (i + 1) = 42
      · rw [if_pos h2, if_pos h2]
        split
        · have h3 : i + 2 ≤ remI g len (i + 2) := remF_ge (g := g) (len := len) (len - (i + 2)) (i + 2)
          exact scF_fuel f f' _ bs (by omega) (by omega)
        · rfl
      rw [if_neg h2, if_neg h2]
      cases ht : tokP g len i bs with
      | none => rfl
      | some z =>
        obtain ⟨k, t, e, bs'⟩ := z
        have ha := tokP_adv hl ht
        simp only
        rw [scF_fuel f f' e bs' (by omega) (by omega)]
    · rw [if_pos hl, if_pos hl]
theorem sc_end {g : Nat → Int} {len i : Nat} {bs : List Bool} (h : ¬ i < len) : scI g len i bs = [((10, [], len, len), 0)] := by
  unfold scI
  rw [scF, if_pos h]
theorem sc_blk {g : Nat → Int} {len i : Nat} {bs : List Bool} (h : i < len) (hb : blk (g i) = true) : scI g len i bs = scI g len (i + 1) bs := by
  unfold scI
  rw [scF, if_neg (fun h' => h' h), if_pos hb]
  exact scF_fuel _ _ _ _ (by omega) (by omega)
theorem sc_line {g : Nat → Int} {len i : Nat} {bs : List Bool} (h : i + 1 < len) (h0 : g i = 47) (h1 : g (i + 1) = 47) : scI g len i bs = scI g len (stopI (fun c => c != 10) g len i) bs := by
  have hp : (g i != 10) = true := by rw [h0]; decide
  have h2 := stopI_step (p := fun c => c != 10) (g := g) (len := len) (i := i) (by omega) hp
  have h3 := (stopI_spec (p := fun c => c != 10) (g := g) (len := len) (i := i + 1) (by omega)).1
  unfold scI
  rw [scF, if_neg (by omega), if_neg (by rw [h0]; decide), if_pos ⟨h0, h, h1⟩]
  exact scF_fuel _ _ _ _ (by omega) (by omega)
theorem sc_rem {g : Nat → Int} {len i : Nat} {bs : List Bool} (h : i + 1 < len) (h0 : g i = 47) (h1 : g (i + 1) = 42) : scI g len i bs = if remI g len (i + 2) + 1 < len then scI g len (remI g len (i + 2) + 2) bs else [((0, [], i, 0), 3)] := by
  have h3 : i + 2 ≤ remI g len (i + 2) := remF_ge (g := g) (len := len) (len - (i + 2)) (i + 2)
  unfold scI
  rw [scF, if_neg (by omega), if_neg (by rw [h0]; decide), if_neg (by rw [h1]; omega), if_pos ⟨h0, h, h1⟩]
  split
  · exact scF_fuel _ _ _ _ (by omega) (by omega)
  · rfl
/-- No blank stands at a place, no remark begins there. -/
def NoGap (g : Nat → Int) (len i : Nat) : Prop := blk (g i) = false ∧ ¬ (g i = 47 ∧ i + 1 < len ∧ g (i + 1) = 47) ∧ ¬ (g i = 47 ∧ i + 1 < len ∧ g (i + 1) = 42)
theorem sc_bad {g : Nat → Int} {len i : Nat} {bs : List Bool} (h : i < len) (hn : NoGap g len i) (ht : tokP g len i bs = none) : scI g len i bs = [((0, [], i, 0), 3)] := by
  unfold scI
  rw [scF, if_neg (fun h' => h' h), if_neg (by simp [hn.1]), if_neg hn.2.1, if_neg hn.2.2, ht]
theorem sc_tok {g : Nat → Int} {len i : Nat} {bs : List Bool} {k : Int} {t : List Int} {e : Nat} {bs' : List Bool} (h : i < len) (hn : NoGap g len i) (ht : tokP g len i bs = some (k, t, e, bs')) : scI g len i bs = ((k, t, i, e), 0) :: scI g len e bs' := by
  have ha := tokP_adv h ht
  unfold scI
  rw [scF, if_neg (fun h' => h' h), if_neg (by simp [hn.1]), if_neg hn.2.1, if_neg hn.2.2, ht]
  simp only
  rw [scF_fuel (len - i) (len - e + 1) e bs' (by omega) (by omega)]
end Go.Proofs.YtpdkeggiokebmaaDoor

/- lex's machine: scan, over any text, for whatever loop it serves. -/
namespace Go.Proofs.YtpdkeggiokebmaaDoor
set_option linter.unusedSimpArgs false
set_option linter.unusedVariables false
open Go.RowKit Go.Shelf

attribute [local go_sem] Oper.semAt_some
attribute [local go_sem] tokV
def CC (A : World) (c : Nat) : Prop := ∃ o, A.heap[c]? = some o ∧ ∀ cur, o ≠ .cells cur 33 (0, 0)
theorem own_cells {W : World} {M : Nat} {ov : Value} {bs : List Bool} (h : OwnO W M ov bs) : ∀ k, ov.ownBlock = some k → M < k ∧ ∃ cur, W.heap[k]? = some (.cells cur 4 (0, 0)) := fun k hk => by
  rcases h.form with ⟨rfl, _⟩ | ⟨g, cap, cur, rfl, hg, hh, _⟩
  · cases hk
  · injection hk with hk
    have e : g = k := hk
    subst e
    exact ⟨by omega, cur, hh⟩
theorem MAt.drewN {W : World} {M : Nat} {bv ov : Value} {at' : Int} (h : MAt W M bv at' ov) (N : Nat) : MAt (W.drewN N) M bv at' ov := h
/-- The blocks that the machine needs and owns. -/
def Kept (M c : Nat) (ob : Option Nat) (A A' : World) : Prop := (∀ k, k = M ∨ k = c ∨ k = 1 ∨ k = 2 ∨ ob = some k → A'.heap[k]? = A.heap[k]?) ∧ A.heap.size ≤ A'.heap.size
theorem st_no {g : Nat → Int} (hg : ∀ j, 0 ≤ g j ∧ g j ≤ 255) {len at' : Nat} {x y : UInt8} (h : ¬ (g at' = (x.toNat : Int) ∧ at' + 1 < len ∧ g (at' + 1) = (y.toNat : Int))) : hpB (fun j => g (at' + j)) (len - at') (gS ⟨#[x, y]⟩) 2 = false := by
  refine hpB_false (fun j => hg _) (gS_bd _) ?_
  rintro ⟨h1, h2⟩
  refine h ⟨h2 0 (by omega), by omega, h2 1 (by omega)⟩
theorem st_yes {g : Nat → Int} (hg : ∀ j, 0 ≤ g j ∧ g j ≤ 255) {len at' : Nat} {x y : UInt8} (h0 : g at' = (x.toNat : Int)) (h1 : at' + 1 < len) (h2 : g (at' + 1) = (y.toNat : Int)) : hpB (fun j => g (at' + j)) (len - at') (gS ⟨#[x, y]⟩) 2 = true := by
  refine (hpB_iff (fun j => hg _) (gS_bd _)).2 ⟨by omega, fun j hj => ?_⟩
  match j, hj with
  | 0, _ => exact h0
  | 1, _ => exact h2
set_option maxRecDepth 100000 in
set_option maxHeartbeats 8000000 in
theorem scanY (n : Nat) (hn : 1 ≤ n) (l M c : Nat) (a : Option Addr) (len cap : Nat) (g : Nat → Int) (hg : ∀ j, 0 ≤ g j ∧ g j ≤ 255) (hlen : len ≤ 4000) (hcM : c < M) (hM2 : 2 < M) (J : List TokD → Option Nat → World → Prop) (Jx : List TokD → World → Prop)
    (hJ : ∀ pre ob ob' A C, J pre ob A → Fr (fun k => k = M ∨ ob = some k) A C → (ob' = ob ∨ ∃ k, ob' = some k ∧ A.heap.size ≤ k) → J pre ob' C)
    (hY : ∀ pre ob t A, t.2 = 0 → J pre ob A → pre.length < len + 1 → (∃ cs : Array Value, A.heap[M]? = some (.cells cs 49)) → (∀ k, ob = some k → M < k ∧ ∃ cur, A.heap[k]? = some (.cells cur 4 (0, 0))) → CC A c → YieldAt Fence.wide (n - 1) Tryd.prog l #[tdV t, .int .i64 t.2] A fun e A' =>
      (e = .returned (.bool true) ∧ J (pre ++ [t]) ob A' ∧ Kept M c ob A A') ∨ (e = .returned (.bool false) ∧ Jx (pre ++ [t]) A'))
    (hYe : ∀ pre ob i A, J pre ob A → pre.length < len + 1 → YieldAt Fence.wide (n - 1) Tryd.prog l #[tdV ((0, [], i, 0), 3), .int .i64 3] A fun e A' => ∃ r : Bool, e = .returned (.bool r) ∧ ((∃ ob', J (pre ++ [((0, [], i, 0), 3)]) ob' A') ∨ Jx (pre ++ [((0, [], i, 0), 3)]) A'))
    (W : World) (h0 : J [] none W) (hM : MAt W M (.slice a len cap) 0 (.slice none 0 0)) (hS : Sl W c (.slice a len cap) len g) (hcc : CC W c) (hE1 : ErrG W 1) (hE2 : ErrG W 2) :
    CallsIn Fence.wide n Tryd.prog 25 #[.pointer (some ⟨M, 0, none⟩), .func (.yield l) #[] #[]] W fun e W' => (∃ v, e = .returned v) ∧ ((∃ ob, J (scI g len 0 []) ob W') ∨ ∃ pre rest, scI g len 0 [] = pre ++ rest ∧ Jx pre W') := by
  obtain ⟨I, hI⟩ : ∃ I, scI g len 0 [] = I := ⟨_, rfl⟩
  rw [hI]
  have HI := hide hI
  clear hI
  refine callsIn_of_wp Tryd.func25 rfl trivial ?_ rfl
  simp only [Tryd.ntmps25, List.size_toArray, List.length_cons, List.length_nil, Nat.reduceAdd, Nat.reduceSub, Array.replicate_succ, Array.replicate_zero, List.push_toArray, List.append_toArray, List.nil_append, List.cons_append]
  gi_wp2
  refine wpIn_scope_wide ?_
  gi_wp2
  refine wpIn_label ?_
  gi_wp2
  have HJ := hide hJ
  have HY := hide hY
  have HYE := hide hYe
  have H0 := hide h0
  have HS := hide hS
  have HE1 := hide hE1
  have HE2 := hide hE2
  have HCC := hide hcc
  have hml := hM.lt
  clear hJ hY hYe h0 hS hE1 hE2 hcc
  gi_loopw [4] (fun t wr => ∃ (at' : Nat) (pre : List TokD) (bs : List Bool) (ov : Value), pre.length ≤ at' ∧ bs.length ≤ at' ∧ at' ≤ len ∧ t = .int .i64 (pre.length : Int) ∧ Hid (pre ++ scI g len at' bs = I) ∧ Hid (J pre ov.ownBlock wr) ∧ MAt wr M (.slice a len cap) at' ov ∧ Hid (OwnO wr M ov bs) ∧ Hid (wr.heap[c]? = W.heap[c]? ∧ wr.heap[1]? = W.heap[1]? ∧ wr.heap[2]? = W.heap[2]?) ∧ W.heap.size ≤ wr.heap.size) (fun _ wr => len - atOf M wr)
  case atStart => exact ⟨0, [], [], .slice none 0 0, Nat.zero_le _, Nat.zero_le _, Nat.zero_le _, rfl, unhide HI, unhide H0, hM, own_nil _ _, ⟨rfl, rfl, rfl⟩, Nat.le_refl _⟩
  case round =>
    obtain ⟨W0, hW0⟩ : ∃ W0, W0 = wr := ⟨_, rfl⟩
    subst hW0
    obtain ⟨at', pre, bs, ov, hpl, hbl, hal, rfl, HIT, HJJ, hm, HOO, HKK, hsz⟩ := hrel
    clear HI H0
    have c0 := hm.c0
    have c1 := hm.c1
    have f1 := hm.frozen 1
    have hmw := hm.lt
    have hS' : Sl W0 c (.slice a len cap) len g := (unhide HS).keep (fun k e => by subst e; exact (unhide HKK).1)
    have HE1' : Hid (ErrG W0 1) := by
      obtain ⟨ev, hv, hev⟩ := unhide HE1
      exact ⟨ev, by rw [World.cell?_of_block (w := W) (unhide HKK).2.1]; exact hv, hev⟩
    have HE2' : Hid (ErrG W0 2) := by
      obtain ⟨ev, hv, hev⟩ := unhide HE2
      exact ⟨ev, by rw [World.cell?_of_block (w := W) (unhide HKK).2.2]; exact hv, hev⟩
    have hat0 := atOf_eq hm
    have HAT0 := hide hat0
    have HM := hide hm
    have hFd : ∀ N, Fr (fun k => k = M) W0 (W0.drewN N) := fun N => ⟨rfl, rfl, rfl, Nat.le_refl _, fun _ _ _ => rfl⟩
    -- where the place alone has turned, the round goes on
    have HGO : Hid (∀ (j : Nat) (W' : World), at' < j → j ≤ len → pre ++ scI g len j bs = I → MAt W' M (.slice a len cap) j ov → Fr (fun k => k = M) W0 W' → (∃ (at' : Nat) (pre' : List TokD) (bs : List Bool) (ov : Value), pre'.length ≤ at' ∧ bs.length ≤ at' ∧ at' ≤ len ∧ Value.int .i64 (pre.length : Int) = .int .i64 (pre'.length : Int) ∧ Hid (pre' ++ scI g len at' bs = I) ∧ Hid (J pre' ov.ownBlock W') ∧ MAt W' M (.slice a len cap) at' ov ∧ Hid (OwnO W' M ov bs) ∧ Hid (W'.heap[c]? = W.heap[c]? ∧ W'.heap[1]? = W.heap[1]? ∧ W'.heap[2]? = W.heap[2]?) ∧ W.heap.size ≤ W'.heap.size) ∧ len - atOf M W' < len - atOf M W0) := by
      intro j W' hj1 hj2 hit hmj hF
      have hF' : Fr (fun k => k = M ∨ ov.ownBlock = some k) W0 W' := hF.mono fun k _ e => .inl e
      refine ⟨⟨j, pre, bs, ov, by omega, by omega, hj2, rfl, hit, unhide HJ _ _ _ _ _ (unhide HJJ) hF' (.inl rfl), hmj, (unhide HOO).fr hF, ⟨(hF.block c (by omega) (by omega)).trans (unhide HKK).1, (hF.block 1 (by omega) (by omega)).trans (unhide HKK).2.1, (hF.block 2 (by omega) (by omega)).trans (unhide HKK).2.2⟩, Nat.le_trans hsz hF.size⟩, ?_⟩
      rw [atOf_eq hmj, unhide HAT0]
      omega
    by_cases hlt : at' < len
    · have hlt' : (at' : Int) < len := by omega
      have hltb : decide ((at' : Int) < len) = true := by simpa using hlt'
      have HS2 := hide hS'
      obtain ⟨off, rfl, h1, h2, hcc⟩ := unhide (sl_cells hS') (by omega)
      unfold maxLen at h2
      have hck := hcc at' hlt
      have HCL := hide hcc
      have HST : Hid (∀ (x y : UInt8) (b : Bool) (j : Nat), j ≤ len → hpB (fun i => g (j + i)) (len - j) (gS ⟨#[x, y]⟩) 2 = b → ∀ W', MAt W' M (.slice (some ⟨c, off, none⟩) len cap) (j : Int) ov → Fr (fun k => k = M) W0 W' → Calls Tryd.prog 34 #[.pointer (some ⟨M, 0, none⟩), .string ⟨#[x, y]⟩] W' fun z W'' => z = .returned (.bool b) ∧ Below W'.heap.size W' W'') := fun x y b j hj hb W' hmW hfW => by
        have hz := hfW.size
        have hk := stands_any M c _ len cap g j ov ⟨#[x, y]⟩ W' hmW ((unhide HS2).keep (fun k e => by subst e; exact hfW.block k (by omega) (by omega))) (by omega) hj (by omega) (by show 2 ≤ 4294967296; omega)
        rw [show (⟨#[x, y]⟩ : ByteArray).size = 2 from rfl, hb] at hk
        exact hk
      clear hcc hS'
      cases hb : isB (g at') with
      | true =>
        have hit := unhide HIT
        rw [sc_blk hlt hb] at hit
        have HIT2 := hide hit
        clear hit
        gi_wp2
        refine wpIn_wide.2 ?_
        go_quiet (fail)
        gi_wp2_with (refine ⟨trivial, ?_⟩; gi_at_call 33; refine (callsIn_wide.2 (isBlank_any _ _)).mono ?_; rintro x w' ⟨rfl, hw⟩; subst w')
        exact unhide HGO (at' + 1) _ (by omega) (by omega) (unhide HIT2) (MAt.set1 (W := W0.drewN nq) hm ((at' : Int) + 1)) ((hFd nq).set M 1 _ rfl)
      | false =>
        have hbk : blk (g at') = false := hb
        by_cases hln : g at' = 47 ∧ at' + 1 < len ∧ g (at' + 1) = 47
        · -- a remark to the line's end
          have hit := unhide HIT
          rw [sc_line hln.2.1 hln.1 hln.2.2] at hit
          have hp : (g at' != 10) = true := by rw [hln.1]; decide
          have s1 := stopI_step (p := fun c => c != 10) (g := g) hlt hp
          have s2 := stopI_spec (p := fun c => c != 10) (g := g) (len := len) (i := at' + 1) (by omega)
          rw [← s1] at s2
          obtain ⟨e, he⟩ : ∃ e, stopI (fun c => c != 10) g len at' = e := ⟨_, rfl⟩
          rw [he] at s2 hit
          obtain ⟨s3, s4, s5, s6⟩ := s2
          have HS5 : Hid (∀ j, at' ≤ j → j < e → (g j != 10) = true) := fun j h1 h2 => by
            by_cases h : j = at'
            · rw [h]; exact hp
            · exact s5 j (by omega) h2
          have HS6 := hide s6
          have HIT2 := hide hit
          have HY1 := hide (unhide HST 47 47 true at' hal (st_yes hg hln.1 hln.2.1 hln.2.2))
          clear hit s5 s6 he s1 hp hln
          gi_wp2
          refine wpIn_wide.2 ?_
          go_quiet (fail)
          gi_wp2_with (first | (refine ⟨trivial, ?_⟩; gi_at_call 33; refine (callsIn_wide.2 (isBlank_any _ _)).mono ?_; rintro x w' ⟨rfl, hw⟩; subst w') | (refine ⟨trivial, ?_⟩; gi_at_call_has 34 (Value.string ⟨#[47, 47]⟩); refine (callsIn_wide.2 (unhide HY1 (W0.drewN nq) hm (hFd nq))).mono ?_; rintro x W2 ⟨rfl, hb2⟩))
          have hF2 : Fr (fun k => k = M) W0 W2 := ((hFd nq).below hb2)
          have hm2 : MAt W2 M (.slice (some ⟨c, off, none⟩) len cap) at' ov := MAt.below (W := W0.drewN nq) hm hb2 hmw
          have HF2 := hide hF2
          clear hb2 hF2 c0 c1 f1
          gi_loopw [] (fun w3 => ∃ (j : Nat), at' ≤ j ∧ j ≤ e ∧ MAt w3 M (.slice (some ⟨c, off, none⟩) len cap) j ov ∧ Hid (Fr (fun k => k = M) W0 w3)) (fun w3 => len - atOf M w3)
          case atStart => exact ⟨at', Nat.le_refl _, by omega, hm2, unhide HF2⟩
          case round =>
            obtain ⟨w3, hw3⟩ : ∃ w3, w3 = wr := ⟨_, rfl⟩
            subst hw3
            obtain ⟨j, hj1, hj2, hm3, HF3⟩ := hrel
            have c0 := hm3.c0
            have c1 := hm3.c1
            have f1 := hm3.frozen 1
            have hmw3 := hm3.lt
            have hat3 := atOf_eq hm3
            have HAT3 := hide hat3
            have hFd3 : ∀ N, Fr (fun k => k = M) w3 (w3.drewN N) := fun N => ⟨rfl, rfl, rfl, Nat.le_refl _, fun _ _ _ => rfl⟩
            clear hat3
            by_cases hjl : j < len
            · have hjl' : (j : Int) < len := by omega
              have hjd : decide ((j : Int) < len) = true := decide_eq_true hjl'
              have hcj : w3.cell? ⟨c, off + j, none⟩ = some (.int .u8 (g j)) := by
                have := unhide HCL j hjl
                rw [World.cell?_of_block (w := W0) ((unhide HF3).block c (by omega) (by omega))]
                exact this
              by_cases hje : j < e
              · have hgj : (g j != 10) = true := unhide HS5 j hj1 hje
                gi_wp2
                refine wpIn_wide.2 ?_
                go_quiet (fail)
                gi_wp2
                have hm4 : MAt ((w3.drewN nq).setCell ⟨M, 1, none⟩ (.int .i64 ((j : Int) + 1))) M (.slice (some ⟨c, off, none⟩) len cap) ((j + 1 : Nat) : Int) ov := MAt.set1 (W := w3.drewN nq) hm3 ((j : Int) + 1)
                refine ⟨⟨j + 1, by omega, by omega, hm4, ((unhide HF3).trans (hFd3 nq)).set M 1 _ rfl⟩, ?_⟩
                rw [atOf_eq hm4, unhide HAT3]
                omega
              · obtain rfl : j = e := by omega
                have hgj : (g j != 10) = false := by
                  rcases unhide HS6 with h | h
                  · omega
                  · exact h
                gi_wp2
                refine wpIn_wide.2 ?_
                go_quiet (fail)
                gi_wp2
                exact unhide HGO j _ (by omega) (by omega) (unhide HIT2) (MAt.drewN hm3 _) ((unhide HF3).trans (hFd3 _))
            · have hjl' : ¬ (j : Int) < len := by omega
              have hjd : decide ((j : Int) < len) = false := decide_eq_false hjl'
              obtain rfl : j = e := by omega
              gi_wp2
              refine wpIn_wide.2 ?_
              go_quiet (fail)
              gi_wp2
              exact unhide HGO j _ (by omega) (by omega) (unhide HIT2) (MAt.drewN hm3 _) ((unhide HF3).trans (hFd3 _))
        · by_cases hrm : g at' = 47 ∧ at' + 1 < len ∧ g (at' + 1) = 42
          · -- a remark between its marks
            have hit := unhide HIT
            rw [sc_rem hrm.2.1 hrm.1 hrm.2.2] at hit
            have hge : at' + 2 ≤ remI g len (at' + 2) := remF_ge (g := g) (len := len) (len - (at' + 2)) (at' + 2)
            obtain ⟨e, he⟩ : ∃ e, remI g len (at' + 2) = e := ⟨_, rfl⟩
            rw [he] at hit hge
            have HE := hide he
            have HIT2 := hide hit
            have HY1 := hide (unhide HST 47 47 false at' hal (st_no hg (fun h => hln ⟨h.1, h.2.1, h.2.2⟩)))
            have HY2 := hide (unhide HST 47 42 true at' hal (st_yes hg hrm.1 hrm.2.1 hrm.2.2))
            have hl2 : at' + 2 ≤ len := by omega
            clear hit he hln hrm
            gi_wp2
            refine wpIn_wide.2 ?_
            go_quiet (fail)
            gi_wp2_with (first | (refine ⟨trivial, ?_⟩; gi_at_call 33; refine (callsIn_wide.2 (isBlank_any _ _)).mono ?_; rintro x w' ⟨rfl, hw⟩; subst w') | (refine ⟨trivial, ?_⟩; gi_at_call_has 34 (Value.string ⟨#[47, 47]⟩); refine (callsIn_wide.2 (unhide HY1 (W0.drewN nq) hm (hFd nq))).mono ?_; rintro x W2 ⟨rfl, hb2⟩; have hF2 : Fr (fun k => k = M) W0 W2 := (hFd nq).below hb2; have hm2 : MAt W2 M (.slice (some ⟨c, off, none⟩) len cap) at' ov := MAt.below (W := W0.drewN nq) hm hb2 hmw; clear hb2) | (refine ⟨trivial, ?_⟩; gi_at_call_has 34 (Value.string ⟨#[47, 42]⟩); refine (callsIn_wide.2 (unhide HY2 W2 hm2 hF2)).mono ?_; rintro x W3 ⟨rfl, hb3⟩; have hF3 : Fr (fun k => k = M) W0 W3 := hF2.below (hb3.mono hF2.size); have hm3 : MAt W3 M (.slice (some ⟨c, off, none⟩) len cap) at' ov := hm2.below hb3 hm2.lt; clear hb3; have c13 := hm3.c1; have f13 := hm3.frozen 1; have hmw3 := hm3.lt))
            have hm4 : MAt (W3.setCell ⟨M, 1, none⟩ (.int .i64 ((at' : Int) + 2))) M (.slice (some ⟨c, off, none⟩) len cap) ((at' + 2 : Nat) : Int) ov := hm3.set1 ((at' : Int) + 2)
            have hF4 := hF3.set M 1 (.int .i64 ((at' : Int) + 2)) rfl
            have HF4 := hide hF4
            have HM4 := hide hm4
            clear hF2 hm2 hF3 hm3 c13 f13 hmw3 hF4 hm4 c0 c1 f1
            gi_loopw [] (fun w3 => ∃ (j : Nat), at' + 2 ≤ j ∧ j ≤ len ∧ Hid (remI g len j = e ∨ (j = len ∧ ¬ e + 1 < len)) ∧ MAt w3 M (.slice (some ⟨c, off, none⟩) len cap) j ov ∧ Hid (Fr (fun k => k = M) W0 w3)) (fun w3 => len - atOf M w3)
            case atStart => exact ⟨at' + 2, Nat.le_refl _, hl2, .inl (unhide HE), unhide HM4, unhide HF4⟩
            case round =>
              obtain ⟨w3, hw3⟩ : ∃ w3, w3 = wr := ⟨_, rfl⟩
              subst hw3
              obtain ⟨j, hj1, hj2, HRJ, hm3, HF3⟩ := hrel
              clear HF4 HM4
              have c0 := hm3.c0
              have c1 := hm3.c1
              have f1 := hm3.frozen 1
              have hmw3 := hm3.lt
              have hat3 := atOf_eq hm3
              have HAT3 := hide hat3
              have hFd3 : ∀ N, Fr (fun k => k = M) w3 (w3.drewN N) := fun N => ⟨rfl, rfl, rfl, Nat.le_refl _, fun _ _ _ => rfl⟩
              clear hat3
              by_cases hjl : j < len
              · have hjl' : (j : Int) < len := by omega
                have hjd : decide ((j : Int) < len) = true := decide_eq_true hjl'
                have hrj : remI g len j = e := by
                  rcases unhide HRJ with h | h
                  · exact h
                  · omega
                by_cases hms : g j = 42 ∧ j + 1 < len ∧ g (j + 1) = 47
                · have HY3 := hide (unhide HST 42 47 true j hj2 (st_yes hg hms.1 hms.2.1 hms.2.2))
                  rw [remI_stop (fun h => h.2 ⟨hms.1, hms.2.2⟩)] at hrj
                  subst hrj
                  have hit := unhide HIT2
                  rw [if_pos hms.2.1] at hit
                  have HIT3 := hide hit
                  have hj3 := hms.2.1
                  clear hit hms
                  gi_wp2
                  refine wpIn_wide.2 ?_
                  go_quiet (fail)
                  gi_wp2_with (refine ⟨trivial, ?_⟩; gi_at_call 34; refine (callsIn_wide.2 (unhide HY3 (w3.drewN nq) hm3 ((unhide HF3).trans (hFd3 nq)))).mono ?_; rintro x W4 ⟨rfl, hb4⟩; have hm4 : MAt W4 M (.slice (some ⟨c, off, none⟩) len cap) j ov := MAt.below (W := w3.drewN nq) hm3 hb4 hmw3; have hF4 : Fr (fun k => k = M) W0 W4 := ((unhide HF3).trans (hFd3 nq)).below (hb4.mono (unhide HF3).size); have c14 := hm4.c1; have f14 := hm4.frozen 1; have hmw4 := hm4.lt)
                  exact unhide HGO (j + 2) _ (by omega) (by omega) (unhide HIT3) (hm4.set1 ((j : Int) + 2)) (hF4.set M 1 _ rfl)
                · have HY3 := hide (unhide HST 42 47 false j hj2 (st_no hg hms))
                  have HRJ2 : Hid (remI g len (j + 1) = e ∨ (j + 1 = len ∧ ¬ e + 1 < len)) := by
                    by_cases hj3 : j + 1 < len
                    · exact .inl (by rw [← remI_step hj3 (fun h => hms ⟨h.1, hj3, h.2⟩)]; exact hrj)
                    · rw [remI_stop (fun h => hj3 h.1)] at hrj
                      exact .inr ⟨by omega, by omega⟩
                  clear hms hrj
                  gi_wp2
                  refine wpIn_wide.2 ?_
                  go_quiet (fail)
                  gi_wp2_with (refine ⟨trivial, ?_⟩; gi_at_call 34; refine (callsIn_wide.2 (unhide HY3 (w3.drewN nq) hm3 ((unhide HF3).trans (hFd3 nq)))).mono ?_; rintro x W4 ⟨rfl, hb4⟩; have hm4 : MAt W4 M (.slice (some ⟨c, off, none⟩) len cap) j ov := MAt.below (W := w3.drewN nq) hm3 hb4 hmw3; have hF4 : Fr (fun k => k = M) W0 W4 := ((unhide HF3).trans (hFd3 nq)).below (hb4.mono (unhide HF3).size); have c14 := hm4.c1; have f14 := hm4.frozen 1; have hmw4 := hm4.lt)
                  have hm5 : MAt (W4.setCell ⟨M, 1, none⟩ (.int .i64 ((j : Int) + 1))) M (.slice (some ⟨c, off, none⟩) len cap) ((j + 1 : Nat) : Int) ov := hm4.set1 ((j : Int) + 1)
                  refine ⟨⟨j + 1, by omega, by omega, HRJ2, hm5, hF4.set M 1 _ rfl⟩, ?_⟩
                  rw [atOf_eq hm5, unhide HAT3]
                  omega
              · have hjl' : ¬ (j : Int) < len := by omega
                have hjd : decide ((j : Int) < len) = false := decide_eq_false hjl'
                obtain rfl : j = len := by omega
                have hne : ¬ e + 1 < j := by
                  rcases unhide HRJ with h | h
                  · rw [remI_stop (fun h' => by omega)] at h
                    omega
                  · exact h.2
                have hit := unhide HIT2
                rw [if_neg hne] at hit
                have HIT3 := hide hit
                clear hit
                gi_wp2
                refine wpIn_wide.2 ?_
                go_quiet (fail)
                gi_wp2
                have hF5 := (unhide HF3).trans (hFd3 nq)
                have hm5 := MAt.drewN hm3 nq
                obtain ⟨fn, tm, asg, bd, hy0, hRd⟩ := unhide HYE pre ov.ownBlock at' (w3.drewN nq) (unhide HJ _ _ _ _ _ (unhide HJJ) (hF5.mono (fun k _ e => .inl e)) (.inl rfl)) (by omega)
                have hy : (Instr.yield l #[.agg #[.int .i64 0, .string ⟨#[]⟩, .int .i64 (at' : Int), .int .i64 0], .int .i64 3]).run Tryd.prog ((w3.drewN nq)) = .ok (.round l fn tm asg bd) ((w3.drewN nq)) := hy0
                clear hy0
                rw [hy, Oper.uponIn_round]
                refine ⟨fun _ => hn, hRd.mono ?_⟩
                rintro x W6 ⟨r, rfl, hor⟩
                have HOR := hide hor
                clear hor
                gi_wp2
                rw [Exit.noGoto_ret]
                refine bodyPost_ret (results_none rfl _ _ _) rfl ⟨⟨_, rfl⟩, ?_⟩
                rcases unhide HOR with ⟨ob', h⟩ | h
                · exact .inl ⟨ob', by rw [← unhide HIT3]; exact h⟩
                · exact .inr ⟨_, [], by rw [List.append_nil]; exact (unhide HIT3).symm, h⟩
          · -- a token
            have hng : NoGap g len at' := ⟨hbk, hln, hrm⟩
            have HY1 := hide (unhide HST 47 47 false at' hal (st_no hg (fun h => hln ⟨h.1, h.2.1, h.2.2⟩)))
            have HY2 := hide (unhide HST 47 42 false at' hal (st_no hg (fun h => hrm ⟨h.1, h.2.1, h.2.2⟩)))
            have HTK : Hid (∀ W', MAt W' M (.slice (some ⟨c, off, none⟩) len cap) at' ov → Fr (fun k => k = M) W0 W' → Calls Tryd.prog 35 #[.pointer (some ⟨M, 0, none⟩)] W' (TokO W' M (.slice (some ⟨c, off, none⟩) len cap) ov at' (tokP g len at' bs))) := fun W' hmW hfW => token_any M c _ len cap g hg at' ov bs W' hmW ((unhide HS2).keep (fun k e => by subst e; exact hfW.block k (by omega) (by omega))) ((unhide HOO).fr hfW) hcM hM2 hlt (by omega) (by omega) ((unhide HE1').fr hfW (by omega)) ((unhide HE2').fr hfW (by omega))
            have n8 : ((pre.length : Int) == 8192) = false := by simp; omega
            have hit := unhide HIT
            have ARM34 : True := trivial
            cases htk : tokP g len at' bs with
            | none =>
              rw [sc_bad hlt hng htk] at hit
              rw [htk] at HTK
              have HTK2 : Hid (∀ W', MAt W' M (.slice (some ⟨c, off, none⟩) len cap) at' ov → Fr (fun k => k = M) W0 W' → Calls Tryd.prog 35 #[.pointer (some ⟨M, 0, none⟩)] W' fun x W'' => x = .returned (.tuple #[tokV 0 ⟨#[]⟩ 0 0, .bool false]) ∧ Fr (fun k => k = M ∨ ov.ownBlock = some k) W' W'') := unhide HTK
              have HIT3 := hide hit
              clear hit htk hng hln hrm HTK
              gi_wp2
              refine wpIn_wide.2 ?_
              go_quiet (fail)
              gi_wp2_with (first | (refine ⟨trivial, ?_⟩; gi_at_call 33; refine (callsIn_wide.2 (isBlank_any _ _)).mono ?_; rintro x w' ⟨rfl, hw⟩; subst w') | (refine ⟨trivial, ?_⟩; gi_at_call_has 34 (Value.string ⟨#[47, 47]⟩); refine (callsIn_wide.2 (unhide HY1 (W0.drewN nq) hm (hFd nq))).mono ?_; rintro x W2 ⟨rfl, hb2⟩; have hF2 : Fr (fun k => k = M) W0 W2 := (hFd nq).below hb2; have hm2 : MAt W2 M (.slice (some ⟨c, off, none⟩) len cap) at' ov := MAt.below (W := W0.drewN nq) hm hb2 hmw; clear hb2) | (refine ⟨trivial, ?_⟩; gi_at_call_has 34 (Value.string ⟨#[47, 42]⟩); refine (callsIn_wide.2 (unhide HY2 W2 hm2 hF2)).mono ?_; rintro x W3 ⟨rfl, hb3⟩; have hF3 : Fr (fun k => k = M) W0 W3 := hF2.below (hb3.mono hF2.size); have hm3 : MAt W3 M (.slice (some ⟨c, off, none⟩) len cap) at' ov := hm2.below hb3 hm2.lt; clear hb3) | (refine ⟨trivial, ?_⟩; gi_at_call 35; refine (callsIn_wide.2 (unhide HTK2 W3 hm3 hF3)).mono ?_; rintro x W4 ⟨rfl, hF4⟩))
              obtain ⟨W5, hW5⟩ : ∃ W5, W4.alloc (.cells #[.int .i64 0, .string ⟨#[]⟩, .int .i64 0, .int .i64 0] 33) = W5 := ⟨_, rfl⟩
              have hF5 : Fr (fun k => k = M ∨ ov.ownBlock = some k) W0 W5 := by rw [← hW5]; exact ((hF3.mono (fun k _ e => .inl e)).trans hF4).alloc _
              rw [hW5]
              clear hW5
              obtain ⟨fn, tm, asg, bd, hy0, hRd⟩ := unhide HYE pre ov.ownBlock at' W5 (unhide HJ _ _ _ _ _ (unhide HJJ) (hF5) (.inl rfl)) (by omega)
              have hy : (Instr.yield l #[.agg #[.int .i64 0, .string ⟨#[]⟩, .int .i64 (at' : Int), .int .i64 0], .int .i64 3]).run Tryd.prog (W5) = .ok (.round l fn tm asg bd) (W5) := hy0
              clear hy0
              rw [hy, Oper.uponIn_round]
              refine ⟨fun _ => hn, hRd.mono ?_⟩
              rintro x W6 ⟨r, rfl, hor⟩
              have HOR := hide hor
              clear hor
              gi_wp2
              rw [Exit.noGoto_ret]
              refine bodyPost_ret (results_none rfl _ _ _) rfl ⟨⟨_, rfl⟩, ?_⟩
              rcases unhide HOR with ⟨ob', h⟩ | h
              · exact .inl ⟨ob', by rw [← unhide HIT3]; exact h⟩
              · exact .inr ⟨_, [], by rw [List.append_nil]; exact (unhide HIT3).symm, h⟩
            | some y =>
              obtain ⟨kd, tx, e', bs'⟩ := y
              have hadv := tokP_adv hlt htk
              rw [sc_tok hlt hng htk] at hit
              rw [htk] at HTK
              have HTK2 : Hid (∀ W', MAt W' M (.slice (some ⟨c, off, none⟩) len cap) at' ov → Fr (fun k => k = M) W0 W' → Calls Tryd.prog 35 #[.pointer (some ⟨M, 0, none⟩)] W' fun x W'' => x = .returned (.tuple #[tokV kd (strOfNums tx) at' (e' : Int), .bool true]) ∧ (∃ ov', MAt W'' M (.slice (some ⟨c, off, none⟩) len cap) (e' : Int) ov' ∧ OwnO W'' M ov' bs' ∧ OB W' ov ov') ∧ Fr (fun k => k = M ∨ ov.ownBlock = some k) W' W'') := unhide HTK
              have HIT3 : Hid ((pre ++ [((kd, tx, at', e'), 0)]) ++ scI g len e' bs' = I) := by
                show _ = _
                rw [List.append_assoc]
                exact hit
              clear hit htk hng hln hrm HTK
              gi_wp2
              refine wpIn_wide.2 ?_
              go_quiet (fail)
              gi_wp2_with (first | (refine ⟨trivial, ?_⟩; gi_at_call 33; refine (callsIn_wide.2 (isBlank_any _ _)).mono ?_; rintro x w' ⟨rfl, hw⟩; subst w') | (refine ⟨trivial, ?_⟩; gi_at_call_has 34 (Value.string ⟨#[47, 47]⟩); refine (callsIn_wide.2 (unhide HY1 (W0.drewN nq) hm (hFd nq))).mono ?_; rintro x W2 ⟨rfl, hb2⟩; have hF2 : Fr (fun k => k = M) W0 W2 := (hFd nq).below hb2; have hm2 : MAt W2 M (.slice (some ⟨c, off, none⟩) len cap) at' ov := MAt.below (W := W0.drewN nq) hm hb2 hmw; clear hb2) | (refine ⟨trivial, ?_⟩; gi_at_call_has 34 (Value.string ⟨#[47, 42]⟩); refine (callsIn_wide.2 (unhide HY2 W2 hm2 hF2)).mono ?_; rintro x W3 ⟨rfl, hb3⟩; have hF3 : Fr (fun k => k = M) W0 W3 := hF2.below (hb3.mono hF2.size); have hm3 : MAt W3 M (.slice (some ⟨c, off, none⟩) len cap) at' ov := hm2.below hb3 hm2.lt; clear hb3) | (refine ⟨trivial, ?_⟩; gi_at_call 35; refine (callsIn_wide.2 (unhide HTK2 W3 hm3 hF3)).mono ?_; rintro x W4 ⟨rfl, ⟨ov', hm4, hO4, hOB4⟩, hF4⟩; have HO4 := hide hO4; have HOB4 := hide hOB4; clear hO4 hOB4))
              obtain ⟨W5, hW5⟩ : ∃ W5, W4.alloc (.cells #[.int .i64 kd, .string (strOfNums tx), .int .i64 (at' : Int), .int .i64 (e' : Int)] 33) = W5 := ⟨_, rfl⟩
              have hF5 : Fr (fun k => k = M ∨ ov.ownBlock = some k) W0 W5 := by rw [← hW5]; exact ((hF3.mono (fun k _ e => .inl e)).trans hF4).alloc _
              have hm5 : MAt W5 M (.slice (some ⟨c, off, none⟩) len cap) (e' : Int) ov' := by rw [← hW5]; exact hm4.below ((Below.refl _ W4).alloc (Nat.le_refl _) _) hm4.lt
              have hO5 : OwnO W5 M ov' bs' := by rw [← hW5]; exact (unhide HO4).below ((Below.refl _ W4).alloc (Nat.le_refl _) _) (Nat.le_refl _)
              have hnS : ∀ k, k ≤ M → k ≠ M → ¬ (k = M ∨ ov.ownBlock = some k) := fun k h1 h2 h => by
                rcases h with h | h
                · exact h2 h
                · have := ((unhide HOO).lt h).1; omega
              have hk5 : W5.heap[c]? = W.heap[c]? ∧ W5.heap[1]? = W.heap[1]? ∧ W5.heap[2]? = W.heap[2]? := ⟨(hF5.block c (by omega) (hnS c (by omega) (by omega))).trans (unhide HKK).1, (hF5.block 1 (by omega) (hnS 1 (by omega) (by omega))).trans (unhide HKK).2.1, (hF5.block 2 (by omega) (hnS 2 (by omega) (by omega))).trans (unhide HKK).2.2⟩
              have hob5 : ov'.ownBlock = ov.ownBlock ∨ ∃ k, ov'.ownBlock = some k ∧ W0.heap.size ≤ k := by
                rcases unhide HOB4 with h | ⟨k, h1, h2⟩
                · exact .inl h
                · exact .inr ⟨k, h1, Nat.le_trans hF3.size h2⟩
              rw [hW5]
              clear hW5
              obtain ⟨fn, tm, asg, bd, hy0, hRd⟩ := unhide HY pre ov'.ownBlock ((kd, tx, at', e'), 0) W5 rfl (unhide HJ _ _ _ _ _ (unhide HJJ) hF5 hob5) (by omega) ⟨_, hm5⟩ (own_cells hO5) (by obtain ⟨o, h, hno⟩ := unhide HCC; exact ⟨o, hk5.1.trans h, hno⟩)
              have hy : (Instr.yield l #[.agg #[.int .i64 kd, .string (strOfNums tx), .int .i64 (at' : Int), .int .i64 (e' : Int)], .int .i64 0]).run Tryd.prog W5 = .ok (.round l fn tm asg bd) W5 := hy0
              clear hy0
              rw [hy, Oper.uponIn_round]
              refine ⟨fun _ => hn, hRd.mono ?_⟩
              have hz5 := hF5.size
              have HK5 := hide hk5
              have HO5 := hide hO5
              clear hk5 hO5 hob5 hnS
              rintro x W6 (⟨rfl, hJ6, hK6⟩ | ⟨rfl, hJx6⟩)
              · have hm6 : MAt W6 M (.slice (some ⟨c, off, none⟩) len cap) (e' : Int) ov' := (hK6.1 M (.inl rfl)).trans hm5
                have HJ6 := hide hJ6
                have HK6 := hide hK6
                have hz6 := hK6.2
                clear hJ6 hK6
                gi_wp2
                refine ⟨⟨e', pre ++ [((kd, tx, at', e'), 0)], bs', ov', by simp; omega, by omega, by omega, by simp, unhide HIT3, unhide HJ6, hm6, (unhide HO5).keep (fun k hk => (unhide HK6).1 k (.inr (.inr (.inr (.inr hk))))), ⟨((unhide HK6).1 c (.inr (.inl rfl))).trans (unhide HK5).1, ((unhide HK6).1 1 (.inr (.inr (.inl rfl)))).trans (unhide HK5).2.1, ((unhide HK6).1 2 (.inr (.inr (.inr (.inl rfl))))).trans (unhide HK5).2.2⟩, by omega⟩, ?_⟩
                rw [atOf_eq hm6, unhide HAT0]
                omega
              · have HJx6 := hide hJx6
                clear hJx6
                gi_wp2
                rw [Exit.noGoto_ret]
                refine bodyPost_ret (results_none rfl _ _ _) rfl ?_
                exact ⟨⟨_, rfl⟩, .inr ⟨_, _, (unhide HIT3).symm, unhide HJx6⟩⟩
    · obtain rfl : at' = len := by omega
      have hltb : decide ((at' : Int) < at') = false := by simp
      have hit := unhide HIT
      rw [sc_end (by omega)] at hit
      have HIT3 := hide hit
      clear hit
      gi_wp2
      refine wpIn_wide.2 ?_
      go_quiet (fail)
      have hF5 : Fr (fun k => k = M ∨ ov.ownBlock = some k) W0 (W0.drewN (nq + 1)) := ⟨rfl, rfl, rfl, Nat.le_refl _, fun _ _ _ => rfl⟩
      obtain ⟨fn, tm, asg, bd, hy0, hRd0⟩ := unhide HY pre ov.ownBlock ((10, [], at', at'), 0) (W0.drewN (nq + 1)) rfl (unhide HJ _ _ _ _ _ (unhide HJJ) hF5 (.inl rfl)) (by omega) ⟨_, hm⟩ (own_cells (unhide HOO)) (by obtain ⟨o, h, hno⟩ := unhide HCC; exact ⟨o, (unhide HKK).1.trans h, hno⟩)
      have hy : (Instr.yield l #[.agg #[.int .i64 10, .string ⟨#[]⟩, .int .i64 (at' : Int), .int .i64 (at' : Int)], .int .i64 0]).run Tryd.prog (W0.drewN (nq + 1)) = .ok (.round l fn tm asg bd) (W0.drewN (nq + 1)) := hy0
      clear hy0
      have HRd := hide (hRd0.mono (R' := fun e A' => ∃ r : Bool, e = .returned (.bool r) ∧ ((∃ ob, J I ob A') ∨ ∃ pre rest, I = pre ++ rest ∧ Jx pre A')) (by
        rintro e A' (⟨rfl, h1, _⟩ | ⟨rfl, h1⟩)
        · exact ⟨true, rfl, .inl ⟨_, by rw [← unhide HIT3]; exact h1⟩⟩
        · exact ⟨false, rfl, .inr ⟨_, [], by rw [List.append_nil]; exact (unhide HIT3).symm, h1⟩⟩))
      clear hRd0
      gi_wp2
      refine wpIn_region_any (by kernel_rfl) ?_
      change wpAnyIn _ _ _ _ _ _ _ _ _ (World.drewN W0 (nq + 1))
      refine wpAnyIn_take (i := 0) (v := ?_) rfl rfl (by kernel_rfl) (by kernel_rfl) (by kernel_rfl) (fun _ _ _ h => h) ⟨Or.inl ⟨by rfl, ?_⟩, fun _ => rfl⟩ ?_
      rotate_left
      · intro w; go_simp; try rfl
      refine wpAnyIn_take (i := 1) (v := ?_) rfl rfl (by kernel_rfl) (by kernel_rfl) (by kernel_rfl) (fun _ _ _ h => h) ⟨Or.inl ⟨by rfl, ?_⟩, fun _ => rfl⟩ ?_
      rotate_left
      · intro w; go_simp; try rfl
      refine wpAnyIn_take (i := 6) (v := ?_) rfl rfl (by kernel_rfl) (by kernel_rfl) (by kernel_rfl) (fun _ _ _ h => h) ⟨Or.inl ⟨by rfl, ?_⟩, fun _ => rfl⟩ ?_
      rotate_left
      · intro w; go_simp; try rfl
      refine wpAnyIn_take (i := 2) (v := ?_) rfl rfl (by kernel_rfl) (by kernel_rfl) (by kernel_rfl) (fun _ _ _ h => h) ⟨Or.inl ⟨by rfl, ?_⟩, fun _ => rfl⟩ ?_
      rotate_left
      · intro w; go_simp; try rfl
      refine wpAnyIn_take (i := 7) (v := ?_) rfl rfl (by kernel_rfl) (by kernel_rfl) (by kernel_rfl) (fun _ _ _ h => h) ⟨Or.inl ⟨by rfl, ?_⟩, fun _ => rfl⟩ ?_
      rotate_left
      · intro w; go_simp; try rfl
      refine wpAnyIn_take (i := 3) (v := ?_) rfl rfl (by kernel_rfl) (by kernel_rfl) (by kernel_rfl) (fun _ _ _ h => h) ⟨Or.inl ⟨by rfl, ?_⟩, fun _ => rfl⟩ ?_
      rotate_left
      · intro w; go_simp; try rfl
      refine wpAnyIn_take (i := 8) (v := ?_) rfl rfl (by kernel_rfl) (by kernel_rfl) (by kernel_rfl) (fun _ _ _ h => h) ⟨Or.inl ⟨by rfl, ?_⟩, fun _ => rfl⟩ ?_
      rotate_left
      · intro w; go_simp; try rfl
      refine wpAnyIn_ready (rs := [4, 9]) (by kernel_rfl) (by simp) ?_
      refine AllReadyIn.cons rfl (fun K hK => ?_) (AllReadyIn.cons rfl (fun K hK => ?_) AllReadyIn.nil)
      · go_simp
        refine hK _ _ ?_
        clear hK K
        refine wpAnyIn_take (i := 5) (v := ?_) rfl rfl (by kernel_rfl) (by kernel_rfl) (by kernel_rfl) (fun _ _ _ h => h) ⟨Or.inl ⟨by rfl, ?_⟩, fun _ => rfl⟩ ?_
        rotate_left
        · intro w; go_simp; try rfl
        refine wpAnyIn_ready (rs := [9]) (by kernel_rfl) (by simp) ?_
        refine AllReadyIn.cons rfl (fun K hK => ?_) AllReadyIn.nil
        go_simp
        refine hK _ _ ?_
        clear hK K
        refine wpAnyIn_take (i := 10) (v := ?_) rfl rfl (by kernel_rfl) (by kernel_rfl) (by kernel_rfl) (fun _ _ _ h => h) ⟨Or.inl ⟨by rfl, ?_⟩, fun _ => rfl⟩ ?_
        rotate_left
        · intro w; go_simp; try rfl
        refine wpAnyIn_take (i := 11) (v := ?_) rfl rfl (by kernel_rfl) (by kernel_rfl) (by kernel_rfl) (fun _ _ _ h => h) ⟨Or.inl ⟨by rfl, ?_⟩, fun _ => rfl⟩ ?_
        rotate_left
        · intro w; go_simp; try rfl
        refine wpAnyIn_ready (rs := [12]) (by kernel_rfl) (by simp) ?_
        refine AllReadyIn.cons rfl (fun K hK => ?_) AllReadyIn.nil
        go_simp
        refine (unhide HRd).mono ?_
        rintro x W6 ⟨r, rfl, hor⟩
        have HOR := hide hor
        clear hor
        go_simp
        refine hK _ _ ?_
        clear hK K
        refine wpAnyIn_done (by kernel_rfl) ?_ _
        rw [Exit.noGoto_normal]
        go_end0
        exact ⟨⟨_, rfl⟩, unhide HOR⟩
      · go_simp
        refine hK _ _ ?_
        clear hK K
        refine wpAnyIn_take (i := 10) (v := ?_) rfl rfl (by kernel_rfl) (by kernel_rfl) (by kernel_rfl) (fun _ _ _ h => h) ⟨Or.inl ⟨by rfl, ?_⟩, fun _ => rfl⟩ ?_
        rotate_left
        · intro w; go_simp; try rfl
        refine wpAnyIn_ready (rs := [4]) (by kernel_rfl) (by simp) ?_
        refine AllReadyIn.cons rfl (fun K hK => ?_) AllReadyIn.nil
        go_simp
        refine hK _ _ ?_
        clear hK K
        refine wpAnyIn_take (i := 5) (v := ?_) rfl rfl (by kernel_rfl) (by kernel_rfl) (by kernel_rfl) (fun _ _ _ h => h) ⟨Or.inl ⟨by rfl, ?_⟩, fun _ => rfl⟩ ?_
        rotate_left
        · intro w; go_simp; try rfl
        refine wpAnyIn_take (i := 11) (v := ?_) rfl rfl (by kernel_rfl) (by kernel_rfl) (by kernel_rfl) (fun _ _ _ h => h) ⟨Or.inl ⟨by rfl, ?_⟩, fun _ => rfl⟩ ?_
        rotate_left
        · intro w; go_simp; try rfl
        refine wpAnyIn_ready (rs := [12]) (by kernel_rfl) (by simp) ?_
        refine AllReadyIn.cons rfl (fun K hK => ?_) AllReadyIn.nil
        go_simp
        refine (unhide HRd).mono ?_
        rintro x W6 ⟨r, rfl, hor⟩
        have HOR := hide hor
        clear hor
        go_simp
        refine hK _ _ ?_
        clear hK K
        refine wpAnyIn_done (by kernel_rfl) ?_ _
        rw [Exit.noGoto_normal]
        go_end0
        exact ⟨⟨_, rfl⟩, unhide HOR⟩
end Go.Proofs.YtpdkeggiokebmaaDoor
