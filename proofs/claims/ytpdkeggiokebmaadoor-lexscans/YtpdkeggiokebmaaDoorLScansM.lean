/- The law LexScans (P2.1, W7), merged: SCA, SCB, SCC, CLA, CLB, PS, LS, LScans. -/
import Derived.BigQuiet
import Derived.Deep.QuietTactic
import Derived.LoopN
import Derived.SevenTiedAt
import Derived.Sort.AtCallIn
import Derived.WalkMore
import Derived.Test.YtpdkeggiokebmaaDoorB3
import Derived.Test.YtpdkeggiokebmaaDoorCards
import Derived.Test.YtpdkeggiokebmaaDoorG0
import Derived.Test.YtpdkeggiokebmaaDoorHG
import Derived.Test.YtpdkeggiokebmaaDoorHH
import Derived.Test.YtpdkeggiokebmaaDoorHN
import Derived.Test.YtpdkeggiokebmaaDoorX3t
import Derived.Test.YtpdkeggiokebmaaDoorXB
import Derived.Test.YtpdkeggiokebmaaDoorXR
/- lex's machine: scan, over any text, for the function value 16. -/
namespace Go.Proofs.YtpdkeggiokebmaaDoor
set_option linter.unusedSimpArgs false
set_option linter.unusedVariables false
open Go.RowKit Go.Shelf

attribute [local go_sem] Oper.semAt_some
attribute [local go_sem] tokV
set_option maxRecDepth 100000 in
set_option maxHeartbeats 8000000 in
theorem scanP16 (n : Nat) (hn : 1 ≤ n) (M c : Nat) (k0 k1 k2 k3 k4 : Nat) (a : Option Addr) (len cap : Nat) (g : Nat → Int) (hg : ∀ j, 0 ≤ g j ∧ g j ≤ 255) (hlen : len ≤ 4000) (hcM : c < M) (hM2 : 2 < M) (J : List TokD → Option Nat → World → Prop) (Jx : List TokD → World → Prop)
    (hJ : ∀ pre ob ob' A C, J pre ob A → Fr (fun k => k = M ∨ ob = some k) A C → (ob' = ob ∨ ∃ k, ob' = some k ∧ A.heap.size ≤ k) → J pre ob' C)
    (hY : ∀ pre ob t A, t.2 = 0 → (∃ rest, scI g len 0 [] = pre ++ t :: rest) → J pre ob A → pre.length < len + 1 → (∃ cs : Array Value, A.heap[M]? = some (.cells cs 49)) → (∀ k, ob = some k → M < k ∧ ∃ cur, A.heap[k]? = some (.cells cur 4 (0, 0))) → CC A c → Calls Tryd.prog 16 #[tdV t, .int .i64 t.2, .pointer (some ⟨k0, 0, none⟩), .pointer (some ⟨k1, 0, none⟩), .pointer (some ⟨k2, 0, none⟩), .pointer (some ⟨k3, 0, none⟩), .pointer (some ⟨k4, 0, none⟩)] A fun e A' =>
      (e = .returned (.bool true) ∧ J (pre ++ [t]) ob A' ∧ Kept M c ob A A') ∨ (e = .returned (.bool false) ∧ Jx (pre ++ [t]) A'))
    (hYe : ∀ pre ob i A, scI g len 0 [] = pre ++ [((0, [], i, 0), 3)] → J pre ob A → pre.length < len + 1 → Calls Tryd.prog 16 #[tdV ((0, [], i, 0), 3), .int .i64 3, .pointer (some ⟨k0, 0, none⟩), .pointer (some ⟨k1, 0, none⟩), .pointer (some ⟨k2, 0, none⟩), .pointer (some ⟨k3, 0, none⟩), .pointer (some ⟨k4, 0, none⟩)] A fun e A' => ∃ r : Bool, e = .returned (.bool r) ∧ ((∃ ob', J (pre ++ [((0, [], i, 0), 3)]) ob' A') ∨ Jx (pre ++ [((0, [], i, 0), 3)]) A'))
    (W : World) (h0 : J [] none W) (hM : MAt W M (.slice a len cap) 0 (.slice none 0 0)) (hS : Sl W c (.slice a len cap) len g) (hcc : CC W c) (hE1 : ErrG W 1) (hE2 : ErrG W 2) :
    CallsIn Fence.wide n Tryd.prog 25 #[.pointer (some ⟨M, 0, none⟩), .func (.func 16) #[] #[.pointer (some ⟨k0, 0, none⟩), .pointer (some ⟨k1, 0, none⟩), .pointer (some ⟨k2, 0, none⟩), .pointer (some ⟨k3, 0, none⟩), .pointer (some ⟨k4, 0, none⟩)]] W fun e W' => (∃ v, e = .returned v) ∧ ((∃ ob, J (scI g len 0 []) ob W') ∨ ∃ pre rest, scI g len 0 [] = pre ++ rest ∧ Jx pre W') := by
  obtain ⟨I, hI⟩ : ∃ I, scI g len 0 [] = I := ⟨_, rfl⟩
  rw [hI] at hY hYe ⊢
  have HI := hide hI
  clear hI
  refine callsIn_of_wp Tryd.func25 rfl trivial ?_ rfl
  simp only [Tryd.ntmps25, List.size_toArray, List.length_cons, List.length_nil, Nat.reduceAdd, Nat.reduceSub, Array.replicate_succ, Array.replicate_zero, List.push_toArray, List.append_toArray, List.nil_append, List.cons_append]
  gi_wp2
  refine wpIn_scope_wide ?_
  gi_wp2
  refine wpIn_label ?_
  gi_wp2
  have HJ := hide hJ
  have HY := hide hY
  have HYE := hide hYe
  have H0 := hide h0
  have HS := hide hS
  have HE1 := hide hE1
  have HE2 := hide hE2
  have HCC := hide hcc
  have hml := hM.lt
  clear hJ hY hYe h0 hS hE1 hE2 hcc
  gi_loopw [4] (fun t wr => ∃ (at' : Nat) (pre : List TokD) (bs : List Bool) (ov : Value), pre.length ≤ at' ∧ bs.length ≤ at' ∧ at' ≤ len ∧ t = .int .i64 (pre.length : Int) ∧ Hid (pre ++ scI g len at' bs = I) ∧ Hid (J pre ov.ownBlock wr) ∧ MAt wr M (.slice a len cap) at' ov ∧ Hid (OwnO wr M ov bs) ∧ Hid (wr.heap[c]? = W.heap[c]? ∧ wr.heap[1]? = W.heap[1]? ∧ wr.heap[2]? = W.heap[2]?) ∧ W.heap.size ≤ wr.heap.size) (fun _ wr => len - atOf M wr)
  case atStart => exact ⟨0, [], [], .slice none 0 0, Nat.zero_le _, Nat.zero_le _, Nat.zero_le _, rfl, unhide HI, unhide H0, hM, own_nil _ _, ⟨rfl, rfl, rfl⟩, Nat.le_refl _⟩
  case round =>
    obtain ⟨W0, hW0⟩ : ∃ W0, W0 = wr := ⟨_, rfl⟩
    subst hW0
    obtain ⟨at', pre, bs, ov, hpl, hbl, hal, rfl, HIT, HJJ, hm, HOO, HKK, hsz⟩ := hrel
    clear HI H0
    have c0 := hm.c0
    have c1 := hm.c1
    have f1 := hm.frozen 1
    have hmw := hm.lt
    have hS' : Sl W0 c (.slice a len cap) len g := (unhide HS).keep (fun k e => by subst e; exact (unhide HKK).1)
    have HE1' : Hid (ErrG W0 1) := by
      obtain ⟨ev, hv, hev⟩ := unhide HE1
      exact ⟨ev, by rw [World.cell?_of_block (w := W) (unhide HKK).2.1]; exact hv, hev⟩
    have HE2' : Hid (ErrG W0 2) := by
      obtain ⟨ev, hv, hev⟩ := unhide HE2
      exact ⟨ev, by rw [World.cell?_of_block (w := W) (unhide HKK).2.2]; exact hv, hev⟩
    have hat0 := atOf_eq hm
    have HAT0 := hide hat0
    have HM := hide hm
    have hFd : ∀ N, Fr (fun k => k = M) W0 (W0.drewN N) := fun N => ⟨rfl, rfl, rfl, Nat.le_refl _, fun _ _ _ => rfl⟩
    -- where the place alone has turned, the round goes on
    have HGO : Hid (∀ (j : Nat) (W' : World), at' < j → j ≤ len → pre ++ scI g len j bs = I → MAt W' M (.slice a len cap) j ov → Fr (fun k => k = M) W0 W' → (∃ (at' : Nat) (pre' : List TokD) (bs : List Bool) (ov : Value), pre'.length ≤ at' ∧ bs.length ≤ at' ∧ at' ≤ len ∧ Value.int .i64 (pre.length : Int) = .int .i64 (pre'.length : Int) ∧ Hid (pre' ++ scI g len at' bs = I) ∧ Hid (J pre' ov.ownBlock W') ∧ MAt W' M (.slice a len cap) at' ov ∧ Hid (OwnO W' M ov bs) ∧ Hid (W'.heap[c]? = W.heap[c]? ∧ W'.heap[1]? = W.heap[1]? ∧ W'.heap[2]? = W.heap[2]?) ∧ W.heap.size ≤ W'.heap.size) ∧ len - atOf M W' < len - atOf M W0) := by
      intro j W' hj1 hj2 hit hmj hF
      have hF' : Fr (fun k => k = M ∨ ov.ownBlock = some k) W0 W' := hF.mono fun k _ e => .inl e
      refine ⟨⟨j, pre, bs, ov, by omega, by omega, hj2, rfl, hit, unhide HJ _ _ _ _ _ (unhide HJJ) hF' (.inl rfl), hmj, (unhide HOO).fr hF, ⟨(hF.block c (by omega) (by omega)).trans (unhide HKK).1, (hF.block 1 (by omega) (by omega)).trans (unhide HKK).2.1, (hF.block 2 (by omega) (by omega)).trans (unhide HKK).2.2⟩, Nat.le_trans hsz hF.size⟩, ?_⟩
      rw [atOf_eq hmj, unhide HAT0]
      omega
    by_cases hlt : at' < len
    · have hlt' : (at' : Int) < len := by omega
      have hltb : decide ((at' : Int) < len) = true := by simpa using hlt'
      have HS2 := hide hS'
      obtain ⟨off, rfl, h1, h2, hcc⟩ := unhide (sl_cells hS') (by omega)
      unfold maxLen at h2
      have hck := hcc at' hlt
      have HCL := hide hcc
      have HST : Hid (∀ (x y : UInt8) (b : Bool) (j : Nat), j ≤ len → hpB (fun i => g (j + i)) (len - j) (gS ⟨#[x, y]⟩) 2 = b → ∀ W', MAt W' M (.slice (some ⟨c, off, none⟩) len cap) (j : Int) ov → Fr (fun k => k = M) W0 W' → Calls Tryd.prog 34 #[.pointer (some ⟨M, 0, none⟩), .string ⟨#[x, y]⟩] W' fun z W'' => z = .returned (.bool b) ∧ Below W'.heap.size W' W'') := fun x y b j hj hb W' hmW hfW => by
        have hz := hfW.size
        have hk := stands_any M c _ len cap g j ov ⟨#[x, y]⟩ W' hmW ((unhide HS2).keep (fun k e => by subst e; exact hfW.block k (by omega) (by omega))) (by omega) hj (by omega) (by show 2 ≤ 4294967296; omega)
        rw [show (⟨#[x, y]⟩ : ByteArray).size = 2 from rfl, hb] at hk
        exact hk
      clear hcc hS'
      cases hb : isB (g at') with
      | true =>
        have hit := unhide HIT
        rw [sc_blk hlt hb] at hit
        have HIT2 := hide hit
        clear hit
        gi_wp2
        refine wpIn_wide.2 ?_
        go_quiet (fail)
        gi_wp2_with (refine ⟨trivial, ?_⟩; gi_at_call 33; refine (callsIn_wide.2 (isBlank_any _ _)).mono ?_; rintro x w' ⟨rfl, hw⟩; subst w')
        exact unhide HGO (at' + 1) _ (by omega) (by omega) (unhide HIT2) (MAt.set1 (W := W0.drewN nq) hm ((at' : Int) + 1)) ((hFd nq).set M 1 _ rfl)
      | false =>
        have hbk : blk (g at') = false := hb
        by_cases hln : g at' = 47 ∧ at' + 1 < len ∧ g (at' + 1) = 47
        · -- a remark to the line's end
          have hit := unhide HIT
          rw [sc_line hln.2.1 hln.1 hln.2.2] at hit
          have hp : (g at' != 10) = true := by rw [hln.1]; decide
          have s1 := stopI_step (p := fun c => c != 10) (g := g) hlt hp
          have s2 := stopI_spec (p := fun c => c != 10) (g := g) (len := len) (i := at' + 1) (by omega)
          rw [← s1] at s2
          obtain ⟨e, he⟩ : ∃ e, stopI (fun c => c != 10) g len at' = e := ⟨_, rfl⟩
          rw [he] at s2 hit
          obtain ⟨s3, s4, s5, s6⟩ := s2
          have HS5 : Hid (∀ j, at' ≤ j → j < e → (g j != 10) = true) := fun j h1 h2 => by
            by_cases h : j = at'
            · rw [h]; exact hp
            · exact s5 j (by omega) h2
          have HS6 := hide s6
          have HIT2 := hide hit
          have HY1 := hide (unhide HST 47 47 true at' hal (st_yes hg hln.1 hln.2.1 hln.2.2))
          clear hit s5 s6 he s1 hp hln
          gi_wp2
          refine wpIn_wide.2 ?_
          go_quiet (fail)
          gi_wp2_with (first | (refine ⟨trivial, ?_⟩; gi_at_call 33; refine (callsIn_wide.2 (isBlank_any _ _)).mono ?_; rintro x w' ⟨rfl, hw⟩; subst w') | (refine ⟨trivial, ?_⟩; gi_at_call_has 34 (Value.string ⟨#[47, 47]⟩); refine (callsIn_wide.2 (unhide HY1 (W0.drewN nq) hm (hFd nq))).mono ?_; rintro x W2 ⟨rfl, hb2⟩))
          have hF2 : Fr (fun k => k = M) W0 W2 := ((hFd nq).below hb2)
          have hm2 : MAt W2 M (.slice (some ⟨c, off, none⟩) len cap) at' ov := MAt.below (W := W0.drewN nq) hm hb2 hmw
          have HF2 := hide hF2
          clear hb2 hF2 c0 c1 f1
          gi_loopw [] (fun w3 => ∃ (j : Nat), at' ≤ j ∧ j ≤ e ∧ MAt w3 M (.slice (some ⟨c, off, none⟩) len cap) j ov ∧ Hid (Fr (fun k => k = M) W0 w3)) (fun w3 => len - atOf M w3)
          case atStart => exact ⟨at', Nat.le_refl _, by omega, hm2, unhide HF2⟩
          case round =>
            obtain ⟨w3, hw3⟩ : ∃ w3, w3 = wr := ⟨_, rfl⟩
            subst hw3
            obtain ⟨j, hj1, hj2, hm3, HF3⟩ := hrel
            have c0 := hm3.c0
            have c1 := hm3.c1
            have f1 := hm3.frozen 1
            have hmw3 := hm3.lt
            have hat3 := atOf_eq hm3
            have HAT3 := hide hat3
            have hFd3 : ∀ N, Fr (fun k => k = M) w3 (w3.drewN N) := fun N => ⟨rfl, rfl, rfl, Nat.le_refl _, fun _ _ _ => rfl⟩
            clear hat3
            by_cases hjl : j < len
            · have hjl' : (j : Int) < len := by omega
              have hjd : decide ((j : Int) < len) = true := decide_eq_true hjl'
              have hcj : w3.cell? ⟨c, off + j, none⟩ = some (.int .u8 (g j)) := by
                have := unhide HCL j hjl
                rw [World.cell?_of_block (w := W0) ((unhide HF3).block c (by omega) (by omega))]
                exact this
              by_cases hje : j < e
              · have hgj : (g j != 10) = true := unhide HS5 j hj1 hje
                gi_wp2
                refine wpIn_wide.2 ?_
                go_quiet (fail)
                gi_wp2
                have hm4 : MAt ((w3.drewN nq).setCell ⟨M, 1, none⟩ (.int .i64 ((j : Int) + 1))) M (.slice (some ⟨c, off, none⟩) len cap) ((j + 1 : Nat) : Int) ov := MAt.set1 (W := w3.drewN nq) hm3 ((j : Int) + 1)
                refine ⟨⟨j + 1, by omega, by omega, hm4, ((unhide HF3).trans (hFd3 nq)).set M 1 _ rfl⟩, ?_⟩
                rw [atOf_eq hm4, unhide HAT3]
                omega
              · obtain rfl : j = e := by omega
                have hgj : (g j != 10) = false := by
                  rcases unhide HS6 with h | h
                  · omega
                  · exact h
                gi_wp2
                refine wpIn_wide.2 ?_
                go_quiet (fail)
                gi_wp2
                exact unhide HGO j _ (by omega) (by omega) (unhide HIT2) (MAt.drewN hm3 _) ((unhide HF3).trans (hFd3 _))
            · have hjl' : ¬ (j : Int) < len := by omega
              have hjd : decide ((j : Int) < len) = false := decide_eq_false hjl'
              obtain rfl : j = e := by omega
              gi_wp2
              refine wpIn_wide.2 ?_
              go_quiet (fail)
              gi_wp2
              exact unhide HGO j _ (by omega) (by omega) (unhide HIT2) (MAt.drewN hm3 _) ((unhide HF3).trans (hFd3 _))
        · by_cases hrm : g at' = 47 ∧ at' + 1 < len ∧ g (at' + 1) = 42
          · -- a remark between its marks
            have hit := unhide HIT
            rw [sc_rem hrm.2.1 hrm.1 hrm.2.2] at hit
            have hge : at' + 2 ≤ remI g len (at' + 2) := remF_ge (g := g) (len := len) (len - (at' + 2)) (at' + 2)
            obtain ⟨e, he⟩ : ∃ e, remI g len (at' + 2) = e := ⟨_, rfl⟩
            rw [he] at hit hge
            have HE := hide he
            have HIT2 := hide hit
            have HY1 := hide (unhide HST 47 47 false at' hal (st_no hg (fun h => hln ⟨h.1, h.2.1, h.2.2⟩)))
            have HY2 := hide (unhide HST 47 42 true at' hal (st_yes hg hrm.1 hrm.2.1 hrm.2.2))
            have hl2 : at' + 2 ≤ len := by omega
            clear hit he hln hrm
            gi_wp2
            refine wpIn_wide.2 ?_
            go_quiet (fail)
            gi_wp2_with (first | (refine ⟨trivial, ?_⟩; gi_at_call 33; refine (callsIn_wide.2 (isBlank_any _ _)).mono ?_; rintro x w' ⟨rfl, hw⟩; subst w') | (refine ⟨trivial, ?_⟩; gi_at_call_has 34 (Value.string ⟨#[47, 47]⟩); refine (callsIn_wide.2 (unhide HY1 (W0.drewN nq) hm (hFd nq))).mono ?_; rintro x W2 ⟨rfl, hb2⟩; have hF2 : Fr (fun k => k = M) W0 W2 := (hFd nq).below hb2; have hm2 : MAt W2 M (.slice (some ⟨c, off, none⟩) len cap) at' ov := MAt.below (W := W0.drewN nq) hm hb2 hmw; clear hb2) | (refine ⟨trivial, ?_⟩; gi_at_call_has 34 (Value.string ⟨#[47, 42]⟩); refine (callsIn_wide.2 (unhide HY2 W2 hm2 hF2)).mono ?_; rintro x W3 ⟨rfl, hb3⟩; have hF3 : Fr (fun k => k = M) W0 W3 := hF2.below (hb3.mono hF2.size); have hm3 : MAt W3 M (.slice (some ⟨c, off, none⟩) len cap) at' ov := hm2.below hb3 hm2.lt; clear hb3; have c13 := hm3.c1; have f13 := hm3.frozen 1; have hmw3 := hm3.lt))
            have hm4 : MAt (W3.setCell ⟨M, 1, none⟩ (.int .i64 ((at' : Int) + 2))) M (.slice (some ⟨c, off, none⟩) len cap) ((at' + 2 : Nat) : Int) ov := hm3.set1 ((at' : Int) + 2)
            have hF4 := hF3.set M 1 (.int .i64 ((at' : Int) + 2)) rfl
            have HF4 := hide hF4
            have HM4 := hide hm4
            clear hF2 hm2 hF3 hm3 c13 f13 hmw3 hF4 hm4 c0 c1 f1
            gi_loopw [] (fun w3 => ∃ (j : Nat), at' + 2 ≤ j ∧ j ≤ len ∧ Hid (remI g len j = e ∨ (j = len ∧ ¬ e + 1 < len)) ∧ MAt w3 M (.slice (some ⟨c, off, none⟩) len cap) j ov ∧ Hid (Fr (fun k => k = M) W0 w3)) (fun w3 => len - atOf M w3)
            case atStart => exact ⟨at' + 2, Nat.le_refl _, hl2, .inl (unhide HE), unhide HM4, unhide HF4⟩
            case round =>
              obtain ⟨w3, hw3⟩ : ∃ w3, w3 = wr := ⟨_, rfl⟩
              subst hw3
              obtain ⟨j, hj1, hj2, HRJ, hm3, HF3⟩ := hrel
              clear HF4 HM4
              have c0 := hm3.c0
              have c1 := hm3.c1
              have f1 := hm3.frozen 1
              have hmw3 := hm3.lt
              have hat3 := atOf_eq hm3
              have HAT3 := hide hat3
              have hFd3 : ∀ N, Fr (fun k => k = M) w3 (w3.drewN N) := fun N => ⟨rfl, rfl, rfl, Nat.le_refl _, fun _ _ _ => rfl⟩
              clear hat3
              by_cases hjl : j < len
              · have hjl' : (j : Int) < len := by omega
                have hjd : decide ((j : Int) < len) = true := decide_eq_true hjl'
                have hrj : remI g len j = e := by
                  rcases unhide HRJ with h | h
                  · exact h
                  · omega
                by_cases hms : g j = 42 ∧ j + 1 < len ∧ g (j + 1) = 47
                · have HY3 := hide (unhide HST 42 47 true j hj2 (st_yes hg hms.1 hms.2.1 hms.2.2))
                  rw [remI_stop (fun h => h.2 ⟨hms.1, hms.2.2⟩)] at hrj
                  subst hrj
                  have hit := unhide HIT2
                  rw [if_pos hms.2.1] at hit
                  have HIT3 := hide hit
                  have hj3 := hms.2.1
                  clear hit hms
                  gi_wp2
                  refine wpIn_wide.2 ?_
                  go_quiet (fail)
                  gi_wp2_with (refine ⟨trivial, ?_⟩; gi_at_call 34; refine (callsIn_wide.2 (unhide HY3 (w3.drewN nq) hm3 ((unhide HF3).trans (hFd3 nq)))).mono ?_; rintro x W4 ⟨rfl, hb4⟩; have hm4 : MAt W4 M (.slice (some ⟨c, off, none⟩) len cap) j ov := MAt.below (W := w3.drewN nq) hm3 hb4 hmw3; have hF4 : Fr (fun k => k = M) W0 W4 := ((unhide HF3).trans (hFd3 nq)).below (hb4.mono (unhide HF3).size); have c14 := hm4.c1; have f14 := hm4.frozen 1; have hmw4 := hm4.lt)
                  exact unhide HGO (j + 2) _ (by omega) (by omega) (unhide HIT3) (hm4.set1 ((j : Int) + 2)) (hF4.set M 1 _ rfl)
                · have HY3 := hide (unhide HST 42 47 false j hj2 (st_no hg hms))
                  have HRJ2 : Hid (remI g len (j + 1) = e ∨ (j + 1 = len ∧ ¬ e + 1 < len)) := by
                    by_cases hj3 : j + 1 < len
                    · exact .inl (by rw [← remI_step hj3 (fun h => hms ⟨h.1, hj3, h.2⟩)]; exact hrj)
                    · rw [remI_stop (fun h => hj3 h.1)] at hrj
                      exact .inr ⟨by omega, by omega⟩
                  clear hms hrj
                  gi_wp2
                  refine wpIn_wide.2 ?_
                  go_quiet (fail)
                  gi_wp2_with (refine ⟨trivial, ?_⟩; gi_at_call 34; refine (callsIn_wide.2 (unhide HY3 (w3.drewN nq) hm3 ((unhide HF3).trans (hFd3 nq)))).mono ?_; rintro x W4 ⟨rfl, hb4⟩; have hm4 : MAt W4 M (.slice (some ⟨c, off, none⟩) len cap) j ov := MAt.below (W := w3.drewN nq) hm3 hb4 hmw3; have hF4 : Fr (fun k => k = M) W0 W4 := ((unhide HF3).trans (hFd3 nq)).below (hb4.mono (unhide HF3).size); have c14 := hm4.c1; have f14 := hm4.frozen 1; have hmw4 := hm4.lt)
                  have hm5 : MAt (W4.setCell ⟨M, 1, none⟩ (.int .i64 ((j : Int) + 1))) M (.slice (some ⟨c, off, none⟩) len cap) ((j + 1 : Nat) : Int) ov := hm4.set1 ((j : Int) + 1)
                  refine ⟨⟨j + 1, by omega, by omega, HRJ2, hm5, hF4.set M 1 _ rfl⟩, ?_⟩
                  rw [atOf_eq hm5, unhide HAT3]
                  omega
              · have hjl' : ¬ (j : Int) < len := by omega
                have hjd : decide ((j : Int) < len) = false := decide_eq_false hjl'
                obtain rfl : j = len := by omega
                have hne : ¬ e + 1 < j := by
                  rcases unhide HRJ with h | h
                  · rw [remI_stop (fun h' => by omega)] at h
                    omega
                  · exact h.2
                have hit := unhide HIT2
                rw [if_neg hne] at hit
                have HIT3 := hide hit
                clear hit
                gi_wp2
                refine wpIn_wide.2 ?_
                go_quiet (fail)
                gi_wp2
                have hF5 := (unhide HF3).trans (hFd3 nq)
                have hm5 := MAt.drewN hm3 nq
                have hRd := unhide HYE pre ov.ownBlock at' (w3.drewN nq) (unhide HIT3).symm (unhide HJ _ _ _ _ _ (unhide HJJ) (hF5.mono (fun k _ e => .inl e)) (.inl rfl)) (by omega)
                refine ⟨trivial, ?_⟩
                gi_at_call 16
                refine (callsIn_wide.2 hRd).mono ?_
                rintro x W6 ⟨r, rfl, hor⟩
                have HOR := hide hor
                clear hor
                gi_wp2
                rw [Exit.noGoto_ret]
                refine bodyPost_ret (results_none rfl _ _ _) rfl ⟨⟨_, rfl⟩, ?_⟩
                rcases unhide HOR with ⟨ob', h⟩ | h
                · exact .inl ⟨ob', by rw [← unhide HIT3]; exact h⟩
                · exact .inr ⟨_, [], by rw [List.append_nil]; exact (unhide HIT3).symm, h⟩
          · -- a token
            have hng : NoGap g len at' := ⟨hbk, hln, hrm⟩
            have HY1 := hide (unhide HST 47 47 false at' hal (st_no hg (fun h => hln ⟨h.1, h.2.1, h.2.2⟩)))
            have HY2 := hide (unhide HST 47 42 false at' hal (st_no hg (fun h => hrm ⟨h.1, h.2.1, h.2.2⟩)))
            have HTK : Hid (∀ W', MAt W' M (.slice (some ⟨c, off, none⟩) len cap) at' ov → Fr (fun k => k = M) W0 W' → Calls Tryd.prog 35 #[.pointer (some ⟨M, 0, none⟩)] W' (TokO W' M (.slice (some ⟨c, off, none⟩) len cap) ov at' (tokP g len at' bs))) := fun W' hmW hfW => token_any M c _ len cap g hg at' ov bs W' hmW ((unhide HS2).keep (fun k e => by subst e; exact hfW.block k (by omega) (by omega))) ((unhide HOO).fr hfW) hcM hM2 hlt (by omega) (by omega) ((unhide HE1').fr hfW (by omega)) ((unhide HE2').fr hfW (by omega))
            have n8 : ((pre.length : Int) == 8192) = false := by simp; omega
            have hit := unhide HIT
            have ARM34 : True := trivial
            cases htk : tokP g len at' bs with
            | none =>
              rw [sc_bad hlt hng htk] at hit
              rw [htk] at HTK
              have HTK2 : Hid (∀ W', MAt W' M (.slice (some ⟨c, off, none⟩) len cap) at' ov → Fr (fun k => k = M) W0 W' → Calls Tryd.prog 35 #[.pointer (some ⟨M, 0, none⟩)] W' fun x W'' => x = .returned (.tuple #[tokV 0 ⟨#[]⟩ 0 0, .bool false]) ∧ Fr (fun k => k = M ∨ ov.ownBlock = some k) W' W'') := unhide HTK
              have HIT3 := hide hit
              clear hit htk hng hln hrm HTK
              gi_wp2
              refine wpIn_wide.2 ?_
              go_quiet (fail)
              gi_wp2_with (first | (refine ⟨trivial, ?_⟩; gi_at_call 33; refine (callsIn_wide.2 (isBlank_any _ _)).mono ?_; rintro x w' ⟨rfl, hw⟩; subst w') | (refine ⟨trivial, ?_⟩; gi_at_call_has 34 (Value.string ⟨#[47, 47]⟩); refine (callsIn_wide.2 (unhide HY1 (W0.drewN nq) hm (hFd nq))).mono ?_; rintro x W2 ⟨rfl, hb2⟩; have hF2 : Fr (fun k => k = M) W0 W2 := (hFd nq).below hb2; have hm2 : MAt W2 M (.slice (some ⟨c, off, none⟩) len cap) at' ov := MAt.below (W := W0.drewN nq) hm hb2 hmw; clear hb2) | (refine ⟨trivial, ?_⟩; gi_at_call_has 34 (Value.string ⟨#[47, 42]⟩); refine (callsIn_wide.2 (unhide HY2 W2 hm2 hF2)).mono ?_; rintro x W3 ⟨rfl, hb3⟩; have hF3 : Fr (fun k => k = M) W0 W3 := hF2.below (hb3.mono hF2.size); have hm3 : MAt W3 M (.slice (some ⟨c, off, none⟩) len cap) at' ov := hm2.below hb3 hm2.lt; clear hb3) | (refine ⟨trivial, ?_⟩; gi_at_call 35; refine (callsIn_wide.2 (unhide HTK2 W3 hm3 hF3)).mono ?_; rintro x W4 ⟨rfl, hF4⟩))
              obtain ⟨W5, hW5⟩ : ∃ W5, W4.alloc (.cells #[.int .i64 0, .string ⟨#[]⟩, .int .i64 0, .int .i64 0] 33) = W5 := ⟨_, rfl⟩
              have hF5 : Fr (fun k => k = M ∨ ov.ownBlock = some k) W0 W5 := by rw [← hW5]; exact ((hF3.mono (fun k _ e => .inl e)).trans hF4).alloc _
              rw [hW5]
              clear hW5
              have hRd := unhide HYE pre ov.ownBlock at' W5 (unhide HIT3).symm (unhide HJ _ _ _ _ _ (unhide HJJ) (hF5) (.inl rfl)) (by omega)
              refine ⟨trivial, ?_⟩
              gi_at_call 16
              refine (callsIn_wide.2 hRd).mono ?_
              rintro x W6 ⟨r, rfl, hor⟩
              have HOR := hide hor
              clear hor
              gi_wp2
              rw [Exit.noGoto_ret]
              refine bodyPost_ret (results_none rfl _ _ _) rfl ⟨⟨_, rfl⟩, ?_⟩
              rcases unhide HOR with ⟨ob', h⟩ | h
              · exact .inl ⟨ob', by rw [← unhide HIT3]; exact h⟩
              · exact .inr ⟨_, [], by rw [List.append_nil]; exact (unhide HIT3).symm, h⟩
            | some y =>
              obtain ⟨kd, tx, e', bs'⟩ := y
              have hadv := tokP_adv hlt htk
              rw [sc_tok hlt hng htk] at hit
              rw [htk] at HTK
              have HTK2 : Hid (∀ W', MAt W' M (.slice (some ⟨c, off, none⟩) len cap) at' ov → Fr (fun k => k = M) W0 W' → Calls Tryd.prog 35 #[.pointer (some ⟨M, 0, none⟩)] W' fun x W'' => x = .returned (.tuple #[tokV kd (strOfNums tx) at' (e' : Int), .bool true]) ∧ (∃ ov', MAt W'' M (.slice (some ⟨c, off, none⟩) len cap) (e' : Int) ov' ∧ OwnO W'' M ov' bs' ∧ OB W' ov ov') ∧ Fr (fun k => k = M ∨ ov.ownBlock = some k) W' W'') := unhide HTK
              have HITC := hide hit
              have HIT3 : Hid ((pre ++ [((kd, tx, at', e'), 0)]) ++ scI g len e' bs' = I) := by
                show _ = _
                rw [List.append_assoc]
                exact hit
              clear hit htk hng hln hrm HTK
              gi_wp2
              refine wpIn_wide.2 ?_
              go_quiet (fail)
              gi_wp2_with (first | (refine ⟨trivial, ?_⟩; gi_at_call 33; refine (callsIn_wide.2 (isBlank_any _ _)).mono ?_; rintro x w' ⟨rfl, hw⟩; subst w') | (refine ⟨trivial, ?_⟩; gi_at_call_has 34 (Value.string ⟨#[47, 47]⟩); refine (callsIn_wide.2 (unhide HY1 (W0.drewN nq) hm (hFd nq))).mono ?_; rintro x W2 ⟨rfl, hb2⟩; have hF2 : Fr (fun k => k = M) W0 W2 := (hFd nq).below hb2; have hm2 : MAt W2 M (.slice (some ⟨c, off, none⟩) len cap) at' ov := MAt.below (W := W0.drewN nq) hm hb2 hmw; clear hb2) | (refine ⟨trivial, ?_⟩; gi_at_call_has 34 (Value.string ⟨#[47, 42]⟩); refine (callsIn_wide.2 (unhide HY2 W2 hm2 hF2)).mono ?_; rintro x W3 ⟨rfl, hb3⟩; have hF3 : Fr (fun k => k = M) W0 W3 := hF2.below (hb3.mono hF2.size); have hm3 : MAt W3 M (.slice (some ⟨c, off, none⟩) len cap) at' ov := hm2.below hb3 hm2.lt; clear hb3) | (refine ⟨trivial, ?_⟩; gi_at_call 35; refine (callsIn_wide.2 (unhide HTK2 W3 hm3 hF3)).mono ?_; rintro x W4 ⟨rfl, ⟨ov', hm4, hO4, hOB4⟩, hF4⟩; have HO4 := hide hO4; have HOB4 := hide hOB4; clear hO4 hOB4))
              obtain ⟨W5, hW5⟩ : ∃ W5, W4.alloc (.cells #[.int .i64 kd, .string (strOfNums tx), .int .i64 (at' : Int), .int .i64 (e' : Int)] 33) = W5 := ⟨_, rfl⟩
              have hF5 : Fr (fun k => k = M ∨ ov.ownBlock = some k) W0 W5 := by rw [← hW5]; exact ((hF3.mono (fun k _ e => .inl e)).trans hF4).alloc _
              have hm5 : MAt W5 M (.slice (some ⟨c, off, none⟩) len cap) (e' : Int) ov' := by rw [← hW5]; exact hm4.below ((Below.refl _ W4).alloc (Nat.le_refl _) _) hm4.lt
              have hO5 : OwnO W5 M ov' bs' := by rw [← hW5]; exact (unhide HO4).below ((Below.refl _ W4).alloc (Nat.le_refl _) _) (Nat.le_refl _)
              have hnS : ∀ k, k ≤ M → k ≠ M → ¬ (k = M ∨ ov.ownBlock = some k) := fun k h1 h2 h => by
                rcases h with h | h
                · exact h2 h
                · have := ((unhide HOO).lt h).1; omega
              have hk5 : W5.heap[c]? = W.heap[c]? ∧ W5.heap[1]? = W.heap[1]? ∧ W5.heap[2]? = W.heap[2]? := ⟨(hF5.block c (by omega) (hnS c (by omega) (by omega))).trans (unhide HKK).1, (hF5.block 1 (by omega) (hnS 1 (by omega) (by omega))).trans (unhide HKK).2.1, (hF5.block 2 (by omega) (hnS 2 (by omega) (by omega))).trans (unhide HKK).2.2⟩
              have hob5 : ov'.ownBlock = ov.ownBlock ∨ ∃ k, ov'.ownBlock = some k ∧ W0.heap.size ≤ k := by
                rcases unhide HOB4 with h | ⟨k, h1, h2⟩
                · exact .inl h
                · exact .inr ⟨k, h1, Nat.le_trans hF3.size h2⟩
              rw [hW5]
              clear hW5
              have hRd := unhide HY pre ov'.ownBlock ((kd, tx, at', e'), 0) W5 rfl ⟨_, (unhide HITC).symm⟩ (unhide HJ _ _ _ _ _ (unhide HJJ) hF5 hob5) (by omega) ⟨_, hm5⟩ (own_cells hO5) (by obtain ⟨o, h, hno⟩ := unhide HCC; exact ⟨o, hk5.1.trans h, hno⟩)
              refine ⟨trivial, ?_⟩
              gi_at_call 16
              refine (callsIn_wide.2 hRd).mono ?_
              have hz5 := hF5.size
              have HK5 := hide hk5
              have HO5 := hide hO5
              clear hk5 hO5 hob5 hnS
              rintro x W6 (⟨rfl, hJ6, hK6⟩ | ⟨rfl, hJx6⟩)
              · have hm6 : MAt W6 M (.slice (some ⟨c, off, none⟩) len cap) (e' : Int) ov' := (hK6.1 M (.inl rfl)).trans hm5
                have HJ6 := hide hJ6
                have HK6 := hide hK6
                have hz6 := hK6.2
                clear hJ6 hK6
                gi_wp2
                refine ⟨⟨e', pre ++ [((kd, tx, at', e'), 0)], bs', ov', by simp; omega, by omega, by omega, by simp, unhide HIT3, unhide HJ6, hm6, (unhide HO5).keep (fun k hk => (unhide HK6).1 k (.inr (.inr (.inr (.inr hk))))), ⟨((unhide HK6).1 c (.inr (.inl rfl))).trans (unhide HK5).1, ((unhide HK6).1 1 (.inr (.inr (.inl rfl)))).trans (unhide HK5).2.1, ((unhide HK6).1 2 (.inr (.inr (.inr (.inl rfl))))).trans (unhide HK5).2.2⟩, by omega⟩, ?_⟩
                rw [atOf_eq hm6, unhide HAT0]
                omega
              · have HJx6 := hide hJx6
                clear hJx6
                gi_wp2
                rw [Exit.noGoto_ret]
                refine bodyPost_ret (results_none rfl _ _ _) rfl ?_
                exact ⟨⟨_, rfl⟩, .inr ⟨_, _, (unhide HIT3).symm, unhide HJx6⟩⟩
    · obtain rfl : at' = len := by omega
      have hltb : decide ((at' : Int) < at') = false := by simp
      have hit := unhide HIT
      rw [sc_end (by omega)] at hit
      have HIT3 := hide hit
      clear hit
      gi_wp2
      refine wpIn_wide.2 ?_
      go_quiet (fail)
      have hF5 : Fr (fun k => k = M ∨ ov.ownBlock = some k) W0 (W0.drewN (nq + 1)) := ⟨rfl, rfl, rfl, Nat.le_refl _, fun _ _ _ => rfl⟩
      have hRd0 := unhide HY pre ov.ownBlock ((10, [], at', at'), 0) (W0.drewN (nq + 1)) rfl ⟨[], (unhide HIT3).symm⟩ (unhide HJ _ _ _ _ _ (unhide HJJ) hF5 (.inl rfl)) (by omega) ⟨_, hm⟩ (own_cells (unhide HOO)) (by obtain ⟨o, h, hno⟩ := unhide HCC; exact ⟨o, (unhide HKK).1.trans h, hno⟩)
      have HRd := hide (hRd0.mono (R' := fun e A' => ∃ r : Bool, e = .returned (.bool r) ∧ ((∃ ob, J I ob A') ∨ ∃ pre rest, I = pre ++ rest ∧ Jx pre A')) (by
        rintro e A' (⟨rfl, h1, _⟩ | ⟨rfl, h1⟩)
        · exact ⟨true, rfl, .inl ⟨_, by rw [← unhide HIT3]; exact h1⟩⟩
        · exact ⟨false, rfl, .inr ⟨_, [], by rw [List.append_nil]; exact (unhide HIT3).symm, h1⟩⟩))
      clear hRd0
      gi_wp2
      refine wpIn_region_any (by kernel_rfl) ?_
      change wpAnyIn _ _ _ _ _ _ _ _ _ (World.drewN W0 (nq + 1))
      refine wpAnyIn_take (i := 0) (v := ?_) rfl rfl (by kernel_rfl) (by kernel_rfl) (by kernel_rfl) (fun _ _ _ h => h) ⟨Or.inl ⟨by rfl, ?_⟩, fun _ => rfl⟩ ?_
      rotate_left
      · intro w; go_simp; try rfl
      refine wpAnyIn_take (i := 1) (v := ?_) rfl rfl (by kernel_rfl) (by kernel_rfl) (by kernel_rfl) (fun _ _ _ h => h) ⟨Or.inl ⟨by rfl, ?_⟩, fun _ => rfl⟩ ?_
      rotate_left
      · intro w; go_simp; try rfl
      refine wpAnyIn_take (i := 6) (v := ?_) rfl rfl (by kernel_rfl) (by kernel_rfl) (by kernel_rfl) (fun _ _ _ h => h) ⟨Or.inl ⟨by rfl, ?_⟩, fun _ => rfl⟩ ?_
      rotate_left
      · intro w; go_simp; try rfl
      refine wpAnyIn_take (i := 2) (v := ?_) rfl rfl (by kernel_rfl) (by kernel_rfl) (by kernel_rfl) (fun _ _ _ h => h) ⟨Or.inl ⟨by rfl, ?_⟩, fun _ => rfl⟩ ?_
      rotate_left
      · intro w; go_simp; try rfl
      refine wpAnyIn_take (i := 7) (v := ?_) rfl rfl (by kernel_rfl) (by kernel_rfl) (by kernel_rfl) (fun _ _ _ h => h) ⟨Or.inl ⟨by rfl, ?_⟩, fun _ => rfl⟩ ?_
      rotate_left
      · intro w; go_simp; try rfl
      refine wpAnyIn_take (i := 3) (v := ?_) rfl rfl (by kernel_rfl) (by kernel_rfl) (by kernel_rfl) (fun _ _ _ h => h) ⟨Or.inl ⟨by rfl, ?_⟩, fun _ => rfl⟩ ?_
      rotate_left
      · intro w; go_simp; try rfl
      refine wpAnyIn_take (i := 8) (v := ?_) rfl rfl (by kernel_rfl) (by kernel_rfl) (by kernel_rfl) (fun _ _ _ h => h) ⟨Or.inl ⟨by rfl, ?_⟩, fun _ => rfl⟩ ?_
      rotate_left
      · intro w; go_simp; try rfl
      refine wpAnyIn_ready (rs := [4, 9]) (by kernel_rfl) (by simp) ?_
      refine AllReadyIn.cons rfl (fun K hK => ?_) (AllReadyIn.cons rfl (fun K hK => ?_) AllReadyIn.nil)
      · go_simp
        refine hK _ _ ?_
        clear hK K
        refine wpAnyIn_take (i := 5) (v := ?_) rfl rfl (by kernel_rfl) (by kernel_rfl) (by kernel_rfl) (fun _ _ _ h => h) ⟨Or.inl ⟨by rfl, ?_⟩, fun _ => rfl⟩ ?_
        rotate_left
        · intro w; go_simp; try rfl
        refine wpAnyIn_ready (rs := [9]) (by kernel_rfl) (by simp) ?_
        refine AllReadyIn.cons rfl (fun K hK => ?_) AllReadyIn.nil
        go_simp
        refine hK _ _ ?_
        clear hK K
        refine wpAnyIn_take (i := 10) (v := ?_) rfl rfl (by kernel_rfl) (by kernel_rfl) (by kernel_rfl) (fun _ _ _ h => h) ⟨Or.inl ⟨by rfl, ?_⟩, fun _ => rfl⟩ ?_
        rotate_left
        · intro w; go_simp; try rfl
        refine wpAnyIn_take (i := 11) (v := ?_) rfl rfl (by kernel_rfl) (by kernel_rfl) (by kernel_rfl) (fun _ _ _ h => h) ⟨Or.inl ⟨by rfl, ?_⟩, fun _ => rfl⟩ ?_
        rotate_left
        · intro w; go_simp; try rfl
        refine wpAnyIn_ready (rs := [12]) (by kernel_rfl) (by simp) ?_
        refine AllReadyIn.cons rfl (fun K hK => ?_) AllReadyIn.nil
        go_simp
        refine ⟨trivial, ?_⟩
        gi_at_call 16
        refine (callsIn_wide.2 (unhide HRd)).mono ?_
        rintro x W6 ⟨r, rfl, hor⟩
        have HOR := hide hor
        clear hor
        go_simp
        refine hK _ _ ?_
        clear hK K
        refine wpAnyIn_done (by kernel_rfl) ?_ _
        rw [Exit.noGoto_normal]
        go_end0
        exact ⟨⟨_, rfl⟩, unhide HOR⟩
      · go_simp
        refine hK _ _ ?_
        clear hK K
        refine wpAnyIn_take (i := 10) (v := ?_) rfl rfl (by kernel_rfl) (by kernel_rfl) (by kernel_rfl) (fun _ _ _ h => h) ⟨Or.inl ⟨by rfl, ?_⟩, fun _ => rfl⟩ ?_
        rotate_left
        · intro w; go_simp; try rfl
        refine wpAnyIn_ready (rs := [4]) (by kernel_rfl) (by simp) ?_
        refine AllReadyIn.cons rfl (fun K hK => ?_) AllReadyIn.nil
        go_simp
        refine hK _ _ ?_
        clear hK K
        refine wpAnyIn_take (i := 5) (v := ?_) rfl rfl (by kernel_rfl) (by kernel_rfl) (by kernel_rfl) (fun _ _ _ h => h) ⟨Or.inl ⟨by rfl, ?_⟩, fun _ => rfl⟩ ?_
        rotate_left
        · intro w; go_simp; try rfl
        refine wpAnyIn_take (i := 11) (v := ?_) rfl rfl (by kernel_rfl) (by kernel_rfl) (by kernel_rfl) (fun _ _ _ h => h) ⟨Or.inl ⟨by rfl, ?_⟩, fun _ => rfl⟩ ?_
        rotate_left
        · intro w; go_simp; try rfl
        refine wpAnyIn_ready (rs := [12]) (by kernel_rfl) (by simp) ?_
        refine AllReadyIn.cons rfl (fun K hK => ?_) AllReadyIn.nil
        go_simp
        refine ⟨trivial, ?_⟩
        gi_at_call 16
        refine (callsIn_wide.2 (unhide HRd)).mono ?_
        rintro x W6 ⟨r, rfl, hor⟩
        have HOR := hide hor
        clear hor
        go_simp
        refine hK _ _ ?_
        clear hK K
        refine wpAnyIn_done (by kernel_rfl) ?_ _
        rw [Exit.noGoto_normal]
        go_end0
        exact ⟨⟨_, rfl⟩, unhide HOR⟩
end Go.Proofs.YtpdkeggiokebmaaDoor

/- lex's machine: scan, over any text, for the function value 17. -/
namespace Go.Proofs.YtpdkeggiokebmaaDoor
set_option linter.unusedSimpArgs false
set_option linter.unusedVariables false
open Go.RowKit Go.Shelf

attribute [local go_sem] Oper.semAt_some
attribute [local go_sem] tokV
set_option maxRecDepth 100000 in
set_option maxHeartbeats 8000000 in
theorem scanP17 (n : Nat) (hn : 1 ≤ n) (M c : Nat) (k0 k1 : Nat) (a : Option Addr) (len cap : Nat) (g : Nat → Int) (hg : ∀ j, 0 ≤ g j ∧ g j ≤ 255) (hlen : len ≤ 4000) (hcM : c < M) (hM2 : 2 < M) (J : List TokD → Option Nat → World → Prop) (Jx : List TokD → World → Prop)
    (hJ : ∀ pre ob ob' A C, J pre ob A → Fr (fun k => k = M ∨ ob = some k) A C → (ob' = ob ∨ ∃ k, ob' = some k ∧ A.heap.size ≤ k) → J pre ob' C)
    (hY : ∀ pre ob t A, t.2 = 0 → (∃ rest, scI g len 0 [] = pre ++ t :: rest) → J pre ob A → pre.length < len + 1 → (∃ cs : Array Value, A.heap[M]? = some (.cells cs 49)) → (∀ k, ob = some k → M < k ∧ ∃ cur, A.heap[k]? = some (.cells cur 4 (0, 0))) → CC A c → Calls Tryd.prog 17 #[tdV t, .int .i64 t.2, .pointer (some ⟨k0, 0, none⟩), .pointer (some ⟨k1, 0, none⟩)] A fun e A' =>
      (e = .returned (.bool true) ∧ J (pre ++ [t]) ob A' ∧ Kept M c ob A A') ∨ (e = .returned (.bool false) ∧ Jx (pre ++ [t]) A'))
    (hYe : ∀ pre ob i A, scI g len 0 [] = pre ++ [((0, [], i, 0), 3)] → J pre ob A → pre.length < len + 1 → Calls Tryd.prog 17 #[tdV ((0, [], i, 0), 3), .int .i64 3, .pointer (some ⟨k0, 0, none⟩), .pointer (some ⟨k1, 0, none⟩)] A fun e A' => ∃ r : Bool, e = .returned (.bool r) ∧ ((∃ ob', J (pre ++ [((0, [], i, 0), 3)]) ob' A') ∨ Jx (pre ++ [((0, [], i, 0), 3)]) A'))
    (W : World) (h0 : J [] none W) (hM : MAt W M (.slice a len cap) 0 (.slice none 0 0)) (hS : Sl W c (.slice a len cap) len g) (hcc : CC W c) (hE1 : ErrG W 1) (hE2 : ErrG W 2) :
    CallsIn Fence.wide n Tryd.prog 25 #[.pointer (some ⟨M, 0, none⟩), .func (.func 17) #[] #[.pointer (some ⟨k0, 0, none⟩), .pointer (some ⟨k1, 0, none⟩)]] W fun e W' => (∃ v, e = .returned v) ∧ ((∃ ob, J (scI g len 0 []) ob W') ∨ ∃ pre rest, scI g len 0 [] = pre ++ rest ∧ Jx pre W') := by
  obtain ⟨I, hI⟩ : ∃ I, scI g len 0 [] = I := ⟨_, rfl⟩
  rw [hI] at hY hYe ⊢
  have HI := hide hI
  clear hI
  refine callsIn_of_wp Tryd.func25 rfl trivial ?_ rfl
  simp only [Tryd.ntmps25, List.size_toArray, List.length_cons, List.length_nil, Nat.reduceAdd, Nat.reduceSub, Array.replicate_succ, Array.replicate_zero, List.push_toArray, List.append_toArray, List.nil_append, List.cons_append]
  gi_wp2
  refine wpIn_scope_wide ?_
  gi_wp2
  refine wpIn_label ?_
  gi_wp2
  have HJ := hide hJ
  have HY := hide hY
  have HYE := hide hYe
  have H0 := hide h0
  have HS := hide hS
  have HE1 := hide hE1
  have HE2 := hide hE2
  have HCC := hide hcc
  have hml := hM.lt
  clear hJ hY hYe h0 hS hE1 hE2 hcc
  gi_loopw [4] (fun t wr => ∃ (at' : Nat) (pre : List TokD) (bs : List Bool) (ov : Value), pre.length ≤ at' ∧ bs.length ≤ at' ∧ at' ≤ len ∧ t = .int .i64 (pre.length : Int) ∧ Hid (pre ++ scI g len at' bs = I) ∧ Hid (J pre ov.ownBlock wr) ∧ MAt wr M (.slice a len cap) at' ov ∧ Hid (OwnO wr M ov bs) ∧ Hid (wr.heap[c]? = W.heap[c]? ∧ wr.heap[1]? = W.heap[1]? ∧ wr.heap[2]? = W.heap[2]?) ∧ W.heap.size ≤ wr.heap.size) (fun _ wr => len - atOf M wr)
  case atStart => exact ⟨0, [], [], .slice none 0 0, Nat.zero_le _, Nat.zero_le _, Nat.zero_le _, rfl, unhide HI, unhide H0, hM, own_nil _ _, ⟨rfl, rfl, rfl⟩, Nat.le_refl _⟩
  case round =>
    obtain ⟨W0, hW0⟩ : ∃ W0, W0 = wr := ⟨_, rfl⟩
    subst hW0
    obtain ⟨at', pre, bs, ov, hpl, hbl, hal, rfl, HIT, HJJ, hm, HOO, HKK, hsz⟩ := hrel
    clear HI H0
    have c0 := hm.c0
    have c1 := hm.c1
    have f1 := hm.frozen 1
    have hmw := hm.lt
    have hS' : Sl W0 c (.slice a len cap) len g := (unhide HS).keep (fun k e => by subst e; exact (unhide HKK).1)
    have HE1' : Hid (ErrG W0 1) := by
      obtain ⟨ev, hv, hev⟩ := unhide HE1
      exact ⟨ev, by rw [World.cell?_of_block (w := W) (unhide HKK).2.1]; exact hv, hev⟩
    have HE2' : Hid (ErrG W0 2) := by
      obtain ⟨ev, hv, hev⟩ := unhide HE2
      exact ⟨ev, by rw [World.cell?_of_block (w := W) (unhide HKK).2.2]; exact hv, hev⟩
    have hat0 := atOf_eq hm
    have HAT0 := hide hat0
    have HM := hide hm
    have hFd : ∀ N, Fr (fun k => k = M) W0 (W0.drewN N) := fun N => ⟨rfl, rfl, rfl, Nat.le_refl _, fun _ _ _ => rfl⟩
    -- where the place alone has turned, the round goes on
    have HGO : Hid (∀ (j : Nat) (W' : World), at' < j → j ≤ len → pre ++ scI g len j bs = I → MAt W' M (.slice a len cap) j ov → Fr (fun k => k = M) W0 W' → (∃ (at' : Nat) (pre' : List TokD) (bs : List Bool) (ov : Value), pre'.length ≤ at' ∧ bs.length ≤ at' ∧ at' ≤ len ∧ Value.int .i64 (pre.length : Int) = .int .i64 (pre'.length : Int) ∧ Hid (pre' ++ scI g len at' bs = I) ∧ Hid (J pre' ov.ownBlock W') ∧ MAt W' M (.slice a len cap) at' ov ∧ Hid (OwnO W' M ov bs) ∧ Hid (W'.heap[c]? = W.heap[c]? ∧ W'.heap[1]? = W.heap[1]? ∧ W'.heap[2]? = W.heap[2]?) ∧ W.heap.size ≤ W'.heap.size) ∧ len - atOf M W' < len - atOf M W0) := by
      intro j W' hj1 hj2 hit hmj hF
      have hF' : Fr (fun k => k = M ∨ ov.ownBlock = some k) W0 W' := hF.mono fun k _ e => .inl e
      refine ⟨⟨j, pre, bs, ov, by omega, by omega, hj2, rfl, hit, unhide HJ _ _ _ _ _ (unhide HJJ) hF' (.inl rfl), hmj, (unhide HOO).fr hF, ⟨(hF.block c (by omega) (by omega)).trans (unhide HKK).1, (hF.block 1 (by omega) (by omega)).trans (unhide HKK).2.1, (hF.block 2 (by omega) (by omega)).trans (unhide HKK).2.2⟩, Nat.le_trans hsz hF.size⟩, ?_⟩
      rw [atOf_eq hmj, unhide HAT0]
      omega
    by_cases hlt : at' < len
    · have hlt' : (at' : Int) < len := by omega
      have hltb : decide ((at' : Int) < len) = true := by simpa using hlt'
      have HS2 := hide hS'
      obtain ⟨off, rfl, h1, h2, hcc⟩ := unhide (sl_cells hS') (by omega)
      unfold maxLen at h2
      have hck := hcc at' hlt
      have HCL := hide hcc
      have HST : Hid (∀ (x y : UInt8) (b : Bool) (j : Nat), j ≤ len → hpB (fun i => g (j + i)) (len - j) (gS ⟨#[x, y]⟩) 2 = b → ∀ W', MAt W' M (.slice (some ⟨c, off, none⟩) len cap) (j : Int) ov → Fr (fun k => k = M) W0 W' → Calls Tryd.prog 34 #[.pointer (some ⟨M, 0, none⟩), .string ⟨#[x, y]⟩] W' fun z W'' => z = .returned (.bool b) ∧ Below W'.heap.size W' W'') := fun x y b j hj hb W' hmW hfW => by
        have hz := hfW.size
        have hk := stands_any M c _ len cap g j ov ⟨#[x, y]⟩ W' hmW ((unhide HS2).keep (fun k e => by subst e; exact hfW.block k (by omega) (by omega))) (by omega) hj (by omega) (by show 2 ≤ 4294967296; omega)
        rw [show (⟨#[x, y]⟩ : ByteArray).size = 2 from rfl, hb] at hk
        exact hk
      clear hcc hS'
      cases hb : isB (g at') with
      | true =>
        have hit := unhide HIT
        rw [sc_blk hlt hb] at hit
        have HIT2 := hide hit
        clear hit
        gi_wp2
        refine wpIn_wide.2 ?_
        go_quiet (fail)
        gi_wp2_with (refine ⟨trivial, ?_⟩; gi_at_call 33; refine (callsIn_wide.2 (isBlank_any _ _)).mono ?_; rintro x w' ⟨rfl, hw⟩; subst w')
        exact unhide HGO (at' + 1) _ (by omega) (by omega) (unhide HIT2) (MAt.set1 (W := W0.drewN nq) hm ((at' : Int) + 1)) ((hFd nq).set M 1 _ rfl)
      | false =>
        have hbk : blk (g at') = false := hb
        by_cases hln : g at' = 47 ∧ at' + 1 < len ∧ g (at' + 1) = 47
        · -- a remark to the line's end
          have hit := unhide HIT
          rw [sc_line hln.2.1 hln.1 hln.2.2] at hit
          have hp : (g at' != 10) = true := by rw [hln.1]; decide
          have s1 := stopI_step (p := fun c => c != 10) (g := g) hlt hp
          have s2 := stopI_spec (p := fun c => c != 10) (g := g) (len := len) (i := at' + 1) (by omega)
          rw [← s1] at s2
          obtain ⟨e, he⟩ : ∃ e, stopI (fun c => c != 10) g len at' = e := ⟨_, rfl⟩
          rw [he] at s2 hit
          obtain ⟨s3, s4, s5, s6⟩ := s2
          have HS5 : Hid (∀ j, at' ≤ j → j < e → (g j != 10) = true) := fun j h1 h2 => by
            by_cases h : j = at'
            · rw [h]; exact hp
            · exact s5 j (by omega) h2
          have HS6 := hide s6
          have HIT2 := hide hit
          have HY1 := hide (unhide HST 47 47 true at' hal (st_yes hg hln.1 hln.2.1 hln.2.2))
          clear hit s5 s6 he s1 hp hln
          gi_wp2
          refine wpIn_wide.2 ?_
          go_quiet (fail)
          gi_wp2_with (first | (refine ⟨trivial, ?_⟩; gi_at_call 33; refine (callsIn_wide.2 (isBlank_any _ _)).mono ?_; rintro x w' ⟨rfl, hw⟩; subst w') | (refine ⟨trivial, ?_⟩; gi_at_call_has 34 (Value.string ⟨#[47, 47]⟩); refine (callsIn_wide.2 (unhide HY1 (W0.drewN nq) hm (hFd nq))).mono ?_; rintro x W2 ⟨rfl, hb2⟩))
          have hF2 : Fr (fun k => k = M) W0 W2 := ((hFd nq).below hb2)
          have hm2 : MAt W2 M (.slice (some ⟨c, off, none⟩) len cap) at' ov := MAt.below (W := W0.drewN nq) hm hb2 hmw
          have HF2 := hide hF2
          clear hb2 hF2 c0 c1 f1
          gi_loopw [] (fun w3 => ∃ (j : Nat), at' ≤ j ∧ j ≤ e ∧ MAt w3 M (.slice (some ⟨c, off, none⟩) len cap) j ov ∧ Hid (Fr (fun k => k = M) W0 w3)) (fun w3 => len - atOf M w3)
          case atStart => exact ⟨at', Nat.le_refl _, by omega, hm2, unhide HF2⟩
          case round =>
            obtain ⟨w3, hw3⟩ : ∃ w3, w3 = wr := ⟨_, rfl⟩
            subst hw3
            obtain ⟨j, hj1, hj2, hm3, HF3⟩ := hrel
            have c0 := hm3.c0
            have c1 := hm3.c1
            have f1 := hm3.frozen 1
            have hmw3 := hm3.lt
            have hat3 := atOf_eq hm3
            have HAT3 := hide hat3
            have hFd3 : ∀ N, Fr (fun k => k = M) w3 (w3.drewN N) := fun N => ⟨rfl, rfl, rfl, Nat.le_refl _, fun _ _ _ => rfl⟩
            clear hat3
            by_cases hjl : j < len
            · have hjl' : (j : Int) < len := by omega
              have hjd : decide ((j : Int) < len) = true := decide_eq_true hjl'
              have hcj : w3.cell? ⟨c, off + j, none⟩ = some (.int .u8 (g j)) := by
                have := unhide HCL j hjl
                rw [World.cell?_of_block (w := W0) ((unhide HF3).block c (by omega) (by omega))]
                exact this
              by_cases hje : j < e
              · have hgj : (g j != 10) = true := unhide HS5 j hj1 hje
                gi_wp2
                refine wpIn_wide.2 ?_
                go_quiet (fail)
                gi_wp2
                have hm4 : MAt ((w3.drewN nq).setCell ⟨M, 1, none⟩ (.int .i64 ((j : Int) + 1))) M (.slice (some ⟨c, off, none⟩) len cap) ((j + 1 : Nat) : Int) ov := MAt.set1 (W := w3.drewN nq) hm3 ((j : Int) + 1)
                refine ⟨⟨j + 1, by omega, by omega, hm4, ((unhide HF3).trans (hFd3 nq)).set M 1 _ rfl⟩, ?_⟩
                rw [atOf_eq hm4, unhide HAT3]
                omega
              · obtain rfl : j = e := by omega
                have hgj : (g j != 10) = false := by
                  rcases unhide HS6 with h | h
                  · omega
                  · exact h
                gi_wp2
                refine wpIn_wide.2 ?_
                go_quiet (fail)
                gi_wp2
                exact unhide HGO j _ (by omega) (by omega) (unhide HIT2) (MAt.drewN hm3 _) ((unhide HF3).trans (hFd3 _))
            · have hjl' : ¬ (j : Int) < len := by omega
              have hjd : decide ((j : Int) < len) = false := decide_eq_false hjl'
              obtain rfl : j = e := by omega
              gi_wp2
              refine wpIn_wide.2 ?_
              go_quiet (fail)
              gi_wp2
              exact unhide HGO j _ (by omega) (by omega) (unhide HIT2) (MAt.drewN hm3 _) ((unhide HF3).trans (hFd3 _))
        · by_cases hrm : g at' = 47 ∧ at' + 1 < len ∧ g (at' + 1) = 42
          · -- a remark between its marks
            have hit := unhide HIT
            rw [sc_rem hrm.2.1 hrm.1 hrm.2.2] at hit
            have hge : at' + 2 ≤ remI g len (at' + 2) := remF_ge (g := g) (len := len) (len - (at' + 2)) (at' + 2)
            obtain ⟨e, he⟩ : ∃ e, remI g len (at' + 2) = e := ⟨_, rfl⟩
            rw [he] at hit hge
            have HE := hide he
            have HIT2 := hide hit
            have HY1 := hide (unhide HST 47 47 false at' hal (st_no hg (fun h => hln ⟨h.1, h.2.1, h.2.2⟩)))
            have HY2 := hide (unhide HST 47 42 true at' hal (st_yes hg hrm.1 hrm.2.1 hrm.2.2))
            have hl2 : at' + 2 ≤ len := by omega
            clear hit he hln hrm
            gi_wp2
            refine wpIn_wide.2 ?_
            go_quiet (fail)
            gi_wp2_with (first | (refine ⟨trivial, ?_⟩; gi_at_call 33; refine (callsIn_wide.2 (isBlank_any _ _)).mono ?_; rintro x w' ⟨rfl, hw⟩; subst w') | (refine ⟨trivial, ?_⟩; gi_at_call_has 34 (Value.string ⟨#[47, 47]⟩); refine (callsIn_wide.2 (unhide HY1 (W0.drewN nq) hm (hFd nq))).mono ?_; rintro x W2 ⟨rfl, hb2⟩; have hF2 : Fr (fun k => k = M) W0 W2 := (hFd nq).below hb2; have hm2 : MAt W2 M (.slice (some ⟨c, off, none⟩) len cap) at' ov := MAt.below (W := W0.drewN nq) hm hb2 hmw; clear hb2) | (refine ⟨trivial, ?_⟩; gi_at_call_has 34 (Value.string ⟨#[47, 42]⟩); refine (callsIn_wide.2 (unhide HY2 W2 hm2 hF2)).mono ?_; rintro x W3 ⟨rfl, hb3⟩; have hF3 : Fr (fun k => k = M) W0 W3 := hF2.below (hb3.mono hF2.size); have hm3 : MAt W3 M (.slice (some ⟨c, off, none⟩) len cap) at' ov := hm2.below hb3 hm2.lt; clear hb3; have c13 := hm3.c1; have f13 := hm3.frozen 1; have hmw3 := hm3.lt))
            have hm4 : MAt (W3.setCell ⟨M, 1, none⟩ (.int .i64 ((at' : Int) + 2))) M (.slice (some ⟨c, off, none⟩) len cap) ((at' + 2 : Nat) : Int) ov := hm3.set1 ((at' : Int) + 2)
            have hF4 := hF3.set M 1 (.int .i64 ((at' : Int) + 2)) rfl
            have HF4 := hide hF4
            have HM4 := hide hm4
            clear hF2 hm2 hF3 hm3 c13 f13 hmw3 hF4 hm4 c0 c1 f1
            gi_loopw [] (fun w3 => ∃ (j : Nat), at' + 2 ≤ j ∧ j ≤ len ∧ Hid (remI g len j = e ∨ (j = len ∧ ¬ e + 1 < len)) ∧ MAt w3 M (.slice (some ⟨c, off, none⟩) len cap) j ov ∧ Hid (Fr (fun k => k = M) W0 w3)) (fun w3 => len - atOf M w3)
            case atStart => exact ⟨at' + 2, Nat.le_refl _, hl2, .inl (unhide HE), unhide HM4, unhide HF4⟩
            case round =>
              obtain ⟨w3, hw3⟩ : ∃ w3, w3 = wr := ⟨_, rfl⟩
              subst hw3
              obtain ⟨j, hj1, hj2, HRJ, hm3, HF3⟩ := hrel
              clear HF4 HM4
              have c0 := hm3.c0
              have c1 := hm3.c1
              have f1 := hm3.frozen 1
              have hmw3 := hm3.lt
              have hat3 := atOf_eq hm3
              have HAT3 := hide hat3
              have hFd3 : ∀ N, Fr (fun k => k = M) w3 (w3.drewN N) := fun N => ⟨rfl, rfl, rfl, Nat.le_refl _, fun _ _ _ => rfl⟩
              clear hat3
              by_cases hjl : j < len
              · have hjl' : (j : Int) < len := by omega
                have hjd : decide ((j : Int) < len) = true := decide_eq_true hjl'
                have hrj : remI g len j = e := by
                  rcases unhide HRJ with h | h
                  · exact h
                  · omega
                by_cases hms : g j = 42 ∧ j + 1 < len ∧ g (j + 1) = 47
                · have HY3 := hide (unhide HST 42 47 true j hj2 (st_yes hg hms.1 hms.2.1 hms.2.2))
                  rw [remI_stop (fun h => h.2 ⟨hms.1, hms.2.2⟩)] at hrj
                  subst hrj
                  have hit := unhide HIT2
                  rw [if_pos hms.2.1] at hit
                  have HIT3 := hide hit
                  have hj3 := hms.2.1
                  clear hit hms
                  gi_wp2
                  refine wpIn_wide.2 ?_
                  go_quiet (fail)
                  gi_wp2_with (refine ⟨trivial, ?_⟩; gi_at_call 34; refine (callsIn_wide.2 (unhide HY3 (w3.drewN nq) hm3 ((unhide HF3).trans (hFd3 nq)))).mono ?_; rintro x W4 ⟨rfl, hb4⟩; have hm4 : MAt W4 M (.slice (some ⟨c, off, none⟩) len cap) j ov := MAt.below (W := w3.drewN nq) hm3 hb4 hmw3; have hF4 : Fr (fun k => k = M) W0 W4 := ((unhide HF3).trans (hFd3 nq)).below (hb4.mono (unhide HF3).size); have c14 := hm4.c1; have f14 := hm4.frozen 1; have hmw4 := hm4.lt)
                  exact unhide HGO (j + 2) _ (by omega) (by omega) (unhide HIT3) (hm4.set1 ((j : Int) + 2)) (hF4.set M 1 _ rfl)
                · have HY3 := hide (unhide HST 42 47 false j hj2 (st_no hg hms))
                  have HRJ2 : Hid (remI g len (j + 1) = e ∨ (j + 1 = len ∧ ¬ e + 1 < len)) := by
                    by_cases hj3 : j + 1 < len
                    · exact .inl (by rw [← remI_step hj3 (fun h => hms ⟨h.1, hj3, h.2⟩)]; exact hrj)
                    · rw [remI_stop (fun h => hj3 h.1)] at hrj
                      exact .inr ⟨by omega, by omega⟩
                  clear hms hrj
                  gi_wp2
                  refine wpIn_wide.2 ?_
                  go_quiet (fail)
                  gi_wp2_with (refine ⟨trivial, ?_⟩; gi_at_call 34; refine (callsIn_wide.2 (unhide HY3 (w3.drewN nq) hm3 ((unhide HF3).trans (hFd3 nq)))).mono ?_; rintro x W4 ⟨rfl, hb4⟩; have hm4 : MAt W4 M (.slice (some ⟨c, off, none⟩) len cap) j ov := MAt.below (W := w3.drewN nq) hm3 hb4 hmw3; have hF4 : Fr (fun k => k = M) W0 W4 := ((unhide HF3).trans (hFd3 nq)).below (hb4.mono (unhide HF3).size); have c14 := hm4.c1; have f14 := hm4.frozen 1; have hmw4 := hm4.lt)
                  have hm5 : MAt (W4.setCell ⟨M, 1, none⟩ (.int .i64 ((j : Int) + 1))) M (.slice (some ⟨c, off, none⟩) len cap) ((j + 1 : Nat) : Int) ov := hm4.set1 ((j : Int) + 1)
                  refine ⟨⟨j + 1, by omega, by omega, HRJ2, hm5, hF4.set M 1 _ rfl⟩, ?_⟩
                  rw [atOf_eq hm5, unhide HAT3]
                  omega
              · have hjl' : ¬ (j : Int) < len := by omega
                have hjd : decide ((j : Int) < len) = false := decide_eq_false hjl'
                obtain rfl : j = len := by omega
                have hne : ¬ e + 1 < j := by
                  rcases unhide HRJ with h | h
                  · rw [remI_stop (fun h' => by omega)] at h
                    omega
                  · exact h.2
                have hit := unhide HIT2
                rw [if_neg hne] at hit
                have HIT3 := hide hit
                clear hit
                gi_wp2
                refine wpIn_wide.2 ?_
                go_quiet (fail)
                gi_wp2
                have hF5 := (unhide HF3).trans (hFd3 nq)
                have hm5 := MAt.drewN hm3 nq
                have hRd := unhide HYE pre ov.ownBlock at' (w3.drewN nq) (unhide HIT3).symm (unhide HJ _ _ _ _ _ (unhide HJJ) (hF5.mono (fun k _ e => .inl e)) (.inl rfl)) (by omega)
                refine ⟨trivial, ?_⟩
                gi_at_call 17
                refine (callsIn_wide.2 hRd).mono ?_
                rintro x W6 ⟨r, rfl, hor⟩
                have HOR := hide hor
                clear hor
                gi_wp2
                rw [Exit.noGoto_ret]
                refine bodyPost_ret (results_none rfl _ _ _) rfl ⟨⟨_, rfl⟩, ?_⟩
                rcases unhide HOR with ⟨ob', h⟩ | h
                · exact .inl ⟨ob', by rw [← unhide HIT3]; exact h⟩
                · exact .inr ⟨_, [], by rw [List.append_nil]; exact (unhide HIT3).symm, h⟩
          · -- a token
            have hng : NoGap g len at' := ⟨hbk, hln, hrm⟩
            have HY1 := hide (unhide HST 47 47 false at' hal (st_no hg (fun h => hln ⟨h.1, h.2.1, h.2.2⟩)))
            have HY2 := hide (unhide HST 47 42 false at' hal (st_no hg (fun h => hrm ⟨h.1, h.2.1, h.2.2⟩)))
            have HTK : Hid (∀ W', MAt W' M (.slice (some ⟨c, off, none⟩) len cap) at' ov → Fr (fun k => k = M) W0 W' → Calls Tryd.prog 35 #[.pointer (some ⟨M, 0, none⟩)] W' (TokO W' M (.slice (some ⟨c, off, none⟩) len cap) ov at' (tokP g len at' bs))) := fun W' hmW hfW => token_any M c _ len cap g hg at' ov bs W' hmW ((unhide HS2).keep (fun k e => by subst e; exact hfW.block k (by omega) (by omega))) ((unhide HOO).fr hfW) hcM hM2 hlt (by omega) (by omega) ((unhide HE1').fr hfW (by omega)) ((unhide HE2').fr hfW (by omega))
            have n8 : ((pre.length : Int) == 8192) = false := by simp; omega
            have hit := unhide HIT
            have ARM34 : True := trivial
            cases htk : tokP g len at' bs with
            | none =>
              rw [sc_bad hlt hng htk] at hit
              rw [htk] at HTK
              have HTK2 : Hid (∀ W', MAt W' M (.slice (some ⟨c, off, none⟩) len cap) at' ov → Fr (fun k => k = M) W0 W' → Calls Tryd.prog 35 #[.pointer (some ⟨M, 0, none⟩)] W' fun x W'' => x = .returned (.tuple #[tokV 0 ⟨#[]⟩ 0 0, .bool false]) ∧ Fr (fun k => k = M ∨ ov.ownBlock = some k) W' W'') := unhide HTK
              have HIT3 := hide hit
              clear hit htk hng hln hrm HTK
              gi_wp2
              refine wpIn_wide.2 ?_
              go_quiet (fail)
              gi_wp2_with (first | (refine ⟨trivial, ?_⟩; gi_at_call 33; refine (callsIn_wide.2 (isBlank_any _ _)).mono ?_; rintro x w' ⟨rfl, hw⟩; subst w') | (refine ⟨trivial, ?_⟩; gi_at_call_has 34 (Value.string ⟨#[47, 47]⟩); refine (callsIn_wide.2 (unhide HY1 (W0.drewN nq) hm (hFd nq))).mono ?_; rintro x W2 ⟨rfl, hb2⟩; have hF2 : Fr (fun k => k = M) W0 W2 := (hFd nq).below hb2; have hm2 : MAt W2 M (.slice (some ⟨c, off, none⟩) len cap) at' ov := MAt.below (W := W0.drewN nq) hm hb2 hmw; clear hb2) | (refine ⟨trivial, ?_⟩; gi_at_call_has 34 (Value.string ⟨#[47, 42]⟩); refine (callsIn_wide.2 (unhide HY2 W2 hm2 hF2)).mono ?_; rintro x W3 ⟨rfl, hb3⟩; have hF3 : Fr (fun k => k = M) W0 W3 := hF2.below (hb3.mono hF2.size); have hm3 : MAt W3 M (.slice (some ⟨c, off, none⟩) len cap) at' ov := hm2.below hb3 hm2.lt; clear hb3) | (refine ⟨trivial, ?_⟩; gi_at_call 35; refine (callsIn_wide.2 (unhide HTK2 W3 hm3 hF3)).mono ?_; rintro x W4 ⟨rfl, hF4⟩))
              obtain ⟨W5, hW5⟩ : ∃ W5, W4.alloc (.cells #[.int .i64 0, .string ⟨#[]⟩, .int .i64 0, .int .i64 0] 33) = W5 := ⟨_, rfl⟩
              have hF5 : Fr (fun k => k = M ∨ ov.ownBlock = some k) W0 W5 := by rw [← hW5]; exact ((hF3.mono (fun k _ e => .inl e)).trans hF4).alloc _
              rw [hW5]
              clear hW5
              have hRd := unhide HYE pre ov.ownBlock at' W5 (unhide HIT3).symm (unhide HJ _ _ _ _ _ (unhide HJJ) (hF5) (.inl rfl)) (by omega)
              refine ⟨trivial, ?_⟩
              gi_at_call 17
              refine (callsIn_wide.2 hRd).mono ?_
              rintro x W6 ⟨r, rfl, hor⟩
              have HOR := hide hor
              clear hor
              gi_wp2
              rw [Exit.noGoto_ret]
              refine bodyPost_ret (results_none rfl _ _ _) rfl ⟨⟨_, rfl⟩, ?_⟩
              rcases unhide HOR with ⟨ob', h⟩ | h
              · exact .inl ⟨ob', by rw [← unhide HIT3]; exact h⟩
              · exact .inr ⟨_, [], by rw [List.append_nil]; exact (unhide HIT3).symm, h⟩
            | some y =>
              obtain ⟨kd, tx, e', bs'⟩ := y
              have hadv := tokP_adv hlt htk
              rw [sc_tok hlt hng htk] at hit
              rw [htk] at HTK
              have HTK2 : Hid (∀ W', MAt W' M (.slice (some ⟨c, off, none⟩) len cap) at' ov → Fr (fun k => k = M) W0 W' → Calls Tryd.prog 35 #[.pointer (some ⟨M, 0, none⟩)] W' fun x W'' => x = .returned (.tuple #[tokV kd (strOfNums tx) at' (e' : Int), .bool true]) ∧ (∃ ov', MAt W'' M (.slice (some ⟨c, off, none⟩) len cap) (e' : Int) ov' ∧ OwnO W'' M ov' bs' ∧ OB W' ov ov') ∧ Fr (fun k => k = M ∨ ov.ownBlock = some k) W' W'') := unhide HTK
              have HITC := hide hit
              have HIT3 : Hid ((pre ++ [((kd, tx, at', e'), 0)]) ++ scI g len e' bs' = I) := by
                show _ = _
                rw [List.append_assoc]
                exact hit
              clear hit htk hng hln hrm HTK
              gi_wp2
              refine wpIn_wide.2 ?_
              go_quiet (fail)
              gi_wp2_with (first | (refine ⟨trivial, ?_⟩; gi_at_call 33; refine (callsIn_wide.2 (isBlank_any _ _)).mono ?_; rintro x w' ⟨rfl, hw⟩; subst w') | (refine ⟨trivial, ?_⟩; gi_at_call_has 34 (Value.string ⟨#[47, 47]⟩); refine (callsIn_wide.2 (unhide HY1 (W0.drewN nq) hm (hFd nq))).mono ?_; rintro x W2 ⟨rfl, hb2⟩; have hF2 : Fr (fun k => k = M) W0 W2 := (hFd nq).below hb2; have hm2 : MAt W2 M (.slice (some ⟨c, off, none⟩) len cap) at' ov := MAt.below (W := W0.drewN nq) hm hb2 hmw; clear hb2) | (refine ⟨trivial, ?_⟩; gi_at_call_has 34 (Value.string ⟨#[47, 42]⟩); refine (callsIn_wide.2 (unhide HY2 W2 hm2 hF2)).mono ?_; rintro x W3 ⟨rfl, hb3⟩; have hF3 : Fr (fun k => k = M) W0 W3 := hF2.below (hb3.mono hF2.size); have hm3 : MAt W3 M (.slice (some ⟨c, off, none⟩) len cap) at' ov := hm2.below hb3 hm2.lt; clear hb3) | (refine ⟨trivial, ?_⟩; gi_at_call 35; refine (callsIn_wide.2 (unhide HTK2 W3 hm3 hF3)).mono ?_; rintro x W4 ⟨rfl, ⟨ov', hm4, hO4, hOB4⟩, hF4⟩; have HO4 := hide hO4; have HOB4 := hide hOB4; clear hO4 hOB4))
              obtain ⟨W5, hW5⟩ : ∃ W5, W4.alloc (.cells #[.int .i64 kd, .string (strOfNums tx), .int .i64 (at' : Int), .int .i64 (e' : Int)] 33) = W5 := ⟨_, rfl⟩
              have hF5 : Fr (fun k => k = M ∨ ov.ownBlock = some k) W0 W5 := by rw [← hW5]; exact ((hF3.mono (fun k _ e => .inl e)).trans hF4).alloc _
              have hm5 : MAt W5 M (.slice (some ⟨c, off, none⟩) len cap) (e' : Int) ov' := by rw [← hW5]; exact hm4.below ((Below.refl _ W4).alloc (Nat.le_refl _) _) hm4.lt
              have hO5 : OwnO W5 M ov' bs' := by rw [← hW5]; exact (unhide HO4).below ((Below.refl _ W4).alloc (Nat.le_refl _) _) (Nat.le_refl _)
              have hnS : ∀ k, k ≤ M → k ≠ M → ¬ (k = M ∨ ov.ownBlock = some k) := fun k h1 h2 h => by
                rcases h with h | h
                · exact h2 h
                · have := ((unhide HOO).lt h).1; omega
              have hk5 : W5.heap[c]? = W.heap[c]? ∧ W5.heap[1]? = W.heap[1]? ∧ W5.heap[2]? = W.heap[2]? := ⟨(hF5.block c (by omega) (hnS c (by omega) (by omega))).trans (unhide HKK).1, (hF5.block 1 (by omega) (hnS 1 (by omega) (by omega))).trans (unhide HKK).2.1, (hF5.block 2 (by omega) (hnS 2 (by omega) (by omega))).trans (unhide HKK).2.2⟩
              have hob5 : ov'.ownBlock = ov.ownBlock ∨ ∃ k, ov'.ownBlock = some k ∧ W0.heap.size ≤ k := by
                rcases unhide HOB4 with h | ⟨k, h1, h2⟩
                · exact .inl h
                · exact .inr ⟨k, h1, Nat.le_trans hF3.size h2⟩
              rw [hW5]
              clear hW5
              have hRd := unhide HY pre ov'.ownBlock ((kd, tx, at', e'), 0) W5 rfl ⟨_, (unhide HITC).symm⟩ (unhide HJ _ _ _ _ _ (unhide HJJ) hF5 hob5) (by omega) ⟨_, hm5⟩ (own_cells hO5) (by obtain ⟨o, h, hno⟩ := unhide HCC; exact ⟨o, hk5.1.trans h, hno⟩)
              refine ⟨trivial, ?_⟩
              gi_at_call 17
              refine (callsIn_wide.2 hRd).mono ?_
              have hz5 := hF5.size
              have HK5 := hide hk5
              have HO5 := hide hO5
              clear hk5 hO5 hob5 hnS
              rintro x W6 (⟨rfl, hJ6, hK6⟩ | ⟨rfl, hJx6⟩)
              · have hm6 : MAt W6 M (.slice (some ⟨c, off, none⟩) len cap) (e' : Int) ov' := (hK6.1 M (.inl rfl)).trans hm5
                have HJ6 := hide hJ6
                have HK6 := hide hK6
                have hz6 := hK6.2
                clear hJ6 hK6
                gi_wp2
                refine ⟨⟨e', pre ++ [((kd, tx, at', e'), 0)], bs', ov', by simp; omega, by omega, by omega, by simp, unhide HIT3, unhide HJ6, hm6, (unhide HO5).keep (fun k hk => (unhide HK6).1 k (.inr (.inr (.inr (.inr hk))))), ⟨((unhide HK6).1 c (.inr (.inl rfl))).trans (unhide HK5).1, ((unhide HK6).1 1 (.inr (.inr (.inl rfl)))).trans (unhide HK5).2.1, ((unhide HK6).1 2 (.inr (.inr (.inr (.inl rfl))))).trans (unhide HK5).2.2⟩, by omega⟩, ?_⟩
                rw [atOf_eq hm6, unhide HAT0]
                omega
              · have HJx6 := hide hJx6
                clear hJx6
                gi_wp2
                rw [Exit.noGoto_ret]
                refine bodyPost_ret (results_none rfl _ _ _) rfl ?_
                exact ⟨⟨_, rfl⟩, .inr ⟨_, _, (unhide HIT3).symm, unhide HJx6⟩⟩
    · obtain rfl : at' = len := by omega
      have hltb : decide ((at' : Int) < at') = false := by simp
      have hit := unhide HIT
      rw [sc_end (by omega)] at hit
      have HIT3 := hide hit
      clear hit
      gi_wp2
      refine wpIn_wide.2 ?_
      go_quiet (fail)
      have hF5 : Fr (fun k => k = M ∨ ov.ownBlock = some k) W0 (W0.drewN (nq + 1)) := ⟨rfl, rfl, rfl, Nat.le_refl _, fun _ _ _ => rfl⟩
      have hRd0 := unhide HY pre ov.ownBlock ((10, [], at', at'), 0) (W0.drewN (nq + 1)) rfl ⟨[], (unhide HIT3).symm⟩ (unhide HJ _ _ _ _ _ (unhide HJJ) hF5 (.inl rfl)) (by omega) ⟨_, hm⟩ (own_cells (unhide HOO)) (by obtain ⟨o, h, hno⟩ := unhide HCC; exact ⟨o, (unhide HKK).1.trans h, hno⟩)
      have HRd := hide (hRd0.mono (R' := fun e A' => ∃ r : Bool, e = .returned (.bool r) ∧ ((∃ ob, J I ob A') ∨ ∃ pre rest, I = pre ++ rest ∧ Jx pre A')) (by
        rintro e A' (⟨rfl, h1, _⟩ | ⟨rfl, h1⟩)
        · exact ⟨true, rfl, .inl ⟨_, by rw [← unhide HIT3]; exact h1⟩⟩
        · exact ⟨false, rfl, .inr ⟨_, [], by rw [List.append_nil]; exact (unhide HIT3).symm, h1⟩⟩))
      clear hRd0
      gi_wp2
      refine wpIn_region_any (by kernel_rfl) ?_
      change wpAnyIn _ _ _ _ _ _ _ _ _ (World.drewN W0 (nq + 1))
      refine wpAnyIn_take (i := 0) (v := ?_) rfl rfl (by kernel_rfl) (by kernel_rfl) (by kernel_rfl) (fun _ _ _ h => h) ⟨Or.inl ⟨by rfl, ?_⟩, fun _ => rfl⟩ ?_
      rotate_left
      · intro w; go_simp; try rfl
      refine wpAnyIn_take (i := 1) (v := ?_) rfl rfl (by kernel_rfl) (by kernel_rfl) (by kernel_rfl) (fun _ _ _ h => h) ⟨Or.inl ⟨by rfl, ?_⟩, fun _ => rfl⟩ ?_
      rotate_left
      · intro w; go_simp; try rfl
      refine wpAnyIn_take (i := 6) (v := ?_) rfl rfl (by kernel_rfl) (by kernel_rfl) (by kernel_rfl) (fun _ _ _ h => h) ⟨Or.inl ⟨by rfl, ?_⟩, fun _ => rfl⟩ ?_
      rotate_left
      · intro w; go_simp; try rfl
      refine wpAnyIn_take (i := 2) (v := ?_) rfl rfl (by kernel_rfl) (by kernel_rfl) (by kernel_rfl) (fun _ _ _ h => h) ⟨Or.inl ⟨by rfl, ?_⟩, fun _ => rfl⟩ ?_
      rotate_left
      · intro w; go_simp; try rfl
      refine wpAnyIn_take (i := 7) (v := ?_) rfl rfl (by kernel_rfl) (by kernel_rfl) (by kernel_rfl) (fun _ _ _ h => h) ⟨Or.inl ⟨by rfl, ?_⟩, fun _ => rfl⟩ ?_
      rotate_left
      · intro w; go_simp; try rfl
      refine wpAnyIn_take (i := 3) (v := ?_) rfl rfl (by kernel_rfl) (by kernel_rfl) (by kernel_rfl) (fun _ _ _ h => h) ⟨Or.inl ⟨by rfl, ?_⟩, fun _ => rfl⟩ ?_
      rotate_left
      · intro w; go_simp; try rfl
      refine wpAnyIn_take (i := 8) (v := ?_) rfl rfl (by kernel_rfl) (by kernel_rfl) (by kernel_rfl) (fun _ _ _ h => h) ⟨Or.inl ⟨by rfl, ?_⟩, fun _ => rfl⟩ ?_
      rotate_left
      · intro w; go_simp; try rfl
      refine wpAnyIn_ready (rs := [4, 9]) (by kernel_rfl) (by simp) ?_
      refine AllReadyIn.cons rfl (fun K hK => ?_) (AllReadyIn.cons rfl (fun K hK => ?_) AllReadyIn.nil)
      · go_simp
        refine hK _ _ ?_
        clear hK K
        refine wpAnyIn_take (i := 5) (v := ?_) rfl rfl (by kernel_rfl) (by kernel_rfl) (by kernel_rfl) (fun _ _ _ h => h) ⟨Or.inl ⟨by rfl, ?_⟩, fun _ => rfl⟩ ?_
        rotate_left
        · intro w; go_simp; try rfl
        refine wpAnyIn_ready (rs := [9]) (by kernel_rfl) (by simp) ?_
        refine AllReadyIn.cons rfl (fun K hK => ?_) AllReadyIn.nil
        go_simp
        refine hK _ _ ?_
        clear hK K
        refine wpAnyIn_take (i := 10) (v := ?_) rfl rfl (by kernel_rfl) (by kernel_rfl) (by kernel_rfl) (fun _ _ _ h => h) ⟨Or.inl ⟨by rfl, ?_⟩, fun _ => rfl⟩ ?_
        rotate_left
        · intro w; go_simp; try rfl
        refine wpAnyIn_take (i := 11) (v := ?_) rfl rfl (by kernel_rfl) (by kernel_rfl) (by kernel_rfl) (fun _ _ _ h => h) ⟨Or.inl ⟨by rfl, ?_⟩, fun _ => rfl⟩ ?_
        rotate_left
        · intro w; go_simp; try rfl
        refine wpAnyIn_ready (rs := [12]) (by kernel_rfl) (by simp) ?_
        refine AllReadyIn.cons rfl (fun K hK => ?_) AllReadyIn.nil
        go_simp
        refine ⟨trivial, ?_⟩
        gi_at_call 17
        refine (callsIn_wide.2 (unhide HRd)).mono ?_
        rintro x W6 ⟨r, rfl, hor⟩
        have HOR := hide hor
        clear hor
        go_simp
        refine hK _ _ ?_
        clear hK K
        refine wpAnyIn_done (by kernel_rfl) ?_ _
        rw [Exit.noGoto_normal]
        go_end0
        exact ⟨⟨_, rfl⟩, unhide HOR⟩
      · go_simp
        refine hK _ _ ?_
        clear hK K
        refine wpAnyIn_take (i := 10) (v := ?_) rfl rfl (by kernel_rfl) (by kernel_rfl) (by kernel_rfl) (fun _ _ _ h => h) ⟨Or.inl ⟨by rfl, ?_⟩, fun _ => rfl⟩ ?_
        rotate_left
        · intro w; go_simp; try rfl
        refine wpAnyIn_ready (rs := [4]) (by kernel_rfl) (by simp) ?_
        refine AllReadyIn.cons rfl (fun K hK => ?_) AllReadyIn.nil
        go_simp
        refine hK _ _ ?_
        clear hK K
        refine wpAnyIn_take (i := 5) (v := ?_) rfl rfl (by kernel_rfl) (by kernel_rfl) (by kernel_rfl) (fun _ _ _ h => h) ⟨Or.inl ⟨by rfl, ?_⟩, fun _ => rfl⟩ ?_
        rotate_left
        · intro w; go_simp; try rfl
        refine wpAnyIn_take (i := 11) (v := ?_) rfl rfl (by kernel_rfl) (by kernel_rfl) (by kernel_rfl) (fun _ _ _ h => h) ⟨Or.inl ⟨by rfl, ?_⟩, fun _ => rfl⟩ ?_
        rotate_left
        · intro w; go_simp; try rfl
        refine wpAnyIn_ready (rs := [12]) (by kernel_rfl) (by simp) ?_
        refine AllReadyIn.cons rfl (fun K hK => ?_) AllReadyIn.nil
        go_simp
        refine ⟨trivial, ?_⟩
        gi_at_call 17
        refine (callsIn_wide.2 (unhide HRd)).mono ?_
        rintro x W6 ⟨r, rfl, hor⟩
        have HOR := hide hor
        clear hor
        go_simp
        refine hK _ _ ?_
        clear hK K
        refine wpAnyIn_done (by kernel_rfl) ?_ _
        rw [Exit.noGoto_normal]
        go_end0
        exact ⟨⟨_, rfl⟩, unhide HOR⟩
end Go.Proofs.YtpdkeggiokebmaaDoor

/- Scan's function value under the law's two closures. -/
namespace Go.Proofs.YtpdkeggiokebmaaDoor
set_option linter.unusedSimpArgs false
set_option linter.unusedVariables false
open Go.RowKit Go.Shelf

set_option maxRecDepth 100000 in
set_option maxHeartbeats 2000000 in
theorem scan2P16 (n : Nat) (hn : 2 ≤ n) (Bk c : Nat) (k0 k1 k2 k3 k4 : Nat) (a : Option Addr) (len cap : Nat) (g : Nat → Int) (hg : ∀ j, 0 ≤ g j ∧ g j ≤ 255) (hlen : len ≤ 4000) (W : World) (hcM : c < W.heap.size) (J : List TokD → Option Nat → World → Prop) (Jx : List TokD → World → Prop)
    (hJ : ∀ pre ob ob' A C, J pre ob A → Fr (fun k => k = W.heap.size ∨ ob = some k) A C → (ob' = ob ∨ ∃ k, ob' = some k ∧ A.heap.size ≤ k) → J pre ob' C)
    (hY : ∀ pre ob t A, t.2 = 0 → (∃ rest, scI g len 0 [] = pre ++ t :: rest) → J pre ob A → pre.length < len + 1 → (∃ cs : Array Value, A.heap[W.heap.size]? = some (.cells cs 49)) → (∀ k, ob = some k → W.heap.size < k ∧ ∃ cur, A.heap[k]? = some (.cells cur 4 (0, 0))) → CC A c → Calls Tryd.prog 16 #[tdV t, .int .i64 t.2, .pointer (some ⟨k0, 0, none⟩), .pointer (some ⟨k1, 0, none⟩), .pointer (some ⟨k2, 0, none⟩), .pointer (some ⟨k3, 0, none⟩), .pointer (some ⟨k4, 0, none⟩)] A fun e A' =>
      (e = .returned (.bool true) ∧ J (pre ++ [t]) ob A' ∧ Kept W.heap.size c ob A A') ∨ (e = .returned (.bool false) ∧ Jx (pre ++ [t]) A'))
    (hYe : ∀ pre ob i A, scI g len 0 [] = pre ++ [((0, [], i, 0), 3)] → J pre ob A → pre.length < len + 1 → Calls Tryd.prog 16 #[tdV ((0, [], i, 0), 3), .int .i64 3, .pointer (some ⟨k0, 0, none⟩), .pointer (some ⟨k1, 0, none⟩), .pointer (some ⟨k2, 0, none⟩), .pointer (some ⟨k3, 0, none⟩), .pointer (some ⟨k4, 0, none⟩)] A fun e A' => ∃ r : Bool, e = .returned (.bool r) ∧ ((∃ ob', J (pre ++ [((0, [], i, 0), 3)]) ob' A') ∨ Jx (pre ++ [((0, [], i, 0), 3)]) A'))
    (h0 : J [] none W) (hB : Boxed W Bk 22 (.slice a len cap)) (hS : Sl W c (.slice a len cap) len g) (hcc : CC W c) (hE1 : ErrG W 1) (hE2 : ErrG W 2) :
    CallsIn Fence.wide n Tryd.prog 24 #[.func (.func 16) #[] #[.pointer (some ⟨k0, 0, none⟩), .pointer (some ⟨k1, 0, none⟩), .pointer (some ⟨k2, 0, none⟩), .pointer (some ⟨k3, 0, none⟩), .pointer (some ⟨k4, 0, none⟩)], .pointer (some ⟨Bk, 0, none⟩)] W fun e W' => (∃ v, e = .returned v) ∧ ((∃ ob, J (scI g len 0 []) ob W') ∨ ∃ pre rest, scI g len 0 [] = pre ++ rest ∧ Jx pre W') := by
  obtain ⟨W1, hW1⟩ : ∃ W1, W.alloc (.cells #[.slice a len cap, .int .i64 0, .slice none 0 0] 49) = W1 := ⟨_, rfl⟩
  have hF1 : Fr (fun k => k = W.heap.size ∨ (none : Option Nat) = some k) W W1 := by rw [← hW1]; exact (Fr.refl _ W).alloc _
  have hM1 : MAt W1 W.heap.size (.slice a len cap) ((0 : Nat) : Int) (.slice none 0 0) := by rw [← hW1]; exact World.alloc_heap_new W _
  have hB1 : Below W.heap.size W W1 := by rw [← hW1]; exact (Below.refl _ W).alloc (Nat.le_refl _) _
  have hS1 : Sl W1 c (.slice a len cap) len g := hS.keep (fun k e => by subst e; exact hB1.block k hcM)
  have hcc1 : CC W1 c := by
    obtain ⟨o, h, hno⟩ := hcc
    exact ⟨o, (hB1.block c hcM).trans h, hno⟩
  have HC := hide (scanP16 (n - 1) (by omega) W.heap.size c k0 k1 k2 k3 k4 a len cap g hg hlen hcM hE2.lt J Jx hJ hY hYe W1 (hJ _ _ _ _ _ h0 hF1 (.inl rfl)) hM1 hS1 hcc1 (hE1.below hB1 hE1.lt) (hE2.below hB1 hE2.lt))
  have cb := hB.cell
  have HW1 := hide hW1
  clear hJ hY hYe h0 hS hS1 hW1
  refine callsIn_of_wp Tryd.func24 rfl trivial ?_ rfl
  simp only [Tryd.ntmps24, List.size_toArray, List.length_cons, List.length_nil, Nat.reduceAdd, Nat.reduceSub, Array.replicate_succ, Array.replicate_zero, List.push_toArray, List.append_toArray, List.nil_append, List.cons_append]
  gi_wp2
  refine ⟨trivial, fun _ => by omega, ?_⟩
  rw [show W.alloc (.cells #[.slice a len cap, .int .i64 0, .slice none 0 0] 49) = W1 from unhide HW1]
  refine (unhide HC).mono ?_
  rintro x W2 ⟨⟨u, rfl⟩, hor⟩
  have HOR := hide hor
  clear hor
  gi_wp2
  go_end0
  exact ⟨⟨_, rfl⟩, unhide HOR⟩

set_option maxRecDepth 100000 in
set_option maxHeartbeats 2000000 in
theorem scan2P17 (n : Nat) (hn : 2 ≤ n) (Bk c : Nat) (k0 k1 : Nat) (a : Option Addr) (len cap : Nat) (g : Nat → Int) (hg : ∀ j, 0 ≤ g j ∧ g j ≤ 255) (hlen : len ≤ 4000) (W : World) (hcM : c < W.heap.size) (J : List TokD → Option Nat → World → Prop) (Jx : List TokD → World → Prop)
    (hJ : ∀ pre ob ob' A C, J pre ob A → Fr (fun k => k = W.heap.size ∨ ob = some k) A C → (ob' = ob ∨ ∃ k, ob' = some k ∧ A.heap.size ≤ k) → J pre ob' C)
    (hY : ∀ pre ob t A, t.2 = 0 → (∃ rest, scI g len 0 [] = pre ++ t :: rest) → J pre ob A → pre.length < len + 1 → (∃ cs : Array Value, A.heap[W.heap.size]? = some (.cells cs 49)) → (∀ k, ob = some k → W.heap.size < k ∧ ∃ cur, A.heap[k]? = some (.cells cur 4 (0, 0))) → CC A c → Calls Tryd.prog 17 #[tdV t, .int .i64 t.2, .pointer (some ⟨k0, 0, none⟩), .pointer (some ⟨k1, 0, none⟩)] A fun e A' =>
      (e = .returned (.bool true) ∧ J (pre ++ [t]) ob A' ∧ Kept W.heap.size c ob A A') ∨ (e = .returned (.bool false) ∧ Jx (pre ++ [t]) A'))
    (hYe : ∀ pre ob i A, scI g len 0 [] = pre ++ [((0, [], i, 0), 3)] → J pre ob A → pre.length < len + 1 → Calls Tryd.prog 17 #[tdV ((0, [], i, 0), 3), .int .i64 3, .pointer (some ⟨k0, 0, none⟩), .pointer (some ⟨k1, 0, none⟩)] A fun e A' => ∃ r : Bool, e = .returned (.bool r) ∧ ((∃ ob', J (pre ++ [((0, [], i, 0), 3)]) ob' A') ∨ Jx (pre ++ [((0, [], i, 0), 3)]) A'))
    (h0 : J [] none W) (hB : Boxed W Bk 22 (.slice a len cap)) (hS : Sl W c (.slice a len cap) len g) (hcc : CC W c) (hE1 : ErrG W 1) (hE2 : ErrG W 2) :
    CallsIn Fence.wide n Tryd.prog 24 #[.func (.func 17) #[] #[.pointer (some ⟨k0, 0, none⟩), .pointer (some ⟨k1, 0, none⟩)], .pointer (some ⟨Bk, 0, none⟩)] W fun e W' => (∃ v, e = .returned v) ∧ ((∃ ob, J (scI g len 0 []) ob W') ∨ ∃ pre rest, scI g len 0 [] = pre ++ rest ∧ Jx pre W') := by
  obtain ⟨W1, hW1⟩ : ∃ W1, W.alloc (.cells #[.slice a len cap, .int .i64 0, .slice none 0 0] 49) = W1 := ⟨_, rfl⟩
  have hF1 : Fr (fun k => k = W.heap.size ∨ (none : Option Nat) = some k) W W1 := by rw [← hW1]; exact (Fr.refl _ W).alloc _
  have hM1 : MAt W1 W.heap.size (.slice a len cap) ((0 : Nat) : Int) (.slice none 0 0) := by rw [← hW1]; exact World.alloc_heap_new W _
  have hB1 : Below W.heap.size W W1 := by rw [← hW1]; exact (Below.refl _ W).alloc (Nat.le_refl _) _
  have hS1 : Sl W1 c (.slice a len cap) len g := hS.keep (fun k e => by subst e; exact hB1.block k hcM)
  have hcc1 : CC W1 c := by
    obtain ⟨o, h, hno⟩ := hcc
    exact ⟨o, (hB1.block c hcM).trans h, hno⟩
  have HC := hide (scanP17 (n - 1) (by omega) W.heap.size c k0 k1 a len cap g hg hlen hcM hE2.lt J Jx hJ hY hYe W1 (hJ _ _ _ _ _ h0 hF1 (.inl rfl)) hM1 hS1 hcc1 (hE1.below hB1 hE1.lt) (hE2.below hB1 hE2.lt))
  have cb := hB.cell
  have HW1 := hide hW1
  clear hJ hY hYe h0 hS hS1 hW1
  refine callsIn_of_wp Tryd.func24 rfl trivial ?_ rfl
  simp only [Tryd.ntmps24, List.size_toArray, List.length_cons, List.length_nil, Nat.reduceAdd, Nat.reduceSub, Array.replicate_succ, Array.replicate_zero, List.push_toArray, List.append_toArray, List.nil_append, List.cons_append]
  gi_wp2
  refine ⟨trivial, fun _ => by omega, ?_⟩
  rw [show W.alloc (.cells #[.slice a len cap, .int .i64 0, .slice none 0 0] 49) = W1 from unhide HW1]
  refine (unhide HC).mono ?_
  rintro x W2 ⟨⟨u, rfl⟩, hor⟩
  have HOR := hide hor
  clear hor
  gi_wp2
  go_end0
  exact ⟨⟨_, rfl⟩, unhide HOR⟩
end Go.Proofs.YtpdkeggiokebmaaDoor

/- The law's closure that counts tokens. -/
namespace Go.Proofs.YtpdkeggiokebmaaDoor
set_option linter.unusedSimpArgs false
set_option linter.unusedVariables false
open Go.RowKit Go.Shelf
attribute [local go_sem] tokV

set_option maxRecDepth 100000 in
set_option maxHeartbeats 2000000 in
theorem close17 (k0 k1 : Nat) (n : Nat) (stop e : Int) (t : TokD) (A : World) (h0 : Boxed A k0 3 (.int .i64 (n : Int))) (h1 : Boxed A k1 3 (.int .i64 stop)) (hne : k0 ≠ k1) (hn : n ≤ 100000) :
    Calls Tryd.prog 17 #[tdV t, .int .i64 e, .pointer (some ⟨k0, 0, none⟩), .pointer (some ⟨k1, 0, none⟩)] A fun x A' => x = .returned (.bool (decide ((n : Int) + 1 < stop))) ∧ Boxed A' k0 3 (.int .i64 ((n + 1 : Nat) : Int)) ∧ Fr (fun k => k = k0) A A' := by
  have c0 := h0.cell
  have f0 := h0.frozen
  have c1 := h1.cell
  have l0 := World.block_lt_of_cell? A _ c0
  have l1 := World.block_lt_of_cell? A _ c1
  have e1 : ((n + 1 : Nat) : Int) = (n : Int) + 1 := by omega
  have H0 := hide h0
  rw [e1]
  unfold tdV
  obtain ⟨S, hS⟩ : ∃ S, strOfNums t.1.2.1 = S := ⟨_, rfl⟩
  rw [hS]
  clear h0 h1 hS
  go_enter Tryd.func17, Tryd.ntmps17
  go_wp2
  go_ret
  refine ⟨rfl, ?_, ?_⟩
  · exact ((unhide H0).set _).alloc _
  · exact ((Fr.refl (fun k => k = k0) A).setCell k0 _ rfl).alloc _
end Go.Proofs.YtpdkeggiokebmaaDoor

/- The law's closure that holds each token against the reference's. -/
namespace Go.Proofs.YtpdkeggiokebmaaDoor
set_option linter.unusedSimpArgs false
set_option linter.unusedVariables false
open Go.RowKit Go.Shelf
attribute [local go_sem] tokV

set_option maxRecDepth 100000 in
set_option maxHeartbeats 4000000 in
theorem close16 (k0 k1 k2 k3 k4 : Nat) (j : Nat) (fv pl : Int) (L : List TokD) (B : Nat) (v : Value) (t : TokD) (A : World) (h0 : Boxed A k0 3 (.int .i64 (j : Int))) (h1 : Boxed A k1 24 v) (h2 : Boxed A k2 4 (.bool true)) (hr : A.ownsRow B 33 4 v L.length (rowD L)) (ht : L[j]? = some t) (hl : L.length ≤ 100000) (hne : k0 ≠ k2) (hn1 : k0 ≠ k1) (hn2 : k2 ≠ k1) :
    Calls Tryd.prog 16 #[tdV t, .int .i64 0, .pointer (some ⟨k0, 0, none⟩), .pointer (some ⟨k1, 0, none⟩), .pointer (some ⟨k2, 0, none⟩), .pointer (some ⟨k3, 0, none⟩), .pointer (some ⟨k4, 0, none⟩)] A fun x A' => x = .returned (.bool true) ∧ Boxed A' k0 3 (.int .i64 ((j + 1 : Nat) : Int)) ∧ Boxed A' k2 4 (.bool true) ∧ Fr (fun k => k = k0 ∨ k = k2) A A' := by
  have hj : j < L.length := (List.getElem?_eq_some_iff.1 ht).1
  have hvs : ∃ g c, v = .slice (some ⟨g, 0, none⟩) L.length c ∧ L.length ≤ c ∧ c ≤ maxLen ∧ A.heap[g]? ≠ none ∧ ∃ cur, A.heap[g]? = some (.cells cur 33 (0, 0)) := by
    rcases hr.2 with ⟨_, h⟩ | ⟨g, cap, cur, h, _, hh, q1, q2, _⟩
    · omega
    · exact ⟨g, cap, h, q1, q2, by rw [hh]; simp, cur, hh⟩
  obtain ⟨gw, cw, rfl, q1, q2, _, cur, hcur⟩ := hvs
  have d0 : gw ≠ k0 := fun e => by subst e; rw [h0] at hcur; cases hcur
  have d2 : gw ≠ k2 := fun e => by subst e; rw [h2] at hcur; cases hcur
  obtain ⟨y0, y1, y2, y3⟩ := row_cells hr ht
  have l5 := World.block_lt_of_cell? A _ y0
  have c0 := h0.cell
  have f0 := h0.frozen
  have c1 := h1.cell
  have c2 := h2.cell
  have f2 := h2.frozen
  have l0 := World.block_lt_of_cell? A _ c0
  have l1 := World.block_lt_of_cell? A _ c1
  have l2 := World.block_lt_of_cell? A _ c2
  have e1 : ((j + 1 : Nat) : Int) = (j : Int) + 1 := by omega
  have H0 := hide h0
  have H2 := hide h2
  rw [e1]
  unfold tdV
  obtain ⟨S, hS⟩ : ∃ S, strOfNums t.1.2.1 = S := ⟨_, rfl⟩
  rw [hS] at y1 ⊢
  obtain ⟨n, hn⟩ : ∃ n, L.length = n := ⟨_, rfl⟩
  rw [hn] at hj q1 hl c1 h1
  unfold maxLen at q2
  have hjd : (j : Int) < n := by omega
  clear h0 h1 h2 hS hr ht hcur hn
  simp only at l5 l0 l1 l2
  go_enter Tryd.func16, Tryd.ntmps16
  go_wp2
  go_region
  go_wp2
  go_ret
  refine ⟨rfl, ?_, ?_, ?_⟩
  · exact (((unhide H0).other hne _).set _).alloc _
  · exact (((unhide H2).set _).other hne.symm _).alloc _
  · have h := (((Fr.refl (fun k => k = k0 ∨ k = k2) A).setCell k2 (.bool true) (.inr rfl)).setCell k0 (.int .i64 ((j : Int) + 1)) (.inl rfl)).alloc (.cells #[.int .i64 t.1.1, .string S, .int .i64 (t.1.2.2.1 : Int), .int .i64 (t.1.2.2.2 : Int)] 33)
    exact ⟨h.os, h.tape, h.output, h.size, h.block⟩
set_option maxRecDepth 100000 in
set_option maxHeartbeats 4000000 in
theorem close16e (k0 k1 k2 k3 k4 : Nat) (j i : Nat) (v : Value) (A : World) (h0 : Boxed A k0 3 (.int .i64 (j : Int))) (h1 : Boxed A k1 24 v) (h2 : Boxed A k2 4 (.bool true)) (h3 : Boxed A k3 3 (.int .i64 3)) (h4 : Boxed A k4 3 (.int .i64 (i : Int))) (hv : ∃ a c, v = .slice a j c) (hl : j ≤ 100000) (hne : k0 ≠ k2) (hn1 : k0 ≠ k1) (hn2 : k2 ≠ k1) (hn3 : k0 ≠ k3) (hn4 : k2 ≠ k3) (hn5 : k0 ≠ k4) (hn6 : k2 ≠ k4) :
    Calls Tryd.prog 16 #[tdV ((0, [], i, 0), 3), .int .i64 3, .pointer (some ⟨k0, 0, none⟩), .pointer (some ⟨k1, 0, none⟩), .pointer (some ⟨k2, 0, none⟩), .pointer (some ⟨k3, 0, none⟩), .pointer (some ⟨k4, 0, none⟩)] A fun x A' => x = .returned (.bool true) ∧ Boxed A' k0 3 (.int .i64 ((j + 1 : Nat) : Int)) ∧ Boxed A' k2 4 (.bool true) ∧ Fr (fun k => k = k0 ∨ k = k2) A A' := by
  obtain ⟨a, cw, rfl⟩ := hv
  have c0 := h0.cell
  have f0 := h0.frozen
  have c1 := h1.cell
  have c2 := h2.cell
  have f2 := h2.frozen
  have c3 := h3.cell
  have c4 := h4.cell
  have l0 := World.block_lt_of_cell? A _ c0
  have l1 := World.block_lt_of_cell? A _ c1
  have l2 := World.block_lt_of_cell? A _ c2
  have l3 := World.block_lt_of_cell? A _ c3
  have l4 := World.block_lt_of_cell? A _ c4
  have e1 : ((j + 1 : Nat) : Int) = (j : Int) + 1 := by omega
  have H0 := hide h0
  have H2 := hide h2
  rw [e1]
  have hjd : ¬ (j : Int) < j := by omega
  have hjb : decide ((j : Int) < j) = false := by simp
  clear h0 h1 h2 h3 h4
  simp only at l0 l1 l2 l3 l4
  change Calls Tryd.prog 16 #[.agg #[.int .i64 0, .string ⟨#[]⟩, .int .i64 (i : Int), .int .i64 0], _, _, _, _, _, _] A _
  go_enter Tryd.func16, Tryd.ntmps16
  go_wp2
  go_ret
  refine ⟨rfl, ?_, ?_, ?_⟩
  · exact (((unhide H0).other hne _).set _).alloc _
  · exact (((unhide H2).set _).other hne.symm _).alloc _
  · exact (((Fr.refl (fun k => k = k0 ∨ k = k2) A).setCell k2 (.bool true) (.inr rfl)).setCell k0 (.int .i64 ((j : Int) + 1)) (.inl rfl)).alloc _
end Go.Proofs.YtpdkeggiokebmaaDoor

/- Two passes over Scan's function value: each token held against the reference's; and left anywhere. -/
namespace Go.Proofs.YtpdkeggiokebmaaDoor
set_option linter.unusedSimpArgs false
set_option linter.unusedVariables false
open Go.RowKit Go.Shelf

theorem sc_some {g : Nat → Int} {len : Nat} : ∀ (d i : Nat) (bs : List Bool), len - i ≤ d → 0 < (scI g len i bs).length
  | 0, i, bs, hd => by rw [sc_end (by omega)]; simp
  | d + 1, i, bs, hd => by
    by_cases hl : i < len
    · by_cases hb : blk (g i) = true
      · rw [sc_blk hl hb]
        exact sc_some d _ _ (by omega)
      by_cases h1 : g i = 47 ∧ i + 1 < len ∧ g (i + 1) = 47
      · rw [sc_line h1.2.1 h1.1 h1.2.2]
        have hp : (g i != 10) = true := by rw [h1.1]; decide
        have s1 := stopI_step (p := fun c => c != 10) (g := g) hl hp
        have s2 := (stopI_spec (p := fun c => c != 10) (g := g) (len := len) (i := i + 1) (by omega)).1
        exact sc_some d _ _ (by omega)
      by_cases h2 : g i = 47 ∧ i + 1 < len ∧ g (i + 1) = 42
      · rw [sc_rem h2.2.1 h2.1 h2.2.2]
        have h3 : i + 2 ≤ remI g len (i + 2) := remF_ge (g := g) (len := len) (len - (i + 2)) (i + 2)
        split
        · exact sc_some d _ _ (by omega)
        · simp
      have hn : NoGap g len i := ⟨by simpa using hb, h1, h2⟩
      cases hk : tokP g len i bs with
      | none => rw [sc_bad hl hn hk]; simp
      | some y =>
        obtain ⟨k, tx, e, bs'⟩ := y
        rw [sc_tok hl hn hk]
        simp
    · rw [sc_end hl]; simp
/-- The reference's tokens, its error and its place. -/
def Want (I L : List TokD) (fv pl : Int) : Prop := (okI I ∧ L = I ∧ fv = 0) ∨ ∃ i : Nat, I = L ++ [((0, [], i, 0), 3)] ∧ okI L ∧ fv = 3 ∧ pl = (i : Int)
theorem Want.at {I L : List TokD} {fv pl : Int} (h : Want I L fv pl) {pre rest : List TokD} {t : TokD} (hI : I = pre ++ t :: rest) (ht : t.2 = 0) : L[pre.length]? = some t := by
  rcases h with ⟨_, rfl, _⟩ | ⟨i, h, _⟩
  · rw [hI]; simp
  · have hr : rest ≠ [] := fun e => by
      subst e
      rw [hI] at h
      have := List.append_inj_right' h rfl
      injection this with h1 _
      rw [h1] at ht
      cases ht
    obtain ⟨r0, y, rfl⟩ : ∃ r0 y, rest = r0 ++ [y] := ⟨rest.dropLast, rest.getLast hr, (List.dropLast_concat_getLast hr).symm⟩
    have e : pre ++ t :: (r0 ++ [y]) = (pre ++ t :: r0) ++ [y] := by simp
    rw [e] at hI
    rw [hI] at h
    have := List.append_inj_left' h rfl
    rw [← this]
    simp
theorem Want.bad {I L : List TokD} {fv pl : Int} (h : Want I L fv pl) {pre : List TokD} {i : Nat} (hI : I = pre ++ [((0, [], i, 0), 3)]) : pre = L ∧ fv = 3 ∧ pl = (i : Int) := by
  rcases h with ⟨h, _, _⟩ | ⟨i', h, _, hf, hp⟩
  · exact (ok_apart h hI).elim
  · have h1 := List.append_inj_left' (hI.symm.trans h) rfl
    have h2 := bad_same (hI.symm.trans h)
    subst h2
    exact ⟨h1, hf, hp⟩
theorem pass16 (Bk c k0 k1 k2 k3 k4 : Nat) (a : Option Addr) (len cap : Nat) (g : Nat → Int) (hg : ∀ j, 0 ≤ g j ∧ g j ≤ 255) (hlen : len ≤ 4000) (W : World) (hcM : c < W.heap.size) (L : List TokD) (fv pl : Int) (B : Nat) (v : Value)
    (hw : Want (scI g len 0 []) L fv pl) (h0 : Boxed W k0 3 (.int .i64 0)) (h1 : Boxed W k1 24 v) (h2 : Boxed W k2 4 (.bool true)) (h3 : Boxed W k3 3 (.int .i64 fv)) (h4 : Boxed W k4 3 (.int .i64 pl)) (hr : W.ownsRow B 33 4 v L.length (rowD L))
    (hne : k0 ≠ k2) (hn1 : k0 ≠ k1) (hn2 : k2 ≠ k1) (hn3 : k0 ≠ k3) (hn4 : k2 ≠ k3) (hn5 : k0 ≠ k4) (hn6 : k2 ≠ k4) (hc0 : c ≠ k0) (hc2 : c ≠ k2) (hk0 : 2 < k0) (hk2 : 2 < k2)
    (hB : Boxed W Bk 22 (.slice a len cap)) (hS : Sl W c (.slice a len cap) len g) (hcc : CC W c) (hE1 : ErrG W 1) (hE2 : ErrG W 2) :
    Calls Tryd.prog 24 #[.func (.func 16) #[] #[.pointer (some ⟨k0, 0, none⟩), .pointer (some ⟨k1, 0, none⟩), .pointer (some ⟨k2, 0, none⟩), .pointer (some ⟨k3, 0, none⟩), .pointer (some ⟨k4, 0, none⟩)], .pointer (some ⟨Bk, 0, none⟩)] W fun e W' => (∃ u, e = .returned u) ∧ Boxed W' k0 3 (.int .i64 ((scI g len 0 []).length : Int)) ∧ Boxed W' k2 4 (.bool true) ∧ Fr (fun k => k = k0 ∨ k = k2) W W' := by
  have hlI := scI_len g len
  have hLI : L.length ≤ (scI g len 0 []).length := by
    rcases hw with ⟨_, rfl, _⟩ | ⟨i, h, _⟩
    · exact Nat.le_refl _
    · rw [h]; simp
  have z0 := h0.lt
  have z1 := h1.lt
  have z2 := h2.lt
  have z3 := h3.lt
  have z4 := h4.lt
  have ownd : ∀ k, v.ownBlock = some k → k < W.heap.size ∧ k ≠ k0 ∧ k ≠ k2 := fun k hk => by
    rcases hr.2 with ⟨h, _⟩ | ⟨g', cap', cur, h, _, hh, _⟩
    · rw [h] at hk; cases hk
    · rw [h] at hk
      cases hk
      refine ⟨(Array.getElem?_eq_some_iff.1 hh).1, fun e => ?_, fun e => ?_⟩
      · have e' : g' = k0 := e
        subst e'
        rw [h0] at hh; cases hh
      · have e' : g' = k2 := e
        subst e'
        rw [h2] at hh; cases hh
  refine (callsIn_wide.1 (scan2P16 8 (by decide) Bk c k0 k1 k2 k3 k4 a len cap g hg hlen W hcM
    (fun pre ob A => Fr (fun k => k = k0 ∨ k = k2) W A ∧ Boxed A k0 3 (.int .i64 (pre.length : Int)) ∧ Boxed A k2 4 (.bool true) ∧ ∀ k, ob = some k → W.heap.size ≤ k) (fun _ _ => False) ?_ ?_ ?_ ⟨Fr.refl _ _, h0, h2, fun k h => by cases h⟩ hB hS hcc hE1 hE2)).mono ?_
  · rintro pre ob ob' A C ⟨f, b0, b2, ho⟩ hF hob
    have hz := f.size
    have hn : ∀ k, k < W.heap.size → ¬ (k = W.heap.size ∨ ob = some k) := fun k hk h => by
      rcases h with h | h
      · omega
      · have := ho k h; omega
    refine ⟨⟨hF.os.trans f.os, hF.tape.trans f.tape, hF.output.trans f.output, Nat.le_trans f.size hF.size, fun k hk hnk => (hF.block k (by omega) (hn k hk)).trans (f.block k hk hnk)⟩, boxed_fr b0 hF (hn k0 z0), boxed_fr b2 hF (hn k2 z2), fun k hk => ?_⟩
    rcases hob with rfl | ⟨k', hk', hl⟩
    · exact ho k hk
    · rw [hk] at hk'
      cases hk'
      omega
  · rintro pre ob t A ht ⟨rest, hI⟩ ⟨f, b0, b2, ho⟩ hpl ⟨cs, hcs⟩ hob hcA
    have hz := f.size
    have hMA : W.heap.size < A.heap.size := (Array.getElem?_eq_some_iff.1 hcs).1
    rw [ht]
    refine (close16 k0 k1 k2 k3 k4 pre.length fv pl L B v t A b0 (boxed_fr h1 f (by omega)) b2 (row_keep hr fun k hk => f.block k (ownd k hk).1 (by have := ownd k hk; omega)) (hw.at hI ht) (by omega) hne hn1 hn2).mono ?_
    rintro e A' ⟨rfl, b0', b2', f'⟩
    refine .inl ⟨rfl, ⟨f.trans f', by simpa using b0', b2', ho⟩, fun k hk => f'.block k ?_ ?_, f'.size⟩
    · rcases hk with rfl | rfl | rfl | rfl | hk
      · exact hMA
      · omega
      · omega
      · omega
      · obtain ⟨_, cur, hh⟩ := hob k hk
        exact (Array.getElem?_eq_some_iff.1 hh).1
    · rcases hk with rfl | rfl | rfl | rfl | hk
      · omega
      · omega
      · omega
      · omega
      · have := ho k hk; omega
  · rintro pre ob i A hI ⟨f, b0, b2, ho⟩ hpl
    obtain ⟨rfl, rfl, rfl⟩ := hw.bad hI
    refine (close16e k0 k1 k2 k3 k4 pre.length i v A b0 (boxed_fr h1 f (by omega)) b2 (boxed_fr h3 f (by omega)) (boxed_fr h4 f (by omega)) ?_ (by omega) hne hn1 hn2 hn3 hn4 hn5 hn6).mono ?_
    · rcases hr.2 with ⟨h, h0⟩ | ⟨g', cap', cur, h, _⟩
      · exact ⟨_, _, by rw [h, h0]⟩
      · exact ⟨_, _, h⟩
    · rintro e A' ⟨rfl, b0', b2', f'⟩
      exact ⟨true, rfl, .inl ⟨ob, f.trans f', by simpa using b0', b2', ho⟩⟩
  · rintro e W' ⟨hv, ⟨ob, f, b0, b2, _⟩ | ⟨_, _, _, h⟩⟩
    · exact ⟨hv, b0, b2, f⟩
    · exact h.elim
theorem pass17 (Bk c k0 k1 : Nat) (a : Option Addr) (len cap : Nat) (g : Nat → Int) (hg : ∀ j, 0 ≤ g j ∧ g j ≤ 255) (hlen : len ≤ 4000) (W : World) (hcM : c < W.heap.size) (stop : Int)
    (h0 : Boxed W k0 3 (.int .i64 0)) (h1 : Boxed W k1 3 (.int .i64 stop)) (hne : k0 ≠ k1) (hc0 : c ≠ k0) (hk0 : 2 < k0)
    (hB : Boxed W Bk 22 (.slice a len cap)) (hS : Sl W c (.slice a len cap) len g) (hcc : CC W c) (hE1 : ErrG W 1) (hE2 : ErrG W 2) :
    Calls Tryd.prog 24 #[.func (.func 17) #[] #[.pointer (some ⟨k0, 0, none⟩), .pointer (some ⟨k1, 0, none⟩)], .pointer (some ⟨Bk, 0, none⟩)] W fun e W' => (∃ u, e = .returned u) ∧ Boxed W' k0 3 (.int .i64 (max 1 (min stop ((scI g len 0 []).length : Int)))) ∧ Fr (fun k => k = k0) W W' := by
  have hlI := scI_len g len
  have hpos := sc_some (g := g) (len := len) len 0 [] (by omega)
  have z0 := h0.lt
  have z1 := h1.lt
  refine (callsIn_wide.1 (scan2P17 8 (by decide) Bk c k0 k1 a len cap g hg hlen W hcM
    (fun pre ob A => Fr (fun k => k = k0) W A ∧ Boxed A k0 3 (.int .i64 (pre.length : Int)) ∧ (pre = [] ∨ (pre.length : Int) < stop) ∧ ∀ k, ob = some k → W.heap.size ≤ k)
    (fun pre A => Fr (fun k => k = k0) W A ∧ Boxed A k0 3 (.int .i64 (pre.length : Int)) ∧ 0 < pre.length ∧ ¬ (pre.length : Int) < stop ∧ (pre.length = 1 ∨ (pre.length : Int) - 1 < stop)) ?_ ?_ ?_ ⟨Fr.refl _ _, h0, .inl rfl, fun k h => by cases h⟩ hB hS hcc hE1 hE2)).mono ?_
  · rintro pre ob ob' A C ⟨f, b0, hp, ho⟩ hF hob
    have hz := f.size
    have hn : ∀ k, k < W.heap.size → ¬ (k = W.heap.size ∨ ob = some k) := fun k hk h => by
      rcases h with h | h
      · omega
      · have := ho k h; omega
    refine ⟨⟨hF.os.trans f.os, hF.tape.trans f.tape, hF.output.trans f.output, Nat.le_trans f.size hF.size, fun k hk hnk => (hF.block k (by omega) (hn k hk)).trans (f.block k hk hnk)⟩, boxed_fr b0 hF (hn k0 z0), hp, fun k hk => ?_⟩
    rcases hob with rfl | ⟨k', hk', hl⟩
    · exact ho k hk
    · rw [hk] at hk'
      cases hk'
      omega
  · rintro pre ob t A ht ⟨rest, hI⟩ ⟨f, b0, hp, ho⟩ hpl ⟨cs, hcs⟩ hob hcA
    have hz := f.size
    have hMA : W.heap.size < A.heap.size := (Array.getElem?_eq_some_iff.1 hcs).1
    refine (close17 k0 k1 pre.length stop t.2 t A b0 (boxed_fr h1 f (by omega)) hne (by omega)).mono ?_
    rintro e A' ⟨rfl, b0', f'⟩
    by_cases hs : (pre.length : Int) + 1 < stop
    · rw [decide_eq_true hs]
      refine .inl ⟨rfl, ⟨f.trans f', by simpa using b0', .inr (by simp; omega), ho⟩, fun k hk => f'.block k ?_ ?_, f'.size⟩
      · rcases hk with rfl | rfl | rfl | rfl | hk
        · exact hMA
        · omega
        · omega
        · omega
        · obtain ⟨_, cur, hh⟩ := hob k hk
          exact (Array.getElem?_eq_some_iff.1 hh).1
      · rcases hk with rfl | rfl | rfl | rfl | hk
        · omega
        · omega
        · omega
        · omega
        · have := ho k hk; omega
    · rw [decide_eq_false hs]
      refine .inr ⟨rfl, f.trans f', by simpa using b0', by simp, by simp; omega, ?_⟩
      rcases hp with rfl | hp
      · exact .inl rfl
      · exact .inr (by simp; omega)
  · rintro pre ob i A hI ⟨f, b0, hp, ho⟩ hpl
    refine (close17 k0 k1 pre.length stop 3 ((0, [], i, 0), 3) A b0 (boxed_fr h1 f (by omega)) hne (by omega)).mono ?_
    rintro e A' ⟨rfl, b0', f'⟩
    refine ⟨_, rfl, ?_⟩
    by_cases hs : (pre.length : Int) + 1 < stop
    · exact .inl ⟨ob, f.trans f', by simpa using b0', .inr (by simp; omega), ho⟩
    · refine .inr ⟨f.trans f', by simpa using b0', by simp, by simp; omega, ?_⟩
      rcases hp with rfl | hp
      · exact .inl rfl
      · exact .inr (by simp; omega)
  · rintro e W' ⟨hv, ⟨ob, f, b0, hp, _⟩ | ⟨pre, rest, hI, f, b0, p1, p2, p3⟩⟩
    · refine ⟨hv, ?_, f⟩
      have : max 1 (min stop ((scI g len 0 []).length : Int)) = ((scI g len 0 []).length : Int) := by
        rcases hp with h | h
        · rw [h] at hpos; simp at hpos
        · omega
      rw [this]
      exact b0
    · refine ⟨hv, ?_, f⟩
      have hle : pre.length ≤ (scI g len 0 []).length := by rw [hI]; simp
      have : max 1 (min stop ((scI g len 0 []).length : Int)) = (pre.length : Int) := by omega
      rw [this]
      exact b0
end Go.Proofs.YtpdkeggiokebmaaDoor

/- LexScans: the walk. -/
namespace Go.Proofs.YtpdkeggiokebmaaDoor
set_option linter.unusedSimpArgs false
set_option linter.unusedVariables false
open Go.ChangeShapes Go.WideShapes Go.ChangeAt Go.RowKit Go.Shelf

theorem fnn37 (f : Nat) (caps : Array Value) (w : World) : (binOp .eql 37 (.func (.func f) #[] caps) .nilFunc).run Tryd.prog w = .ok (.bool false) w := by kernel_rfl
attribute [local go_sem] fnn37
/-- What the reference answers, in one form. -/
theorem want_of {g : Nat → Int} {len : Nat} {w w' : World} {e : Ending} (h : RTokR g len w e w') : ∃ (L : List TokD) (fv pl : Int) (a : Option Addr) (c : Nat), e = .returned (.tuple #[.slice a L.length c, .int .i64 pl, .int .i64 fv]) ∧ Want (scI g len 0 []) L fv pl ∧ w'.ownsRow w.heap.size 33 4 (.slice a L.length c) L.length (rowD L) ∧ Below w.heap.size w w' := by
  have form : ∀ {v : Value} {n : Nat} {xs : List Value}, w'.ownsRow w.heap.size 33 4 v n xs → ∃ a c, v = .slice a n c := fun {v n xs} h => by
    rcases h.2 with ⟨h1, h2⟩ | ⟨g', cap, _, h1, _⟩
    · exact ⟨none, 0, by rw [h1, h2]⟩
    · exact ⟨_, _, h1⟩
  rcases h.1 with ⟨hok, v, rfl, hv⟩ | ⟨p, i, hp, hokp, v, rfl, hv⟩
  · obtain ⟨a, c, rfl⟩ := form hv
    exact ⟨_, 0, 0, a, c, rfl, .inl ⟨hok, rfl, rfl⟩, hv, h.2⟩
  · obtain ⟨a, c, rfl⟩ := form hv
    exact ⟨p, 3, (i : Int), a, c, rfl, .inr ⟨i, hp, hokp, rfl, rfl⟩, hv, h.2⟩
set_option maxRecDepth 100000 in
set_option maxHeartbeats 8000000 in
theorem lexScans_small (a : Option Addr) (len cap c : Nat) (stop : Int) (g : Nat → Int) (hg : ∀ j, 0 ≤ g j ∧ g j ≤ 255) (W : World) (hlen : len ≤ 1500) (hS : Sl W c (.slice a len cap) len g) (hc : c < W.heap.size) (hnil : a = none → cap = 0) (hE1 : ErrG W 1) (hE2 : ErrG W 2) :
    Calls Tryd.prog 4 #[.slice a len cap, .int .i64 stop] W fun e w' => e = .returned (.bool true) ∧ Below W.heap.size W w' := by
  have h2w := hE2.lt
  have HSA : Hid (∀ W', Below W.heap.size W W' → Sl W' c (.slice a len cap) len g) := fun W' hb => hS.keep (fun k e => by subst e; exact hb.block k hc)
  have HE : Hid (∀ W', Below W.heap.size W W' → ErrG W' 1 ∧ ErrG W' 2) := fun W' hb => ⟨hE1.below hb (by omega), hE2.below hb h2w⟩
  have HG := hide hg
  have hlI := scI_len g len
  have HN := hide hnil
  have hl' : ¬ (1500 : Int) < len := by omega
  have hld : decide ((1500 : Int) < len) = false := by simpa using hl'
  clear hS hE1 hE2 hnil hg
  obtain ⟨W1, hW1⟩ : ∃ W1, W.alloc (.cells #[.int .i64 stop] 3) = W1 := ⟨_, rfl⟩
  have hB1 : Below W.heap.size W W1 := by rw [← hW1]; exact (Below.refl _ W).alloc (Nat.le_refl _) _
  have s1 : Boxed W1 W.heap.size 3 (.int .i64 stop) := by rw [← hW1]; exact Boxed.new W 3 _
  have hz1 : W1.heap.size = W.heap.size + 1 := by rw [← hW1]; simp
  have HRT := hide (rTok_any a len cap c g (unhide HG) W1 (by omega) (unhide HSA W1 hB1) (by omega))
  have HW1 := hide hW1
  clear hW1
  go_enter Tryd.func4, Tryd.ntmps4
  go_wp2_with (go_at_call 11; rw [show W.alloc (.cells #[.int .i64 stop] 3) = W1 from unhide HW1]; refine (unhide HRT).mono ?_)
  rintro x W2 hT
  obtain ⟨L, fv, pl, va, vc, rfl, hw, hrow, hB2⟩ := want_of hT
  clear hT
  have hz2 := hB2.size
  obtain ⟨n, hn⟩ : ∃ n, L.length = n := ⟨_, rfl⟩
  have HL := hide hn
  have HR2 := hide hrow
  have HWT := hide hw
  have HB2 := hide (hB1.trans (hB2.mono (by omega)))
  have hs2 := boxed_fr s1 (S0 := fun _ => False) ⟨hB2.os, hB2.tape, hB2.output, hB2.size, fun k hk _ => hB2.block k hk⟩ (fun h => h)
  rw [hn]
  clear hn hrow hw hB2 hB1 s1
  obtain ⟨W3, hW3⟩ : ∃ W3, ((W2.alloc (.cells #[.slice va n vc] 24)).alloc (.cells #[.int .i64 pl] 3)).alloc (.cells #[.int .i64 fv] 3) = W3 := ⟨_, rfl⟩
  have hB3 : Below W2.heap.size W2 W3 := by rw [← hW3]; exact (((Below.refl _ W2).alloc (Nat.le_refl _) _).alloc (by simp) _).alloc (by simp; omega) _
  have hz3 : W3.heap.size = W2.heap.size + 1 + 1 + 1 := by rw [← hW3]; simp
  have b5 : Boxed W3 W2.heap.size 24 (.slice va n vc) := by rw [← hW3]; exact ((Boxed.new W2 24 _).alloc _).alloc _
  have b6 : Boxed W3 (W2.heap.size + 1) 3 (.int .i64 pl) := by
    have := (Boxed.new (W2.alloc (.cells #[.slice va n vc] 24)) 3 (.int .i64 pl)).alloc (.cells #[.int .i64 fv] 3)
    rw [World.size_alloc] at this
    rw [← hW3]; exact this
  have b7 : Boxed W3 (W2.heap.size + 1 + 1) 3 (.int .i64 fv) := by
    have := Boxed.new ((W2.alloc (.cells #[.slice va n vc] 24)).alloc (.cells #[.int .i64 pl] 3)) 3 (.int .i64 fv)
    rw [World.size_alloc, World.size_alloc] at this
    rw [← hW3]; exact this
  have HB3 := hide ((unhide HB2).trans (hB3.mono (by omega)))
  have hlt2 : ∀ k, (Value.slice va n vc).ownBlock = some k → k < W2.heap.size := fun k hk => by
    have h := unhide HR2
    rw [unhide HL] at h
    rcases h.2 with ⟨h, _⟩ | ⟨g', cap', cur, h, _, hh, _⟩
    · rw [h] at hk; cases hk
    · rw [h] at hk
      cases hk
      exact (Array.getElem?_eq_some_iff.1 hh).1
  have HR3 : Hid (W3.ownsRow W1.heap.size 33 4 (.slice va n vc) L.length (rowD L)) := row_keep (by have h := unhide HR2; rw [unhide HL] at h ⊢; exact h) fun k hk => hB3.block k (hlt2 k hk)
  have s3 : Boxed W3 W.heap.size 3 (.int .i64 stop) := (hB3.block _ (by omega)).trans hs2
  have HSC := hide (scan_src (unhide HSA W3 (unhide HB3)) (unhide HN) (by omega) (by omega))
  have HW3 := hide hW3
  clear hB3 hs2 hW3
  go_wp2_with (go_at_call 15; rw [show ((W2.alloc (.cells #[.slice va n vc] 24)).alloc (.cells #[.int .i64 pl] 3)).alloc (.cells #[.int .i64 fv] 3) = W3 from unhide HW3]; refine (unhide HSC).mono ?_)
  rintro x W4 ⟨Bk, c', a', cap', rfl, hBk, hS4, hBk', hc', hc'', hB4, hcc⟩
  have hz4 := hB4.size
  have HB4 := hide ((unhide HB3).trans (hB4.mono (by omega)))
  have keep4 : ∀ {W' : World} {k : Nat} {t : TypeId} {v : Value}, Below W4.heap.size W4 W' → Boxed W3 k t v → Boxed W' k t v := fun {W' k t v} hb h => (hb.block k (by have := h.lt; omega)).trans ((hB4.block k h.lt).trans h)
  have F5 : Hid (∀ W', Below W4.heap.size W4 W' → Boxed W' W2.heap.size 24 (.slice va n vc)) := fun W' hb => keep4 hb b5
  have F7 : Hid (∀ W', Below W4.heap.size W4 W' → Boxed W' (W2.heap.size + 1 + 1) 3 (.int .i64 fv)) := fun W' hb => keep4 hb b7
  have FS : Hid (∀ W', Below W4.heap.size W4 W' → Boxed W' W.heap.size 3 (.int .i64 stop)) := fun W' hb => keep4 hb s3
  have HFA : Hid ((fv = 0 ∧ (scI g len 0 []).length = n) ∨ (fv = 3 ∧ (scI g len 0 []).length = n + 1)) := by
    rcases unhide HWT with ⟨_, h, h0⟩ | ⟨i, h, _, h0, _⟩
    · exact .inl ⟨h0, by rw [← h]; exact unhide HL⟩
    · refine .inr ⟨h0, ?_⟩
      rw [h]
      simp
      exact unhide HL
  have HP : Hid (∀ W', Below W4.heap.size W4 W' → Calls Tryd.prog 24 #[.func (.func 16) #[] #[.pointer (some ⟨W'.heap.size, 0, none⟩), .pointer (some ⟨W2.heap.size, 0, none⟩), .pointer (some ⟨W'.heap.size + 1, 0, none⟩), .pointer (some ⟨W2.heap.size + 1 + 1, 0, none⟩), .pointer (some ⟨W2.heap.size + 1, 0, none⟩)], .pointer (some ⟨Bk, 0, none⟩)] ((W'.alloc (.cells #[.int .i64 0] 3)).alloc (.cells #[.bool true] 4)) fun e W6 => (∃ u, e = .returned u) ∧ Boxed W6 W'.heap.size 3 (.int .i64 ((scI g len 0 []).length : Int)) ∧ Boxed W6 (W'.heap.size + 1) 4 (.bool true) ∧ Below W4.heap.size W4 W6) := by
    intro W' hb
    have hz' := hb.size
    obtain ⟨W5, hW5⟩ : ∃ W5, (W'.alloc (.cells #[.int .i64 0] 3)).alloc (.cells #[.bool true] 4) = W5 := ⟨_, rfl⟩
    have hB5 : Below W'.heap.size W' W5 := by rw [← hW5]; exact ((Below.refl _ W').alloc (Nat.le_refl _) _).alloc (by simp) _
    have hb5 : Below W4.heap.size W4 W5 := hb.trans (hB5.mono hz')
    have hz5 : W5.heap.size = W'.heap.size + 1 + 1 := by rw [← hW5]; simp
    have n0 : Boxed W5 W'.heap.size 3 (.int .i64 0) := by rw [← hW5]; exact (Boxed.new W' 3 _).alloc _
    have n2 : Boxed W5 (W'.heap.size + 1) 4 (.bool true) := by
      have := Boxed.new (W'.alloc (.cells #[.int .i64 0] 3)) 4 (.bool true)
      rw [World.size_alloc] at this
      rw [← hW5]; exact this
    have hbW := (unhide HB4).trans (hb5.mono (by omega))
    rw [hW5]
    refine (pass16 Bk c' W'.heap.size W2.heap.size (W'.heap.size + 1) (W2.heap.size + 1 + 1) (W2.heap.size + 1) a' len cap' g (unhide HG) (by omega) W5 (by omega) L fv pl W1.heap.size (.slice va n vc) (unhide HWT) n0 (keep4 hb5 b5) n2 (keep4 hb5 b7) (keep4 hb5 b6) (row_keep (unhide HR3) fun k hk => (hb5.block k (by have := hlt2 k hk; omega)).trans (hB4.block k (by have := hlt2 k hk; omega)))
      (by omega) (by omega) (by omega) (by omega) (by omega) (by omega) (by omega) (by omega) (by omega) (by omega) (by omega) ((hb5.block Bk hBk.lt).trans hBk) (hS4.keep (fun k e => by subst e; exact hb5.block k hc')) (by obtain ⟨o, h, hno⟩ := hcc; exact ⟨o, (hb5.block c' hc').trans h, hno⟩) (unhide HE W5 hbW).1 (unhide HE W5 hbW).2).mono ?_
    rintro e W6 ⟨hv, r0, r2, f⟩
    exact ⟨hv, r0, r2, hb5.trans (f.toBelow (by omega) (fun k hk h => by omega))⟩
  have HQ : Hid (∀ W', Below W4.heap.size W4 W' → Calls Tryd.prog 24 #[.func (.func 17) #[] #[.pointer (some ⟨W'.heap.size, 0, none⟩), .pointer (some ⟨W.heap.size, 0, none⟩)], .pointer (some ⟨Bk, 0, none⟩)] (W'.alloc (.cells #[.int .i64 0] 3)) fun e W6 => (∃ u, e = .returned u) ∧ Boxed W6 W'.heap.size 3 (.int .i64 (max 1 (min stop ((scI g len 0 []).length : Int)))) ∧ Below W4.heap.size W4 W6) := by
    intro W' hb
    have hz' := hb.size
    obtain ⟨W5, hW5⟩ : ∃ W5, W'.alloc (.cells #[.int .i64 0] 3) = W5 := ⟨_, rfl⟩
    have hB5 : Below W'.heap.size W' W5 := by rw [← hW5]; exact (Below.refl _ W').alloc (Nat.le_refl _) _
    have hb5 : Below W4.heap.size W4 W5 := hb.trans (hB5.mono hz')
    have hz5 : W5.heap.size = W'.heap.size + 1 := by rw [← hW5]; simp
    have n0 : Boxed W5 W'.heap.size 3 (.int .i64 0) := by rw [← hW5]; exact Boxed.new W' 3 _
    have hbW := (unhide HB4).trans (hb5.mono (by omega))
    rw [hW5]
    refine (pass17 Bk c' W'.heap.size W.heap.size a' len cap' g (unhide HG) (by omega) W5 (by omega) stop n0 (keep4 hb5 s3) (by omega) (by omega) (by omega) ((hb5.block Bk hBk.lt).trans hBk) (hS4.keep (fun k e => by subst e; exact hb5.block k hc')) (by obtain ⟨o, h, hno⟩ := hcc; exact ⟨o, (hb5.block c' hc').trans h, hno⟩) (unhide HE W5 hbW).1 (unhide HE W5 hbW).2).mono ?_
    rintro e W6 ⟨hv, r0, f⟩
    exact ⟨hv, r0, hb5.trans (f.toBelow (by omega) (fun k hk h => by omega))⟩
  have hn9 : n ≤ 1501 := by rcases unhide HFA with h | h <;> omega
  obtain ⟨Il, hIl⟩ : ∃ Il, (scI g len 0 []).length = Il := ⟨_, rfl⟩
  rw [hIl] at HP HQ HFA hlI
  clear hcc hS4 hBk b5 b6 b7 s3 keep4 hB4 hlt2 hIl
  go_wp2
  rcases unhide HFA with ⟨rfl, rfl⟩ | ⟨rfl, rfl⟩
  · clear HFA
    refine wp_loop_rounds 3 ?_
    rw [rounds_succ]
    go_wp2_with (go_at_call 24; refine (unhide HP W4 (Below.refl _ _)).mono ?_)
    rintro x W5 ⟨⟨u, rfl⟩, r0, r2, hb5⟩
    have q0 := r0.cell
    have q2 := r2.cell
    have q5 := (unhide F5 W5 hb5).cell
    have q7 := (unhide F7 W5 hb5).cell
    go_wp2
    rw [rounds_succ]
    clear q0 q2 q5 q7 r0 r2
    go_wp2_with (go_at_call 24; refine (unhide HP W5 hb5).mono ?_)
    rintro x W6 ⟨⟨u', rfl⟩, r0, r2, hb6⟩
    have q0 := r0.cell
    have q2 := r2.cell
    have q5 := (unhide F5 W6 hb6).cell
    have q7 := (unhide F7 W6 hb6).cell
    go_wp2
    rw [rounds_succ]
    clear q0 q2 q5 q7 r0 r2
    go_wp2_with (go_at_call 24; refine (unhide HQ W6 hb6).mono ?_)
    rintro x W7 ⟨⟨u'', rfl⟩, r0, hb7⟩
    have q0 := r0.cell
    have q5 := (unhide F5 W7 hb7).cell
    have q7 := (unhide F7 W7 hb7).cell
    have q3 := (unhide FS W7 hb7).cell
    have hb7W := (unhide HB4).trans (hb7.mono (by omega))
    have HK := hide (lexknown_any W7 (unhide HE W7 hb7W).1 (unhide HE W7 hb7W).2)
    have HB7 := hide hb7W
    have hz7 := hb7.size
    clear r0 hb7W
    go_wp2_with (go_at_call 14; refine (unhide HK).mono ?_)
    rintro x W9 ⟨rfl, hB9⟩
    have HB9 := hide ((unhide HB7).trans (hB9.mono (by omega)))
    clear hB9
    go_wp2
    go_ret
    exact ⟨rfl, unhide HB9⟩
  · clear HFA
    have e1 : ((n + 1 : Nat) : Int) = (n : Int) + 1 := by omega
    rw [e1] at HP HQ
    refine wp_loop_rounds 3 ?_
    rw [rounds_succ]
    go_wp2_with (go_at_call 24; refine (unhide HP W4 (Below.refl _ _)).mono ?_)
    rintro x W5 ⟨⟨u, rfl⟩, r0, r2, hb5⟩
    have q0 := r0.cell
    have q2 := r2.cell
    have q5 := (unhide F5 W5 hb5).cell
    have q7 := (unhide F7 W5 hb5).cell
    go_wp2
    rw [rounds_succ]
    clear q0 q2 q5 q7 r0 r2
    go_wp2_with (go_at_call 24; refine (unhide HP W5 hb5).mono ?_)
    rintro x W6 ⟨⟨u', rfl⟩, r0, r2, hb6⟩
    have q0 := r0.cell
    have q2 := r2.cell
    have q5 := (unhide F5 W6 hb6).cell
    have q7 := (unhide F7 W6 hb6).cell
    go_wp2
    rw [rounds_succ]
    clear q0 q2 q5 q7 r0 r2
    go_wp2_with (go_at_call 24; refine (unhide HQ W6 hb6).mono ?_)
    rintro x W7 ⟨⟨u'', rfl⟩, r0, hb7⟩
    have q0 := r0.cell
    have q5 := (unhide F5 W7 hb7).cell
    have q7 := (unhide F7 W7 hb7).cell
    have q3 := (unhide FS W7 hb7).cell
    have hb7W := (unhide HB4).trans (hb7.mono (by omega))
    have HK := hide (lexknown_any W7 (unhide HE W7 hb7W).1 (unhide HE W7 hb7W).2)
    have HB7 := hide hb7W
    have hz7 := hb7.size
    clear r0 hb7W
    go_wp2_with (go_at_call 14; refine (unhide HK).mono ?_)
    rintro x W9 ⟨rfl, hB9⟩
    have HB9 := hide ((unhide HB7).trans (hB9.mono (by omega)))
    clear hB9
    go_wp2
    go_ret
    exact ⟨rfl, unhide HB9⟩
set_option maxHeartbeats 2000000 in
theorem lexScans_big (a : Option Addr) (len cap : Nat) (stop : Int) (W : World) (hbig : 1500 < len) (hl : len ≤ maxLen) : Calls Tryd.prog 4 #[.slice a len cap, .int .i64 stop] W fun e w' => e = .returned (.bool true) ∧ Below W.heap.size W w' := by
  unfold maxLen at hl
  have hl' : (1500 : Int) < len := by omega
  have hld : decide ((1500 : Int) < len) = true := by simpa using hl'
  go_enter Tryd.func4, Tryd.ntmps4
  go_wp2
  go_ret
  exact ⟨rfl, (Below.refl _ W).alloc (Nat.le_refl _) _⟩
end Go.Proofs.YtpdkeggiokebmaaDoor

/- The law LexScans (P2.1, W7) holds: lex.Scan's function value tells the tokens of any bytes one by one, as the document's reading has them, an error last; twice, and left anywhere (the law asks it of up to 1500 bytes); no condition. -/
namespace Go.Proofs.YtpdkeggiokebmaaDoor
set_option linter.unusedSimpArgs false
set_option linter.unusedVariables false
open Go.ChangeShapes Go.WideShapes Go.ChangeAt Go.RowKit

set_option maxRecDepth 100000 in
theorem lexScans_lifted (os : Os) (started : os.Started) (H : Type) (enc : TypeId × Value → H) :
    ReturnsInHanded {} Tryd.checked os 4 .any (fun w args => (Rows.lexScansSpec.pre enc Tryd.prog Tryd.f4 [] false w args ∧ laidMetH Tryd.prog laid5 w) ∧ sizedMet enc Tryd.prog Tryd.f4 (OpenSpec.ofChange Rows.lexScansSpec) false w args)
      (Rows.lexScansSpec.post enc Tryd.prog Tryd.f4 false true false false) := by
  refine returnsInHanded_of_change_and (C := Tryd.checked) (X := fun w _ => laidMetH Tryd.prog laid5 w) (fun _ _ _ hh h => h.of_heap hh) own started (by kernel_rfl) Tryd.func4
    (ChangeSpec.witness_shaped (enc := enc) (C := Tryd.checked) (os := os) (X := fun w _ => laidMetH Tryd.prog laid5 w) false (World.doorLaid Tryd.prog 60 os) #[.slice none 0 0, .int .i64 0] 8 rfl (World.shaped_of_RefB (by kernel_rfl) (by kernel_rfl)) (by kernel_rfl) (by kernel_rfl) (by kernel_rfl) (door_met5 os _)) ?_
  intro W base args ds gs before hval0 hW _ _ hL _
  have hval : ∀ (j : Nat) t v, Tryd.f4.params[j]? = some t → args[j]? = some v → Value.okWide Tryd.prog W .any base t v := hval0
  have hW' := hW
  obtain ⟨p, q, hA0, hV, rfl, hfz, hnd⟩ := hW
  have hA : DataW.TrodAll enc Tryd.prog W 0 (fun _ => true) true Tryd.f4.params.toList args.toList ds p := hA0
  rw [Tryd.params4] at hA hval
  obtain ⟨v0, v1, d0, d1, p0, p1, rfl, rfl, rfl, h0, h1⟩ := trodAll_two hA
  obtain ⟨rfl, rfl⟩ := trodVars_none hV
  obtain ⟨a0, len0, cap0, rfl⟩ := okWide_slice Tryd.underlying22 (hval 0 22 v0 rfl rfl)
  have k0 := h0
  have lt0 : ∀ x ∈ p0, x.block < W.heap.size := by obtain ⟨m, hm⟩ := k0; exact DataW.trod_lt m _ _ _ hm
  obtain ⟨p1', rfl, rfl, rfl, w1⟩ := open_int Tryd.underlying3 (hval 1 3 v1 rfl rfl) h1
  obtain ⟨z0, w0⟩ : ∃ zs, IsRow W a0 len0 cap0 zs := by
    obtain ⟨fuel, hf⟩ := h0
    rcases open_ints Tryd.underlying22 Tryd.underlying5 (by kernel_rfl) hf with ⟨hcs, _⟩ | ⟨x, l, c, zs, hcs, _, hl, hm, hz, _, hcell, hwz⟩
    · simp [Value.cells] at hcs
      obtain ⟨rfl, rfl, rfl⟩ := hcs
      exact ⟨[], .inl ⟨rfl, rfl, rfl, rfl⟩⟩
    · simp [Value.cells] at hcs
      obtain ⟨rfl, rfl, rfl⟩ := hcs
      exact ⟨zs, .inr ⟨_, rfl, hl, hm, by simpa using hz, hcell, hwz⟩⟩
  clear hA0 hval0
  have hE := err_vars hL
  have hpos : 0 < W.heap.size := Nat.lt_trans (by decide) hE.2.lt
  have walk : Calls Tryd.prog 4 #[.slice a0 len0 cap0, .int .i64 p1'] W fun e w' => e = .returned (.bool true) ∧ Below W.heap.size W w' := by
    obtain ⟨b, hb, hS, hR⟩ := w0.view hpos
    by_cases hbig : 1500 < len0
    · exact lexScans_big a0 len0 cap0 p1' W hbig w0.len_le
    · exact lexScans_small a0 len0 cap0 b p1' (gZ z0) w0.bd W (by omega) hS hb (fun h => by
        rcases w0 with ⟨_, _, h, _⟩ | ⟨x, h', _⟩
        · exact h
        · rw [h] at h'; cases h') hE.1 hE.2
  refine walk.mono fun e W' ⟨he, bel⟩ => ?_
  subst he
  exact ⟨_, rfl, _, _, _, [], _, [], hW', trodAll_mk1 (shut_bool Tryd.underlying4 _), trodAll_mk2 (Below.trod laidOut (by kernel_rfl) (of_decide_eq_true (by kernel_rfl)) k0 bel lt0) (shut_int Tryd.underlying3 w1), rfl, bel.frame _, fun h => by cases h⟩

theorem lexScans_holds : Rows.LexScansSaid :=
  OpenClaim.holds_of_wide 4 Tryd.f4 rfl rfl rfl rfl rfl rfl rfl ⟨rfl, rfl, rfl, rfl, rfl⟩ rfl rfl rfl rfl rfl (by kernel_rfl) Tryd.func4 (by kernel_rfl)
    (of_decide_eq_true (by kernel_rfl)) (by unfold Func.isWrapper; first | (rw [if_pos (by decide +kernel)]; kernel_rfl) | (rw [if_neg (by decide +kernel)]; exact ⟨rfl, rfl⟩))
    (fun os started H enc _ => lexScans_lifted os started H enc)

theorem lexScans_card_holds : Rows.LexScansCardSaid :=
  Claim7.holds_tied_plain_at .later [] [.data, .data, .data, .sentinel, .sentinel] true (true, "e42a534f9b60fb14f12432ce35a86db71f46b58ebc9cc3127765351afa599966") true
    lexScans_holds (fun _ h => by cases h) (by kernel_rfl) (fun _ h => by cases h) lexScans_row_tie rfl ⟨rfl, rfl⟩ (by kernel_rfl) rfl
    (fun f fn hf hfn => by
      obtain rfl : f = 4 := Option.some.inj ((show Tryd.prog.funcNamed "shuck/shucklaw2.LexScans" = some 4 by kernel_rfl).symm.trans hf) |>.symm
      obtain rfl : fn = Tryd.f4 := (Option.some.inj (Tryd.func4.symm.trans hfn)).symm
      exact ⟨by kernel_rfl, fun j t ht => by
        rw [Tryd.params4] at ht
        have hm : t ∈ [22, 3] := by simpa using Array.mem_of_getElem? ht
        have hall : ([22, 3].all fun u => !Tryd.prog.wantsStandIn u) = true := by kernel_rfl
        exact (show Tryd.prog.wantsStandIn t = false by simpa using List.all_eq_true.1 hall t hm)⟩)
    (by kernel_rfl)
end Go.Proofs.YtpdkeggiokebmaaDoor
