/- takesKids: a row of the table asked of kids, in whatever memory. -/
import Derived.Lib.Slices
import Derived.LoopN
import Derived.RangeFuncBox
import Derived.Test.YtnnpkomedpjlcaaGreatDoorT5
import Derived.Test.YtnnpkomedpjlcaaGreatDoorTC
import Derived.Test.YtnnpkomedpjlcaaGreatDoorTF
namespace Go.Proofs.YtnnpkomedpjlcaaGreatDoor
set_option linter.unusedSimpArgs false
set_option linter.unusedVariables false
open Go.RowKit Go.Shelf
attribute [local go_sem] fv fnn70 fnm70 nln70 nlm70 fnn43 fnm43 nln43 nlm43 fnn71 fnm71 nln71 nlm71 fnn73 fnm73 nln73 nlm73

/-- Up to a kid all kids were taken by their places. -/
def upQ (l : List Nd) (ks : List Int) (pf : Nat → Option Nat) (pp : Nat → Plc) : Nat → Bool
  | 0 => true
  | i + 1 => upQ l ks pf pp i && ((pf i).isSome && (ins l (ks.getD i 0) && pp i l (ks.getD i 0).toNat))
theorem upQ_le {l : List Nd} {ks : List Int} {pf : Nat → Option Nat} {pp : Nat → Plc} {i : Nat} (h : upQ l ks pf pp i = false) : ∀ {j}, i ≤ j → upQ l ks pf pp j = false
  | 0, hj => by obtain rfl : i = 0 := by omega
                exact h
  | j + 1, hj => by
    by_cases e : i = j + 1
    · subst e; exact h
    · show (upQ l ks pf pp j && _) = false
      rw [upQ_le h (by omega)]; rfl
theorem upQ_false {l : List Nd} {ks : List Int} {pf : Nat → Option Nat} {pp : Nat → Plc} {i n : Nat} (hi : i < n) (h : ((pf i).isSome && (ins l (ks.getD i 0) && pp i l (ks.getD i 0).toNat)) = false) : upQ l ks pf pp n = false :=
  upQ_le (i := i + 1) (by show (upQ l ks pf pp i && _) = false; rw [h]; simp) hi
theorem upQ_ins {l : List Nd} {ks : List Int} {pf : Nat → Option Nat} {pp : Nat → Plc} : ∀ {n}, upQ l ks pf pp n = true → ∀ i, i < n → ins l (ks.getD i 0) = true
  | 0, _, i, hi => by omega
  | n + 1, h, i, hi => by
    have h' : (upQ l ks pf pp n && ((pf n).isSome && (ins l (ks.getD n 0) && pp n l (ks.getD n 0).toNat))) = true := h
    simp only [Bool.and_eq_true] at h'
    by_cases e : i = n
    · subst e; exact h'.2.2.1
    · exact upQ_ins h'.1 i (by omega)
theorem upQ_some {l : List Nd} {ks : List Int} {pf : Nat → Option Nat} {pp : Nat → Plc} : ∀ {n}, upQ l ks pf pp n = true → ∀ i, i < n → (pf i).isSome = true
  | 0, _, i, hi => by omega
  | n + 1, h, i, hi => by
    have h' : (upQ l ks pf pp n && ((pf n).isSome && (ins l (ks.getD n 0) && pp n l (ks.getD n 0).toNat))) = true := h
    simp only [Bool.and_eq_true] at h'
    by_cases e : i = n
    · subst e; exact h'.2.1
    · exact upQ_some h'.1 i (by omega)

set_option maxRecDepth 100000 in
set_option maxHeartbeats 2000000 in
/-- Behind the loop: r.more is nil and a place is left; then all. -/
theorem takesKids_any (x0 x1 x2 x3 x4 x5 : Value) (mo : Option Nat) (ao : Option Nat) (aq : List Nd → List Int → Bool) (am : Nat) (pf : Nat → Option Nat) (pp : Nat → Plc) (W : World) (M : Nat) (v : Value) (l : List Nd) (ks : List Int) (a : Option Addr) (cap : Nat)
    (hN : Nodes W M v l) (hK : KidsAt W M a ks) (hlen : ks.length ≤ 17592186044416) (hcap : ks.length ≤ cap) (hcm : cap ≤ maxLen) (hM : M ≤ W.heap.size)
    (hP : ∀ (i : Nat) (W : World), Calls Tryz.prog 72 #[.agg #[x0, x1, x2, x3, x4, x5, fv mo, fv ao], .int .i64 (i : Int)] W fun e w' => e = .returned (fv (pf i)) ∧ Below W.heap.size W w')
    (hF : ∀ i f, pf i = some f → PlOk f (pp i) ∧ Ent f) (hA : ∀ f, ao = some f → AllOk f am aq ∧ Ent f) (ham : mo = none → pf ks.length = none → (∀ i, i < ks.length → (pf i).isSome = true) → am ≤ ks.length) (ham' : ∀ f, mo = some f → am = 0) :
    Calls Tryz.prog 55 #[.agg #[x0, x1, x2, x3, x4, x5, fv mo, fv ao], v, .slice a ks.length cap] W fun e w' => e = .returned (.bool (upQ l ks pf pp ks.length && (mo.isSome || (pf ks.length).isNone) && (ao.isNone || aq l ks))) ∧ Below W.heap.size W w' := by
  have HN := hide hN
  have HK := hide hK
  have HP := hide hP
  have HF := hide hF
  have HA := hide hA
  have HAM := hide ham
  have HAM' := hide ham'
  obtain ⟨va, vc, rfl, _, _⟩ := hN.len
  have hB0 : Below W.heap.size W (W.alloc (.cells #[x0, x1, x2, x3, x4, x5, fv mo, fv ao] 74)) := (Below.refl _ W).alloc (Nat.le_refl _) _
  have hr0 := World.alloc_heap_new W (.cells #[x0, x1, x2, x3, x4, x5, fv mo, fv ao] 74)
  have hs0 : (W.alloc (.cells #[x0, x1, x2, x3, x4, x5, fv mo, fv ao] 74)).heap.size = W.heap.size + 1 := by simp
  obtain ⟨mv, hmv⟩ : ∃ mv, fv mo = mv := ⟨_, rfl⟩
  obtain ⟨av, hav⟩ : ∃ av, fv ao = av := ⟨_, rfl⟩
  rw [hmv, hav] at hB0 hr0 hs0 HP ⊢
  obtain ⟨W1, hW1⟩ : ∃ W1, W.alloc (.cells #[x0, x1, x2, x3, x4, x5, mv, av] 74) = W1 := ⟨_, rfl⟩
  rw [hW1] at hB0 hr0 hs0
  have HMV := hide hmv
  have HAV := hide hav
  have HR0 := hide hr0
  have HS0 := hide hs0
  clear hN hK hP hF hA ham ham' hmv hav hr0 hs0
  go_enter Tryz.func55, Tryz.ntmps55
  go_wp2
  clear hW1
  go_loopw [12] (fun t wr => ∃ i : Nat, i ≤ ks.length ∧ t = .int .i64 (i : Int) ∧ upQ l ks pf pp i = true ∧ Below (W.heap.size + 1) W1 wr) (fun t _ => ks.length - (intOf t).toNat)
  case atStart => exact ⟨0, Nat.zero_le _, rfl, rfl, Below.refl _ _⟩
  case round =>
    obtain ⟨i, hi, rfl, hu, hB⟩ := hrel
    have HU := hide hu
    have hBW : Below W.heap.size W wr := hB0.trans (hB.mono (by omega))
    obtain ⟨c0, c1, c2, c3, c4, c5, c6, c7⟩ := cells8 ((hB.block W.heap.size (by omega)).trans (unhide HR0))
    have hwl : W.heap.size < wr.heap.size := by have := hB.size; have := unhide HS0; omega
    clear hu
    by_cases hil : i < ks.length
    · have hil' : (i : Int) < ks.length := by omega
      rcases unhide HK with hkk | ⟨kb, ko, rfl, hkb, hkc⟩
      · subst hkk; simp at hil
      have dk := (hBW.cell (p := ⟨kb, ko + i, none⟩) (Nat.lt_of_lt_of_le hkb hM)).trans (hkc i hil)
      obtain ⟨k, hkv⟩ : ∃ k, ks.getD i 0 = k := ⟨_, rfl⟩
      rw [hkv] at dk
      have HKV := hide hkv
      have HIL := hide hil
      have hCP := unhide HP i wr
      have hFi := unhide HF i
      clear hkc hkv
      cases hpf : pf i with
      | none =>
        have HFL : Hid ((upQ l ks pf pp ks.length && (mo.isSome || (pf ks.length).isNone) && (ao.isNone || aq l ks)) = false) := by
          show (_ && _ && _) = false
          rw [upQ_false hil (by rw [hpf]; rfl)]; rfl
        rw [hpf] at hCP
        have HCP := hide hCP
        clear hCP hFi hpf
        go_wp2_with (go_at_call 72; refine (unhide HCP).mono ?_; rintro e w2 ⟨rfl, hB2⟩)
        go_ret
        exact ⟨ret_b (unhide HFL).symm, hBW.trans (hB2.mono hBW.size)⟩
      | some f =>
        obtain ⟨hpl, hent⟩ := hFi f hpf
        have ey' : ∀ args w, (callFunc f args).run Tryz.prog w = .ok (.enter f args) w := hent
        rw [hpf] at hCP
        have HCP := hide hCP
        have HPF := hide hpf
        have HPL := hide hpl
        clear hCP hFi hpf hpl hent
        cases hins : ins l k with
        | false =>
          have HFL : Hid ((upQ l ks pf pp ks.length && (mo.isSome || (pf ks.length).isNone) && (ao.isNone || aq l ks)) = false) := by
            show (_ && _ && _) = false
            rw [upQ_false hil (by rw [unhide HKV, hins]; simp)]; rfl
          go_wp2_with (first | (go_at_call 72; refine (unhide HCP).mono ?_; rintro e w2 ⟨rfl, hB2⟩) | (go_at_call 73; refine (within_ok ((unhide HN).keep (hBW.trans (hB2.mono hBW.size)) hM) _).mono ?_; rintro e w3 ⟨rfl, rfl⟩))
          go_ret
          exact ⟨ret_b (unhide HFL).symm, hBW.trans (hB2.mono hBW.size)⟩
        | true =>
          obtain ⟨hk0, hk1⟩ := ins_iff.1 hins
          have HCL : Hid (∀ w2, Below W.heap.size W w2 → Calls Tryz.prog f #[.slice va l.length vc, .int .i64 k] w2 fun e w' => e = .returned (.bool (pp i l k.toNat)) ∧ Below w2.heap.size w2 w') := fun w2 hw2 => by
            have := unhide HPL w2 M _ l k.toNat ((unhide HN).keep hw2 hM) hk1 (Nat.le_trans hM hw2.size)
            rw [Int.toNat_of_nonneg hk0] at this
            exact this
          have HINS := hide hins
          clear hk0 hk1
          cases hq : pp i l k.toNat with
          | false =>
            have HFL : Hid ((upQ l ks pf pp ks.length && (mo.isSome || (pf ks.length).isNone) && (ao.isNone || aq l ks)) = false) := by
              show (_ && _ && _) = false
              rw [upQ_false hil (by rw [unhide HKV, hq]; simp)]; rfl
            have HQ := hide hq
            clear hq
            go_wp2_with (first | (go_at_call 72; refine (unhide HCP).mono ?_; rintro e w2 ⟨rfl, hB2⟩; have hBW2 := hBW.trans (hB2.mono hBW.size)) | (go_at_call 73; refine (within_ok ((unhide HN).keep hBW2 hM) _).mono ?_; rintro e w3 ⟨rfl, rfl⟩) | (refine (unhide HCL _ hBW2).mono ?_; rintro e w4 ⟨he, hB4⟩; rw [unhide HQ] at he; subst he))
            go_ret
            exact ⟨ret_b (unhide HFL).symm, hBW2.trans (hB4.mono hBW2.size)⟩
          | true =>
            have HUU : Hid (upQ l ks pf pp (i + 1) = true) := by
              show (upQ l ks pf pp i && ((pf i).isSome && (ins l (ks.getD i 0) && pp i l (ks.getD i 0).toNat))) = true
              rw [unhide HU, unhide HKV, unhide HPF, hins, hq]; rfl
            have HQ := hide hq
            clear hq
            go_wp2_with (first | (go_at_call 72; refine (unhide HCP).mono ?_; rintro e w2 ⟨rfl, hB2⟩; have hBW2 := hBW.trans (hB2.mono hBW.size)) | (go_at_call 73; refine (within_ok ((unhide HN).keep hBW2 hM) _).mono ?_; rintro e w3 ⟨rfl, rfl⟩) | (refine (unhide HCL _ hBW2).mono ?_; rintro e w4 ⟨he, hB4⟩; rw [unhide HQ] at he; subst he))
            have z1 := hB2.size
            refine ⟨⟨i + 1, by omega, by go_num, unhide HUU, hB.trans ((hB2.mono (by omega)).trans (hB4.mono (by omega)))⟩, by simp [intOf]; omega⟩
    · have hil' : ¬ (i : Int) < ks.length := by omega
      obtain rfl : i = ks.length := by omega
      have HINS : Hid (∀ k ∈ ks, ins l k = true) := fun k hk => by
        obtain ⟨j, hj⟩ := List.getElem?_of_mem hk
        have hjl := (List.getElem?_eq_some_iff.1 hj).1
        have := upQ_ins (unhide HU) j hjl
        rw [List.getD_eq_getElem?_getD, hj] at this
        exact this
      have HCP := hide (unhide HP ks.length wr)
      cases mo with
      | some fm =>
        obtain rfl := unhide HMV
        have ham := unhide HAM' fm rfl
        have HPN : True := trivial
        cases ao with
        | none =>
          obtain rfl := unhide HAV
          go_wp2
          go_ret
          exact ⟨ret_b (by simp [unhide HU, HPN]), hBW⟩
        | some fa =>
          obtain rfl := unhide HAV
          obtain ⟨hall, hent⟩ := unhide HA fa rfl
          have ey' : ∀ args w, (callFunc fa args).run Tryz.prog w = .ok (.enter fa args) w := hent
          have HAL := hide hall
          clear hall hent
          go_wp2_with (refine (unhide HAL _ M _ l ks a cap ((unhide HN).keep hBW hM) ((unhide HK).keep hBW hM) hlen (by omega) hcap hcm (unhide HINS) (Nat.le_trans hM hBW.size)).mono ?_; rintro e w4 ⟨rfl, hB4⟩)
          go_ret
          exact ⟨ret_b (by simp [unhide HU, HPN]), hBW.trans (hB4.mono hBW.size)⟩
      | none =>
        obtain rfl := unhide HMV
        cases hpl : pf ks.length with
        | some f =>
          have HCP2 := unhide HCP
          rw [hpl] at HCP2
          have HCP := hide HCP2
          clear HCP2
          have HR : Hid ((upQ l ks pf pp ks.length && ((none : Option Nat).isSome || (pf ks.length).isNone) && (ao.isNone || aq l ks)) = false) := by show (_ && _ && _) = false; rw [hpl]; simp
          go_wp2_with (go_at_call 72; refine (unhide HCP).mono ?_; rintro e w2 ⟨rfl, hB2⟩)
          go_ret
          exact ⟨ret_b (unhide HR).symm, hBW.trans (hB2.mono hBW.size)⟩
        | none =>
          have ham := unhide HAM rfl hpl (upQ_some (unhide HU))
          have HPN0 := hide hpl
          have HCP2 := unhide HCP
          rw [hpl] at HCP2
          have HCP := hide HCP2
          clear HCP2 hpl
          cases ao with
          | none =>
            obtain rfl := unhide HAV
            go_wp2_with (go_at_call 72; refine (unhide HCP).mono ?_; rintro e w2 ⟨rfl, hB2⟩; have d7 := (hB2.cell (p := ⟨W.heap.size, 7, none⟩) hwl).trans c7)
            go_ret
            exact ⟨ret_b (by simp [unhide HU, unhide HPN0]), hBW.trans (hB2.mono hBW.size)⟩
          | some fa =>
            obtain rfl := unhide HAV
            obtain ⟨hall, hent⟩ := unhide HA fa rfl
            have ey' : ∀ args w, (callFunc fa args).run Tryz.prog w = .ok (.enter fa args) w := hent
            have HAL := hide hall
            clear hall hent
            go_wp2_with (first | (go_at_call 72; refine (unhide HCP).mono ?_; rintro e w2 ⟨rfl, hB2⟩; have hBW2 := hBW.trans (hB2.mono hBW.size); have d7 := (hB2.cell (p := ⟨W.heap.size, 7, none⟩) hwl).trans c7) | (refine (unhide HAL _ M _ l ks a cap ((unhide HN).keep hBW2 hM) ((unhide HK).keep hBW2 hM) hlen ham hcap hcm (unhide HINS) (Nat.le_trans hM hBW2.size)).mono ?_; rintro e w4 ⟨rfl, hB4⟩))
            go_ret
            exact ⟨ret_b (by simp [unhide HU, unhide HPN0]), hBW2.trans (hB4.mono hBW2.size)⟩
end Go.Proofs.YtnnpkomedpjlcaaGreatDoor
