/- The law HeapKeeps, walked: texts of no more than 1048576 bytes in all. -/
import Derived.LoopTactic
import Derived.LoopN
import Derived.Deep.RegionHeld3
import Derived.Test.YtojbkohgngnlaaaDoorHQ
import Derived.Test.YtojbkohgngnlaaaDoorHN
namespace Go.Proofs.YtojbkohgngnlaaaDoor
set_option linter.unusedSimpArgs false
set_option linter.unusedVariables false
set_option maxRecDepth 100000
set_option maxHeartbeats 4000000
open Go.RowKit Go.Shelf

/-- A row of texts that came in. -/
def StrsAt (W : World) (a : Option Addr) (n : Nat) (ss : List ByteArray) : Prop := ss.length = n ∧ ∀ k s, ss[k]? = some s → ∃ ad, a = some ad ∧ ad.block < W.heap.size ∧ W.cell? (ad.add k) = some (.string s)
def sumN (ss : List ByteArray) : Nat := (ss.map (·.size)).sum
theorem sum_step (ss : List ByteArray) (i : Nat) (s : ByteArray) (h : ss[i]? = some s) : sumN (ss.take (i + 1)) = sumN (ss.take i) + s.size := by
  have : ss.take (i + 1) = ss.take i ++ [s] := by rw [List.take_add_one, h]; rfl
  simp [sumN, this]
theorem sum_app (a b : List ByteArray) : sumN (a ++ b) = sumN a + sumN b := by simp [sumN]
theorem sum_take (ss : List ByteArray) (i : Nat) : sumN (ss.take i) ≤ sumN ss := by
  have h : sumN ss = sumN (ss.take i) + sumN (ss.drop i) := by rw [← sum_app, List.take_append_drop]
  omega
theorem sum_mem (ss : List ByteArray) (i : Nat) (s : ByteArray) (h : ss[i]? = some s) : s.size ≤ sumN ss := by
  have h1 := sum_step ss i s h
  have h2 := sum_take ss (i + 1)
  omega
theorem NewMax (W : World) : ∃ w1, Calls Tryd.prog 6 #[.int .i64 1048576] W (fun e w' => e = .returned (.tuple #[ptr W.heap.size, .int .i64 0]) ∧ w' = w1) ∧ HAt w1 (newLy W.heap.size) W.heap.size ⟨1048576, 0, []⟩ ∧ Below W.heap.size W w1 ∧ (∀ k, k < W.heap.size → (newLy W.heap.size).L k = 0) :=
  ⟨_, New_ok 1048576 (by decide) W, new_at W 1048576 (by decide), below_one _ _, fun k hk => by simp [newLy]; omega⟩
theorem keeps_big (a : Option Addr) (n c : Nat) (b : Option Addr) (n2 c2 : Nat) (h : 60 < n) : Ret 3 #[.slice a n c, .slice b n2 c2] (.bool true) := by
  intro W
  obtain ⟨w1, hn, _, hb1, _⟩ := NewMax W
  have HN := hide hn
  have HB := hide hb1
  have HK := hide known_any
  have h2 : (60 : Int) < n := by omega
  unfold ptr at HN
  clear hn hb1
  go_enter Tryd.func3, Tryd.ntmps3
  go_wp2_with (first
    | (go_at_call 6; refine (unhide HN).mono ?_; rintro e w1' ⟨rfl, hw⟩; have hw' := hw.symm; subst hw'; clear hw)
    | (go_at_call 7; refine (unhide HK _).mono ?_; rintro e w2 ⟨rfl, hb2⟩; have HB2 := hide (Below.up (unhide HB) hb2); clear hb2))
  go_ret
  exact ⟨rfl, unhide HB2⟩
/-- Set, Get, Has of the three objects. -/
theorem K_set {A : World} {l : Ly} {hb : Nat} {S : List (ByteArray × PV)} (h : HAt A l hb (KH S)) (hl : S.length ≤ 60) (key : ByteArray) (hk : key.size ≤ 1048576) (m : Int) (hm : clampN m = m) : Calls Tryd.prog 9 #[ptr hb, .agg (Vc 5 0 ⟨#[]⟩), .string key, .agg (Vc 3 m ⟨#[]⟩)] A fun e w' => e = .returned (.tuple #[.string ⟨#[]⟩, .int .i64 0]) ∧ ∃ l', HAt w' l' hb (KH (put S key ⟨3, m, ByteArray.empty⟩)) ∧ St l.L l'.L A w' := by
  have e1 : stl (KH S) ⟨3, m, ⟨#[]⟩⟩ = ⟨3, m, ByteArray.empty⟩ := by simp [stl, hm]
  cases hh : (look S key).isSome with
  | true =>
    have := Set_old h 0 (KT S) rfl (by simp [KT]) key (by omega) ⟨#[]⟩ ⟨3, m, ⟨#[]⟩⟩ (Nat.zero_le _) hh
    rw [e1, KH_old S key _ hh] at this
    refine this.mono ?_
    rintro e w' ⟨rfl, l', q1, q2, _⟩
    exact ⟨rfl, l', q1, q2⟩
  | false =>
    have := Set_new h 0 (KT S) rfl (by simp [KT]) key (by omega) ⟨#[]⟩ ⟨3, m, ⟨#[]⟩⟩ (Nat.zero_le _) hh (KH_cells S) (by show 3 + S.length < 1048576; omega)
    rw [e1, KH_new S key _ hh] at this
    refine this.mono ?_
    rintro e w' ⟨rfl, l', q1, q2, _⟩
    exact ⟨rfl, l', q1, q2⟩
theorem K_get {A : World} {l : Ly} {hb : Nat} {S : List (ByteArray × PV)} (h : HAt A l hb (KH S)) (key : ByteArray) (hk : key.size ≤ 1048576) (m : Int) (hm : look S key = some ⟨3, m, ByteArray.empty⟩) (i : Nat) (hi : i = 0 ∨ i = 1) : Calls Tryd.prog 10 #[ptr hb, .agg (Vc 5 i ⟨#[]⟩), .string key] A fun e w' => e = .returned (Tr 3 m ByteArray.empty ⟨#[]⟩ 0) ∧ Below A.heap.size A w' := by
  rcases hi with rfl | rfl
  · exact Get_1 h 0 (KT S) rfl rfl key (by unfold maxLen; omega) 3 m ByteArray.empty true (by rw [KH_fa, hm]; rfl) (by rw [KH_fa, hm]; rfl) (by decide) ⟨#[]⟩
  · exact Get_1 h 1 ⟨1, some 0, [], []⟩ rfl rfl key (by unfold maxLen; omega) 3 m ByteArray.empty true (by rw [KH_fb, hm]; rfl) (by rw [KH_fb, hm]; rfl) (by decide) ⟨#[]⟩
theorem K_has {A : World} {l : Ly} {hb : Nat} {S : List (ByteArray × PV)} (h : HAt A l hb (KH S)) (key : ByteArray) (hk : key.size ≤ 1048576) : Calls Tryd.prog 11 #[ptr hb, .agg (Vc 5 2 ⟨#[]⟩), .string key] A fun e w' => e = .returned (.tuple #[.bool false, .string ⟨#[]⟩, .int .i64 0]) ∧ Below A.heap.size A w' :=
  Has_1 h 2 ⟨1, none, [], []⟩ rfl rfl key (by unfold maxLen; omega) false (by rw [KH_fc]; rfl) ⟨#[]⟩
theorem clamp_k (m : Int) (h1 : -1000 ≤ m) (h2 : m ≤ 1000) : clampN m = m := by unfold clampN; rw [if_neg (by omega), if_neg (by omega)]
theorem tmod_k (z : Int) : -1000 ≤ z.tmod 1000 ∧ z.tmod 1000 ≤ 1000 := by
  have h1 := Int.tmod_lt_of_pos z (show (0 : Int) < 1000 by decide)
  have h2 := Int.tmod_lt_of_pos (-z) (show (0 : Int) < 1000 by decide)
  rw [Int.neg_tmod] at h2
  omega
theorem keeps_main (W : World) (a : Option Addr) (n c : Nat) (b : Option Addr) (n2 c2 : Nat) (ss : List ByteArray) (hS : StrsAt W a n ss) (hI : IntsAt W b n2) (h60 : n ≤ 60) (hsum : sumN ss ≤ 1048576) : Calls Tryd.prog 3 #[.slice a n c, .slice b n2 c2] W fun e w' => e = .returned (.bool true) ∧ Below W.heap.size W w' := by
  obtain ⟨hz2, zs, hzl, hzs⟩ := hI
  obtain ⟨hsl, hss⟩ := hS
  subst hzl hsl
  obtain ⟨w1, hn, hh1, hb1, hl1⟩ := NewMax W
  have HN := hide hn
  have HB := hide hb1
  have HL := hide hl1
  have HK := hide known_any
  have HZ := hide hzs
  have HSS := hide hss
  have HSUM := hide hsum
  have HHH := hide hh1
  have HM0 : Hid (Calls Tryd.prog 8 #[.pointer (some ⟨W.heap.size, 0, none⟩), .int .i64 1, .int .i64 (-1)] w1 fun e w' => e = .returned (.tuple #[.int .i64 0, .int .i64 0]) ∧ ∃ l', HAt w' l' W.heap.size ⟨1048576, 1, [⟨1, none, [], []⟩]⟩ ∧ St (newLy W.heap.size).L l'.L w1 w') := by
    have := Make_ok hh1 (by decide) (by decide) 1 (-1)
    rw [KH_make0] at this
    exact this
  have HM1 : Hid (∀ A l, HAt A l W.heap.size ⟨1048576, 1, [⟨1, none, [], []⟩]⟩ → Calls Tryd.prog 8 #[.pointer (some ⟨W.heap.size, 0, none⟩), .int .i64 1, .int .i64 0] A fun e w' => e = .returned (.tuple #[.int .i64 1, .int .i64 0]) ∧ ∃ l', HAt w' l' W.heap.size ⟨1048576, 2, [⟨1, none, [], []⟩, ⟨1, some 0, [], []⟩]⟩ ∧ St l.L l'.L A w') := fun A l h => by
    have := Make_ok h (by decide) (by decide) 1 0
    rw [KH_make1] at this
    exact this
  have HM2 : Hid (∀ A l, HAt A l W.heap.size ⟨1048576, 2, [⟨1, none, [], []⟩, ⟨1, some 0, [], []⟩]⟩ → Calls Tryd.prog 8 #[.pointer (some ⟨W.heap.size, 0, none⟩), .int .i64 1, .int .i64 (-1)] A fun e w' => e = .returned (.tuple #[.int .i64 2, .int .i64 0]) ∧ ∃ l', HAt w' l' W.heap.size (KH []) ∧ St l.L l'.L A w') := fun A l h => by
    have := Make_ok h (by decide) (by decide) 1 (-1)
    rw [KH_make2] at this
    exact this
  unfold ptr at HN
  clear hn hh1 hb1 hl1 hzs hss hsum
  have hN2 : ¬ ((60 : Int) < ss.length) := by omega
  go_enter Tryd.func3, Tryd.ntmps3
  go_wp2_with (first
    | (go_at_call 6; refine (unhide HN).mono ?_; rintro e w1' ⟨rfl, hw⟩; have hw' := hw.symm; subst hw'; clear hw)
    | (go_at_call 8; refine (unhide HM2 w3 l3 (unhide H3)).mono ?_; rintro e w4 ⟨rfl, l4, h4, s4⟩; have H4 := hide h4; have S4 := hide ((unhide S3).trans s4); clear h4 s4)
    | (go_at_call 8; refine (unhide HM1 w2 l2 (unhide H2)).mono ?_; rintro e w3 ⟨rfl, l3, h3, s3⟩; have H3 := hide h3; have S3 := hide ((unhide S2).trans s3); clear h3 s3)
    | (go_at_call 8; refine (unhide HM0).mono ?_; rintro e w2 ⟨rfl, l2, h2, s2⟩; have H2 := hide h2; have S2 := hide s2; clear h2 s2))
  have hb4 : Below W.heap.size W w4 := (unhide HB).trans ((unhide S4).below (unhide HB).size (unhide HL))
  have hl4 : ∀ k, k < W.heap.size → l4.L k = 0 := fun k hk => ((unhide S4).ext k (Nat.lt_of_lt_of_le hk (unhide HB).size)).trans (unhide HL k hk)
  have HB4 := hide hb4
  have HL4 := hide hl4
  clear hb4 hl4
  go_loopw [13, 14] (fun s t wr => ∃ i : Nat, i ≤ ss.length ∧ s = .int .i64 (sumN (ss.take i)) ∧ t = .int .i64 i ∧ wr = w4) (fun _ t _ => ss.length - (intOf t).toNat)
  case atStart => exact ⟨0, Nat.zero_le _, rfl, rfl, rfl⟩
  case round =>
    obtain ⟨i, hi, rfl, rfl, rfl⟩ := hrel
    by_cases hlt : i < ss.length
    · have hlt' : (i : Int) < ss.length := by omega
      obtain ⟨s, hs⟩ : ∃ s, ss[i]? = some s := ⟨_, List.getElem?_eq_getElem hlt⟩
      obtain ⟨ad, rfl, hal, hcell⟩ := unhide HSS i s hs
      have hab : (ad.add i).block = ad.block := by unfold Addr.add; split <;> rfl
      have hc := ((unhide HB4).cell (p := ad.add i) (by rw [hab]; exact hal)).trans hcell
      have hst := sum_step ss i s hs
      have htk := sum_take ss (i + 1)
      have hsu := unhide HSUM
      have hb1 : (sumN (ss.take i) : Int) ≤ 1048576 := by omega
      have hb2 : (s.size : Int) ≤ 1048576 := by omega
      have HST := hide hst
      clear hs hcell hst htk hsu
      go_wp2
      refine ⟨⟨i + 1, by omega, ?_, by congr 1, by trivial⟩, by simp [intOf]; omega⟩
      rw [unhide HST]; congr 1
    · have e : i = ss.length := by omega
      subst e
      have htl : sumN (ss.take ss.length) = sumN ss := by rw [List.take_length]
      rw [htl]
      clear hlt htl
      by_cases h8 : 8000 < sumN ss
      · have h8' : (8000 : Int) < sumN ss := by omega
        go_wp2_with (go_at_call 7; refine (unhide HK _).mono ?_; rintro e w5 ⟨rfl, hb5⟩; have HB5 := hide ((unhide HB4).trans (hb5.mono (unhide HB4).size)); clear hb5)
        go_ret
        exact ⟨rfl, unhide HB5⟩
      · have h8' : ¬ ((8000 : Int) < sumN ss) := by omega
        go_wp2
        go_loopw [15] (fun t wr => ∃ i : Nat, i ≤ ss.length ∧ t = .int .i64 i ∧ ∃ l S, HAt wr l W.heap.size (KH S) ∧ Below W.heap.size W wr ∧ (∀ k, k < W.heap.size → l.L k = 0) ∧ S.length ≤ i) (fun t _ => ss.length - (intOf t).toNat)
        case atStart => exact ⟨0, Nat.zero_le _, rfl, l4, [], unhide H4, unhide HB4, unhide HL4, Nat.le_refl _⟩
        case round =>
          obtain ⟨i, hi, rfl, l, S, h, hbel, hlab, hSl⟩ := hrel
          by_cases hlt : i < ss.length
          · have hlt' : (i : Int) < ss.length := by omega
            obtain ⟨s, hs⟩ : ∃ s, ss[i]? = some s := ⟨_, List.getElem?_eq_getElem hlt⟩
            obtain ⟨ad, rfl, hal, hcell⟩ := unhide HSS i s hs
            have hab : (ad.add i).block = ad.block := by unfold Addr.add; split <;> rfl
            have hssz : s.size ≤ 1048576 := Nat.le_trans (sum_mem ss i s hs) (unhide HSUM)
            have HCK := hide (fun w' (hb : Below W.heap.size W w') => (hb.cell (p := ad.add i) (by rw [hab]; exact hal)).trans hcell)
            obtain ⟨w5, hw5, ⟨na, nb, nc, o0, o1, o2⟩, hx5, hb5, hz5⟩ := new3 wr (.int .i64 0) (.int .i64 0) (.string ⟨#[]⟩) 32
            obtain ⟨w6, hw6, e1, e2, e3, e4⟩ := over w5 wr.heap.size 0 0 3 i ⟨#[]⟩ ⟨#[]⟩ (show Bv w5 wr.heap.size 0 0 ⟨#[]⟩ from hx5)
            obtain ⟨q0, q1, q2, f0, f1, f2, _⟩ := e1.all
            have hb6 := e2 _ _ hb5 (Nat.le_refl _)
            have X6 := hide e1
            have HB6 := hide hb6
            have HH := hide h
            have HBE := hide hbel
            have HLA := hide hlab
            clear hs hcell hx5 hb5 hz5 e1 e2 e3 e4 hb6 h hbel hlab
            by_cases hiv : i < zs.length
            · have hiv' : (i : Int) < zs.length := by omega
              obtain ⟨z, hz⟩ : ∃ z, zs[i]? = some z := ⟨_, List.getElem?_eq_getElem hiv⟩
              obtain ⟨z1, z2, ad2, rfl, hal2, hcell2⟩ := unhide HZ i z hz
              have hab2 : (ad2.add i).block = ad2.block := by unfold Addr.add; split <;> rfl
              have hc2 := (((unhide HBE).trans ((unhide HB6).mono (unhide HBE).size)).cell (p := ad2.add i) (by rw [hab2]; exact hal2)).trans hcell2
              obtain ⟨m, hm⟩ : ∃ m, z.tmod 1000 = m := ⟨_, rfl⟩
              have hmr := tmod_k z
              rw [hm] at hmr
              obtain ⟨w7, hw7, x7, hb7⟩ : ∃ w7, w6.setCell ⟨wr.heap.size, 1, none⟩ (.int .i64 m) = w7 ∧ Bv w7 wr.heap.size 3 m ⟨#[]⟩ ∧ Below wr.heap.size wr w7 := ⟨_, rfl, (show Bx _ wr.heap.size (Vc 3 m ⟨#[]⟩) 32 from by simpa [Vc] using Bx.set (unhide X6) (i := 1) (.int .i64 m)), (unhide HB6).setCell (Nat.le_refl _) _⟩
              clear hz hcell2
              go_wp2
              have HV : Hid (Inv W W.heap.size wr.heap.size (Vc 3 m ⟨#[]⟩) w7 l (KH S)) := ⟨(unhide HH).below hb7, (unhide HBE).trans (hb7.mono (unhide HBE).size), unhide HLA, x7, (unhide HH).fresh _ (Nat.le_refl _)⟩
              have hcm := clamp_k m hmr.1 hmr.2
              have hlk := look_put_same S s ⟨3, m, ByteArray.empty⟩
              have hpl := put_len_le S s ⟨3, m, ByteArray.empty⟩
              obtain ⟨S', hS'⟩ : ∃ S', put S s ⟨3, m, ByteArray.empty⟩ = S' := ⟨_, rfl⟩
              rw [hS'] at hlk hpl
              have HSET : Hid (Calls Tryd.prog 9 #[.pointer (some ⟨W.heap.size, 0, none⟩), .agg #[.int .i64 5, .int .i64 0, .string ⟨#[]⟩], .string s, .agg #[.int .i64 3, .int .i64 m, .string ⟨#[]⟩]] w7.drew fun e w' => e = .returned (.tuple #[.string ⟨#[]⟩, .int .i64 0]) ∧ ∃ l', Inv W W.heap.size wr.heap.size (Vc 3 m ⟨#[]⟩) w' l' (KH S')) := by
                have hd : Below w7.heap.size w7 w7.drew := (Below.refl _ _).drew
                have := K_set ((unhide HV).below hd).h (by omega) s hssz m hcm
                rw [hS'] at this
                refine this.mono ?_
                rintro e w' ⟨rfl, l', q1, q2⟩
                exact ⟨rfl, l', ((unhide HV).below hd).step q1 q2⟩
              have HG : Hid (∀ (A : World) (l : Ly) (j : Nat), (j = 0 ∨ j = 1) → HAt A l W.heap.size (KH S') → Calls Tryd.prog 10 #[.pointer (some ⟨W.heap.size, 0, none⟩), .agg #[.int .i64 5, .int .i64 j, .string ⟨#[]⟩], .string s] A fun e w' => e = .returned (.tuple #[.agg #[.int .i64 3, .int .i64 m, .string ByteArray.empty], .string ⟨#[]⟩, .int .i64 0]) ∧ Below A.heap.size A w') := fun A l j hj h => K_get h s hssz m hlk j hj
              have HHA : Hid (∀ (A : World) (l : Ly), HAt A l W.heap.size (KH S') → Calls Tryd.prog 11 #[.pointer (some ⟨W.heap.size, 0, none⟩), .agg #[.int .i64 5, .int .i64 2, .string ⟨#[]⟩], .string s] A fun e w' => e = .returned (.tuple #[.bool false, .string ⟨#[]⟩, .int .i64 0]) ∧ Below A.heap.size A w') := fun A l h => K_has h s hssz
              have HPL := hide hpl
              have HSLL := hide hSl
              have HC7 : Hid (∀ A l H, Inv W W.heap.size wr.heap.size (Vc 3 m ⟨#[]⟩) A l H → A.cell? (ad.add i) = some (.string s) ∧ A.cell? ⟨wr.heap.size, 0, none⟩ = some (.int .i64 3) ∧ A.cell? ⟨wr.heap.size, 1, none⟩ = some (.int .i64 m) ∧ A.cell? ⟨wr.heap.size, 2, none⟩ = some (.string ⟨#[]⟩)) := fun A l H hv => ⟨unhide HCK A hv.bel, Bx.cell hv.ref 0 rfl, Bx.cell hv.ref 1 rfl, Bx.cell hv.ref 2 rfl⟩
              obtain ⟨j0, j1, j2, j3⟩ := unhide HC7 _ _ _ (unhide HV)
              clear x7 hb7 hcm hlk hpl hS' hSl hmr hm
              go_region_held3 (fun A => A.cell? (ad.add i) = some (.string s) ∧ A.cell? ⟨wr.heap.size, 0, none⟩ = some (.int .i64 3) ∧ A.cell? ⟨wr.heap.size, 1, none⟩ = some (.int .i64 m) ∧ A.cell? ⟨wr.heap.size, 2, none⟩ = some (.string ⟨#[]⟩))
                (with_reducible first
                  | assumption
                  | exact unhide HC7 _ _ _ ((unhide HV).below (Below.refl _ _).drew)
                  | exact unhide HC7 _ _ _ (unhide HV)
                  | exact unhide HC7 _ _ _ (unhide HV8))
                ((go_at_call 9
                  refine (unhide HSET).mono ?_
                  rintro e w8 ⟨rfl, l8, h8⟩
                  have HV8 := hide h8
                  clear h8))
              all_goals (
                clear j0 j1 j2 j3
                obtain ⟨j0, j1, j2, j3⟩ := unhide HC7 _ _ _ (unhide HV8)
                go_wp2_with (first
                  | (go_at_call 11
                     refine (unhide HHA w14 l8 (unhide HV14).h).mono ?_
                     rintro e w15 ⟨rfl, hb15⟩
                     have HV15 := hide ((unhide HV14).below hb15)
                     obtain ⟨_, r1, r2, r3⟩ := unhide HC7 _ _ _ (unhide HV15)
                     obtain ⟨u0, u1, u2, _, _, _, _⟩ := ((unhide X19).below hb15 (Bx.lt (unhide X19))).all
                     obtain ⟨v0, v1, v2, _, _, _, _⟩ := ((unhide X22).below hb15 (Bx.lt (unhide X22))).all
                     clear hb15)
                  | (go_at_call 10
                     refine (unhide HG w11 l8 1 (.inr rfl) (unhide HV11).h).mono ?_
                     rintro e w12 ⟨rfl, hb12⟩
                     obtain ⟨w13, hw13, ⟨ca, cb, cc, d0, d1, d2⟩, hx13, hb13, hz13⟩ := new3 w12 (.int .i64 0) (.int .i64 0) (.string ⟨#[]⟩) 32
                     obtain ⟨w14, hw14, g1, g2, g3, g4⟩ := over w13 w12.heap.size 0 0 3 m ⟨#[]⟩ ByteArray.empty (show Bv w13 w12.heap.size 0 0 ⟨#[]⟩ from hx13)
                     have X22 := hide g1
                     have hb14 := Below.up hb12 (g2 _ _ hb13 (Nat.le_refl _))
                     have HV14 := hide ((unhide HV11).below hb14)
                     have X19 := hide ((unhide X19).below hb14 (Bx.lt (unhide X19)))
                     obtain ⟨k0, _, _, _⟩ := unhide HC7 _ _ _ (unhide HV14)
                     clear hb12 hx13 hb13 hz13 g1 g2 g3 g4 hb14)
                  | (go_at_call 10
                     refine (unhide HG w8 l8 0 (.inl rfl) (unhide HV8).h).mono ?_
                     rintro e w9 ⟨rfl, hb9⟩
                     obtain ⟨w10, hw10, ⟨aa, ab, ac, b0, b1, b2⟩, hx10, hb10, hz10⟩ := new3 w9 (.int .i64 0) (.int .i64 0) (.string ⟨#[]⟩) 32
                     obtain ⟨w11, hw11, e1, e2, e3, e4⟩ := over w10 w9.heap.size 0 0 3 m ⟨#[]⟩ ByteArray.empty (show Bv w10 w9.heap.size 0 0 ⟨#[]⟩ from hx10)
                     have X19 := hide e1
                     have HV11 := hide ((unhide HV8).below (Below.up hb9 (e2 _ _ hb10 (Nat.le_refl _))))
                     obtain ⟨i0, _, _, _⟩ := unhide HC7 _ _ _ (unhide HV11)
                     clear hb9 hx10 hb10 hz10 e1 e2 e3 e4))
                exact ⟨⟨i + 1, by omega, by congr 1, l8, S', (unhide HV15).h, (unhide HV15).bel, (unhide HV15).lab, by have := unhide HPL; have := unhide HSLL; omega⟩, by simp [intOf]; omega⟩)
            · have hiv' : ¬ ((i : Int) < zs.length) := by omega
              have hmr : -1000 ≤ (i : Int) ∧ (i : Int) ≤ 1000 := by omega
              have x7 := unhide X6
              have hb7 := unhide HB6
              go_wp2
              have HV : Hid (Inv W W.heap.size wr.heap.size (Vc 3 (i : Int) ⟨#[]⟩) w6 l (KH S)) := ⟨(unhide HH).below hb7, (unhide HBE).trans (hb7.mono (unhide HBE).size), unhide HLA, x7, (unhide HH).fresh _ (Nat.le_refl _)⟩
              have hcm := clamp_k (i : Int) hmr.1 hmr.2
              have hlk := look_put_same S s ⟨3, (i : Int), ByteArray.empty⟩
              have hpl := put_len_le S s ⟨3, (i : Int), ByteArray.empty⟩
              obtain ⟨S', hS'⟩ : ∃ S', put S s ⟨3, (i : Int), ByteArray.empty⟩ = S' := ⟨_, rfl⟩
              rw [hS'] at hlk hpl
              have HSET : Hid (Calls Tryd.prog 9 #[.pointer (some ⟨W.heap.size, 0, none⟩), .agg #[.int .i64 5, .int .i64 0, .string ⟨#[]⟩], .string s, .agg #[.int .i64 3, .int .i64 (i : Int), .string ⟨#[]⟩]] w6.drew fun e w' => e = .returned (.tuple #[.string ⟨#[]⟩, .int .i64 0]) ∧ ∃ l', Inv W W.heap.size wr.heap.size (Vc 3 (i : Int) ⟨#[]⟩) w' l' (KH S')) := by
                have hd : Below w6.heap.size w6 w6.drew := (Below.refl _ _).drew
                have := K_set ((unhide HV).below hd).h (by omega) s hssz (i : Int) hcm
                rw [hS'] at this
                refine this.mono ?_
                rintro e w' ⟨rfl, l', q1, q2⟩
                exact ⟨rfl, l', ((unhide HV).below hd).step q1 q2⟩
              have HG : Hid (∀ (A : World) (l : Ly) (j : Nat), (j = 0 ∨ j = 1) → HAt A l W.heap.size (KH S') → Calls Tryd.prog 10 #[.pointer (some ⟨W.heap.size, 0, none⟩), .agg #[.int .i64 5, .int .i64 j, .string ⟨#[]⟩], .string s] A fun e w' => e = .returned (.tuple #[.agg #[.int .i64 3, .int .i64 (i : Int), .string ByteArray.empty], .string ⟨#[]⟩, .int .i64 0]) ∧ Below A.heap.size A w') := fun A l j hj h => K_get h s hssz (i : Int) hlk j hj
              have HHA : Hid (∀ (A : World) (l : Ly), HAt A l W.heap.size (KH S') → Calls Tryd.prog 11 #[.pointer (some ⟨W.heap.size, 0, none⟩), .agg #[.int .i64 5, .int .i64 2, .string ⟨#[]⟩], .string s] A fun e w' => e = .returned (.tuple #[.bool false, .string ⟨#[]⟩, .int .i64 0]) ∧ Below A.heap.size A w') := fun A l h => K_has h s hssz
              have HPL := hide hpl
              have HSLL := hide hSl
              have HC7 : Hid (∀ A l H, Inv W W.heap.size wr.heap.size (Vc 3 (i : Int) ⟨#[]⟩) A l H → A.cell? (ad.add i) = some (.string s) ∧ A.cell? ⟨wr.heap.size, 0, none⟩ = some (.int .i64 3) ∧ A.cell? ⟨wr.heap.size, 1, none⟩ = some (.int .i64 (i : Int)) ∧ A.cell? ⟨wr.heap.size, 2, none⟩ = some (.string ⟨#[]⟩)) := fun A l H hv => ⟨unhide HCK A hv.bel, Bx.cell hv.ref 0 rfl, Bx.cell hv.ref 1 rfl, Bx.cell hv.ref 2 rfl⟩
              obtain ⟨j0, j1, j2, j3⟩ := unhide HC7 _ _ _ (unhide HV)
              clear x7 hb7 hcm hlk hpl hS' hSl hmr
              go_region_held3 (fun A => A.cell? (ad.add i) = some (.string s) ∧ A.cell? ⟨wr.heap.size, 0, none⟩ = some (.int .i64 3) ∧ A.cell? ⟨wr.heap.size, 1, none⟩ = some (.int .i64 (i : Int)) ∧ A.cell? ⟨wr.heap.size, 2, none⟩ = some (.string ⟨#[]⟩))
                (with_reducible first
                  | assumption
                  | exact unhide HC7 _ _ _ ((unhide HV).below (Below.refl _ _).drew)
                  | exact unhide HC7 _ _ _ (unhide HV)
                  | exact unhide HC7 _ _ _ (unhide HV8))
                ((go_at_call 9
                  refine (unhide HSET).mono ?_
                  rintro e w8 ⟨rfl, l8, h8⟩
                  have HV8 := hide h8
                  clear h8))
              all_goals (
                clear j0 j1 j2 j3
                obtain ⟨j0, j1, j2, j3⟩ := unhide HC7 _ _ _ (unhide HV8)
                go_wp2_with (first
                  | (go_at_call 11
                     refine (unhide HHA w14 l8 (unhide HV14).h).mono ?_
                     rintro e w15 ⟨rfl, hb15⟩
                     have HV15 := hide ((unhide HV14).below hb15)
                     obtain ⟨_, r1, r2, r3⟩ := unhide HC7 _ _ _ (unhide HV15)
                     obtain ⟨u0, u1, u2, _, _, _, _⟩ := ((unhide X19).below hb15 (Bx.lt (unhide X19))).all
                     obtain ⟨v0, v1, v2, _, _, _, _⟩ := ((unhide X22).below hb15 (Bx.lt (unhide X22))).all
                     clear hb15)
                  | (go_at_call 10
                     refine (unhide HG w11 l8 1 (.inr rfl) (unhide HV11).h).mono ?_
                     rintro e w12 ⟨rfl, hb12⟩
                     obtain ⟨w13, hw13, ⟨ca, cb, cc, d0, d1, d2⟩, hx13, hb13, hz13⟩ := new3 w12 (.int .i64 0) (.int .i64 0) (.string ⟨#[]⟩) 32
                     obtain ⟨w14, hw14, g1, g2, g3, g4⟩ := over w13 w12.heap.size 0 0 3 (i : Int) ⟨#[]⟩ ByteArray.empty (show Bv w13 w12.heap.size 0 0 ⟨#[]⟩ from hx13)
                     have X22 := hide g1
                     have hb14 := Below.up hb12 (g2 _ _ hb13 (Nat.le_refl _))
                     have HV14 := hide ((unhide HV11).below hb14)
                     have X19 := hide ((unhide X19).below hb14 (Bx.lt (unhide X19)))
                     obtain ⟨k0, _, _, _⟩ := unhide HC7 _ _ _ (unhide HV14)
                     clear hb12 hx13 hb13 hz13 g1 g2 g3 g4 hb14)
                  | (go_at_call 10
                     refine (unhide HG w8 l8 0 (.inl rfl) (unhide HV8).h).mono ?_
                     rintro e w9 ⟨rfl, hb9⟩
                     obtain ⟨w10, hw10, ⟨aa, ab, ac, b0, b1, b2⟩, hx10, hb10, hz10⟩ := new3 w9 (.int .i64 0) (.int .i64 0) (.string ⟨#[]⟩) 32
                     obtain ⟨w11, hw11, e1, e2, e3, e4⟩ := over w10 w9.heap.size 0 0 3 (i : Int) ⟨#[]⟩ ByteArray.empty (show Bv w10 w9.heap.size 0 0 ⟨#[]⟩ from hx10)
                     have X19 := hide e1
                     have HV11 := hide ((unhide HV8).below (Below.up hb9 (e2 _ _ hb10 (Nat.le_refl _))))
                     obtain ⟨i0, _, _, _⟩ := unhide HC7 _ _ _ (unhide HV11)
                     clear hb9 hx10 hb10 hz10 e1 e2 e3 e4))
                exact ⟨⟨i + 1, by omega, by congr 1, l8, S', (unhide HV15).h, (unhide HV15).bel, (unhide HV15).lab, by have := unhide HPL; have := unhide HSLL; omega⟩, by simp [intOf]; omega⟩)
          · have e : i = ss.length := by omega
            subst e
            have HBE := hide hbel
            clear hlt h hbel hlab hSl
            go_wp2_with (go_at_call 7; refine (unhide HK _).mono ?_; rintro e w5 ⟨rfl, hb5⟩; have HB5 := hide ((unhide HBE).trans (hb5.mono (unhide HBE).size)); clear hb5)
            go_ret
            exact ⟨rfl, unhide HB5⟩
theorem heapKeeps_any (a : Option Addr) (n c : Nat) (b : Option Addr) (n2 c2 : Nat) (W : World) (ss : List ByteArray) (hS : StrsAt W a n ss) (hI : IntsAt W b n2) (hsum : sumN ss ≤ 1048576) : Calls Tryd.prog 3 #[.slice a n c, .slice b n2 c2] W fun e w' => e = .returned (.bool true) ∧ Below W.heap.size W w' := by
  by_cases h : 60 < n
  · exact keeps_big a n c b n2 c2 h W
  · exact keeps_main W a n c b n2 c2 ss hS hI (by omega) hsum
end Go.Proofs.YtojbkohgngnlaaaDoor
