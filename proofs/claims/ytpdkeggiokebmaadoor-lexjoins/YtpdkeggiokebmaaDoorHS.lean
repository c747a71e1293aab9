/- Merged: LJ. -/
import Derived.BigQuiet
import Derived.Deep.QuietTactic
import Derived.LoopN
import Derived.WalkMore
import Derived.Test.YtpdkeggiokebmaaDoorHQ
/- LexJoins: the walk. -/
namespace Go.Proofs.YtpdkeggiokebmaaDoor
set_option linter.unusedSimpArgs false
set_option linter.unusedVariables false
open Go.ChangeShapes Go.WideShapes Go.ChangeAt Go.RowKit Go.Shelf

/-- Every token lies within the text. -/
theorem sc_to {g : Nat → Int} {len : Nat} : ∀ (n i : Nat) (bs : List Bool), len - i ≤ n → okI (scI g len i bs) → i ≤ len → ∀ t ∈ scI g len i bs, t.1.2.2.1 ≤ len ∧ t.1.2.2.2 ≤ len
  | n, i, bs, hn, hok, hi => by
    obtain ⟨j, hg, hj⟩ := sc_step (g := g) (len := len) n i bs hn hok hi
    have hle := hg.le hi
    rw [hg.sc bs] at hok ⊢
    rcases hj with rfl | ⟨hl, hng, ⟨kd, tx, e, bs'⟩, hy⟩
    · rw [sc_end (Nat.lt_irrefl _)]
      intro t ht
      rw [List.mem_singleton.1 ht]
      exact ⟨Nat.le_refl _, Nat.le_refl _⟩
    · have ha := tokP_adv hl hy
      rw [sc_tok hl hng hy] at hok ⊢
      intro t ht
      rcases List.mem_cons.1 ht with rfl | h
      · exact ⟨hle.2, ha.2.1⟩
      · match n, hn with
        | 0, hn => omega
        | n + 1, hn => exact sc_to n e bs' (by omega) (fun t h => hok t (List.mem_cons_of_mem _ h)) ha.2.1 t h
set_option maxRecDepth 100000 in
set_option maxHeartbeats 8000000 in
theorem lexJoins_small (a0 b0 : Option Addr) (la capa ca lb capb cb : Nat) (ga gb : Nat → Int) (hga : ∀ j, 0 ≤ ga j ∧ ga j ≤ 255) (hgb : ∀ j, 0 ≤ gb j ∧ gb j ≤ 255) (W : World) (hlen : la + lb ≤ 1496)
    (hSa : Sl W ca (.slice a0 la capa) la ga) (hca : ca < W.heap.size) (hRa : Src W (.slice a0 la capa) la ga) (hna : a0 = none → capa = 0)
    (hSb : Sl W cb (.slice b0 lb capb) lb gb) (hcb : cb < W.heap.size) (hRb : Src W (.slice b0 lb capb) lb gb) (hnb : b0 = none → capb = 0) (hE1 : ErrG W 1) (hE2 : ErrG W 2) :
    Calls Tryd.prog 8 #[.slice a0 la capa, .slice b0 lb capb] W fun e w' => e = .returned (.bool true) ∧ Below W.heap.size W w' := by
  have h2w := hE2.lt
  have HSB : Hid (∀ W', Below W.heap.size W W' → Sl W' cb (.slice b0 lb capb) lb gb) := fun W' hb => hSb.keep (fun k e => by subst e; exact hb.block k hcb)
  have HRA : Hid (∀ W', Below W.heap.size W W' → Src W' (.slice a0 la capa) la ga) := fun W' hb => hRa.below (n := 0) hb
  have HRB : Hid (∀ W', Below W.heap.size W W' → Src W' (.slice b0 lb capb) lb gb) := fun W' hb => hRb.below (n := 0) hb
  have HE : Hid (∀ W', Below W.heap.size W W' → ErrG W' 1 ∧ ErrG W' 2) := fun W' hb => ⟨hE1.below hb (by omega), hE2.below hb h2w⟩
  have HK : Hid (∀ W', Below W.heap.size W W' → Calls Tryd.prog 14 #[] W' fun e w' => e = .returned (.bool true) ∧ Below W'.heap.size W' w') := fun W' hb => lexknown_any W' (unhide HE W' hb).1 (unhide HE W' hb).2
  have HGA := hide hga
  have HGB := hide hgb
  have HNB := hide hnb
  have hlA := hide (scI_len ga la)
  have hlB := hide (scI_len gb lb)
  have hpA := hide (sc_some (g := ga) (len := la) la 0 [] (by omega))
  have hpB := hide (sc_some (g := gb) (len := lb) lb 0 [] (by omega))
  have HTa := hide (callsIn_wide.1 (tokens_any a0 la capa ca ga hga W (by omega) hSa hca hna hE1 hE2))
  have hl' : ¬ (1496 : Int) < (la : Int) + lb := by omega
  have hld : decide ((1496 : Int) < (la : Int) + lb) = false := by simpa using hl'
  clear hSa hRa hE1 hE2 hna hga hgb hSb hRb hnb
  go_enter Tryd.func8, Tryd.ntmps8
  go_wp2_with (go_at_call 10; refine (unhide HTa).mono ?_)
  rintro x W1 hT1
  have HB1 := hide hT1.2
  have hz1 := hT1.2.size
  have HTb := hide (callsIn_wide.1 (tokens_any b0 lb capb cb gb (unhide HGB) W1 (by omega) (unhide HSB W1 (unhide HB1)) (by omega) (unhide HNB) (unhide HE W1 (unhide HB1)).1 (unhide HE W1 (unhide HB1)).2))
  rcases hT1.1 with ⟨hok1, v1, rfl, hv1⟩ | ⟨p, i, hp, hokp, rfl⟩
  · have HOK1 := hide hok1
    obtain ⟨g1, c1, hvv, q1, q2, hg1, _⟩ := row_open hv1 (unhide hpA)
    obtain ⟨n1, hn1⟩ : ∃ n, (scI ga la 0 []).length = n := ⟨_, rfl⟩
    have HV1 := hide hv1
    have hl1 : n1 ≤ 1497 := by rw [← hn1]; exact Nat.le_trans (unhide hlA) (by omega)
    have hp1 : 0 < n1 := by rw [← hn1]; exact unhide hpA
    rw [hn1] at hvv q1
    have HN1 := hide hn1
    subst hvv
    unfold maxLen at q2
    clear hT1 hok1 hv1 hn1
    go_wp2_with (go_at_call 10; refine (unhide HTb).mono ?_)
    rintro x W2 hT2
    have HB2 := hide ((unhide HB1).trans (hT2.2.mono hz1))
    have HB2' := hide hT2.2
    have hz2 := hT2.2.size
    rcases hT2.1 with ⟨hok2, v2, rfl, hv2⟩ | ⟨p, i, hp, hokp, rfl⟩
    · have HOK2 := hide hok2
      obtain ⟨g2, c2, hvv, q3, q4, hg2, _⟩ := row_open hv2 (unhide hpB)
      obtain ⟨n2, hn2⟩ : ∃ n, (scI gb lb 0 []).length = n := ⟨_, rfl⟩
      have HV2 := hide hv2
      have hl2 : n2 ≤ 1497 := by rw [← hn2]; exact Nat.le_trans (unhide hlB) (by omega)
      have hp2 : 0 < n2 := by rw [← hn2]; exact unhide hpB
      rw [hn2] at hvv q3
      have HN2 := hide hn2
      subst hvv
      unfold maxLen at q4
      clear hT2 hok2 hv2 hn2
      have hz1' : ¬ (n1 : Int) = 0 := by omega
      have hz2' : ¬ (n2 : Int) = 0 := by omega
      have hz1b : ((n1 : Int) == 0) = false := by simpa using hz1'
      have hz2b : ((n2 : Int) == 0) = false := by simpa using hz2'
      go_wp2
      go_loopw [11, 12] (fun t11 t12 wr => ∃ k c : Nat, k ≤ n1 ∧ c ≤ k ∧ t12 = .int .i64 (k : Int) ∧ t11 = .int .i64 (c : Int) ∧ Hid (Below W2.heap.size W2 wr) ∧ Hid (c = 0 → ∀ j t, j < k → (scI ga la 0 [])[j]? = some t → keepT t)) (fun _ t12 _ => n1 - (intOf t12).toNat)
      case atStart => exact ⟨0, 0, Nat.zero_le _, Nat.zero_le _, rfl, rfl, Below.refl _ _, fun _ j t hj => by omega⟩
      case round =>
        obtain ⟨k, c, hk, hck, rfl, rfl, HB, HKP⟩ := hrel
        by_cases hlt : k < n1
        · have hlt' : (k : Int) < n1 := by omega
          obtain ⟨t, ht⟩ : ∃ t, (scI ga la 0 [])[k]? = some t := ⟨_, List.getElem?_eq_getElem (by rw [show (scI ga la 0 []).length = n1 from unhide HN1]; exact hlt)⟩
          obtain ⟨y0, y1, y2, y3⟩ := row_cells (unhide HV1) ht
          have up : ∀ {q : Addr} {u : Value}, W1.cell? q = some u → wr.cell? q = some u := fun {q u} h => by
            have hb := World.block_lt_of_cell? W1 _ h
            exact ((unhide HB).cell (by omega)).trans (((unhide HB2').cell hb).trans h)
          have y0 := up y0; have y1 := up y1; have y2 := up y2; have y3 := up y3
          have HT := hide ht
          obtain ⟨S, hS⟩ : ∃ S, strOfNums t.1.2.1 = S := ⟨_, rfl⟩
          obtain ⟨kd, hkd⟩ : ∃ S, t.1.1 = S := ⟨_, rfl⟩
          rw [hS] at y1
          rw [hkd] at y0
          have HS := hide hS
          have HKD := hide hkd
          have hrz := (unhide HB).size
          clear up ht hS hkd
          have HBA := hide ((unhide HB).alloc hrz (.cells #[.int .i64 kd, .string S, .int .i64 (t.1.2.2.1 : Int), .int .i64 (t.1.2.2.2 : Int)] 33))
          by_cases h6 : kd = 6
          · subst h6
            go_wp2
            exact ⟨⟨k + 1, c + 1, by omega, by omega, by go_num, by go_num, HBA, fun h => by omega⟩, by simp [intOf]; omega⟩
          have b6 : (kd == 6) = false := by simpa using h6
          by_cases h8 : kd = 8
          · subst h8
            go_wp2
            exact ⟨⟨k + 1, c + 1, by omega, by omega, by go_num, by go_num, HBA, fun h => by omega⟩, by simp [intOf]; omega⟩
          have b8 : (kd == 8) = false := by simpa using h8
          by_cases h1 : S.toList = [123]
          · have b1 : (S.toList == [123]) = true := by simpa using h1
            go_wp2
            exact ⟨⟨k + 1, c + 1, by omega, by omega, by go_num, by go_num, HBA, fun h => by omega⟩, by simp [intOf]; omega⟩
          have b1 : (S.toList == [123]) = false := by simpa using h1
          by_cases h2 : S.toList = [125]
          · have b2 : (S.toList == [125]) = true := by simpa using h2
            go_wp2
            exact ⟨⟨k + 1, c + 1, by omega, by omega, by go_num, by go_num, HBA, fun h => by omega⟩, by simp [intOf]; omega⟩
          have b2 : (S.toList == [125]) = false := by simpa using h2
          have HKP' : Hid (c = 0 → ∀ j t, j < k + 1 → (scI ga la 0 [])[j]? = some t → keepT t) := fun h j t' hj ht' => by
            by_cases hjk : j < k
            · exact unhide HKP h j t' hjk ht'
            · obtain rfl : j = k := by omega
              have e : t' = t := Option.some.inj (ht'.symm.trans (unhide HT))
              subst e
              have hs := unhide HS
              have hd := unhide HKD
              exact ⟨fun hh => h6 (hd.symm.trans hh), fun hh => h8 (hd.symm.trans hh), fun hh => h1 (by rw [← hs, hh]; decide +kernel), fun hh => h2 (by rw [← hs, hh]; decide +kernel)⟩
          go_wp2
          exact ⟨⟨k + 1, c, by omega, by omega, by go_num, rfl, HBA, HKP'⟩, by simp [intOf]; omega⟩
        · have hlt' : ¬ (k : Int) < n1 := by omega
          obtain rfl : k = n1 := by omega
          have hrz := (unhide HB).size
          have HBw := hide ((unhide HB2).trans ((unhide HB).mono (Nat.le_trans hz1 hz2)))
          by_cases hc0 : c = 0
          · subst hc0
            have HKP2 := hide (unhide HKP rfl)
            have h0 := empty_owns wr
            have hBw := unhide HBw
            have hB0 : Below W.heap.size W (wr.alloc (.cells #[] 5)) := hBw.alloc hBw.size _
            have hw0 := hBw.size
            have HR := hide (unhide HRA _ hB0)
            go_wp2_with (at_builtin; refine append_src rfl _ _ rfl wr.heap.size _ _ _ rfl h0 _ la ga rfl (unhide HR) (by omega) (by simp) ?_)
            intro v3 w3 hown3 hg3
            have hs3 : wr.heap.size + 1 ≤ w3.heap.size := by have := hg3.size; simp at this; omega
            have hB3 : Below wr.heap.size wr w3 := ((Below.refl _ wr).alloc (Nat.le_refl _) _).grown hg3 (by simp) (fun k e => by simp [Value.ownBlock] at e; omega)
            go_wp2_with (at_builtin; refine append_src rfl _ _ rfl wr.heap.size _ _ _ rfl (hown3.alloc _) _ 1 (fun _ => 10) rfl (src_one w3 10 _) (by omega) (by simp; omega) ?_)
            intro v4 w4 hown4 hg4
            have hs4 : w3.heap.size + 1 ≤ w4.heap.size := by have := hg4.size; simp at this; omega
            have hB4 : Below wr.heap.size wr w4 := (hB3.alloc (by omega) _).grown hg4 (by simp; omega) (fun k hk => (hown3.lt k hk).1)
            have HRb := hide (unhide HRB w4 (hBw.trans (hB4.mono hw0)))
            go_wp2_with (at_builtin; refine append_src rfl _ _ rfl wr.heap.size _ _ _ rfl hown4 _ lb gb rfl (unhide HRb) (by omega) (by omega) ?_)
            intro v5 w5 hown5 hg5
            have hB5 : Below wr.heap.size wr w5 := hB4.grown hg5 (by omega) (fun k hk => (hown4.lt k hk).1)
            have hz5 := hB5.size
            have hown6 : w5.ownsRow wr.heap.size 5 1 v5 (la + 1 + lb) (([] ++ bcells ga la ++ bcells (fun _ => 10) 1) ++ bcells gb lb) := by
              rw [List.nil_append, List.append_assoc]
              exact hown5
            obtain ⟨c6, a6, cap6, hv6, hn6, hc6, hS6⟩ := own_sl (g := joinG ga gb la) hown6 (by omega) (fun j hj => joinG_get (by omega))
            subst hv6
            have HB5 := hide (hBw.trans (hB5.mono hw0))
            have HB5' := hide hB5
            have HT5 := hide (callsIn_wide.1 (tokens_any a6 (la + 1 + lb) cap6 c6 (joinG ga gb la) (joinG_bd (unhide HGA) (unhide HGB)) w5 (by omega) hS6 hc6 hn6 (unhide HE w5 (unhide HB5)).1 (unhide HE w5 (unhide HB5)).2))
            have hkp : ∀ t ∈ scI ga la 0 [], keepT t := fun t ht => by
              obtain ⟨j, hj⟩ := List.getElem?_of_mem ht
              exact unhide HKP2 j t (by have := (List.getElem?_eq_some_iff.1 hj).1; rw [show (scI ga la 0 []).length = k from unhide HN1] at this; exact this) hj
            have hj := sc_join (g' := joinG ga gb la) (ga := ga) (gb := gb) (la := la) (lb := lb) (fun j hj => if_pos hj) (by unfold joinG; rw [if_neg (Nat.lt_irrefl _), if_pos rfl]) (fun j hj => by unfold joinG; rw [if_neg (by omega), if_neg (by omega), show j + (la + 1) - (la + 1) = j by omega]) (unhide HOK1) (unhide HOK2) hkp
            rw [show lb + (la + 1) = la + 1 + lb by omega] at hj
            have HJ := hide hj
            clear hown3 hown4 hown5 hown6 hg3 hg4 hg5 h0 hB0 hB3 hB4 hB5 hS6 hj hkp hBw hn6
            go_wp2_with (go_at_call 10; refine (unhide HT5).mono ?_)
            rintro x W6 hT6
            have HB6 := hide ((unhide HB5).trans (hT6.2.mono (unhide HB5).size))
            have HB6' := hide ((unhide HB5').trans (hT6.2.mono hz5))
            have hz6 := hT6.2.size
            have h6 := hT6.1
            rw [unhide HJ] at h6
            rcases h6 with ⟨_, v6, rfl, hv6⟩ | ⟨p, i, hp, _⟩
            rotate_left
            · exact (ok_apart (okI_join (unhide HOK1) (unhide HOK2)) hp).elim
            have hln := len_join (scI ga la 0 []) (scI gb lb 0 []) (la + 1)
            rw [show (scI ga la 0 []).length = k from unhide HN1, show (scI gb lb 0 []).length = n2 from unhide HN2] at hln
            obtain ⟨g6, c6', hvv, q5, q6, hg6, _⟩ := row_open hv6 (by rw [hln]; omega)
            have HV6 := hide hv6
            rw [hln] at hvv q5
            obtain ⟨n3, hn3⟩ : ∃ n3, k - 1 + n2 = n3 := ⟨_, rfl⟩
            rw [hn3] at hvv q5
            subst hvv
            unfold maxLen at q6
            have hn3' : (n3 : Int) = (k : Int) + n2 - 1 := by omega
            have hnb : ((n3 : Int) != (k : Int) + n2 - 1) = false := by simp [hn3']
            have HN3 := hide hn3
            have hl3 : n3 ≤ 5000 := by omega
            clear hT6 hv6 hln hn3
            go_wp2
            obtain ⟨wo, hwo⟩ : ∃ wo, wo = wr := ⟨_, rfl⟩
            subst hwo
            go_loopw [17] (fun t17 wq => ∃ q : Nat, q ≤ n3 ∧ t17 = .int .i64 (q : Int) ∧ Hid (Below W6.heap.size W6 wq)) (fun t17 _ => n3 - (intOf t17).toNat)
            case atStart => exact ⟨0, Nat.zero_le _, rfl, Below.refl _ _⟩
            case round =>
              obtain ⟨q, hq, rfl, HBq⟩ := hrel
              have hqz := (unhide HBq).size
              by_cases hlq : q < n3
              · have hlq' : (q : Int) < n3 := by omega
                have hn3n := unhide HN3
                have hzo6 := (unhide HB6').size
                have hb1 : g1 < wr.heap.size := by omega
                have hb2 : g2 < wr.heap.size := by omega
                have hb6 : g6 < wr.heap.size := by omega
                have up6 : ∀ {b : Addr} {u : Value}, W6.cell? b = some u → wr.cell? b = some u := fun {b u} h => ((unhide HBq).cell (World.block_lt_of_cell? W6 _ h)).trans h
                have upr : ∀ {b : Addr} {u : Value}, wo.cell? b = some u → wr.cell? b = some u := fun {b u} h => up6 (((unhide HB6').cell (World.block_lt_of_cell? wo _ h)).trans h)
                have up2 : ∀ {b : Addr} {u : Value}, W2.cell? b = some u → wr.cell? b = some u := fun {b u} h => upr (((unhide HB).cell (World.block_lt_of_cell? W2 _ h)).trans h)
                have up1 : ∀ {b : Addr} {u : Value}, W1.cell? b = some u → wr.cell? b = some u := fun {b u} h => up2 (((unhide HB2').cell (World.block_lt_of_cell? W1 _ h)).trans h)
                have hat := at_join (l := scI ga la 0 []) (m := scI gb lb 0 []) (d := la + 1) (j := q) (unhide hpA)
                rw [show (scI ga la 0 []).length = k from unhide HN1] at hat
                by_cases hqk : q < k - 1
                · have hqk' : (q : Int) < (k : Int) - 1 := by omega
                  rw [if_pos hqk] at hat
                  obtain ⟨t, ht⟩ : ∃ t, (scI ga la 0 [])[q]? = some t := ⟨_, List.getElem?_eq_getElem (by rw [show (scI ga la 0 []).length = k from unhide HN1]; omega)⟩
                  rw [ht] at hat
                  obtain ⟨y0, y1, y2, y3⟩ := row_cells (unhide HV1) ht
                  obtain ⟨x0, x1, x2, x3⟩ := row_cells (unhide HV6) hat
                  have y0 := up1 y0; have y1 := up1 y1; have y2 := up1 y2; have y3 := up1 y3
                  have x0 := up6 x0; have x1 := up6 x1; have x2 := up6 x2; have x3 := up6 x3
                  obtain ⟨S, hS⟩ : ∃ S, strOfNums t.1.2.1 = S := ⟨_, rfl⟩
                  rw [hS] at y1 x1
                  clear up6 upr up2 up1 hat ht hS hn3n
                  go_wp2
                  go_quiet (fail)
                  go_wp2
                  exact ⟨⟨q + 1, by omega, by go_num, below_drewN ((unhide HBq).alloc hqz _) _⟩, by simp [intOf]; omega⟩
                · have hqk' : ¬ (q : Int) < (k : Int) - 1 := by omega
                  rw [if_neg hqk] at hat
                  obtain ⟨r, hr⟩ : ∃ r, q - (k - 1) = r := ⟨_, rfl⟩
                  rw [hr] at hat
                  have her : (q : Int) - k + 1 = (r : Int) := by omega
                  obtain ⟨t, ht⟩ : ∃ t, (scI gb lb 0 [])[r]? = some t := ⟨_, List.getElem?_eq_getElem (by rw [show (scI gb lb 0 []).length = n2 from unhide HN2]; omega)⟩
                  rw [ht, Option.map_some] at hat
                  have hto := sc_to (g := gb) lb 0 [] (by omega) (unhide HOK2) (Nat.zero_le _) t (List.mem_of_getElem? ht)
                  obtain ⟨y0, y1, y2, y3⟩ := row_cells (unhide HV2) ht
                  obtain ⟨x0, x1, x2, x3⟩ := row_cells (unhide HV6) hat
                  have y0 := up2 y0; have y1 := up2 y1; have y2 := up2 y2; have y3 := up2 y3
                  have x0 := up6 x0; have x1 := up6 x1; have x2 := up6 x2; have x3 := up6 x3
                  simp only [shT] at x0 x1 x2 x3
                  obtain ⟨S, hS⟩ : ∃ S, strOfNums t.1.2.1 = S := ⟨_, rfl⟩
                  rw [hS] at y1 x1
                  obtain ⟨ta, hta⟩ : ∃ ta, t.1.2.2.1 = ta := ⟨_, rfl⟩
                  obtain ⟨te, hte⟩ : ∃ te, t.1.2.2.2 = te := ⟨_, rfl⟩
                  rw [hta] at y2 x2 hto
                  rw [hte] at y3 x3 hto
                  rw [show ((ta + (la + 1) : Nat) : Int) = (ta : Int) + la + 1 by omega] at x2
                  rw [show ((te + (la + 1) : Nat) : Int) = (te : Int) + la + 1 by omega] at x3
                  have hrn : r < n2 := by omega
                  clear up6 upr up2 up1 hat ht hS hn3n hta hte
                  go_wp2
                  go_quiet (fail)
                  go_wp2
                  exact ⟨⟨q + 1, by omega, by go_num, below_drewN ((unhide HBq).alloc hqz _) _⟩, by simp [intOf]; omega⟩
              · have hlq' : ¬ (q : Int) < n3 := by omega
                have HBz := hide ((unhide HB6).trans ((unhide HBq).mono (unhide HB6).size))
                have HKw := hide (unhide HK wr (unhide HBz))
                go_wp2_with (go_at_call 14; refine (unhide HKw).mono ?_)
                first | rintro x W9 rfl hB9 | rintro x W9 ⟨rfl, hB9⟩
                have HB9 := hide ((unhide HBz).trans (hB9.mono (unhide HBz).size))
                clear hB9
                go_wp2
                go_ret
                exact ⟨rfl, unhide HB9⟩
          · have hc' : (0 : Int) < c := by omega
            have HKw := hide (unhide HK wr (unhide HBw))
            go_wp2_with (go_at_call 14; refine (unhide HKw).mono ?_)
            first | rintro x W9 rfl hB9 | rintro x W9 ⟨rfl, hB9⟩
            have HB9 := hide ((unhide HBw).trans (hB9.mono (unhide HBw).size))
            clear hB9
            go_wp2
            go_ret
            exact ⟨rfl, unhide HB9⟩
    · have HKw := hide (unhide HK W2 (unhide HB2))
      clear hT2 hp hokp
      go_wp2_with (go_at_call 14; refine (unhide HKw).mono ?_)
      first | rintro x W9 rfl hB9 | rintro x W9 ⟨rfl, hB9⟩
      have HB9 := hide ((unhide HB2).trans (hB9.mono (unhide HB2).size))
      clear hB9
      go_wp2
      go_ret
      exact ⟨rfl, unhide HB9⟩
  · clear hT1 hp hokp
    go_wp2_with (go_at_call 10; refine (unhide HTb).mono ?_)
    rintro x W2 hT2
    have HB2 := hide ((unhide HB1).trans (hT2.2.mono hz1))
    have HKw := hide (unhide HK W2 (unhide HB2))
    have hsh : ∃ va vn vc i e, x = .returned (.tuple #[.slice va vn vc, .int .i64 i, .int .i64 e]) := by
      rcases hT2.1 with ⟨_, v2, rfl, hv2⟩ | ⟨p, i, hp, hokp, rfl⟩
      · obtain ⟨g2, c2, hvv, _⟩ := row_open hv2 (unhide hpB)
        exact ⟨_, _, _, _, _, by rw [hvv]⟩
      · exact ⟨_, _, _, _, _, rfl⟩
    obtain ⟨va, vn, vc, i2, e2, rfl⟩ := hsh
    clear hT2
    go_wp2_with (go_at_call 14; refine (unhide HKw).mono ?_)
    first | rintro x W9 rfl hB9 | rintro x W9 ⟨rfl, hB9⟩
    have HB9 := hide ((unhide HB2).trans (hB9.mono (unhide HB2).size))
    clear hB9
    go_wp2
    go_ret
    exact ⟨rfl, unhide HB9⟩
end Go.Proofs.YtpdkeggiokebmaaDoor
