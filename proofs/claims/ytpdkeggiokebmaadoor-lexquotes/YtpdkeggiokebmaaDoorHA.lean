/- Merged: HX, HY, HZ, HW. -/
import Derived.Lib.BytesEntry
import Derived.Lib.IndexLaws
import Derived.Test.YtpdkeggiokebmaaDoorE1
import Derived.Test.YtpdkeggiokebmaaDoorN2
import Derived.Test.YtpdkeggiokebmaaDoorPU
/- strconv.ParseUint at base 16 over at most six bytes. -/
namespace Go.Proofs.YtpdkeggiokebmaaDoor
set_option linter.unusedSimpArgs false
set_option linter.unusedVariables false
open Go.RowKit Go.Shelf

/-- What bytes say as hexadecimal digits; none: one is no digit. -/
def hexS (acc : Nat) : List UInt8 → Option Nat
  | [] => some acc
  | c :: cs => if hexB (c.toNat : Int) = true then hexS (acc * 16 + (hexD (c.toNat : Int)).toNat) cs else none
def hexR : Option Nat → Value
  | some n => .tuple #[.int .u64 n, .nilIface]
  | none => .tuple #[.int .u64 0, .iface 120 (.int .i64 2)]
theorem low_all : ∀ n : Fin 256, ¬ (48 ≤ n.val ∧ n.val ≤ 57) → (hexB (n.val : Int) = decide (97 ≤ bits .or .u8 (n.val : Int) 32 ∧ bits .or .u8 (n.val : Int) 32 ≤ 102)) ∧ (hexB (n.val : Int) = true → hexD (n.val : Int) = bits .or .u8 (n.val : Int) 32 - 87) := by decide +kernel
theorem low_hex {n : Nat} (h : n < 256) (hd : ¬ (48 ≤ n ∧ n ≤ 57)) : (hexB (n : Int) = decide (97 ≤ bits .or .u8 (n : Int) 32 ∧ bits .or .u8 (n : Int) 32 ≤ 102)) ∧ (hexB (n : Int) = true → hexD (n : Int) = bits .or .u8 (n : Int) 32 - 87) := low_all ⟨n, h⟩ hd
set_option maxHeartbeats 400000 in
theorem lower_any (c : Int) (w : World) : Calls Tryd.prog 87 #[.int .u8 c] w fun e w' => e = .returned (.int .u8 (bits .or .u8 c 32)) ∧ w' = w := by
  go_enter Tryd.func87, Tryd.ntmps87
  go_wp2
  go_ret
  exact ⟨rfl, rfl⟩

set_option maxHeartbeats 32000000 in
set_option maxRecDepth 100000 in
theorem hexP_any (t : ByteArray) (hne : t.size ≠ 0) (hmax : t.size ≤ 6) (w : World) :
    Calls Tryd.prog 77 #[.string t, .int .i64 16, .int .i64 32] w fun e w' => e = .returned (hexR (hexS 0 t.data.toList)) ∧ w' = Lib.bytesWorld w 5 t := by
  have hemp : t.toList.isEmpty = false := by
    rw [← decide_eq_emptyBytes]
    exact decide_eq_false (fun h => hne (by rw [h]; rfl))
  have hcv := Lib.run_convert_string_bytes (P := Tryd.prog) w 9 22 5 t (u := .string) Tryd.underlying9 Tryd.underlying22 Tryd.underlying5
  have hB : ∀ j, j < t.size → (Lib.bytesWorld w 5 t).cell? ⟨w.heap.size, j, none⟩ = some (.int .u8 (t.data.toList.getD j 0).toNat) := fun j hj => Lib.bytesWorld_cell w 5 t j hj
  obtain ⟨W1, hW1⟩ : ∃ W1, W1 = Lib.bytesWorld w 5 t := ⟨_, rfl⟩
  rw [← hW1] at hcv hB ⊢
  clear hW1
  obtain ⟨bs, hL⟩ : ∃ bs, bs = t.data.toList := ⟨_, rfl⟩
  have hLn : bs.length = t.size := by rw [hL, Lib.size_eq]
  rw [← hL] at hB ⊢
  clear hL
  have hmv : IntKind.u64.wrap (IntKind.u64.wrap 4294967296 - 1) = 4294967295 := by
    rw [IntKind.wrap_u64, IntKind.wrap_u64]
    decide
  go_enter Tryd.func77, Tryd.ntmps77
  go_wp2
  go_loop [12, 13, 101] (fun vu vn vi => ∃ (k acc : Nat) (a : Int), vu = .bool false ∧ vn = .int .u64 a ∧ vi = .int .i64 k ∧ k ≤ t.size ∧ Hid (a = (acc : Int) ∧ acc < 16 ^ k ∧ hexS 0 bs = hexS acc (bs.drop k)))
    (fun _ _ vi => t.size - (intOf vi).toNat)
  case atStart => exact ⟨0, 0, 0, rfl, rfl, rfl, by omega, rfl, by decide, rfl⟩
  case round =>
    obtain ⟨k, acc, a, rfl, rfl, rfl, hk, hh⟩ := hrel
    obtain ⟨ha, hacc, hdec⟩ := hh.out
    clear hh
    have hp6 : 16 ^ k ≤ 16 ^ 6 := Nat.pow_le_pow_right (by decide) (by omega)
    have hp6' : (16 : Nat) ^ 6 = 16777216 := by decide
    rw [hp6'] at hp6
    have a0 : 0 ≤ a := by omega
    have a1 : a ≤ 16777215 := by omega
    by_cases hkn : k < t.size
    · have hc := hB k hkn
      have hdrop : bs.drop k = bs[k]'(by omega) :: bs.drop (k + 1) := List.drop_eq_getElem_cons (by omega)
      have hget : bs.getD k 0 = bs[k]'(by omega) := by simp [List.getD, List.getElem?_eq_getElem (show k < bs.length by omega)]
      rw [hdrop] at hdec
      rw [hget] at hc
      generalize bs[k]'(by omega) = c at hc hdec
      have hc256 : c.toNat < 256 := c.toNat_lt
      have hpk : (16 : Nat) ^ (k + 1) = 16 ^ k * 16 := Nat.pow_succ _ _
      have HPK := hide hpk
      clear hB hdrop hget hpk
      by_cases hdig : 48 ≤ c.toNat ∧ c.toNat ≤ 57
      · obtain ⟨hd0, hd1⟩ := hdig
        have hD : hexD (c.toNat : Int) = (c.toNat : Int) - 48 := by unfold hexD; rw [if_pos (by omega)]
        have hb : hexB (c.toNat : Int) = true := by unfold hexB; rw [hD]; simp; omega
        have hF : hexS acc (c :: bs.drop (k + 1)) = hexS (acc * 16 + (c.toNat - 48)) (bs.drop (k + 1)) := by
          simp only [hexS, hb, if_true, hD]
          congr 1
          omega
        have HN : Hid (a * 16 + ((c.toNat : Int) - 48) = ((acc * 16 + (c.toNat - 48) : Nat) : Int) ∧ acc * 16 + (c.toNat - 48) < 16 ^ (k + 1) ∧ hexS 0 bs = hexS (acc * 16 + (c.toNat - 48)) (bs.drop (k + 1))) := Lib.hid ⟨by omega, by rw [unhide HPK]; omega, hdec.trans hF⟩
        clear hacc hF hdec ha hD hb hp6 hp6' HPK
        go_wp2
        refine ⟨⟨k + 1, acc * 16 + (c.toNat - 48), a * 16 + ((c.toNat : Int) - 48), rfl, (by first | rfl | (congr 1; omega)), (by first | rfl | (congr 1; omega)), by omega, HN⟩, by simp [intOf]; omega⟩
      · have hv0 := bits_lo_u8 .or (c.toNat : Int) 32
        have hv1 := bits_hi_u8 .or (c.toNat : Int) 32
        have hu0 := bits_lo_u8 .or 95 32
        have hu1 := bits_hi_u8 .or 95 32
        obtain ⟨hx1, hx2⟩ := low_hex hc256 hdig
        by_cases hb : hexB (c.toNat : Int) = true
        · have hD := hx2 hb
          rw [hb] at hx1
          have hx3 := of_decide_eq_true hx1.symm
          obtain ⟨v, hv⟩ : ∃ v, bits .or .u8 (c.toNat : Int) 32 = v := ⟨_, rfl⟩
          have HLO : Hid (∀ w', Calls Tryd.prog 87 #[.int .u8 (c.toNat : Int)] w' fun e w'' => e = .returned (.int .u8 v) ∧ w'' = w') := fun w' => by rw [← hv]; exact lower_any _ _
          rw [hv] at hv0 hv1 hx3 hD
          obtain ⟨hx3, hx4⟩ := hx3
          have hF : hexS acc (c :: bs.drop (k + 1)) = hexS (acc * 16 + (v - 87).toNat) (bs.drop (k + 1)) := by
            simp only [hexS, hb, if_true, hD]
          have HN : Hid (a * 16 + (v - 87) = ((acc * 16 + (v - 87).toNat : Nat) : Int) ∧ acc * 16 + (v - 87).toNat < 16 ^ (k + 1) ∧ hexS 0 bs = hexS (acc * 16 + (v - 87).toNat) (bs.drop (k + 1))) := Lib.hid ⟨by omega, by rw [unhide HPK]; omega, hdec.trans hF⟩
          have h58 : (57 : Int) < c.toNat := by
            rcases Nat.lt_or_ge 57 c.toNat with h | h
            · omega
            · have e1 : hexD (c.toNat : Int) = -1 := by unfold hexD; rw [if_neg (by omega), if_neg (by omega), if_neg (by omega)]
              omega
          have h95 : ((c.toNat : Int) == 95) = false := beq_eq_false_iff_ne.2 (fun e => by rw [e] at hv; have : bits .or .u8 95 32 = 127 := by decide
                                                                                           omega)
          clear hacc hF hdec ha hD hb hp6 hp6' HPK hv hx1 hx2 hdig
          go_wp2_with (go_at_call 87; refine (unhide HLO _).mono ?_; rintro e w' ⟨rfl, hw⟩; subst w')
          refine ⟨⟨k + 1, acc * 16 + (v - 87).toNat, a * 16 + (v - 87), rfl, (by first | rfl | (congr 1; omega)), (by first | rfl | (congr 1; omega)), by omega, HN⟩, by simp [intOf]; omega⟩
        · have hF : hexS acc (c :: bs.drop (k + 1)) = none := by simp only [hexS, if_neg hb]
          rw [hF] at hdec
          have hb0 : hexB (c.toNat : Int) = false := by simpa using hb
          rw [hb0] at hx1
          have hx3 := of_decide_eq_false hx1.symm
          have HDEC := hide hdec
          clear hacc hF ha hdec hx1 hx2 hb hb0 hp6 hp6' HPK
          obtain ⟨v, hv⟩ : ∃ v, bits .or .u8 (c.toNat : Int) 32 = v := ⟨_, rfl⟩
          have HLO : Hid (∀ w', Calls Tryd.prog 87 #[.int .u8 (c.toNat : Int)] w' fun e w'' => e = .returned (.int .u8 v) ∧ w'' = w') := fun w' => by rw [← hv]; exact lower_any _ _
          rw [hv] at hv0 hv1 hx3
          by_cases e95 : (c.toNat : Int) = 95
          · rw [e95] at hc HLO
            have hv127 : v = 127 := by rw [← hv, e95]; decide
            subst hv127
            clear hv hx3 hu0 hu1
            go_wp2_with (go_at_call 87; refine (unhide HLO _).mono ?_; rintro e w' ⟨rfl, hw⟩; subst w')
            all_goals go_ret2
            all_goals exact ⟨by rw [unhide HDEC]; rfl, rfl⟩
          have h95 : ((c.toNat : Int) == 95) = false := beq_eq_false_iff_ne.2 e95
          clear hv
          by_cases h97 : 97 ≤ v
          · by_cases h122 : v ≤ 122
            · have h103 : 103 ≤ v := by omega
              clear hx3
              go_wp2_with (go_at_call 87; refine (unhide HLO _).mono ?_; rintro e w' ⟨rfl, hw⟩; subst w')
              all_goals go_ret2
              all_goals exact ⟨by rw [unhide HDEC]; rfl, rfl⟩
            · clear hx3
              go_wp2_with (go_at_call 87; refine (unhide HLO _).mono ?_; rintro e w' ⟨rfl, hw⟩; subst w')
              all_goals go_ret2
              all_goals exact ⟨by rw [unhide HDEC]; rfl, rfl⟩
          · clear hx3
            go_wp2_with (go_at_call 87; refine (unhide HLO _).mono ?_; rintro e w' ⟨rfl, hw⟩; subst w')
            all_goals go_ret2
            all_goals exact ⟨by rw [unhide HDEC]; rfl, rfl⟩
    · have hkk : k = t.size := by omega
      subst hkk
      have hF : hexS acc (bs.drop t.size) = some acc := by rw [List.drop_eq_nil_of_le (by omega)]; rfl
      rw [hF] at hdec
      subst ha
      have HDEC := hide hdec
      clear hacc hF a0 a1 hdec hp6 hp6'
      go_wp2
      go_ret2
      exact ⟨by rw [unhide HDEC]; rfl, rfl⟩
end Go.Proofs.YtpdkeggiokebmaaDoor

/- bytes.IndexByte, utf8.ValidRune. -/
namespace Go.Proofs.YtpdkeggiokebmaaDoor
set_option linter.unusedSimpArgs false
set_option linter.unusedVariables false
open Go.RowKit Go.Shelf

/-- Where the first closing brace stands; the length: nowhere. -/
def brc (g : Nat → Int) (len : Nat) : Nat := stopI (fun c => c != 125) g len 0
def brcI (g : Nat → Int) (len : Nat) : Int := if brc g len < len then (brc g len : Int) else -1
theorem u8_inj {x : Int} (h : 0 ≤ x ∧ x ≤ 255) (e : UInt8.ofNat x.toNat = (125 : Int).toNat.toUInt8) : x = 125 := by
  have h1 := congrArg UInt8.toNat e
  rw [UInt8.toNat_ofNat'] at h1
  have h2 : ((125 : Int).toNat.toUInt8).toNat = 125 := by decide
  rw [h2] at h1
  omega
theorem idx_brc {g : Nat → Int} (hg : ∀ j, 0 ≤ g j ∧ g j ≤ 255) (len : Nat) : Lib.indexByte (Lib.bytesOf (upto g len)) (125 : Int).toNat.toUInt8 = brcI g len := by
  obtain ⟨s1, s2, s3, s4⟩ := stopI_spec (p := fun c => c != 125) (g := g) (len := len) (i := 0) (Nat.zero_le _)
  have hget : ∀ k, k < len → (Lib.bytesOf (upto g len))[k]? = some (UInt8.ofNat (g k).toNat) := fun k hk => by
    simp [Lib.bytesOf, upto, hk]
  have hlen : (Lib.bytesOf (upto g len)).length = len := by simp [Lib.bytesOf, upto]
  have hge := Lib.indexByte_ge (Lib.bytesOf (upto g len)) (125 : Int).toNat.toUInt8
  unfold brcI
  rcases Int.lt_or_le (Lib.indexByte (Lib.bytesOf (upto g len)) (125 : Int).toNat.toUInt8) 0 with h | h
  · have e : Lib.indexByte (Lib.bytesOf (upto g len)) (125 : Int).toNat.toUInt8 = -1 := by omega
    have hn := Lib.indexByte_none e
    by_cases hb : brc g len < len
    · exfalso
      have h4 : (g (brc g len) != 125) = false := by
        rcases s4 with h4 | h4
        · exact absurd h4 (Nat.ne_of_lt hb)
        · exact h4
      have h5 : g (brc g len) = 125 := by simpa using h4
      apply hn (brc g len)
      rw [hget _ hb, h5]
    · rw [if_neg hb, e]
  · obtain ⟨o, ho⟩ : ∃ o : Nat, Lib.indexByte (Lib.bytesOf (upto g len)) (125 : Int).toNat.toUInt8 = o := ⟨_, (Int.toNat_of_nonneg h).symm⟩
    obtain ⟨h1, h2⟩ := Lib.indexByte_some ho
    have hol : o < len := by
      have := (List.getElem?_eq_some_iff.1 h1).1
      omega
    rw [hget o hol] at h1
    have h3 : g o = 125 := u8_inj (hg o) (by injection h1)
    have h6 : brc g len = o := by
      rcases Nat.lt_trichotomy (brc g len) o with hlt | heq | hgt
      · exfalso
        have h4 : (g (brc g len) != 125) = false := by
          rcases s4 with h4 | h4
          · exact absurd h4 (Nat.ne_of_lt (Nat.lt_trans hlt hol))
          · exact h4
        have h5 : g (brc g len) = 125 := by simpa using h4
        apply h2 (brc g len) hlt
        rw [hget _ (Nat.lt_trans hlt hol), h5]
      · exact heq
      · have := s3 o (Nat.zero_le _) hgt
        rw [h3] at this
        exact absurd this (by decide)
    rw [ho, h6, if_pos hol]
set_option maxHeartbeats 1000000 in
set_option maxRecDepth 100000 in
theorem indexByte_any (c : Nat) (a : Option Addr) (len cap : Nat) (g : Nat → Int) (hg : ∀ j, 0 ≤ g j ∧ g j ≤ 255) (W : World) (hS : Sl W c (.slice a len cap) len g) (hp : 0 < len) :
    Calls Tryd.prog 93 #[.slice a len cap, .int .u8 125] W fun e W' => e = .returned (.int .i64 (brcI g len)) ∧ W' = W := by
  obtain ⟨off, rfl, h1, h2, hcs⟩ := unhide (sl_cells hS) hp
  have hI := idx_brc hg len
  have hr := fun cv => Lib.run_indexByteSlice (P := Tryd.prog) (w := W) c off len cap (upto g len) (by simp [upto]) (fun i hi => by rw [hcs i hi]; simp [upto, hi]) cv
  have hr := hr 125
  rw [hI] at hr
  clear hI hcs hS
  go_enter Tryd.func93, Tryd.ntmps93
  go_wp2
  rw [run_callFunc_extern Tryd.func102 (by kernel_rfl) (by kernel_rfl) (by kernel_rfl) (e := Extern.BytealgIndexByte.indexByte) (by kernel_rfl), hr]
  simp only [Result.andThen]
  rw [Oper.upon_value]
  go_wp2
  go_ret
  exact ⟨rfl, rfl⟩
set_option maxHeartbeats 1000000 in
theorem validRune_any (r : Int) (w : World) : Calls Tryd.prog 94 #[.int .i32 r] w fun e w' => e = .returned (.bool (decide (0 ≤ r) && alw r)) ∧ w' = w := by
  go_enter Tryd.func94, Tryd.ntmps94
  by_cases h0 : 0 ≤ r
  · by_cases h1 : r < 55296
    · go_wp2
      go_ret
      exact ⟨ret_bool (by simp [alw, h1, h0]), rfl⟩
    · by_cases h2 : 57343 < r
      · by_cases h3 : r ≤ 1114111
        · go_wp2
          go_ret
          exact ⟨ret_bool (by simp [alw, h1, h2, h0, h3] <;> omega), rfl⟩
        · go_wp2
          go_ret
          exact ⟨ret_bool (by simp [alw, h1, h2, h0, h3] <;> omega), rfl⟩
      · go_wp2
        go_ret
        exact ⟨ret_bool (by simp [alw, h1, h2, h0] <;> omega), rfl⟩
  · by_cases h2 : 57343 < r
    · omega
    · go_wp2
      go_ret
      exact ⟨ret_bool (by have h : ¬ 0 ≤ r := by omega
                          rw [decide_eq_false h, Bool.false_and]), rfl⟩
end Go.Proofs.YtpdkeggiokebmaaDoor

/- lex's escapes that say a rune by its number, purely; strconv.ParseUint at base 16. -/
namespace Go.Proofs.YtpdkeggiokebmaaDoor
set_option linter.unusedSimpArgs false
set_option linter.unusedVariables false
open Go.RowKit Go.Shelf

theorem ofNat_inj {x y : Int} (hx : 0 ≤ x ∧ x ≤ 255) (hy : 0 ≤ y ∧ y ≤ 255) (e : UInt8.ofNat x.toNat = UInt8.ofNat y.toNat) : x = y := by
  have h1 := congrArg UInt8.toNat e
  rw [UInt8.toNat_ofNat', UInt8.toNat_ofNat'] at h1
  omega
theorem hpB_iff {g g2 : Nat → Int} {len l2 : Nat} (hg : ∀ j, 0 ≤ g j ∧ g j ≤ 255) (hg2 : ∀ j, 0 ≤ g2 j ∧ g2 j ≤ 255) : hpB g len g2 l2 = true ↔ l2 ≤ len ∧ ∀ j, j < l2 → g j = g2 j := by
  unfold hpB
  rw [Bool.and_eq_true, decide_eq_true_eq, beq_iff_eq, Lib.strOfNums_toList, Lib.strOfNums_toList]
  refine and_congr_right fun _ => ⟨fun e j hj => ?_, fun h => ?_⟩
  · have e1 := congrArg (fun l : List UInt8 => l[j]?) e
    simp only [Lib.bytesOf, upto, List.map_map, List.getElem?_map, List.getElem?_range hj, Option.map_some, Function.comp_apply, Option.some.injEq] at e1
    exact ofNat_inj (hg j) (hg2 j) e1
  · congr 1
    unfold upto
    exact List.map_congr_left fun j hj => h j (List.mem_range.1 hj)
theorem hpB_false {g g2 : Nat → Int} {len l2 : Nat} (hg : ∀ j, 0 ≤ g j ∧ g j ≤ 255) (hg2 : ∀ j, 0 ≤ g2 j ∧ g2 j ≤ 255) (h : ¬ (l2 ≤ len ∧ ∀ j, j < l2 → g j = g2 j)) : hpB g len g2 l2 = false := by
  cases e : hpB g len g2 l2 with
  | false => rfl
  | true => exact absurd ((hpB_iff hg hg2).1 e) h
/-- The bytes that such an escape begins with. -/
def gU : Nat → Int
  | 0 => 92
  | 1 => 117
  | 2 => 123
  | _ => 0
theorem gU_bd (j : Nat) : 0 ≤ gU j ∧ gU j ≤ 255 := by
  match j with
  | 0 => decide
  | 1 => decide
  | 2 => decide
  | _ + 3 => exact ⟨Int.le_refl _, by simp [gU]⟩
theorem hexB_125 : hexB 125 = false := by decide
theorem hexS_list (g : Nat → Int) (hg : ∀ j, 0 ≤ g j ∧ g j ≤ 255) (i : Nat) : ∀ (n k : Nat) (acc : Nat), (acc : Int) = hexV g i k →
    (∀ j, j < k → hexB (g (i + j)) = true) →
    hexS acc (Lib.bytesOf (upto (fun j => g (i + (k + j))) n)) = if (∀ j, j < k + n → hexB (g (i + j)) = true) then some (hexV g i (k + n)).toNat else none
  | 0, k, acc, ha, hk => by
    rw [if_pos (by simpa using hk)]
    show some acc = _
    rw [Nat.add_zero, ← ha, Int.toNat_natCast]
  | n + 1, k, acc, ha, hk => by
    have e : upto (fun j => g (i + (k + j))) (n + 1) = g (i + k) :: upto (fun j => g (i + ((k + 1) + j))) n := by
      unfold upto
      rw [List.range_succ_eq_map, List.map_cons, List.map_map]
      congr 1
      apply List.map_congr_left
      intro j _
      show g (i + (k + (j + 1))) = g (i + (k + 1 + j))
      congr 1
      omega
    rw [e]
    have hx : (UInt8.ofNat (g (i + k)).toNat).toNat = (g (i + k)).toNat := by
      have := hg (i + k)
      rw [UInt8.toNat_ofNat']
      omega
    have hx2 : (((UInt8.ofNat (g (i + k)).toNat).toNat : Nat) : Int) = g (i + k) := by rw [hx]; exact Int.toNat_of_nonneg (hg _).1
    show hexS acc (UInt8.ofNat (g (i + k)).toNat :: Lib.bytesOf _) = _
    rw [hexS, hx2]
    by_cases hb : hexB (g (i + k)) = true
    · rw [if_pos hb]
      have hd := hexD_bd hb
      have hv : 0 ≤ hexV g i k := (hexV_bd hk).1
      rw [hexS_list g hg i n (k + 1) _ (by rw [hexV]; omega) (fun j hj => by
        by_cases h : j = k
        · rw [h]; exact hb
        · exact hk j (by omega))]
      rw [show k + 1 + n = k + (n + 1) from by omega]
    · rw [if_neg hb, if_neg (fun h => hb (h k (by omega)))]
theorem num_eq {g : Nat → Int} (hg : ∀ j, 0 ≤ g j ∧ g j ≤ 255) {n : Nat} (h3 : 3 ≤ n) (g0 : g 0 = 92) (g1 : g 1 = 117) (g2 : g 2 = 123) :
    3 ≤ brc g n ∧ numE g n 0 = if brc g n < n ∧ 3 < brc g n ∧ brc g n ≤ 9 ∧ (∀ j, j < brc g n - 3 → hexB (g (3 + j)) = true) ∧ alw (hexV g 3 (brc g n - 3)) = true then some (hexV g 3 (brc g n - 3), brc g n + 1) else none := by
  obtain ⟨s1, s2, s3, s4⟩ := stopI_spec (p := fun c => c != 125) (g := g) (len := n) (i := 0) (Nat.zero_le _)
  obtain ⟨t1, t2, t3, t4⟩ := stopI_spec (p := hexB) (g := g) (len := n) (i := 3) h3
  have hbr : stopI (fun c => c != 125) g n 0 = brc g n := rfl
  rw [hbr] at s1 s2 s3 s4
  have hb : brc g n < n → g (brc g n) = 125 := fun h => by
    rcases s4 with h4 | h4
    · omega
    · simpa using h4
  have hp3 : 3 ≤ brc g n := by
    rcases Nat.lt_or_ge (brc g n) 3 with h | h
    · exfalso
      have h5 := hb (by omega)
      have : brc g n = 0 ∨ brc g n = 1 ∨ brc g n = 2 := by omega
      rcases this with e | e | e
      · rw [e, g0] at h5; exact absurd h5 (by decide)
      · rw [e, g1] at h5; exact absurd h5 (by decide)
      · rw [e, g2] at h5; exact absurd h5 (by decide)
    · exact h
  refine ⟨hp3, ?_⟩
  unfold numE
  simp only [Nat.zero_add, Nat.sub_zero]
  by_cases hA : brc g n < n ∧ (∀ j, j < brc g n - 3 → hexB (g (3 + j)) = true)
  · obtain ⟨hA1, hA2⟩ := hA
    have h125 := hb hA1
    have he : stopI hexB g n 3 = brc g n := by
      rcases Nat.lt_trichotomy (stopI hexB g n 3) (brc g n) with h | h | h
      · exfalso
        have h6 := hA2 (stopI hexB g n 3 - 3) (by omega)
        rw [show 3 + (stopI hexB g n 3 - 3) = stopI hexB g n 3 from by omega] at h6
        rcases t4 with h7 | h7
        · omega
        · rw [h7] at h6; exact absurd h6 (by decide)
      · exact h
      · exfalso
        have h6 := t3 (brc g n) hp3 h
        rw [h125, hexB_125] at h6
        exact absurd h6 (by decide)
    rw [he]
    by_cases hB : 3 < brc g n ∧ brc g n ≤ 9 ∧ alw (hexV g 3 (brc g n - 3)) = true
    · rw [if_pos ⟨by omega, g1, g2, hA1, h125, hB.1, hB.2.1, hB.2.2⟩, if_pos ⟨hA1, hB.1, hB.2.1, hA2, hB.2.2⟩]
    · rw [if_neg (fun h => hB ⟨h.2.2.2.2.2.1, h.2.2.2.2.2.2.1, h.2.2.2.2.2.2.2⟩), if_neg (fun h => hB ⟨h.2.1, h.2.2.1, h.2.2.2.2⟩)]
  · rw [if_neg (c := _ ∧ _ ∧ _ ∧ _ ∧ alw _ = true) (fun h => hA ⟨h.1, h.2.2.2.1⟩)]
    rw [if_neg]
    rintro ⟨_, _, _, he1, he2, _, _, _⟩
    apply hA
    have hpe : brc g n = stopI hexB g n 3 := by
      rcases Nat.lt_trichotomy (brc g n) (stopI hexB g n 3) with h | h | h
      · exfalso
        have h6 := t3 (brc g n) hp3 h
        rw [hb (by omega), hexB_125] at h6
        exact absurd h6 (by decide)
      · exact h
      · exfalso
        have h6 := s3 (stopI hexB g n 3) (Nat.zero_le _) h
        rw [he2] at h6
        exact absurd h6 (by decide)
    refine ⟨by omega, fun j hj => t3 (3 + j) (by omega) (by omega)⟩
theorem stopF_shift (p : Int → Bool) (g : Nat → Int) (len k : Nat) : ∀ (f i : Nat), stopF p (fun j => g (k + j)) (len - k) f i + k = stopF p g len f (k + i)
  | 0, i => Nat.add_comm _ _
  | f + 1, i => by
    simp only [stopF]
    by_cases h : k + i < len ∧ p (g (k + i)) = true
    · rw [if_pos h, if_pos ⟨by omega, h.2⟩]
      exact stopF_shift p g len k f (i + 1)
    · rw [if_neg h, if_neg (fun h' => h ⟨by omega, h'.2⟩)]
      exact Nat.add_comm _ _
theorem stopI_shift (p : Int → Bool) (g : Nat → Int) (len k i : Nat) : stopI p (fun j => g (k + j)) (len - k) i + k = stopI p g len (k + i) := by
  unfold stopI
  rw [stopF_shift, Nat.sub_sub]
theorem hexV_shift (g : Nat → Int) (k i : Nat) : ∀ n, hexV (fun j => g (k + j)) i n = hexV g (k + i) n
  | 0 => rfl
  | n + 1 => by rw [hexV, hexV, hexV_shift g k i n, Nat.add_assoc]
theorem numE_shift (g : Nat → Int) (len k : Nat) : numE (fun j => g (k + j)) (len - k) 0 = numE g len k := by
  have e := stopI_shift hexB g len k 3
  unfold numE
  simp only [Nat.zero_add, Nat.sub_zero]
  generalize stopI hexB (fun j => g (k + j)) (len - k) 3 = x at e
  rw [← e, hexV_shift]
  rw [Nat.add_comm x k, show k + x - (k + 3) = x - 3 from by omega, show k + x + 1 - k = x + 1 from by omega]
  congr 1
  apply propext
  constructor
  · rintro ⟨a, b, c, d, e', f, h, i⟩
    exact ⟨by omega, b, c, by omega, e', by omega, by omega, i⟩
  · rintro ⟨a, b, c, d, e', f, h, i⟩
    exact ⟨by omega, b, c, by omega, e', by omega, by omega, i⟩
theorem escE_shift (g : Nat → Int) (len k : Nat) : escE (fun j => g (k + j)) (len - k) 0 = escE g len k := by
  unfold escE
  simp only [Nat.zero_add]
  have e1 : (1 < len - k) = (k + 1 < len) := propext ⟨fun h => by omega, fun h => by omega⟩
  simp only [numE_shift, e1]

set_option maxHeartbeats 4000000 in
set_option maxRecDepth 100000 in
theorem puh_ok (s : ByteArray) (hne : s.size ≠ 0) (hmax : s.size ≤ 6) (u : Nat) (h : hexS 0 s.data.toList = some u) (w : World) :
    Calls Tryd.prog 67 #[.string s, .int .i64 16, .int .i64 32] w fun e w' => e = .returned (.tuple #[.int .u64 u, .nilIface]) ∧ Below w.heap.size w w' := by
  have hI := hexP_any s hne hmax w
  rw [h] at hI
  have HI := hide hI
  clear h hI
  go_enter Tryd.func67, Tryd.ntmps67
  go_wp2_with (go_at_call 77; refine (unhide HI).mono ?_; rintro e W1 ⟨rfl, hW⟩; dsimp only [hexR])
  go_wp2
  go_ret2
  exact ⟨rfl, Lib.bytesWorld_below _ _ _⟩
set_option maxHeartbeats 4000000 in
set_option maxRecDepth 100000 in
theorem puh_bad (s : ByteArray) (hne : s.size ≠ 0) (hmax : s.size ≤ 6) (h : hexS 0 s.data.toList = none) (w : World) (hE : ErrG w 1) :
    Calls Tryd.prog 67 #[.string s, .int .i64 16, .int .i64 32] w fun e w' => ∃ N, e = .returned (.tuple #[.int .u64 0, .iface 122 (.pointer (some ⟨N, 0, none⟩))]) ∧ Below w.heap.size w w' := by
  obtain ⟨ev, hv, hev⟩ := hE
  have hG : 1 < w.heap.size := Lib.lt_of_cell hv
  have hI := hexP_any s hne hmax w
  rw [h] at hI
  have HI := hide hI
  clear h hI
  go_enter Tryd.func67, Tryd.ntmps67
  go_wp2_with (go_at_call 77; refine (unhide HI).mono ?_)
  rintro e W1 ⟨rfl, hW⟩
  dsimp only [hexR]
  have hb1 : Below w.heap.size w W1 := by rw [hW]; exact Lib.bytesWorld_below _ _ _
  have hv1 : W1.cell? ⟨1, 0, none⟩ = some ev := (hb1.cell (show (⟨1, 0, none⟩ : Addr).block < w.heap.size from hG)).trans hv
  clear hW
  have HT := hide (AnyPu.strconv_toError_syntax { Tryd.laysPu14 with } ⟨#[80, 97, 114, 115, 101, 85, 105, 110, 116]⟩ s 16 32 ev W1 (by omega) hv1 hev)
  go_wp2_with (go_at_call 78; refine (unhide HT).mono ?_)
  rintro e W2 ⟨N, rfl, h1, h2, h3⟩
  go_wp2
  go_ret2
  exact ⟨N, rfl, hb1.trans (h3.mono hb1.size)⟩
end Go.Proofs.YtpdkeggiokebmaaDoor

/- lex's escape and numbered. -/
namespace Go.Proofs.YtpdkeggiokebmaaDoor
set_option linter.unusedSimpArgs false
set_option linter.unusedVariables false
open Go.RowKit Go.Shelf

/-- What an escape's reading gives. -/
def escR (x : Option (Int × Nat)) : Value := match x with
  | none => .tuple #[.int .i32 0, .int .i64 0]
  | some (r, w) => .tuple #[.int .i32 r, .int .i64 (w : Int)]
theorem ret2i {a a' b b' : Int} (h1 : a = a') (h2 : b = b') : Ending.returned (.tuple #[.int .i32 a, .int .i64 b]) = .returned (.tuple #[.int .i32 a', .int .i64 b']) := by rw [h1, h2]
set_option maxRecDepth 100000 in
set_option maxHeartbeats 4000000 in
theorem numbered_any (c : Nat) (a : Option Addr) (n cap : Nat) (g : Nat → Int) (hg : ∀ j, 0 ≤ g j ∧ g j ≤ 255) (W : World) (hS : Sl W c (.slice a n cap) n g) (hc : c < W.heap.size) (hp : 0 < n) (h92 : g 0 = 92) (hl : n ≤ 1099511627776) (hE : ErrG W 1) :
    Calls Tryd.prog 79 #[.slice a n cap] W fun x W' => x = .returned (escR (numE g n 0)) ∧ Below W.heap.size W W' := by
  obtain ⟨W1, hW1⟩ : ∃ W1, W.alloc (.cells #[.int .u8 92, .int .u8 117, .int .u8 123] 5 (3, 4)) = W1 := ⟨_, rfl⟩
  have hB1 : Below W.heap.size W W1 := by rw [← hW1]; exact (Below.refl _ W).alloc (Nat.le_refl _) _
  have hz1 : W1.heap.size = W.heap.size + 1 := by rw [← hW1]; simp
  have hcm := conv_mark W #[.int .u8 92, .int .u8 117, .int .u8 123] 3 3
  have hcm : (convert 22 22 (.slice (some ⟨W.heap.size, 0, none⟩) 3 3)).run Tryd.prog (W.alloc (.cells #[.int .u8 92, .int .u8 117, .int .u8 123] 5)) = .ok (.slice (some ⟨W.heap.size, 0, none⟩) 3 3) W1 := by rw [← hW1]; exact hcm
  have hSU : Sl W1 W.heap.size (.slice (some ⟨W.heap.size, 0, none⟩) 3 3) 3 gU := by
    refine .inr ⟨0, 3, rfl, by omega, by omega, by unfold maxLen; omega, fun j hj => ?_⟩
    have h1 : W1.heap[W.heap.size]? = some (.cells #[.int .u8 92, .int .u8 117, .int .u8 123] 5 (3, 4)) := by rw [← hW1]; exact World.alloc_heap_new W _
    rw [Lib.cell_of_heap h1, Nat.zero_add]
    match j, hj with
    | 0, _ => rfl
    | 1, _ => rfl
    | 2, _ => rfl
  have hS1 := hS.keep (B := W1) (fun k e => by subst e; exact hB1.block k hc)
  have HH := hide (hasPrefix_any hS1 hSU hl (by omega))
  have hE1 : ErrG W1 1 := by
    obtain ⟨ev, hv, hev⟩ := hE
    exact ⟨ev, (hB1.cell (show (⟨1, 0, none⟩ : Addr).block < W.heap.size from Lib.lt_of_cell hv)).trans hv, hev⟩
  have HIX := hide (indexByte_any c a n cap g hg W1 hS1 hp)
  by_cases hpre : 3 ≤ n ∧ ∀ j, j < 3 → g j = gU j
  · obtain ⟨h3, hgu⟩ := hpre
    have g0 : g 0 = 92 := hgu 0 (by omega)
    have g1 : g 1 = 117 := hgu 1 (by omega)
    have g2 : g 2 = 123 := hgu 2 (by omega)
    rw [(hpB_iff hg gU_bd).2 ⟨h3, hgu⟩] at HH
    obtain ⟨hp3, hN⟩ := num_eq hg h3 g0 g1 g2
    by_cases hlt : brc g n < n
    · have hbi : brcI g n = (brc g n : Int) := if_pos hlt
      rw [hbi] at HIX
      obtain ⟨p, hpq⟩ : ∃ p, brc g n = p := ⟨_, rfl⟩
      rw [hpq] at hN HIX hp3 hlt
      by_cases hr : 3 < p ∧ p ≤ 9
      · obtain ⟨hr1, hr2⟩ := hr
        obtain ⟨sv, hsl, hcv⟩ := cut_conv hS1 (xf := 3) (xt := p) (by omega) (by omega)
        have hlist := hexS_list g hg 3 (p - 3) 0 0 rfl (fun j hj => by omega)
        have hcv1 := hcv W1 hS1
        have hsz : (strOfNums (sub g 3 p)).size = p - 3 := by
          have h1 := congrArg List.length (nums_list (sub g 3 p))
          rw [List.length_map, sub_length] at h1
          rw [← h1, Lib.size_eq]
        have hlist : hexS 0 (strOfNums (sub g 3 p)).data.toList = if (∀ j, j < p - 3 → hexB (g (3 + j)) = true) then some (hexV g 3 (p - 3)).toNat else none := by
          rw [nums_list]
          simpa [sub, Lib.bytesOf] using hlist
        have hsl2 : ∀ W', (Instr.slice 22 (.slice a n cap) (some (.int .i64 3)) (some (.int .i64 (3 + ((p : Int) - 3)))) none).run Tryd.prog W' = .ok sv W' := fun W' => by
          rw [show (3 + ((p : Int) - 3)) = (p : Int) from by omega]
          exact hsl W'
        by_cases hx : ∀ j, j < p - 3 → hexB (g (3 + j)) = true
        · rw [if_pos hx] at hlist
          have hbd := hexV_bd hx
          have h16 : (16 : Int) ^ (p - 3) ≤ 16777216 := by
            have := Nat.pow_le_pow_right (n := 16) (by decide) (show p - 3 ≤ 6 by omega)
            have e : (16 : Nat) ^ 6 = 16777216 := by decide
            rw [e] at this
            rw [show (16 : Int) ^ (p - 3) = (((16 : Nat) ^ (p - 3) : Nat) : Int) from (Int.natCast_pow 16 (p - 3)).symm]
            generalize (16 : Nat) ^ (p - 3) = q at this
            omega
          obtain ⟨v, hv⟩ : ∃ v, hexV g 3 (p - 3) = v := ⟨_, rfl⟩
          rw [hv] at hlist hbd hN
          have HPU := hide (puh_ok _ (by omega) (by omega) _ hlist W1)
          rw [Int.toNat_of_nonneg hbd.1] at HPU
          have hv0 := hbd.1
          have hv1 : v < 16777216 := by omega
          have k1 : IntKind.i32.wrap v = v := by
            rw [IntKind.wrap_i32]
            omega
          have hvr := validRune_any v
          have hd0 : decide (0 ≤ v) = true := decide_eq_true hv0
          have HV : Hid (∀ w, Calls Tryd.prog 94 #[.int .i32 v] w fun e w' => e = .returned (.bool (alw v)) ∧ w' = w) := fun w => by
            have := hvr w
            rw [hd0, Bool.true_and] at this
            exact this
          by_cases ha : alw v = true
          · rw [if_pos ⟨hlt, hr1, hr2, hx, ha⟩] at hN
            rw [ha] at HV
            have HN := hide hN
            clear hN hS hS1 hSU hgu g0 g1 g2 hpq hcv hlist hx hv hbd h16 hvr hd0 hsl ha
            go_enter Tryd.func79, Tryd.ntmps79
            go_wp2_with (first | (go_at_call 47; refine (unhide HH).mono ?_; rintro e w' ⟨rfl, hw⟩; subst w') | (go_at_call 93; refine (unhide HIX).mono ?_; rintro e w' ⟨rfl, hw⟩; subst w') | (go_at_call 67; refine (unhide HPU).mono ?_; rintro e W2 ⟨rfl, hB2⟩) | (go_at_call 94; refine (unhide HV _).mono ?_; rintro e w' ⟨rfl, hw⟩; subst w'))
            go_ret2
            rw [unhide HN]
            exact ⟨ret2i (by first | rfl | exact k1) (by omega), hB1.trans (hB2.mono hB1.size)⟩
          · have ha0 : alw v = false := by simpa using ha
            rw [if_neg (fun h => ha h.2.2.2.2)] at hN
            rw [ha0] at HV
            have HN := hide hN
            clear hN hS hS1 hSU hgu g0 g1 g2 hpq hcv hlist hx hv hbd h16 hvr hd0 hsl ha ha0
            go_enter Tryd.func79, Tryd.ntmps79
            go_wp2_with (first | (go_at_call 47; refine (unhide HH).mono ?_; rintro e w' ⟨rfl, hw⟩; subst w') | (go_at_call 93; refine (unhide HIX).mono ?_; rintro e w' ⟨rfl, hw⟩; subst w') | (go_at_call 67; refine (unhide HPU).mono ?_; rintro e W2 ⟨rfl, hB2⟩) | (go_at_call 94; refine (unhide HV _).mono ?_; rintro e w' ⟨rfl, hw⟩; subst w'))
            go_ret2
            rw [unhide HN]
            exact ⟨rfl, hB1.trans (hB2.mono hB1.size)⟩
        · rw [if_neg hx] at hlist
          rw [if_neg (fun h => hx h.2.2.2.1)] at hN
          have HN := hide hN
          have HPU := hide (puh_bad _ (by omega) (by omega) hlist W1 hE1)
          clear hN hS hS1 hSU hgu g0 g1 g2 hpq hcv hlist hx hsl
          go_enter Tryd.func79, Tryd.ntmps79
          go_wp2_with (first | (go_at_call 47; refine (unhide HH).mono ?_; rintro e w' ⟨rfl, hw⟩; subst w') | (go_at_call 93; refine (unhide HIX).mono ?_; rintro e w' ⟨rfl, hw⟩; subst w') | (go_at_call 67; refine (unhide HPU).mono ?_; rintro e W2 ⟨N, rfl, hB2⟩))
          go_ret2
          rw [unhide HN]
          exact ⟨rfl, hB1.trans (hB2.mono hB1.size)⟩
      · rw [if_neg (fun h => hr ⟨h.2.1, h.2.2.1⟩)] at hN
        have HN := hide hN
        clear hN hS hS1 hSU hgu g0 g1 g2 hpq
        by_cases hr1 : 3 < p
        · have hr2 : 9 < p := by omega
          go_enter Tryd.func79, Tryd.ntmps79
          go_wp2_with (first | (go_at_call 47; refine (unhide HH).mono ?_; rintro e w' ⟨rfl, hw⟩; subst w') | (go_at_call 93; refine (unhide HIX).mono ?_; rintro e w' ⟨rfl, hw⟩; subst w'))
          go_ret2
          rw [unhide HN]
          exact ⟨rfl, hB1⟩
        · go_enter Tryd.func79, Tryd.ntmps79
          go_wp2_with (first | (go_at_call 47; refine (unhide HH).mono ?_; rintro e w' ⟨rfl, hw⟩; subst w') | (go_at_call 93; refine (unhide HIX).mono ?_; rintro e w' ⟨rfl, hw⟩; subst w'))
          go_ret2
          rw [unhide HN]
          exact ⟨rfl, hB1⟩
    · have hbi : brcI g n = -1 := if_neg hlt
      rw [hbi] at HIX
      rw [if_neg (fun h => hlt h.1)] at hN
      have HN := hide hN
      clear hN hS hS1 hSU hgu g0 g1 g2
      go_enter Tryd.func79, Tryd.ntmps79
      go_wp2_with (first | (go_at_call 47; refine (unhide HH).mono ?_; rintro e w' ⟨rfl, hw⟩; subst w') | (go_at_call 93; refine (unhide HIX).mono ?_; rintro e w' ⟨rfl, hw⟩; subst w'))
      go_ret2
      rw [unhide HN]
      exact ⟨rfl, hB1⟩
  · rw [hpB_false hg gU_bd hpre] at HH
    have HN : Hid (numE g n 0 = none) := by
      show _ = _
      unfold numE
      rw [if_neg]
      rintro ⟨h1, h2, h3, _⟩
      exact hpre ⟨by omega, fun j hj => by
        match j, hj with
        | 0, _ => exact h92
        | 1, _ => exact h2
        | 2, _ => exact h3⟩
    clear hS hS1 hSU
    go_enter Tryd.func79, Tryd.ntmps79
    go_wp2_with (go_at_call 47; refine (unhide HH).mono ?_; rintro e w' ⟨rfl, hw⟩; subst w')
    go_ret2
    rw [unhide HN]
    exact ⟨rfl, hB1⟩
theorem escE_one (g : Nat → Int) (n : Nat) (h : 1 < n) : escE g n 0 = if g 1 = 110 then some (10, 2) else if g 1 = 114 then some (13, 2) else if g 1 = 116 then some (9, 2) else if g 1 = 48 then some (0, 2) else if g 1 = 92 ∨ g 1 = 34 ∨ g 1 = 39 ∨ g 1 = 36 ∨ g 1 = 96 then some (g 1, 2) else numE g n 0 := by
  unfold escE
  rw [if_neg (by omega)]
set_option maxRecDepth 100000 in
set_option maxHeartbeats 4000000 in
theorem escape_any (c : Nat) (a : Option Addr) (n cap : Nat) (g : Nat → Int) (hg : ∀ j, 0 ≤ g j ∧ g j ≤ 255) (W : World) (hS : Sl W c (.slice a n cap) n g) (hc : c < W.heap.size) (hp : 0 < n) (h92 : g 0 = 92) (hl : n ≤ 1099511627776) (hE : ErrG W 1) :
    Calls Tryd.prog 68 #[.slice a n cap] W fun x W' => x = .returned (escR (escE g n 0)) ∧ Below W.heap.size W W' := by
  have HNB := hide (numbered_any c a n cap g hg W hS hc hp h92 hl hE)
  have hBr : Below W.heap.size W W := Below.refl _ _
  have HCS := sl_cells hS
  clear hS hE
  by_cases h1 : 1 < n
  · obtain ⟨off, rfl, hcp, hmx, hcs⟩ := unhide HCS hp
    unfold maxLen at hmx
    have hc1 := hcs 1 h1
    have n1 : ¬ (n : Int) < 2 := by omega
    have n2 : (1 : Int) < n := by omega
    have HE := hide (escE_one g n h1)
    have hgb := hg 1
    obtain ⟨x, hx⟩ : ∃ x, g 1 = x := ⟨_, rfl⟩
    rw [hx] at hc1 hgb HE
    clear hcs HCS hx
    by_cases e110 : x = 110
    · subst e110
      go_enter Tryd.func68, Tryd.ntmps68
      go_wp2
      go_ret2
      rw [unhide HE]
      exact ⟨rfl, hBr⟩
    have b110 : (x == 110) = false := beq_eq_false_iff_ne.2 e110
    by_cases e114 : x = 114
    · subst e114
      go_enter Tryd.func68, Tryd.ntmps68
      go_wp2
      go_ret2
      rw [unhide HE]
      exact ⟨rfl, hBr⟩
    have b114 : (x == 114) = false := beq_eq_false_iff_ne.2 e114
    by_cases e116 : x = 116
    · subst e116
      go_enter Tryd.func68, Tryd.ntmps68
      go_wp2
      go_ret2
      rw [unhide HE]
      exact ⟨rfl, hBr⟩
    have b116 : (x == 116) = false := beq_eq_false_iff_ne.2 e116
    by_cases e48 : x = 48
    · subst e48
      go_enter Tryd.func68, Tryd.ntmps68
      go_wp2
      go_ret2
      rw [unhide HE]
      exact ⟨rfl, hBr⟩
    have b48 : (x == 48) = false := beq_eq_false_iff_ne.2 e48
    by_cases e92 : x = 92
    · subst e92
      go_enter Tryd.func68, Tryd.ntmps68
      go_wp2
      go_ret2
      rw [unhide HE]
      exact ⟨rfl, hBr⟩
    have b92 : (x == 92) = false := beq_eq_false_iff_ne.2 e92
    by_cases e34 : x = 34
    · subst e34
      go_enter Tryd.func68, Tryd.ntmps68
      go_wp2
      go_ret2
      rw [unhide HE]
      exact ⟨rfl, hBr⟩
    have b34 : (x == 34) = false := beq_eq_false_iff_ne.2 e34
    by_cases e39 : x = 39
    · subst e39
      go_enter Tryd.func68, Tryd.ntmps68
      go_wp2
      go_ret2
      rw [unhide HE]
      exact ⟨rfl, hBr⟩
    have b39 : (x == 39) = false := beq_eq_false_iff_ne.2 e39
    by_cases e36 : x = 36
    · subst e36
      go_enter Tryd.func68, Tryd.ntmps68
      go_wp2
      go_ret2
      rw [unhide HE]
      exact ⟨rfl, hBr⟩
    have b36 : (x == 36) = false := beq_eq_false_iff_ne.2 e36
    by_cases e96 : x = 96
    · subst e96
      go_enter Tryd.func68, Tryd.ntmps68
      go_wp2
      go_ret2
      rw [unhide HE]
      exact ⟨rfl, hBr⟩
    have b96 : (x == 96) = false := beq_eq_false_iff_ne.2 e96
    have HE2 : Hid (escE g n 0 = numE g n 0) := by
      show _ = _
      rw [unhide HE, if_neg e110, if_neg e114, if_neg e116, if_neg e48, if_neg (by omega)]
    obtain ⟨r, hr⟩ : ∃ r, numE g n 0 = r := ⟨_, rfl⟩
    rw [hr] at HNB HE2
    clear hr HE e110 e114 e116 e48 e92 e34 e39 e36 e96
    cases r with
    | none =>
      have HNB2 : Hid (Calls Tryd.prog 79 #[.slice (some ⟨c, off, none⟩) n cap] W fun x W' => x = .returned (.tuple #[.int .i32 0, .int .i64 0]) ∧ Below W.heap.size W W') := unhide HNB
      go_enter Tryd.func68, Tryd.ntmps68
      go_wp2_with (go_at_call 79; refine (unhide HNB2).mono ?_; rintro e W2 ⟨rfl, hB2⟩)
      go_ret2
      rw [unhide HE2]
      exact ⟨rfl, hB2⟩
    | some rw' =>
      obtain ⟨r, wd⟩ := rw'
      have HNB2 : Hid (Calls Tryd.prog 79 #[.slice (some ⟨c, off, none⟩) n cap] W fun x W' => x = .returned (.tuple #[.int .i32 r, .int .i64 (wd : Int)]) ∧ Below W.heap.size W W') := unhide HNB
      go_enter Tryd.func68, Tryd.ntmps68
      go_wp2_with (go_at_call 79; refine (unhide HNB2).mono ?_; rintro e W2 ⟨rfl, hB2⟩)
      go_ret2
      rw [unhide HE2]
      exact ⟨rfl, hB2⟩
  · have n1 : (n : Int) < 2 := by omega
    have HE : Hid (escE g n 0 = none) := by
      show _ = _
      unfold escE
      rw [if_pos (by omega)]
    go_enter Tryd.func68, Tryd.ntmps68
    go_wp2
    go_ret2
    rw [unhide HE]
    exact ⟨rfl, hBr⟩
end Go.Proofs.YtpdkeggiokebmaaDoor
