/- Merged: LK, LM, LN. -/
import Derived.BigQuiet
import Derived.Deep.QuietTactic
import Derived.Deep.RegionHeld
import Derived.Laws.Cover4
import Derived.Laws.IdiomStrings
import Derived.LoopN
import Derived.WalkMore
import Derived.Test.YtpdkeggiokebmaaDoorHB
import Derived.Test.YtpdkeggiokebmaaDoorJA
import Derived.Test.YtpdkeggiokebmaaDoorJB
import Derived.Test.YtpdkeggiokebmaaDoorJC
/- What Quote writes is read as one string that says the runes. -/
namespace Go.Proofs.YtpdkeggiokebmaaDoor
set_option linter.unusedSimpArgs false
set_option linter.unusedVariables false
open Go.RowKit Go.Shelf Go.Lib

/-- These numbers stand in the text from a place on. -/
def Lies (g : Nat → Int) (i : Nat) (l : List Int) : Prop := ∀ j z, l[j]? = some z → g (i + j) = z
theorem Lies.left {g : Nat → Int} {i : Nat} {l m : List Int} (h : Lies g i (l ++ m)) : Lies g i l := fun j z hz => h j z (by
  rw [List.getElem?_append_left (List.getElem?_eq_some_iff.1 hz).1]
  exact hz)
theorem Lies.right {g : Nat → Int} {i : Nat} {l m : List Int} (h : Lies g i (l ++ m)) : Lies g (i + l.length) m := fun j z hz => by
  rw [Nat.add_assoc]
  exact h _ z (by rw [List.getElem?_append_right (by omega), show l.length + j - l.length = j by omega]; exact hz)
theorem dec_enc {g : Nat → Int} {len i : Nat} {r : Int} (h0 : 0 ≤ r) (hv : alw r = true) (hA : Lies g i (encodeRuneZ r)) (hl : i + (encodeRuneZ r).length ≤ len) : stepN g len i = (encodeRuneZ r).length ∧ dRune g len i = r := by
  have hv' : r < 55296 ∨ (57343 < r ∧ r ≤ 1114111) := by simpa [alw] using hv
  have fin : ∀ n : Nat, 0 < n → (encodeRuneZ r).length = n → wid (g i) = n → conts g i (n - 1) = true → lst (g i) ≤ r → acc g i (n - 1) = r → stepN g len i = (encodeRuneZ r).length ∧ dRune g len i = r := fun n hn e1 hw hc hls ha => by
    have hil : i < len := by omega
    have hgood : good g len i = true := by
      simp only [good, hw, Bool.and_eq_true, decide_eq_true_eq, ha]
      exact ⟨⟨⟨⟨by omega, by omega⟩, hc⟩, hls⟩, hv⟩
    refine ⟨?_, ?_⟩
    · unfold stepN
      rw [if_pos hil, if_pos hgood, hw, e1]
    · rw [dRune_in hil, if_pos hgood, hw, ha]
  rcases (by omega : r ≤ 127 ∨ (128 ≤ r ∧ r ≤ 2047) ∨ ((2048 ≤ r ∧ r < 55296) ∨ (57343 < r ∧ r ≤ 65535)) ∨ (65536 ≤ r ∧ r ≤ 1114111)) with h | h | h | h
  · have e : encodeRuneZ r = [r] := by unfold encodeRuneZ; rw [if_pos ⟨h0, h⟩]
    rw [e] at hA
    have g0 : g i = r := hA 0 r rfl
    refine fin 1 (by omega) (by rw [e]; rfl) (by rw [g0]; unfold wid; rw [if_pos (by omega)]) rfl (by rw [g0]; unfold lst; rw [if_pos (by omega)]; exact h0) ?_
    show dig (g i) = r
    rw [g0]
    unfold dig
    rw [if_pos (by omega)]
  · have e : encodeRuneZ r = [192 + r / 64, 128 + r % 64] := by unfold encodeRuneZ; rw [if_neg (by omega), if_pos h]
    rw [e] at hA
    have g0 : g i = 192 + r / 64 := hA 0 _ rfl
    have g1 : g (i + 1) = 128 + r % 64 := hA 1 _ rfl
    refine fin 2 (by omega) (by rw [e]; rfl) (by rw [g0]; unfold wid; rw [if_neg (by omega), if_neg (by omega), if_pos (by omega)]) ?_ (by rw [g0]; unfold lst; rw [if_neg (by omega), if_neg (by omega), if_pos (by omega)]; omega) ?_
    · simp only [conts, Nat.add_zero, g1, Bool.true_and, decide_eq_true_eq]
      omega
    · show dig (g i) * 64 + (g (i + 1 + 0) - 128) = r
      rw [Nat.add_zero, g0, g1]
      unfold dig
      rw [if_neg (by omega), if_neg (by omega), if_pos (by omega)]
      omega
  · have e : encodeRuneZ r = [224 + r / 4096, 128 + r / 64 % 64, 128 + r % 64] := by unfold encodeRuneZ; rw [if_neg (by omega), if_neg (by omega), if_pos h]
    rw [e] at hA
    have g0 : g i = 224 + r / 4096 := hA 0 _ rfl
    have g1 : g (i + 1) = 128 + r / 64 % 64 := hA 1 _ rfl
    have g2 : g (i + 1 + 1) = 128 + r % 64 := hA 2 _ rfl
    refine fin 3 (by omega) (by rw [e]; rfl) (by rw [g0]; unfold wid; rw [if_neg (by omega), if_neg (by omega), if_neg (by omega), if_pos (by omega)]) ?_ (by rw [g0]; unfold lst; rw [if_neg (by omega), if_neg (by omega), if_neg (by omega), if_pos (by omega)]; omega) ?_
    · simp only [conts, Nat.add_zero, g1, g2, Bool.true_and, Bool.and_eq_true, decide_eq_true_eq]
      omega
    · show (dig (g i) * 64 + (g (i + 1 + 0) - 128)) * 64 + (g (i + 1 + 1) - 128) = r
      rw [Nat.add_zero, g0, g1, g2]
      unfold dig
      rw [if_neg (by omega), if_neg (by omega), if_neg (by omega), if_pos (by omega)]
      omega
  · have e : encodeRuneZ r = [240 + r / 262144, 128 + r / 4096 % 64, 128 + r / 64 % 64, 128 + r % 64] := by unfold encodeRuneZ; rw [if_neg (by omega), if_neg (by omega), if_neg (by omega), if_pos h]
    rw [e] at hA
    have g0 : g i = 240 + r / 262144 := hA 0 _ rfl
    have g1 : g (i + 1) = 128 + r / 4096 % 64 := hA 1 _ rfl
    have g2 : g (i + 1 + 1) = 128 + r / 64 % 64 := hA 2 _ rfl
    have g3 : g (i + 1 + 2) = 128 + r % 64 := hA 3 _ rfl
    refine fin 4 (by omega) (by rw [e]; rfl) (by rw [g0]; unfold wid; rw [if_neg (by omega), if_neg (by omega), if_neg (by omega), if_neg (by omega), if_pos (by omega)]) ?_ (by rw [g0]; unfold lst; rw [if_neg (by omega), if_neg (by omega), if_neg (by omega), if_neg (by omega), if_pos (by omega)]; omega) ?_
    · simp only [conts, Nat.add_zero, g1, g2, g3, Bool.true_and, Bool.and_eq_true, decide_eq_true_eq]
      omega
    · show ((dig (g i) * 64 + (g (i + 1 + 0) - 128)) * 64 + (g (i + 1 + 1) - 128)) * 64 + (g (i + 1 + 2) - 128) = r
      rw [Nat.add_zero, g0, g1, g2, g3]
      unfold dig
      rw [if_neg (by omega), if_neg (by omega), if_neg (by omega), if_neg (by omega), if_pos (by omega)]
      omega
theorem dRune_alw {g : Nat → Int} {len i : Nat} (hi : i < len) : alw (dRune g len i) = true := by
  rw [dRune_in hi]
  by_cases h : good g len i = true
  · rw [if_pos h]
    simp only [good, Bool.and_eq_true] at h
    exact h.2
  · rw [if_neg h]
    rfl
/-- The digits of a control character, and what is written for a rune, as numbers. -/
def hdZ (n : Int) : Int := if n < 10 then 48 + n else 87 + n
def hexZ (n : Int) : List Int := if n < 16 then [hdZ n] else [hdZ (n / 16), hdZ (n % 16)]
def quoZ (r : Int) : List Int :=
  if r = 92 then [92, 92] else if r = 34 then [92, 34] else if r = 10 then [92, 110] else if r = 13 then [92, 114] else if r = 9 then [92, 116]
  else if r < 32 ∨ r = 127 then [92, 117, 123] ++ hexZ r ++ [125] else encodeRuneZ r
theorem hexD_hd {n : Int} (h0 : 0 ≤ n) (h : n < 16) : hexD (hdZ n) = n := by
  unfold hdZ hexD
  by_cases h1 : n < 10
  · rw [if_pos h1, if_pos (by omega)]; omega
  · rw [if_neg h1, if_neg (by omega), if_pos (by omega)]; omega
theorem hexB_hd {n : Int} (h0 : 0 ≤ n) (h : n < 16) : hexB (hdZ n) = true := by
  unfold hexB
  rw [hexD_hd h0 h]
  exact decide_eq_true h0
theorem quoZ_pos (r : Int) : 0 < (quoZ r).length := by
  unfold quoZ
  repeat' split
  all_goals first | simp; done | skip
  unfold encodeRuneZ
  repeat' split
  all_goals simp
theorem esc_ctl {g : Nat → Int} {len i : Nat} {r : Int} (h0 : 0 ≤ r) (h : r < 32 ∨ r = 127) (hA : Lies g i ([92, 117, 123] ++ hexZ r ++ [125])) (hl : i + ([92, 117, 123] ++ hexZ r ++ [125]).length ≤ len) : escE g len i = some (r, ([92, 117, 123] ++ hexZ r ++ [125]).length) := by
  have g1 : g (i + 1) = 117 := hA 1 _ rfl
  have g2 : g (i + 2) = 123 := hA 2 _ rfl
  have hex : ∀ k : Nat, 1 ≤ k → k ≤ 2 → (hexZ r).length = k → (∀ j, j < k → hexB (g (i + 3 + j)) = true) → g (i + 3 + k) = 125 → hexV g (i + 3) k = r → escE g len i = some (r, ([92, 117, 123] ++ hexZ r ++ [125]).length) := fun k k1 k2 e1 hd h125 hV => by
    simp only [List.length_append, List.length_cons, List.length_nil, e1] at hl ⊢
    have hs : stopI hexB g len (i + 3) = i + 3 + k := stopI_is (by omega) (by omega) (fun j a b => by
      have := hd (j - (i + 3)) (by omega)
      rw [show i + 3 + (j - (i + 3)) = j by omega] at this
      exact this) (.inr (by rw [h125]; rfl))
    unfold escE
    rw [if_neg (by omega), g1, if_neg (by decide), if_neg (by decide), if_neg (by decide), if_neg (by decide), if_neg (by decide)]
    unfold numE
    rw [hs, show i + 3 + k - (i + 3) = k by omega, hV, if_pos ⟨by omega, g1, g2, by omega, h125, by omega, by omega, by simp only [alw, decide_eq_true_eq]; omega⟩]
    congr 2
    omega
  by_cases h16 : r < 16
  · have e : hexZ r = [hdZ r] := by unfold hexZ; rw [if_pos h16]
    rw [e] at hA
    have g3 : g (i + 3) = hdZ r := hA 3 _ rfl
    have g4 : g (i + 4) = 125 := hA 4 _ rfl
    refine hex 1 (by omega) (by omega) (by rw [e]; rfl) (fun j hj => ?_) g4 ?_
    · obtain rfl : j = 0 := by omega
      rw [Nat.add_zero, g3]
      exact hexB_hd h0 h16
    · simp only [hexV, Nat.add_zero, g3, hexD_hd h0 h16]
      omega
  · have e : hexZ r = [hdZ (r / 16), hdZ (r % 16)] := by unfold hexZ; rw [if_neg h16]
    rw [e] at hA
    have g3 : g (i + 3) = hdZ (r / 16) := hA 3 _ rfl
    have g4 : g (i + 3 + 1) = hdZ (r % 16) := hA 4 _ rfl
    have g5 : g (i + 3 + 2) = 125 := hA 5 _ rfl
    refine hex 2 (by omega) (by omega) (by rw [e]; rfl) (fun j hj => ?_) g5 ?_
    · rcases (by omega : j = 0 ∨ j = 1) with rfl | rfl
      · rw [Nat.add_zero, g3]
        exact hexB_hd (by omega) (by omega)
      · rw [g4]
        exact hexB_hd (by omega) (by omega)
    · simp only [hexV, Nat.add_zero, g3, g4, hexD_hd (show 0 ≤ r / 16 by omega) (by omega), hexD_hd (show 0 ≤ r % 16 by omega) (by omega)]
      omega
/-- A rune, as it is written, is read. -/
theorem quo_step {g : Nat → Int} {len i : Nat} {r : Int} (h0 : 0 ≤ r) (hv : alw r = true) (hA : Lies g i (quoZ r)) (hl : i + (quoZ r).length < len) {t : List Int} {e f : Nat} (hq : quoF g len 34 f (i + (quoZ r).length) = some (t, e)) : quoF g len 34 (f + 1) i = some (encodeRuneZ r ++ t, e) := by
  have esc : g i = 92 → escE g len i = some (r, (quoZ r).length) → quoF g len 34 (f + 1) i = some (encodeRuneZ r ++ t, e) := fun h92 he => by
    simp only [quoF]
    rw [if_neg (by omega), h92, if_neg (by decide), if_neg (by decide), if_pos rfl, he]
    simp only
    rw [hq]
  have two : ∀ c : Int, quoZ r = [92, c] → (∀ h : g (i + 1) = c, escE g len i = some (r, 2)) → quoF g len 34 (f + 1) i = some (encodeRuneZ r ++ t, e) := fun c hc he => by
    rw [hc] at hA
    refine esc (hA 0 _ rfl) ?_
    rw [hc]
    exact he (hA 1 _ rfl)
  have hl1 : (quoZ r).length = 2 → i + 1 < len := fun h => by omega
  by_cases h1 : r = 92
  · subst h1
    exact two 92 rfl fun h => by unfold escE; rw [if_neg (by have := hl1 rfl; omega), h]; rfl
  by_cases h2 : r = 34
  · subst h2
    exact two 34 rfl fun h => by unfold escE; rw [if_neg (by have := hl1 rfl; omega), h]; rfl
  by_cases h3 : r = 10
  · subst h3
    exact two 110 rfl fun h => by unfold escE; rw [if_neg (by have := hl1 rfl; omega), h]; rfl
  by_cases h4 : r = 13
  · subst h4
    exact two 114 rfl fun h => by unfold escE; rw [if_neg (by have := hl1 rfl; omega), h]; rfl
  by_cases h5 : r = 9
  · subst h5
    exact two 116 rfl fun h => by unfold escE; rw [if_neg (by have := hl1 rfl; omega), h]; rfl
  by_cases h6 : r < 32 ∨ r = 127
  · have e : quoZ r = [92, 117, 123] ++ hexZ r ++ [125] := by unfold quoZ; rw [if_neg h1, if_neg h2, if_neg h3, if_neg h4, if_neg h5, if_pos h6]
    refine esc (by rw [e] at hA; exact hA 0 _ rfl) ?_
    rw [e] at hA hl ⊢
    exact esc_ctl h0 h6 hA (by omega)
  · have e : quoZ r = encodeRuneZ r := by unfold quoZ; rw [if_neg h1, if_neg h2, if_neg h3, if_neg h4, if_neg h5, if_neg h6]
    rw [e] at hA hl hq
    obtain ⟨d1, d2⟩ := dec_enc (len := len) h0 hv hA (by omega)
    have hfirst : g i = r ∨ 192 ≤ g i := by
      unfold encodeRuneZ at hA
      split at hA
      · exact .inl (hA 0 _ rfl)
      · right
        split at hA
        · rw [show g i = _ from hA 0 _ rfl]; omega
        · split at hA
          · rw [show g i = _ from hA 0 _ rfl]; omega
          · split at hA
            · rw [show g i = _ from hA 0 _ rfl]; omega
            · rw [show g i = _ from hA 0 _ rfl]; omega
    simp only [quoF]
    rw [if_neg (by omega), if_neg (by omega), if_neg (by omega), if_neg (by omega), d1, d2, hq]
theorem quo_list {g : Nat → Int} {len : Nat} : ∀ (rs : List Int) (f i : Nat), (∀ r ∈ rs, 0 ≤ r ∧ alw r = true) → Lies g i (rs.flatMap quoZ ++ [34]) → len = i + (rs.flatMap quoZ).length + 1 → rs.length < f → quoF g len 34 f i = some (rs.flatMap encodeRuneZ, len)
  | [], f, i, _, hA, hl, hf => by
    have h34 : g i = 34 := hA 0 _ rfl
    match f, hf with
    | f + 1, _ =>
      simp at hl
      simp only [quoF]
      rw [if_neg (by omega), h34, if_neg (by decide), if_pos rfl, hl]
      rfl
  | r :: rs, f, i, hr, hA, hl, hf => by
    simp only [List.flatMap_cons, List.append_assoc, List.length_append] at hA hl ⊢
    match f, hf with
    | f + 1, hf =>
      simp at hf
      exact quo_step (hr r (List.mem_cons_self ..)).1 (hr r (List.mem_cons_self ..)).2 hA.left (by omega) (quo_list rs f (i + (quoZ r).length) (fun x hx => hr x (List.mem_cons_of_mem _ hx)) hA.right (by omega) (by omega))
theorem len_flat (rs : List Int) : rs.length ≤ (rs.flatMap quoZ).length := by
  induction rs with
  | nil => simp
  | cons r rs ih =>
    have := quoZ_pos r
    simp only [List.flatMap_cons, List.length_append, List.length_cons]
    omega
/-- The tokens of what Quote writes. -/
theorem sc_quote {g : Nat → Int} {len : Nat} {rs : List Int} (hr : ∀ r ∈ rs, 0 ≤ r ∧ alw r = true) (hA : Lies g 0 (34 :: (rs.flatMap quoZ ++ [34]))) (hl : len = (rs.flatMap quoZ).length + 2) : scI g len 0 [] = [((4, rs.flatMap encodeRuneZ, 0, len), 0), ((10, [], len, len), 0)] := by
  have h34 : g 0 = 34 := hA 0 _ rfl
  have hA1 : Lies g 1 (rs.flatMap quoZ ++ [34]) := fun j z hz => by
    have := hA (j + 1) z hz
    rw [Nat.zero_add, Nat.add_comm] at this
    exact this
  have hln := len_flat rs
  have hq : quoI g len 34 1 = some (rs.flatMap encodeRuneZ, len) := quo_list rs _ 1 hr hA1 (by omega) (by omega)
  have ht : tokP g len 0 [] = some (4, rs.flatMap encodeRuneZ, len, []) := by
    unfold tokP
    rw [h34, if_neg (by decide), if_neg (by decide), if_pos (.inl rfl)]
    unfold quoP
    rw [Nat.zero_add, hq]
    rfl
  have hng : NoGap g len 0 := ⟨by rw [h34]; rfl, fun h => by rw [h34] at h; exact absurd h.1 (by decide), fun h => by rw [h34] at h; exact absurd h.1 (by decide)⟩
  rw [sc_tok (by omega) hng ht, sc_end (by omega)]
end Go.Proofs.YtpdkeggiokebmaaDoor

/- LexQuotes: what Quote writes, as numbers; the runes of a text, made a text again. -/
namespace Go.Proofs.YtpdkeggiokebmaaDoor
set_option linter.unusedSimpArgs false
set_option linter.unusedVariables false
open Go.RowKit Go.Shelf Go.Lib

theorem encZ_bd {r : Int} (h0 : 0 ≤ r) (h1 : r ≤ 1114111) : ∀ z ∈ encodeRuneZ r, 0 ≤ z ∧ z ≤ 255 := by
  unfold encodeRuneZ
  repeat' split
  all_goals
    intro z hz
    simp at hz
    omega
theorem nums_back {l : List Int} (h : ∀ z ∈ l, 0 ≤ z ∧ z ≤ 255) : (strOfNums l).data.toList.map (fun b => (b.toNat : Int)) = l := by
  rw [nums_list, List.map_map]
  conv => rhs; rw [← List.map_id l]
  refine List.map_congr_left fun z hz => ?_
  have := h z hz
  simp only [Function.comp_apply, id_eq, UInt8.toNat_ofNat']
  omega
theorem alw_bd {r : Int} (h : alw r = true) : r ≤ 1114111 := by
  have : r < 55296 ∨ (57343 < r ∧ r ≤ 1114111) := by simpa [alw] using h
  omega
theorem hd_Z {n : Nat} (h : n < 16) : ((hd n).toNat : Int) = hdZ n := by
  unfold hd hdZ
  by_cases h1 : n < 10
  · rw [if_pos h1, if_pos (by omega), UInt8.toNat_ofNat']
    omega
  · rw [if_neg h1, if_neg (by omega), UInt8.toNat_ofNat']
    omega
theorem quo_Z {r : Int} (h0 : 0 ≤ r) (hv : alw r = true) : (quo r).map (fun b => (b.toNat : Int)) = quoZ r := by
  unfold quo quoZ
  by_cases h1 : r = 92
  · rw [if_pos h1, if_pos h1]; rfl
  rw [if_neg h1, if_neg h1]
  by_cases h2 : r = 34
  · rw [if_pos h2, if_pos h2]; rfl
  rw [if_neg h2, if_neg h2]
  by_cases h3 : r = 10
  · rw [if_pos h3, if_pos h3]; rfl
  rw [if_neg h3, if_neg h3]
  by_cases h4 : r = 13
  · rw [if_pos h4, if_pos h4]; rfl
  rw [if_neg h4, if_neg h4]
  by_cases h5 : r = 9
  · rw [if_pos h5, if_pos h5]; rfl
  rw [if_neg h5, if_neg h5]
  by_cases h6 : r < 32 ∨ r = 127
  · rw [if_pos h6, if_pos h6]
    obtain ⟨n, rfl⟩ : ∃ n : Nat, r = n := ⟨r.toNat, by omega⟩
    unfold hexQ hexZ
    rw [Int.toNat_natCast]
    by_cases h16 : n < 16
    · rw [if_pos h16, if_pos (by omega)]
      simp [hd_Z h16]
    · rw [if_neg h16, if_neg (by omega)]
      have e1 := hd_Z (n := n / 16) (by omega)
      have e2 := hd_Z (n := n % 16) (by omega)
      simp [e1, e2]
  · rw [if_neg h6, if_neg h6, enc_eq]
    exact nums_back (encZ_bd h0 (alw_bd hv))
theorem flat_Z : ∀ (l : List (Nat × Int)), (∀ x ∈ l, 0 ≤ x.2 ∧ alw x.2 = true) → (flat quo l).map (fun b => (b.toNat : Int)) = (l.map Prod.snd).flatMap quoZ
  | [], _ => rfl
  | x :: l, h => by
    have hx := h x (List.mem_cons_self ..)
    have e : flat quo (x :: l) = quo x.2 ++ flat quo l := rfl
    rw [e, List.map_append, quo_Z hx.1 hx.2, flat_Z l (fun y hy => h y (List.mem_cons_of_mem _ hy)), List.map_cons, List.flatMap_cons]
/-- The runes of a text. -/
def rnL (s : ByteArray) (m : Nat) : List Int := (upto (endAt (gS s) s.size) m).map Prod.snd
theorem rn_all {s : ByteArray} {m : Nat} (hm : Runes (gS s) s.size m) : ∀ x ∈ upto (endAt (gS s) s.size) m, 0 ≤ x.2 ∧ alw x.2 = true := fun x hx => by
  obtain ⟨k, hk, rfl⟩ := List.mem_map.1 hx
  have hlt := hm.2 k (List.mem_range.1 hk)
  exact ⟨(dRune_bd hlt).1, dRune_alw hlt⟩
theorem rnL_all {s : ByteArray} {m : Nat} (hm : Runes (gS s) s.size m) : ∀ r ∈ rnL s m, 0 ≤ r ∧ alw r = true := fun r hr => by
  obtain ⟨x, hx, rfl⟩ := List.mem_map.1 hr
  exact rn_all hm x hx
theorem gS_list {L : List UInt8} {j : Nat} {b : UInt8} (hb : L[j]? = some b) : gS ⟨L.toArray⟩ j = (b.toNat : Int) := by
  unfold gS
  simp only [List.getElem?_toArray, hb]
  rfl
theorem quote_lies {s : ByteArray} {m : Nat} (hm : Runes (gS s) s.size m) : Lies (gS ⟨(34 :: flat quo (upto (endAt (gS s) s.size) m) ++ [34]).toArray⟩) 0 (34 :: ((rnL s m).flatMap quoZ ++ [34])) ∧ (⟨(34 :: flat quo (upto (endAt (gS s) s.size) m) ++ [34]).toArray⟩ : ByteArray).size = ((rnL s m).flatMap quoZ).length + 2 := by
  have e := flat_Z _ (rn_all hm)
  have e2 : (34 :: flat quo (upto (endAt (gS s) s.size) m) ++ [34]).map (fun b : UInt8 => (b.toNat : Int)) = 34 :: ((rnL s m).flatMap quoZ ++ [34]) := by
    rw [List.cons_append, List.map_cons, List.map_append, e]
    rfl
  refine ⟨fun j z hz => ?_, ?_⟩
  · rw [← e2, List.getElem?_map] at hz
    obtain ⟨b, hb, rfl⟩ := Option.map_eq_some_iff.1 hz
    rw [Nat.zero_add]
    exact gS_list hb
  · have h := congrArg List.length e2
    rw [List.length_map] at h
    show (34 :: flat quo (upto (endAt (gS s) s.size) m) ++ [34]).toArray.size = _
    rw [List.size_toArray, h]
    simp
theorem runes_from {s : ByteArray} {m : Nat} (hm : Runes (gS s) s.size m) : ∀ (d k bound : Nat) (acc : Array Value), m - k = d → k ≤ m → s.size - posn (gS s) s.size k ≤ bound →
    Conv.runesFrom s bound (posn (gS s) s.size k) acc = acc ++ (((rnL s m).map (Value.int .i32)).drop k).toArray
  | 0, k, bound, acc, hd, hk, hb => by
    obtain rfl : k = m := by omega
    have hl : ((rnL s k).map (Value.int .i32)).length = k := by simp [rnL, upto]
    rw [List.drop_eq_nil_of_le (by omega)]
    have e := hm.1
    cases bound with
    | zero => simp [Conv.runesFrom]
    | succ b => simp [Conv.runesFrom, e]
  | d + 1, k, bound, acc, hd, hk, hb => by
    have hlt := hm.2 k (by omega)
    have hst : 0 < stepN (gS s) s.size (posn (gS s) s.size k) := step_pos hlt
    obtain ⟨d1, d2⟩ := dec_eq s _ hlt
    match bound, hb with
    | 0, hb => omega
    | b + 1, hb =>
      have hp : posn (gS s) s.size (k + 1) = posn (gS s) s.size k + stepN (gS s) s.size (posn (gS s) s.size k) := rfl
      unfold Conv.runesFrom
      rw [if_pos hlt]
      simp only
      rw [d2, ← hp, runes_from hm d (k + 1) b _ (by omega) (by omega) (by omega)]
      have hkl : k < ((rnL s m).map (Value.int .i32)).length := by simp [rnL, upto]; omega
      rw [List.drop_eq_getElem_cons hkl]
      have e : ((rnL s m).map (Value.int .i32))[k] = .int .i32 (Int.ofNat (Utf8.decode s (posn (gS s) s.size k)).1) := by
        have d1' : Int.ofNat (Utf8.decode s (posn (gS s) s.size k)).1 = dRune (gS s) s.size (posn (gS s) s.size k) := d1
        rw [d1']
        simp [rnL, upto, endAt]
      rw [e]
      simp
theorem runes_of {s : ByteArray} {m : Nat} (hm : Runes (gS s) s.size m) : Conv.runesFrom s s.size 0 #[] = ((rnL s m).map (Value.int .i32)).toArray := by
  have := runes_from hm m 0 s.size #[] (by omega) (Nat.zero_le _) (by omega)
  rw [show posn (gS s) s.size 0 = 0 from rfl] at this
  rw [this]
  simp
theorem runes_bytes : ∀ (ns a : List Int), ns.foldl (fun r n => r ++ Utf8.encode n) (strOfNums a) = strOfNums (a ++ ns.flatMap encodeRuneZ)
  | [], a => by simp
  | n :: ns, a => by
    rw [List.foldl_cons, enc_eq, nums_append a (encodeRuneZ n), runes_bytes ns, List.flatMap_cons, List.append_assoc]
theorem bytes_runes (ns : List Int) : runesBytes ns = strOfNums (ns.flatMap encodeRuneZ) := by
  have := runes_bytes ns []
  rw [List.nil_append] at this
  exact this
end Go.Proofs.YtpdkeggiokebmaaDoor

/- LexQuotes: the walk. -/
namespace Go.Proofs.YtpdkeggiokebmaaDoor
set_option linter.unusedSimpArgs false
set_option linter.unusedVariables false
open Go.ChangeShapes Go.WideShapes Go.ChangeAt Go.RowKit Go.Shelf Go.Lib

theorem quo_len4 {rs : List Int} (h : ∀ r ∈ rs, 0 ≤ r ∧ alw r = true) : (rs.flatMap quoZ).length ≤ 6 * rs.length := by
  induction rs with
  | nil => simp
  | cons r rs ih =>
    have h1 := ih fun x hx => h x (List.mem_cons_of_mem _ hx)
    have h2 : (quoZ r).length ≤ 6 := by
      unfold quoZ hexZ encodeRuneZ
      repeat' split
      all_goals simp
    simp only [List.flatMap_cons, List.length_append, List.length_cons]
    omega
theorem runes_le {g : Nat → Int} {len m : Nat} (hm : Runes g len m) : m ≤ len := by
  have : ∀ k, k ≤ m → k ≤ posn g len k := fun k => by
    induction k with
    | zero => intro _; exact Nat.zero_le _
    | succ k ih =>
      intro hk
      have := ih (by omega)
      have hs := step_pos (g := g) (hm.2 k (by omega))
      show k + 1 ≤ posn g len k + stepN g len (posn g len k)
      omega
  have h := this m (Nat.le_refl _)
  rw [hm.1] at h
  exact h
set_option maxRecDepth 100000 in
set_option maxHeartbeats 8000000 in
theorem lexQuotes_small (s : ByteArray) (W : World) (hs : s.size ≤ 187) (hT : Tab W) (hE1 : ErrG W 1) (hE2 : ErrG W 2) :
    Calls Tryd.prog 7 #[.string s] W fun e w' => e = .returned (.bool true) ∧ Below W.heap.size W w' := by
  have h2w := hE2.lt
  have HE : Hid (∀ W', Below W.heap.size W W' → ErrG W' 1 ∧ ErrG W' 2) := fun W' hb => ⟨hE1.below hb (by omega), hE2.below hb h2w⟩
  have HK : Hid (∀ W', Below W.heap.size W W' → Calls Tryd.prog 14 #[] W' fun e w' => e = .returned (.bool true) ∧ Below W'.heap.size W' w') := fun W' hb => lexknown_any W' (unhide HE W' hb).1 (unhide HE W' hb).2
  have HQ := hide (quote_all s W (by omega) hT)
  have hl' : ¬ (187 : Int) < s.size := by omega
  have hld : decide ((187 : Int) < s.size) = false := by simpa using hl'
  clear hE1 hE2 hT
  go_enter Tryd.func7, Tryd.ntmps7
  go_wp2_with (go_at_call 19; refine (unhide HQ).mono ?_)
  rintro x W1 m hm rfl hB1
  obtain ⟨hlies, hsz⟩ := quote_lies hm
  have hall := rnL_all hm
  have hm1 := runes_le hm
  have hl4 := quo_len4 hall
  have hrl : (rnL s m).length = m := by simp [rnL, upto]
  obtain ⟨Q, hQ⟩ : ∃ Q, (⟨(34 :: (flat quo (upto (endAt (gS s) s.size) m) ++ [34])).toArray⟩ : ByteArray) = Q := ⟨_, rfl⟩
  rw [List.cons_append, hQ] at hlies hsz
  rw [hQ]
  have hQl : Q.size ≤ 1200 := by omega
  have htok := sc_quote hall hlies hsz
  obtain ⟨cap, C, fr, hcv, hcap, hcm, hC⟩ := conv_str Q W1 (by omega)
  have HT : Hid (∀ w', w'.heap = (W1.alloc (.cells C 5 fr)).heap → Below W.heap.size W w' → Calls Tryd.prog 10 #[.slice (some ⟨W1.heap.size, 0, none⟩) Q.size cap] w' (TokensR (gS Q) Q.size w')) := fun w' hh hb => by
    have hn : w'.heap[W1.heap.size]? = some (.cells C 5 fr) := by rw [hh]; exact World.alloc_heap_new W1 _
    refine callsIn_wide.1 (tokens_any _ Q.size cap W1.heap.size (gS Q) (gS_bd Q) w' (by omega) (.inr ⟨0, cap, rfl, by omega, hcap, hcm, fun j hj => ?_⟩) ((Array.getElem?_eq_some_iff.1 hn).1) (fun h => by cases h) (unhide HE w' hb).1 (unhide HE w' hb).2)
    rw [Lib.cell_of_heap hn, Nat.zero_add]
    exact hC j hj
  have HTOK := hide htok
  have HB1 := hide hB1
  have HRUN := hide (runes_of hm)
  have HALL := hide hall
  have HRL := hide hrl
  clear hlies hsz hall hl4 hrl htok hC hm hB1 hQ
  have hBA : Below W.heap.size W ((W1.alloc (.cells C 5 fr)).drew) := ((unhide HB1).alloc (unhide HB1).size _).drew
  have HT2 := hide (unhide HT ((W1.alloc (.cells C 5 fr)).drew) rfl hBA)
  have HBA := hide hBA
  clear hBA
  go_wp2_with (go_at_call 10; refine (unhide HT2).mono ?_)
  rintro x W2 hT2
  have HB2 := hide ((unhide HBA).trans (hT2.2.mono (unhide HBA).size))
  have h2 := hT2.1
  rw [unhide HTOK] at h2
  rcases h2 with ⟨_, v, rfl, hv⟩ | ⟨p, i, hp, _⟩
  rotate_left
  · exact (ok_apart (fun t ht => by
      rcases List.mem_cons.1 ht with rfl | h
      · rfl
      · rw [List.mem_singleton.1 h]) hp).elim
  obtain ⟨g2, c2, hvv, q5, q6, hg2, _⟩ := row_open hv (by simp)
  have hvv' : v = .slice (some ⟨g2, 0, none⟩) 2 c2 := hvv
  subst hvv'
  have hw := row_cells (j := 0) hv rfl
  simp only [Nat.zero_mul, Nat.zero_add] at hw
  obtain ⟨w0, w1, w2, w3⟩ := hw
  unfold maxLen at q6
  clear hvv hv hT2 hcv w2 w3
  obtain ⟨S, hS⟩ : ∃ S, strOfNums ((rnL s m).flatMap encodeRuneZ) = S := ⟨_, rfl⟩
  rw [hS] at w1
  have hc1 : ∀ w', (convert 9 44 (.string s)).run Tryd.prog w' = .ok (.slice (some ⟨w'.heap.size, 0, none⟩) m (grownCap w' m 0 21)) (w'.drew.alloc (.cells (((rnL s m).map (Value.int .i32)).toArray ++ Array.replicate (grownCap w' m 0 21 - m) (.int .i32 0)) 21)) := fun w' => by
    have h := run_runes_of_string (P := Tryd.prog) w' 9 44 21 s (by kernel_rfl) (by kernel_rfl) (by kernel_rfl) (by rw [unhide HRUN]; simp [unhide HRL]; have := unhide HRL; omega)
    have e : (((rnL s m).map (Value.int .i32)).toArray).size = m := by rw [List.size_toArray, List.length_map]; exact unhide HRL
    rw [unhide HRUN, e] at h
    exact h
  go_wp2
  have hc2 : ∀ (N : Nat) (X : World), X.heap = (W2.alloc (.cells (((rnL s m).map (Value.int .i32)).toArray ++ Array.replicate (N - m) (.int .i32 0)) 21)).heap → (convert 44 9 (.slice (some ⟨W2.heap.size, 0, none⟩) m N)).run Tryd.prog X = .ok (.string S) X := fun N X hX => by
    have hn : X.heap[W2.heap.size]? = some (.cells (((rnL s m).map (Value.int .i32)).toArray ++ Array.replicate (N - m) (.int .i32 0)) 21) := by rw [hX]; exact World.alloc_heap_new W2 _
    have h := run_convert_runes (P := Tryd.prog) X 44 9 21 ⟨W2.heap.size, 0, none⟩ m N (rnL s m) (by rw [show (rnL s m).length = m from unhide HRL]; exact Nat.le_refl _) (by kernel_rfl) (by kernel_rfl) (by kernel_rfl) (fun j hj => by
      rw [addr_at, Lib.cell_of_heap hn, Array.getElem?_append_left (by simpa using hj)]
      simp [List.getD_eq_getElem?_getD, hj])
    rw [h, List.take_of_length_le (by rw [show (rnL s m).length = m from unhide HRL]; exact Nat.le_refl _), bytes_runes, hS]
  have hc3 : (convert 44 9 (.slice (some ⟨W2.heap.size, 0, none⟩) m (grownCap W2.drew m 0 21))).run Tryd.prog ((W2.alloc (.cells (((rnL s m).map (Value.int .i32)).toArray ++ Array.replicate (grownCap W2.drew m 0 21 - m) (.int .i32 0)) 21)).drew.drew) = .ok (.string S) ((W2.alloc (.cells (((rnL s m).map (Value.int .i32)).toArray ++ Array.replicate (grownCap W2.drew m 0 21 - m) (.int .i32 0)) 21)).drew.drew) := hc2 _ _ rfl
  have HSS : Hid (∀ w', Below W2.heap.size W2 w' → w'.cell? ⟨g2, 0, none⟩ = some (.int .i64 4) ∧ w'.cell? ⟨g2, 1, none⟩ = some (.string S)) := fun w' h => ⟨(h.cell (p := ⟨g2, 0, none⟩) hg2).trans w0, (h.cell (p := ⟨g2, 1, none⟩) hg2).trans w1⟩
  obtain ⟨X, hX⟩ : ∃ X, (W2.alloc (.cells (((rnL s m).map (Value.int .i32)).toArray ++ Array.replicate (grownCap W2.drew m 0 21 - m) (.int .i32 0)) 21)).drew.drew = X := ⟨_, rfl⟩
  have hBX : Below W2.heap.size W2 X := by rw [← hX]; exact ((Below.refl _ W2).alloc (Nat.le_refl _) _).drew.drew
  have HBX := hide hBX
  have HKX := hide (unhide HK X ((unhide HB2).trans (hBX.mono (unhide HB2).size)))
  rw [hX] at hc3
  clear hBX hc2
  go_region_held (fun w' => w'.cell? ⟨g2, 0, none⟩ = some (.int .i64 4) ∧ w'.cell? ⟨g2, 1, none⟩ = some (.string S))
    (first
      | assumption
      | exact unhide HSS _ (Below.refl _ _).drew
      | exact unhide HSS _ ((Below.refl _ W2).alloc (Nat.le_refl _) _).drew.drew
      | exact unhide HSS _ (unhide HBX)
      | exact unhide HSS _ ((unhide HBX).trans (hB9.mono (unhide HBX).size))
      | go_keep)
    ((go_at_call 14; refine (unhide HKX).mono ?_; rintro e w9 ⟨rfl, hB9⟩))
  go_wp2
  go_ret
  exact ⟨rfl, ((unhide HB2).trans ((unhide HBX).mono (unhide HB2).size)).trans (hB9.mono (Nat.le_trans (unhide HB2).size (unhide HBX).size))⟩
set_option maxHeartbeats 2000000 in
theorem lexQuotes_big (s : ByteArray) (W : World) (hbig : 187 < s.size) (hl : s.size ≤ maxLen) : Calls Tryd.prog 7 #[.string s] W fun e w' => e = .returned (.bool true) ∧ Below W.heap.size W w' := by
  unfold maxLen at hl
  have hl' : (187 : Int) < s.size := by omega
  have hld : decide ((187 : Int) < s.size) = true := by simpa using hl'
  go_enter Tryd.func7, Tryd.ntmps7
  go_wp2
  go_ret
  exact ⟨rfl, Below.refl _ _⟩
end Go.Proofs.YtpdkeggiokebmaaDoor
