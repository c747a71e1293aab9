/- The tokens of the text of a chain. -/
import Derived.Test.YtofgphapjjofnaaGreatDoorCE
import Derived.Test.YtofgphapjjofnaaGreatDoorBC
namespace Go.Proofs.YtofgphapjjofnaaGreatDoor
set_option linter.unusedSimpArgs false
set_option linter.unusedVariables false

theorem hasT_two {l : List ByteArray} {v : ByteArray} {a b : UInt8} (hv : v.data.toList.take 2 = [a, b]) (h : (l.all fun s => s.data.toList.take 2 != [a, b]) = true) : hasT l v = false := by
  unfold hasT
  rw [List.any_eq_false]
  intro s hs e
  have h1 := List.all_eq_true.1 h s hs
  simp only [ba_toList, beq_iff_eq] at e
  rw [← e, hv] at h1
  simp at h1
theorem upto_two {f : Nat → Int} {n : Nat} : (strOfNums (upto f (n + 2))).data.toList.take 2 = [UInt8.ofNat (f 0).toNat, UInt8.ofNat (f 1).toNat] := by
  simp [strOfNums, Lib.bytesOf, upto, List.range_succ_eq_map]
/-- A ! behind which no = stands. -/
theorem sc_bang {g : Nat → Int} {len i : Nat} {bs : List Bool} (hg : g i = 33) (hi : i < len) (hn : i + 1 < len → g (i + 1) = 46 ∨ g (i + 1) = 91 ∨ g (i + 1) = 40 ∨ g (i + 1) = 33) : scI g len i bs = ((9, [33], i, i + 1), 0) :: scI g len (i + 1) bs := by
  have k1 : hasT (sgnL 1) (strOfNums (upto (fun j => g (i + j)) 1)) = true := by
    have e : (strOfNums (upto (fun j => g (i + j)) 1)).data.toList = [33] := by simp [strOfNums, Lib.bytesOf, upto, hg]
    simp only [sgnL, if_pos, hasT, ba_toList, e]
    decide +kernel
  have k2 : hasT (sgnL 2) (strOfNums (upto (fun j => g (i + j)) 2)) = false := hasT_head (upto_head.trans (by rw [Nat.add_zero, hg])) (by decide +kernel : (sgn2.all fun s => s.data.toList.head? != some (UInt8.ofNat (33 : Int).toNat)) = true)
  have k3 : i + 1 < len → hasT (sgnL 3) (strOfNums (upto (fun j => g (i + j)) 3)) = false := fun hl => by
    rcases hn hl with h | h | h | h
    · exact hasT_two (upto_two.trans (by rw [Nat.add_zero, hg, h])) (by decide +kernel : (sgn3.all fun s => s.data.toList.take 2 != [UInt8.ofNat (33 : Int).toNat, UInt8.ofNat (46 : Int).toNat]) = true)
    · exact hasT_two (upto_two.trans (by rw [Nat.add_zero, hg, h])) (by decide +kernel : (sgn3.all fun s => s.data.toList.take 2 != [UInt8.ofNat (33 : Int).toNat, UInt8.ofNat (91 : Int).toNat]) = true)
    · exact hasT_two (upto_two.trans (by rw [Nat.add_zero, hg, h])) (by decide +kernel : (sgn3.all fun s => s.data.toList.take 2 != [UInt8.ofNat (33 : Int).toNat, UInt8.ofNat (40 : Int).toNat]) = true)
    · exact hasT_two (upto_two.trans (by rw [Nat.add_zero, hg, h])) (by decide +kernel : (sgn3.all fun s => s.data.toList.take 2 != [UInt8.ofNat (33 : Int).toNat, UInt8.ofNat (33 : Int).toNat]) = true)
  have hs : sgN g len i = 1 := by
    unfold sgN
    obtain h | h | h : min 3 (len - i) = 1 ∨ min 3 (len - i) = 2 ∨ min 3 (len - i) = 3 := by omega
    · rw [h]; simp [lsgN, k1]
    · rw [h]; simp [lsgN, k1, k2]
    · rw [h]; simp [lsgN, k1, k2, k3 (by omega)]
  refine sc_tok hi ⟨by rw [hg]; decide, fun h => by rw [hg] at h; omega, fun h => by rw [hg] at h; omega⟩ ?_
  unfold tokP
  rw [hg, if_neg (by decide), if_neg (by decide), if_neg (by decide), if_neg (by decide), if_neg (fun h => absurd h.1 (by decide))]
  unfold sigQ
  rw [hs, if_neg (by decide), sub_one, hg]
  rfl
def prB (x : Nat) : List Int := if x = 0 then [46, 98] else if x = 1 then [91, 48, 93] else if x = 2 then [40, 49, 41] else [33]
def flB : List Nat → List Int
  | [] => []
  | x :: r => prB x ++ flB r
theorem flB_head {ps : List Nat} (h : 0 < (flB ps).length) : (flB ps).getD 0 0 = 46 ∨ (flB ps).getD 0 0 = 91 ∨ (flB ps).getD 0 0 = 40 ∨ (flB ps).getD 0 0 = 33 := by
  cases ps with
  | nil => simp [flB] at h
  | cons x r =>
    unfold flB prB
    by_cases h0 : x = 0
    · rw [if_pos h0]; exact .inl rfl
    rw [if_neg h0]
    by_cases h1 : x = 1
    · rw [if_pos h1]; exact .inr (.inl rfl)
    rw [if_neg h1]
    by_cases h2 : x = 2
    · rw [if_pos h2]; exact .inr (.inr (.inl rfl))
    rw [if_neg h2]
    exact .inr (.inr (.inr rfl))
/-- The text g has a chain's characters from i on, and ends behind them. -/
def Has (g : Nat → Int) (len i : Nat) (ps : List Nat) : Prop := (∀ r, r < (flB ps).length → g (i + r) = (flB ps).getD r 0) ∧ len = i + (flB ps).length
theorem Has.head {g : Nat → Int} {len i : Nat} {ps : List Nat} (h : Has g len i ps) (hi : i < len) : g i = 46 ∨ g i = 91 ∨ g i = 40 ∨ g i = 33 := by
  have hl : 0 < (flB ps).length := by have := h.2; omega
  have := h.1 0 hl
  rw [Nat.add_zero] at this
  rw [this]
  exact flB_head hl
theorem Has.tail {g : Nat → Int} {len i x : Nat} {ps : List Nat} (h : Has g len i (x :: ps)) : Has g len (i + (prB x).length) ps := by
  obtain ⟨h1, h2⟩ := h
  simp only [flB, List.length_append] at h1 h2
  refine ⟨fun r hr => ?_, by omega⟩
  have := h1 ((prB x).length + r) (by omega)
  rw [List.getD_eq_getElem?_getD, List.getElem?_append_right (by omega), show (prB x).length + r - (prB x).length = r by omega] at this
  rw [Nat.add_assoc, this, List.getD_eq_getElem?_getD]
theorem Has.at {g : Nat → Int} {len i x r : Nat} {ps : List Nat} (h : Has g len i (x :: ps)) (hr : r < (prB x).length) : g (i + r) = (prB x).getD r 0 := by
  have := h.1 r (by simp only [flB, List.length_append]; omega)
  rw [this]
  simp only [flB, List.getD_eq_getElem?_getD, List.getElem?_append_left hr]
theorem notLD {c : Int} (h : c = 46 ∨ c = 91 ∨ c = 40 ∨ c = 33) : isLD c = false := by rcases h with rfl | rfl | rfl | rfl <;> decide
theorem sc_chn {g : Nat → Int} {len : Nat} : ∀ (ps : List Nat) (i : Nat) (bs : List Bool), (∀ p ∈ ps, p < 4) → Has g len i ps → scI g len i bs = (chT i ps).map fun t => (t, 0)
  | [], i, bs, _, h => by
    have := h.2
    simp only [flB, List.length_nil, Nat.add_zero] at this
    rw [sc_end (by omega), this]
    rfl
  | x :: ps, i, bs, hp, h => by
    have hps : ∀ q ∈ ps, q < 4 := fun q hq => hp q (List.mem_cons_of_mem _ hq)
    have hx := hp x (List.mem_cons_self ..)
    have ht := h.tail
    have hlen := h.2
    simp only [flB, List.length_append] at hlen
    obtain rfl | rfl | rfl | rfl : x = 0 ∨ x = 1 ∨ x = 2 ∨ x = 3 := by omega
    · have g0 : g i = 46 := h.at (r := 0) (by decide)
      have g1 : g (i + 1) = 98 := h.at (r := 1) (by decide)
      have hw : (prB 0).length = 2 := rfl
      rw [hw] at ht hlen
      rw [sc_one (by decide +kernel) g0 (by omega) (by intro e; cases e), sc_let (by decide +kernel) g1 (by omega) (fun hl => notLD (ht.head hl)), sc_chn ps (i + 1 + 1) _ hps ht]
      rfl
    · have g0 : g i = 91 := h.at (r := 0) (by decide)
      have g1 : g (i + 1) = 48 := h.at (r := 1) (by decide)
      have g2 : g (i + 2) = 93 := h.at (r := 2) (by decide)
      have hw : (prB 1).length = 3 := rfl
      rw [hw] at ht hlen
      rw [sc_one (by decide +kernel) g0 (by omega) (by intro e; cases e), sc_dig (by decide) g1 (by omega) (fun _ => by rw [show i + 1 + 1 = i + 2 from rfl, g2]; decide), sc_one (by decide +kernel) g2 (by omega) (by intro e; cases e), sc_chn ps (i + 1 + 1 + 1) _ hps ht]
      rfl
    · have g0 : g i = 40 := h.at (r := 0) (by decide)
      have g1 : g (i + 1) = 49 := h.at (r := 1) (by decide)
      have g2 : g (i + 2) = 41 := h.at (r := 2) (by decide)
      have hw : (prB 2).length = 3 := rfl
      rw [hw] at ht hlen
      rw [sc_one (by decide +kernel) g0 (by omega) (by intro e; cases e), sc_dig (by decide) g1 (by omega) (fun _ => by rw [show i + 1 + 1 = i + 2 from rfl, g2]; decide), sc_one (by decide +kernel) g2 (by omega) (by intro e; cases e), sc_chn ps (i + 1 + 1 + 1) _ hps ht]
      rfl
    · have g0 : g i = 33 := h.at (r := 0) (by decide)
      have hw : (prB 3).length = 1 := rfl
      rw [hw] at ht hlen
      rw [sc_bang g0 (by omega) (fun hl => ht.head hl), sc_chn ps (i + 1) _ hps ht]
      rfl
theorem sc_all {g : Nat → Int} {len : Nat} {ps : List Nat} (hp : ∀ p ∈ ps, p < 4) (h0 : g 0 = 97) (h : Has g len 1 ps) : scI g len 0 [] = ((1, [97], 0, 1) :: chT 1 ps).map fun t => (t, 0) := by
  have := h.2
  rw [sc_let (by decide +kernel) h0 (by omega) (fun hl => notLD (h.head hl)), sc_chn ps 1 _ hp h]
  rfl
/-- Brackets that are few are not too deep. -/
def opnT (t : Tok) : Bool := decide (t.1 = 6) || (decide (t.1 = 9) && (decide (t.2.1 = [40]) || decide (t.2.1 = [91]) || decide (t.2.1 = [123])))
theorem cN_few {K : Nat → Int} {T : Nat → ByteArray} {b : Nat → Nat} (hb : ∀ j, tn (K j) (T j) ≤ (b j : Int)) : ∀ i, cN K T i ≤ (((List.range i).map b).sum : Nat)
  | 0 => by simp [cN]
  | i + 1 => by
    have ih := cN_few hb i
    have := hb i
    simp only [cN, List.range_succ, List.map_append, List.sum_append, List.map_cons, List.map_nil, List.sum_cons, List.sum_nil]
    split <;> omega
theorem fN_few {K : Nat → Int} {T : Nat → ByteArray} {m : Int} (hc : ∀ i, cN K T i ≤ m) : ∀ i, fN K T m i = -1
  | 0 => rfl
  | i + 1 => by
    simp only [fN]
    rw [if_neg (fun h => by have := hc (i + 1); omega)]
    exact fN_few hc i
theorem clF_ok {N : Nat} : ∀ (l : List Tok) (i : Nat) (op cl : List Nat), i + l.length = N → (∀ t, l[l.length - 1]? = some t → t.1 = 10) → cl.length = N → (∀ k ∈ cl, k = 0 ∨ k + 1 < N) → (clF l i op cl).length = N ∧ ∀ k ∈ clF l i op cl, k = 0 ∨ k + 1 < N
  | [], i, op, cl, hN, hl, hc, hk => ⟨hc, hk⟩
  | t :: l, i, op, cl, hN, hl, hc, hk => by
    have hl' : ∀ u, l[l.length - 1]? = some u → u.1 = 10 := fun u hu => by
      cases l with
      | nil => simp at hu
      | cons v l => exact hl u (by simpa using hu)
    have hN' : i + 1 + l.length = N := by simp at hN; omega
    unfold clF
    split
    · exact clF_ok l (i + 1) _ cl hN' hl' hc hk
    · cases op with
      | nil => exact clF_ok l (i + 1) _ cl hN' hl' hc hk
      | cons o op' =>
        simp only
        split
        · rename_i hcl
          have hlt : i + 1 < N := by
            cases l with
            | nil =>
              exfalso
              have h10 : t.1 = 10 := hl t (by simp)
              rcases hcl with e | e
              · omega
              · simp [isT, mark, h10] at e
            | cons v l => simp at hN'; omega
          refine clF_ok l (i + 1) op' _ hN' hl' (by rw [List.length_set]; exact hc) fun k hk' => ?_
          rcases List.mem_or_eq_of_mem_set hk' with e | e
          · exact hk k e
          · exact .inr (by omega)
        · exact clF_ok l (i + 1) _ cl hN' hl' hc hk
end Go.Proofs.YtofgphapjjofnaaGreatDoor
