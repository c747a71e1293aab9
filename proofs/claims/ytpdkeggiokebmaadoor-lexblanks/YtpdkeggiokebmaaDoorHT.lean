/- Merged: LB, LC, LD. -/
import Derived.BigQuiet
import Derived.Deep.QuietTactic
import Derived.LoopN
import Derived.WalkMore
import Derived.Test.YtpdkeggiokebmaaDoorHP
import Derived.Test.YtpdkeggiokebmaaDoorHQ
/- LexBlanks, purely: blanks and remarks laid in ahead of a token. -/
namespace Go.Proofs.YtpdkeggiokebmaaDoor
set_option linter.unusedSimpArgs false
set_option linter.unusedVariables false
open Go.RowKit Go.Shelf

theorem stopF_sh2 {p : Int → Bool} {g g' : Nat → Int} {len d P : Nat} (hA : ∀ j, P ≤ j → j < len → g' (j + d) = g j) : ∀ (f i : Nat), P ≤ i → stopF p g' (len + d) f (i + d) = stopF p g len f i + d
  | 0, i, _ => rfl
  | f + 1, i, hP => by
    simp only [stopF]
    by_cases h : i < len ∧ p (g i) = true
    · rw [if_pos h, if_pos ⟨by omega, by rw [hA i hP h.1]; exact h.2⟩, show i + d + 1 = (i + 1) + d by omega]
      exact stopF_sh2 hA f (i + 1) (by omega)
    · rw [if_neg h, if_neg (fun hc => h ⟨by omega, by rw [← hA i hP (by omega)]; exact hc.2⟩)]
theorem stopI_sh2 {p : Int → Bool} {g g' : Nat → Int} {len d P : Nat} (hA : ∀ j, P ≤ j → j < len → g' (j + d) = g j) (i : Nat) (hP : P ≤ i) : stopI p g' (len + d) (i + d) = stopI p g len i + d := by
  unfold stopI
  rw [show len + d - (i + d) = len - i by omega]
  exact stopF_sh2 hA _ i hP
theorem remF_sh2 {g g' : Nat → Int} {len d P : Nat} (hA : ∀ j, P ≤ j → j < len → g' (j + d) = g j) : ∀ (f i : Nat), P ≤ i → remF g' (len + d) f (i + d) = remF g len f i + d
  | 0, i, _ => rfl
  | f + 1, i, hP => by
    simp only [remF]
    by_cases h : i + 1 < len ∧ ¬ (g i = 42 ∧ g (i + 1) = 47)
    · have h1 := hA (i + 1) (by omega) h.1
      rw [if_pos h, if_pos ⟨by omega, by rw [hA i hP (by omega), show i + d + 1 = (i + 1) + d by omega, h1]; exact h.2⟩, show i + d + 1 = (i + 1) + d by omega]
      exact remF_sh2 hA f (i + 1) (by omega)
    · rw [if_neg h, if_neg (fun hc => h ⟨by omega, fun hh => hc.2 ⟨by rw [hA i hP (by omega)]; exact hh.1, by rw [show i + d + 1 = (i + 1) + d by omega, hA (i + 1) (by omega) (by omega)]; exact hh.2⟩⟩)]
theorem remI_sh2 {g g' : Nat → Int} {len d P : Nat} (hA : ∀ j, P ≤ j → j < len → g' (j + d) = g j) (i : Nat) (hP : P ≤ i) : remI g' (len + d) (i + d) = remI g len i + d := by
  unfold remI
  rw [show len + d - (i + d) = len - i by omega]
  exact remF_sh2 hA _ i hP
/-- The tokens from a place on, when what is from there on stands further on. -/
theorem sc_sh2 {g g' : Nat → Int} {len d P : Nat} (hA : ∀ j, P ≤ j → j < len → g' (j + d) = g j) : ∀ (n i : Nat) (bs : List Bool), len - i ≤ n → okI (scI g len i bs) → i ≤ len → P ≤ i → scI g' (len + d) (i + d) bs = (scI g len i bs).map (shT d)
  | n, i, bs, hn, hok, hi, hP => by
    by_cases hl : i < len
    · have h0 : g' (i + d) = g i := hA i hP hl
      match n, hn with
      | 0, hn => omega
      | n + 1, hn =>
      by_cases hb : blk (g i) = true
      · rw [sc_blk hl hb] at hok ⊢
        rw [sc_blk (i := i + d) (by omega) (by rw [h0]; exact hb), show i + d + 1 = (i + 1) + d by omega]
        exact sc_sh2 hA n _ _ (by omega) hok (by omega) (by omega)
      by_cases h1 : g i = 47 ∧ i + 1 < len ∧ g (i + 1) = 47
      · have e1 := hA (i + 1) (by omega) h1.2.1
        have h3 := line_end hl h1.1
        rw [sc_line h1.2.1 h1.1 h1.2.2] at hok ⊢
        rw [sc_line (i := i + d) (by omega) (by rw [h0]; exact h1.1) (by rw [show i + d + 1 = (i + 1) + d by omega, e1]; exact h1.2.2), stopI_sh2 hA i hP]
        exact sc_sh2 hA n _ _ (by omega) hok (by omega) (by omega)
      by_cases h2 : g i = 47 ∧ i + 1 < len ∧ g (i + 1) = 42
      · have e1 := hA (i + 1) (by omega) h2.2.1
        have h3 : i + 2 ≤ remI g len (i + 2) := remF_ge (g := g) (len := len) (len - (i + 2)) (i + 2)
        rw [sc_rem h2.2.1 h2.1 h2.2.2] at hok ⊢
        rw [sc_rem (i := i + d) (by omega) (by rw [h0]; exact h2.1) (by rw [show i + d + 1 = (i + 1) + d by omega, e1]; exact h2.2.2), show i + d + 2 = (i + 2) + d by omega, remI_sh2 hA (i + 2) (by omega)]
        by_cases hr : remI g len (i + 2) + 1 < len
        · rw [if_pos hr] at hok ⊢
          rw [if_pos (by omega), show remI g len (i + 2) + d + 2 = (remI g len (i + 2) + 2) + d by omega]
          exact sc_sh2 hA n _ _ (by omega) hok (by omega) (by omega)
        · rw [if_neg hr] at hok
          exact absurd (show (3 : Int) = 0 from hok _ (List.mem_singleton.2 rfl)) (by decide)
      have hng : NoGap g len i := ⟨by simpa using hb, h1, h2⟩
      have hng' : NoGap g' (len + d) (i + d) := ⟨by rw [h0]; simpa using hb, fun hc => h1 ⟨by rw [← h0]; exact hc.1, by omega, by rw [← hA (i + 1) (by omega) (by omega), show i + 1 + d = i + d + 1 by omega]; exact hc.2.2⟩, fun hc => h2 ⟨by rw [← h0]; exact hc.1, by omega, by rw [← hA (i + 1) (by omega) (by omega), show i + 1 + d = i + d + 1 by omega]; exact hc.2.2⟩⟩
      cases hk : tokP g len i bs with
      | none =>
        rw [sc_bad hl hng hk] at hok
        exact absurd (show (3 : Int) = 0 from hok _ (List.mem_singleton.2 rfl)) (by decide)
      | some y =>
        obtain ⟨k, tx, e, bs'⟩ := y
        have ha := tokP_adv hl hk
        rw [sc_tok hl hng hk] at hok ⊢
        have ht := tokP_loc (g' := g') (len' := len + d) (i' := i + d) (p := len - i) hl hk (fun j hj => by rw [show i + d + j = (i + j) + d by omega]; exact hA _ (by omega) (by omega)) (by show e - i ≤ _; omega) (by omega) (by omega) (.inl (by omega))
        simp only [At2] at ht
        rw [show i + d + (e - i) = e + d by omega] at ht
        rw [sc_tok (by omega) hng' ht, List.map_cons, sc_sh2 hA n e bs' (by omega) (fun t h => hok t (List.mem_cons_of_mem _ h)) ha.2.1 (by omega)]
        rfl
    · rw [sc_end hl, sc_end (show ¬ i + d < len + d by omega)]
      rfl
/-- What the law lays in. -/
def gapL : Nat → List Int
  | 0 => [32, 32, 32]
  | 1 => [32, 10, 32]
  | 2 => [32, 9, 13, 32, 32]
  | 3 => [32, 47, 42, 32, 195, 169, 32, 42, 47, 32]
  | 4 => [32, 47, 42, 120, 42, 47, 32, 32]
  | _ => [32, 47, 47, 120, 10, 32]
theorem gapL_len (q : Nat) : 3 ≤ (gapL q).length ∧ (gapL q).length ≤ 10 := by
  match q with
  | 0 | 1 | 2 | 3 | 4 => exact ⟨by decide, by decide⟩
  | _ + 5 => exact ⟨by show 3 ≤ 6; decide, by show 6 ≤ 10; decide⟩
theorem gapL_head (q : Nat) : (gapL q)[0]? = some 32 := by
  match q with
  | 0 | 1 | 2 | 3 | 4 => rfl
  | _ + 5 => rfl
theorem blk_of {g : Nat → Int} {i : Nat} {z : Int} (h : g i = z) (hz : blk z = true) : blk (g i) = true := by rw [h]; exact hz
/-- What is laid in is passed by. -/
theorem ins_skip {g' : Nat → Int} {len' P q : Nat} (bs : List Bool) (hI : ∀ m z, (gapL q)[m]? = some z → g' (P + m) = z) (hl : P + (gapL q).length ≤ len') : scI g' len' P bs = scI g' len' (P + (gapL q).length) bs := by
  have h0 := hI 0 32 (gapL_head q)
  rw [Nat.add_zero] at h0
  match q, hI, hl with
  | 0, hI, hl =>
    change P + 3 ≤ len' at hl
    change scI g' len' P bs = scI g' len' (P + 3) bs
    rw [sc_blk (i := P) (by omega) (blk_of h0 rfl), sc_blk (i := P + 1) (by omega) (blk_of (hI 1 32 rfl) rfl), sc_blk (i := P + 2) (by omega) (blk_of (hI 2 32 rfl) rfl)]
  | 1, hI, hl =>
    change P + 3 ≤ len' at hl
    change scI g' len' P bs = scI g' len' (P + 3) bs
    rw [sc_blk (i := P) (by omega) (blk_of h0 rfl), sc_blk (i := P + 1) (by omega) (blk_of (hI 1 10 rfl) rfl), sc_blk (i := P + 2) (by omega) (blk_of (hI 2 32 rfl) rfl)]
  | 2, hI, hl =>
    change P + 5 ≤ len' at hl
    change scI g' len' P bs = scI g' len' (P + 5) bs
    rw [sc_blk (i := P) (by omega) (blk_of h0 rfl), sc_blk (i := P + 1) (by omega) (blk_of (hI 1 9 rfl) rfl), sc_blk (i := P + 2) (by omega) (blk_of (hI 2 13 rfl) rfl), sc_blk (i := P + 3) (by omega) (blk_of (hI 3 32 rfl) rfl), sc_blk (i := P + 4) (by omega) (blk_of (hI 4 32 rfl) rfl)]
  | 3, hI, hl =>
    change P + 10 ≤ len' at hl
    change scI g' len' P bs = scI g' len' (P + 10) bs
    have r3 := hI 3 32 rfl
    have r4 := hI 4 195 rfl
    have r5 := hI 5 169 rfl
    have r6 := hI 6 32 rfl
    have r7 := hI 7 42 rfl
    have r8 := hI 8 47 rfl
    have hr : remI g' len' (P + 3) = P + 7 := by
      rw [remI_step (i := P + 3) (by omega) (by rw [r3]; omega), remI_step (i := P + 4) (by omega) (by rw [r4]; omega), remI_step (i := P + 5) (by omega) (by rw [r5]; omega), remI_step (i := P + 6) (by omega) (by rw [r6]; omega), remI_stop (i := P + 7) (fun h => h.2 ⟨r7, r8⟩)]
    rw [sc_blk (i := P) (by omega) (blk_of h0 rfl), sc_rem (i := P + 1) (by omega) (hI 1 47 rfl) (hI 2 42 rfl), show P + 1 + 2 = P + 3 by omega, hr, if_pos (by omega), show P + 7 + 2 = P + 9 by omega, sc_blk (i := P + 9) (by omega) (blk_of (hI 9 32 rfl) rfl)]
  | 4, hI, hl =>
    change P + 8 ≤ len' at hl
    change scI g' len' P bs = scI g' len' (P + 8) bs
    have r3 := hI 3 120 rfl
    have r4 := hI 4 42 rfl
    have r5 := hI 5 47 rfl
    have hr : remI g' len' (P + 3) = P + 4 := by
      rw [remI_step (i := P + 3) (by omega) (by rw [r3]; omega), remI_stop (i := P + 4) (fun h => h.2 ⟨r4, r5⟩)]
    rw [sc_blk (i := P) (by omega) (blk_of h0 rfl), sc_rem (i := P + 1) (by omega) (hI 1 47 rfl) (hI 2 42 rfl), show P + 1 + 2 = P + 3 by omega, hr, if_pos (by omega), show P + 4 + 2 = P + 6 by omega, sc_blk (i := P + 6) (by omega) (blk_of (hI 6 32 rfl) rfl), sc_blk (i := P + 7) (by omega) (blk_of (hI 7 32 rfl) rfl)]
  | n + 5, hI, hl =>
    change P + 6 ≤ len' at hl
    change scI g' len' P bs = scI g' len' (P + 6) bs
    have r1 := hI 1 47 rfl
    have r2 := hI 2 47 rfl
    have r3 := hI 3 120 rfl
    have r4 := hI 4 10 rfl
    have hs : stopI (fun c => c != 10) g' len' (P + 1) = P + 4 := stopI_is (by omega) (by omega) (fun j a b => by
      rcases (by omega : j = P + 1 ∨ j = P + 2 ∨ j = P + 3) with rfl | rfl | rfl
      · rw [r1]; rfl
      · rw [r2]; rfl
      · rw [r3]; rfl) (.inr (by rw [r4]; rfl))
    rw [sc_blk (i := P) (by omega) (blk_of h0 rfl), sc_line (i := P + 1) (by omega) r1 r2, hs, sc_blk (i := P + 4) (by omega) (blk_of r4 rfl), sc_blk (i := P + 5) (by omega) (blk_of (hI 5 32 rfl) rfl)]
/-- A line's remark at the text's end swallows what is laid in up to its line's end. -/
theorem ins_line {g' : Nat → Int} {P q i : Nat} (bs : List Bool) (hI : ∀ m z, (gapL q)[m]? = some z → g' (P + m) = z) (hiP : i ≤ P) (hno : ∀ j, i ≤ j → j < P → (g' j != 10) = true) :
    scI g' (P + (gapL q).length) (stopI (fun c => c != 10) g' (P + (gapL q).length) i) bs = [((10, [], P + (gapL q).length, P + (gapL q).length), 0)] := by
  have h0 := hI 0 32 (gapL_head q)
  rw [Nat.add_zero] at h0
  have all : ∀ m, (∀ k, k < m → (g' (P + k) != 10) = true) → ∀ j, i ≤ j → j < P + m → (g' j != 10) = true := fun m hm j a b => by
    by_cases hj : j < P
    · exact hno j a hj
    · rw [show j = P + (j - P) by omega]
      exact hm _ (by omega)
  have nz : ∀ m z, (gapL q)[m]? = some z → (z != 10) = true → (g' (P + m) != 10) = true := fun m z h hz => by rw [hI m z h]; exact hz
  match q, hI, nz with
  | 0, hI, nz =>
    have e : (gapL 0).length = 3 := rfl
    rw [e, stopI_is (m := P + 3) (by omega) (by omega) (all 3 (fun k hk => by rcases (by omega : k = 0 ∨ k = 1 ∨ k = 2) with rfl | rfl | rfl <;> exact nz _ _ rfl rfl)) (.inl rfl), sc_end (by omega)]
  | 1, hI, nz =>
    have e : (gapL 1).length = 3 := rfl
    have r1 := hI 1 10 rfl
    rw [e, stopI_is (m := P + 1) (by omega) (by omega) (all 1 (fun k hk => by rcases (by omega : k = 0) with rfl <;> exact nz _ _ rfl rfl)) (.inr (by rw [r1]; rfl)), sc_blk (i := P + 1) (by omega) (blk_of r1 rfl), sc_blk (i := P + 2) (by omega) (blk_of (hI 2 32 rfl) rfl), sc_end (by omega)]
  | 2, hI, nz =>
    have e : (gapL 2).length = 5 := rfl
    rw [e, stopI_is (m := P + 5) (by omega) (by omega) (all 5 (fun k hk => by rcases (by omega : k = 0 ∨ k = 1 ∨ k = 2 ∨ k = 3 ∨ k = 4) with rfl | rfl | rfl | rfl | rfl <;> exact nz _ _ rfl rfl)) (.inl rfl), sc_end (by omega)]
  | 3, hI, nz =>
    have e : (gapL 3).length = 10 := rfl
    rw [e, stopI_is (m := P + 10) (by omega) (by omega) (all 10 (fun k hk => by rcases (by omega : k = 0 ∨ k = 1 ∨ k = 2 ∨ k = 3 ∨ k = 4 ∨ k = 5 ∨ k = 6 ∨ k = 7 ∨ k = 8 ∨ k = 9) with rfl | rfl | rfl | rfl | rfl | rfl | rfl | rfl | rfl | rfl <;> exact nz _ _ rfl rfl)) (.inl rfl), sc_end (by omega)]
  | 4, hI, nz =>
    have e : (gapL 4).length = 8 := rfl
    rw [e, stopI_is (m := P + 8) (by omega) (by omega) (all 8 (fun k hk => by rcases (by omega : k = 0 ∨ k = 1 ∨ k = 2 ∨ k = 3 ∨ k = 4 ∨ k = 5 ∨ k = 6 ∨ k = 7) with rfl | rfl | rfl | rfl | rfl | rfl | rfl | rfl <;> exact nz _ _ rfl rfl)) (.inl rfl), sc_end (by omega)]
  | n + 5, hI, nz =>
    have e : (gapL (n + 5)).length = 6 := rfl
    have r4 := hI 4 10 rfl
    rw [e, stopI_is (m := P + 4) (by omega) (by omega) (all 4 (fun k hk => by rcases (by omega : k = 0 ∨ k = 1 ∨ k = 2 ∨ k = 3) with rfl | rfl | rfl | rfl <;> exact nz _ _ rfl rfl)) (.inr (by rw [r4]; rfl)), sc_blk (i := P + 4) (by omega) (blk_of r4 rfl), sc_blk (i := P + 5) (by omega) (blk_of (hI 5 32 rfl) rfl), sc_end (by omega)]
end Go.Proofs.YtpdkeggiokebmaaDoor

/- LexBlanks, purely: the tokens of the text with blanks or a remark laid in. -/
namespace Go.Proofs.YtpdkeggiokebmaaDoor
set_option linter.unusedSimpArgs false
set_option linter.unusedVariables false
open Go.RowKit Go.Shelf

/-- A text with something laid in at a place. -/
structure InsAt (g g' : Nat → Int) (len P q : Nat) : Prop where
  lo : ∀ j, j < P → g' j = g j
  mid : ∀ m z, (gapL q)[m]? = some z → g' (P + m) = z
  hi : ∀ j, P ≤ j → j < len → g' (j + (gapL q).length) = g j
  le : P ≤ len
theorem InsAt.at {g g' : Nat → Int} {len P q : Nat} (h : InsAt g g' len P q) : g' P = 32 := h.mid 0 32 (gapL_head q)
theorem gap_low {g g' : Nat → Int} {len len' P i j : Nat} (hlo : ∀ m, m < P → g' m = g m) (hP : P ≤ len) (hl : len ≤ len') (h : GapTo g len i j) (bs : List Bool) : j < P → scI g' len' i bs = scI g' len' j bs := by
  induction h with
  | here i => intro _; rfl
  | @blk i j a b hg ih =>
    intro hj
    have hle := hg.le (by omega)
    rw [sc_blk (i := i) (by omega) (by rw [hlo i (by omega)]; exact b)]
    exact ih hj
  | @line i j a b c hg ih =>
    intro hj
    have h1 := line_end (show i < len by omega) b
    obtain ⟨s, es⟩ : ∃ s, stopI (fun c => c != 10) g len i = s := ⟨_, rfl⟩
    rw [es] at h1 hg ih
    have hle := hg.le (by omega)
    have h10 : (g s != 10) = false := by
      rcases h1.2.2.2 with h | h
      · omega
      · exact h
    have e2 : stopI (fun c => c != 10) g' len' i = s := stopI_is (by omega) (by omega) (fun m x y => by
      show (g' m != 10) = true
      rw [hlo m (by omega)]
      exact h1.2.2.1 m x y) (.inr (by show (g' s != 10) = false; rw [hlo s (by omega)]; exact h10))
    have hi2 : i + 1 < P := by
      rcases Nat.lt_or_ge (i + 1) P with q | q
      · exact q
      · omega
    rw [sc_line (i := i) (by omega) (by rw [hlo i (by omega)]; exact b) (by rw [hlo (i + 1) hi2]; exact c), e2]
    exact ih hj
  | @rem i j a b c d hg ih =>
    intro hj
    have h3 : i + 2 ≤ remI g len (i + 2) := remF_ge (g := g) (len := len) (len - (i + 2)) (i + 2)
    have hle := hg.le (by omega)
    have er : remI g' len' (i + 2) = i + 2 + (remI g len (i + 2) - (i + 2)) := remF_loc _ _ (i + 2) (i + 2) (Nat.le_refl _) (Nat.le_refl _) d (fun m hm => by
      have hm' : m < remI g len (i + 2) + 2 - (i + 2) := hm
      exact hlo _ (by omega)) (by show i + 2 + (remI g len (i + 2) + 2 - (i + 2)) ≤ len'; omega)
    obtain ⟨r, hr⟩ : ∃ r, remI g len (i + 2) = r := ⟨_, rfl⟩
    rw [hr] at h3 hle er d hg ih
    rw [sc_rem (i := i) (by omega) (by rw [hlo i (by omega)]; exact b) (by rw [hlo (i + 1) (by omega)]; exact c), er, if_pos (by omega), show i + 2 + (r - (i + 2)) + 2 = r + 2 by omega]
    exact ih hj
theorem ins_gap {g g' : Nat → Int} {len P q i : Nat} (hI : InsAt g g' len P q) (hend : P = len ∨ blk (g P) = false) (bs : List Bool) (h : GapTo g len i P) : i ≤ len → scI g' (len + (gapL q).length) i bs = scI g' (len + (gapL q).length) (P + (gapL q).length) bs := by
  have hP := hI.le
  generalize hD : (gapL q).length = D
  induction h with
  | here i =>
    intro hi
    rw [← hD]
    exact ins_skip bs hI.mid (by omega)
  | @blk i P a b hg ih =>
    intro hi
    have hle := hg.le (by omega)
    rw [sc_blk (i := i) (by omega) (by rw [hI.lo i (by omega)]; exact b)]
    exact ih hI hend hP (by omega)
  | @line i P a b c hg ih =>
    intro hi
    have h1 := line_end (show i < len by omega) b
    obtain ⟨s, es⟩ : ∃ s, stopI (fun c => c != 10) g len i = s := ⟨_, rfl⟩
    rw [es] at h1 hg ih
    have hle := hg.le (by omega)
    have hs2 : i + 2 ≤ s := by
      rcases h1.2.2.2 with h | h
      · omega
      · rcases Nat.lt_or_ge (i + 1) s with q | q
        · omega
        · have : s = i + 1 := by omega
          rw [this, c] at h
          cases h
    by_cases hsP : s = P
    · have hPl : P = len := by
        rcases hend with h | h
        · exact h
        · rcases h1.2.2.2 with h2 | h2
          · omega
          · rw [hsP] at h2
            have h3 : g P = 10 := by simpa using h2
            rw [h3] at h
            cases h
      subst hPl
      rw [sc_line (i := i) (by omega) (by rw [hI.lo i (by omega)]; exact b) (by rw [hI.lo (i + 1) (by omega)]; exact c), ← hD, ins_line bs hI.mid (by omega) (fun j x y => by
        show (g' j != 10) = true
        rw [hI.lo j y]
        exact h1.2.2.1 j x (by omega)), sc_end (by omega)]
    · have h10 : (g s != 10) = false := by
        rcases h1.2.2.2 with h | h
        · omega
        · exact h
      have e2 : stopI (fun c => c != 10) g' (len + D) i = s := stopI_is (by omega) (by omega) (fun m x y => by
        show (g' m != 10) = true
        rw [hI.lo m (by omega)]
        exact h1.2.2.1 m x y) (.inr (by show (g' s != 10) = false; rw [hI.lo s (by omega)]; exact h10))
      rw [sc_line (i := i) (by omega) (by rw [hI.lo i (by omega)]; exact b) (by rw [hI.lo (i + 1) (by omega)]; exact c), e2]
      exact ih hI hend hP (by omega)
  | @rem i P a b c d hg ih =>
    intro hi
    have h3 : i + 2 ≤ remI g len (i + 2) := remF_ge (g := g) (len := len) (len - (i + 2)) (i + 2)
    have hle := hg.le (by omega)
    have er : remI g' (len + D) (i + 2) = i + 2 + (remI g len (i + 2) - (i + 2)) := remF_loc _ _ (i + 2) (i + 2) (Nat.le_refl _) (Nat.le_refl _) d (fun m hm => by
      have hm' : m < remI g len (i + 2) + 2 - (i + 2) := hm
      exact hI.lo _ (by omega)) (by show i + 2 + (remI g len (i + 2) + 2 - (i + 2)) ≤ len + D; omega)
    obtain ⟨r, hr⟩ : ∃ r, remI g len (i + 2) = r := ⟨_, rfl⟩
    rw [hr] at h3 hle er d hg ih
    rw [sc_rem (i := i) (by omega) (by rw [hI.lo i (by omega)]; exact b) (by rw [hI.lo (i + 1) (by omega)]; exact c), er, if_pos (by omega), show i + 2 + (r - (i + 2)) + 2 = r + 2 by omega]
    exact ih hI hend hP (by omega)
/-- Every token begins where the scan is or behind that. -/
theorem sc_from {g : Nat → Int} {len : Nat} : ∀ (n i : Nat) (bs : List Bool), len - i ≤ n → okI (scI g len i bs) → i ≤ len → ∀ t ∈ scI g len i bs, i ≤ t.1.2.2.1
  | n, i, bs, hn, hok, hi => by
    obtain ⟨j, hg, hj⟩ := sc_step (g := g) (len := len) n i bs hn hok hi
    have hle := hg.le hi
    rw [hg.sc bs] at hok ⊢
    rcases hj with rfl | ⟨hl, hng, ⟨kd, tx, e, bs'⟩, hy⟩
    · rw [sc_end (by omega)]
      intro t ht
      rw [List.mem_singleton.1 ht]
      exact hle.1
    · have ha := tokP_adv hl hy
      rw [sc_tok hl hng hy] at hok ⊢
      intro t ht
      rcases List.mem_cons.1 ht with rfl | h
      · exact hle.1
      · match n, hn with
        | 0, hn => omega
        | n + 1, hn =>
          have := sc_from n e bs' (by omega) (fun t h => hok t (List.mem_cons_of_mem _ h)) ha.2.1 t h
          omega
def ktT (t : TokD) : Int × List Int := (t.1.1, t.1.2.1)
theorem kt_sh (l : List TokD) (d : Nat) : (l.map (shT d)).map ktT = l.map ktT := by
  rw [List.map_map]
  rfl
theorem ok_sh {l : List TokD} {d : Nat} (h : okI l) : okI (l.map (shT d)) := fun t ht => by
  obtain ⟨s, hs, rfl⟩ := List.mem_map.1 ht
  exact h s hs
theorem ins_main {g g' : Nat → Int} {len P q : Nat} (hI : InsAt g g' len P q) : ∀ (n i : Nat) (bs : List Bool) (k : Nat) (t : TokD), len - i ≤ n → okI (scI g len i bs) → i ≤ P → (scI g len i bs)[k]? = some t → t.1.2.2.1 = P →
    okI (scI g' (len + (gapL q).length) i bs) ∧ (scI g' (len + (gapL q).length) i bs).map ktT = (scI g len i bs).map ktT
  | n, i, bs, k, t, hn, hok, hiP, hk, hP => by
    have hPl := hI.le
    obtain ⟨j, hg, hj⟩ := sc_step (g := g) (len := len) n i bs hn hok (by omega)
    have hle := hg.le (by omega)
    rw [hg.sc bs] at hok hk ⊢
    rcases hj with rfl | ⟨hl, hng, ⟨kd, tx, e, bs'⟩, hy⟩
    · have e0 : scI g j j bs = [((10, [], j, j), 0)] := sc_end (Nat.lt_irrefl j)
      rw [e0] at hk ⊢
      have hk0 : P = j := by
        match k, hk with
        | 0, hk => cases hk; exact hP.symm
        | k + 1, hk => simp at hk
      subst hk0
      rw [ins_gap hI (.inl rfl) bs hg (by omega), sc_end (by omega)]
      exact ⟨fun t ht => by rw [List.mem_singleton.1 ht], rfl⟩
    · have ha := tokP_adv hl hy
      match k, hk with
      | 0, hk =>
        rw [sc_tok hl hng hy] at hk
        cases hk
        simp only at hP
        subst hP
        rw [ins_gap hI (.inr hng.1) bs hg (by omega), sc_sh2 hI.hi len j bs (by omega) hok (by omega) (Nat.le_refl _)]
        exact ⟨ok_sh hok, kt_sh _ _⟩
      | m + 1, hk =>
        rw [sc_tok hl hng hy] at hk hok ⊢
        have hok' : okI (scI g len e bs') := fun t h => hok t (List.mem_cons_of_mem _ h)
        have hk' : (scI g len e bs')[m]? = some t := by simpa using hk
        have heP : e ≤ P := by
          rw [← hP]
          exact sc_from len e bs' (by omega) hok' ha.2.1 t (List.mem_of_getElem? hk')
        have hD := gapL_len q
        rw [gap_low (len' := len + (gapL q).length) hI.lo hPl (by omega) hg bs (by omega)]
        have h0 : g' j = g j := hI.lo j (by omega)
        have hnx : ∀ c : Int, c ≠ 32 → ¬ (g j = 47 ∧ j + 1 < len ∧ g (j + 1) = c) → ¬ (g' j = 47 ∧ j + 1 < len + (gapL q).length ∧ g' (j + 1) = c) := fun c hc hno hh => by
          by_cases hx : j + 1 < P
          · exact hno ⟨by rw [← h0]; exact hh.1, by omega, by rw [← hI.lo (j + 1) hx]; exact hh.2.2⟩
          · have : j + 1 = P := by omega
            rw [this, hI.at] at hh
            exact hc hh.2.2.symm
        have hng' : NoGap g' (len + (gapL q).length) j := ⟨by rw [h0]; exact hng.1, hnx 47 (by decide) hng.2.1, hnx 42 (by decide) hng.2.2⟩
        have ht := tokP_loc (g' := g') (len' := len + (gapL q).length) (i' := j) (p := P - j) hl hy (fun m hm => hI.lo _ (by omega)) (by show e - j ≤ _; omega) (by omega) (by omega) (.inr ⟨by omega, by rw [show j + (P - j) = P by omega, hI.at]; decide⟩)
        simp only [At2] at ht
        rw [show j + (e - j) = e by omega] at ht
        rw [sc_tok (by omega) hng' ht]
        match n, hn with
        | 0, hn => omega
        | n + 1, hn =>
          obtain ⟨q1, q2⟩ := ins_main hI n e bs' m t (by omega) hok' heP hk' hP
          refine ⟨fun t ht => ?_, by rw [List.map_cons, List.map_cons, q2]⟩
          rcases List.mem_cons.1 ht with rfl | h
          · rfl
          · exact q1 t h
end Go.Proofs.YtpdkeggiokebmaaDoor

/- LexBlanks: the walk. -/
namespace Go.Proofs.YtpdkeggiokebmaaDoor
set_option linter.unusedSimpArgs false
set_option linter.unusedVariables false
open Go.ChangeShapes Go.WideShapes Go.ChangeAt Go.RowKit Go.Shelf

/-- What the law lays between two blanks. -/
def gapS : Nat → ByteArray
  | 0 => ⟨#[32]⟩
  | 1 => ⟨#[10]⟩
  | 2 => ⟨#[9, 13, 32]⟩
  | 3 => ⟨#[47, 42, 32, 195, 169, 32, 42, 47]⟩
  | 4 => ⟨#[47, 42, 120, 42, 47, 32]⟩
  | _ => ⟨#[47, 47, 120, 10]⟩
theorem gap_cells (q : Nat) : Lib.strCells (⟨#[32]⟩ ++ gapS q ++ ⟨#[32]⟩) = (gapL q).map (Value.int .u8) := by
  match q with
  | 0 | 1 | 2 | 3 | 4 => rfl
  | _ + 5 => rfl
theorem gap_size (q : Nat) : (⟨#[32]⟩ ++ gapS q ++ ⟨#[32]⟩ : ByteArray).size = (gapL q).length := by
  match q with
  | 0 | 1 | 2 | 3 | 4 => rfl
  | _ + 5 => rfl
theorem gap_bd (q : Nat) : ∀ z ∈ gapL q, 0 ≤ z ∧ z ≤ 255 := by
  match q with
  | 0 | 1 | 2 | 3 | 4 => decide
  | _ + 5 => show ∀ z ∈ [32, 47, 47, 120, 10, 32], 0 ≤ z ∧ z ≤ 255; decide
def insG (g : Nat → Int) (q P j : Nat) : Int := if j < P then g j else if j < P + (gapL q).length then (gapL q).getD (j - P) 0 else g (j - (gapL q).length)
theorem insG_at (g : Nat → Int) {q P len : Nat} (h : P ≤ len) : InsAt g (insG g q P) len P q where
  lo j hj := if_pos hj
  mid m z hm := by
    have hl := (List.getElem?_eq_some_iff.1 hm).1
    unfold insG
    rw [if_neg (by omega), if_pos (by omega), show P + m - P = m by omega, List.getD_eq_getElem?_getD, hm]
    rfl
  hi j h1 h2 := by
    unfold insG
    rw [if_neg (by omega), if_neg (by omega), show j + (gapL q).length - (gapL q).length = j by omega]
  le := h
theorem insG_bd {g : Nat → Int} (hg : ∀ j, 0 ≤ g j ∧ g j ≤ 255) (q P j : Nat) : 0 ≤ insG g q P j ∧ insG g q P j ≤ 255 := by
  unfold insG
  split
  · exact hg _
  · split
    · rw [List.getD_eq_getElem?_getD]
      cases h : (gapL q)[j - P]? with
      | none => exact ⟨by decide, by decide⟩
      | some z => exact gap_bd q z (List.mem_of_getElem? h)
    · exact hg _
theorem insG_get {g : Nat → Int} {q P len j : Nat} (hP : P ≤ len) (h : j < P + (gapL q).length + (len - P)) : (bcells g P ++ (gapL q).map (Value.int .u8) ++ bcells (fun m => g (P + m)) (len - P))[j]? = some (.int .u8 (insG g q P j)) := by
  unfold insG
  rw [List.append_assoc]
  by_cases h1 : j < P
  · rw [if_pos h1, List.getElem?_append_left (by rw [bcells_length]; exact h1), bcells_get h1]
  · rw [if_neg h1, List.getElem?_append_right (by rw [bcells_length]; omega), bcells_length]
    by_cases h2 : j < P + (gapL q).length
    · rw [if_pos h2, List.getElem?_append_left (by rw [List.length_map]; omega), List.getElem?_map, List.getD_eq_getElem?_getD]
      rw [List.getElem?_eq_getElem (by omega)]
      rfl
    · rw [if_neg h2, List.getElem?_append_right (by rw [List.length_map]; omega), List.length_map, bcells_get (by omega), show P + (j - P - (gapL q).length) = j - (gapL q).length by omega]
/-- Every token lies within the text. -/
theorem sc_within {g : Nat → Int} {len : Nat} : ∀ (n i : Nat) (bs : List Bool), len - i ≤ n → okI (scI g len i bs) → i ≤ len → ∀ t ∈ scI g len i bs, t.1.2.2.1 ≤ len ∧ t.1.2.2.2 ≤ len
  | n, i, bs, hn, hok, hi => by
    obtain ⟨j, hg, hj⟩ := sc_step (g := g) (len := len) n i bs hn hok hi
    have hle := hg.le hi
    rw [hg.sc bs] at hok ⊢
    rcases hj with rfl | ⟨hl, hng, ⟨kd, tx, e, bs'⟩, hy⟩
    · rw [sc_end (Nat.lt_irrefl _)]
      intro t ht
      rw [List.mem_singleton.1 ht]
      exact ⟨Nat.le_refl _, Nat.le_refl _⟩
    · have ha := tokP_adv hl hy
      rw [sc_tok hl hng hy] at hok ⊢
      intro t ht
      rcases List.mem_cons.1 ht with rfl | h
      · exact ⟨hle.2, ha.2.1⟩
      · match n, hn with
        | 0, hn => omega
        | n + 1, hn => exact sc_within n e bs' (by omega) (fun t h => hok t (List.mem_cons_of_mem _ h)) ha.2.1 t h
theorem mod_at (n : Int) (m : Nat) (hm : 0 < m) (hs : m ≤ 5000) : ∃ k : Nat, k < m ∧ ((n.tmod m = k ∧ ¬ n.tmod m < 0) ∨ (n.tmod m < 0 ∧ wrap64 (n.tmod m + m) = k)) := by
  have h1 := Int.lt_tmod_of_pos n (show (0 : Int) < m by omega)
  have h2 := Int.tmod_lt_of_pos n (show (0 : Int) < m by omega)
  by_cases h : n.tmod m < 0
  · refine ⟨(n.tmod m + m).toNat, by omega, .inr ⟨h, ?_⟩⟩
    rw [Int.toNat_of_nonneg (by omega)]
    unfold wrap64
    omega
  · exact ⟨(n.tmod m).toNat, by omega, .inl ⟨(Int.toNat_of_nonneg (by omega)).symm, h⟩⟩

set_option maxRecDepth 100000 in
set_option maxHeartbeats 8000000 in
theorem lexBlanks_small (a : Option Addr) (len cap c : Nat) (n which : Int) (g : Nat → Int) (hg : ∀ j, 0 ≤ g j ∧ g j ≤ 255) (W : World) (hlen : len ≤ 1480) (hS : Sl W c (.slice a len cap) len g) (hc : c < W.heap.size) (hnil : a = none → cap = 0) (hE1 : ErrG W 1) (hE2 : ErrG W 2) :
    Calls Tryd.prog 6 #[.slice a len cap, .int .i64 n, .int .i64 which] W fun e w' => e = .returned (.bool true) ∧ Below W.heap.size W w' := by
  have h2w := hE2.lt
  have HSA : Hid (∀ W', Below W.heap.size W W' → Sl W' c (.slice a len cap) len g) := fun W' hb => hS.keep (fun k e => by subst e; exact hb.block k hc)
  have HE : Hid (∀ W', Below W.heap.size W W' → ErrG W' 1 ∧ ErrG W' 2) := fun W' hb => ⟨hE1.below hb (by omega), hE2.below hb h2w⟩
  have HK : Hid (∀ W', Below W.heap.size W W' → Calls Tryd.prog 14 #[] W' fun e w' => e = .returned (.bool true) ∧ Below W'.heap.size W' w') := fun W' hb => lexknown_any W' (unhide HE W' hb).1 (unhide HE W' hb).2
  have HG := hide hg
  have HN := hide hnil
  have hlI := hide (scI_len g len)
  have hpI := hide (sc_some (g := g) (len := len) len 0 [] (by omega))
  have HT := hide (callsIn_wide.1 (tokens_any a len cap c g hg W (by omega) hS hc hnil hE1 hE2))
  have hl' : ¬ (1480 : Int) < len := by omega
  have hld : decide ((1480 : Int) < len) = false := by simpa using hl'
  have hcap : len ≤ cap := hS.cap
  obtain ⟨i0, hi, hz0, hz1, hz2⟩ := info_parts infoByte
  clear hS hE1 hE2 hnil hg
  go_enter Tryd.func6, Tryd.ntmps6
  go_wp2_with (go_at_call 10; refine (unhide HT).mono ?_)
  rintro x W1 hT1
  have HB1 := hide hT1.2
  have hz1' := hT1.2.size
  rcases hT1.1 with ⟨hok1, v1, rfl, hv1⟩ | ⟨p, i, hp, hokp, rfl⟩
  · have HOK1 := hide hok1
    obtain ⟨g1, c1, hvv, q1, q2, hg1, _⟩ := row_open hv1 (unhide hpI)
    obtain ⟨n1, hn1⟩ : ∃ n, (scI g len 0 []).length = n := ⟨_, rfl⟩
    have HV1 := hide hv1
    have hl1 : n1 ≤ 1481 := by rw [← hn1]; exact Nat.le_trans (unhide hlI) (by omega)
    have hp1 : 0 < n1 := by rw [← hn1]; exact unhide hpI
    rw [hn1] at hvv q1
    have HN1 := hide hn1
    subst hvv
    unfold maxLen at q2
    have hz1b : ((n1 : Int) == 0) = false := by simp; omega
    have hzn : ¬ (n1 : Int) = 0 := by omega
    clear hT1 hok1 hv1 hn1
    obtain ⟨k, hk, hkc⟩ := mod_at n n1 hp1 (by omega)
    obtain ⟨q, hq, hqc⟩ : ∃ q : Nat, q < 6 ∧ ((which.tmod 6 = q ∧ ¬ which.tmod 6 < 0) ∨ (which.tmod 6 < 0 ∧ wrap64 (which.tmod 6 + 6) = q)) := mod_at which 6 (by omega) (by omega)
    obtain ⟨t, ht⟩ : ∃ t, (scI g len 0 [])[k]? = some t := ⟨_, List.getElem?_eq_getElem (by rw [show (scI g len 0 []).length = n1 from unhide HN1]; exact hk)⟩
    obtain ⟨y0, y1, y2, y3⟩ := row_cells (unhide HV1) ht
    have hPl : t.1.2.2.1 ≤ len := (sc_within (g := g) len 0 [] (by omega) (unhide HOK1) (Nat.zero_le _) t (List.mem_of_getElem? ht)).1
    obtain ⟨P, hP⟩ : ∃ P, t.1.2.2.1 = P := ⟨_, rfl⟩
    obtain ⟨kd, hkd⟩ : ∃ kd, t.1.1 = kd := ⟨_, rfl⟩
    rw [hP] at y2 hPl
    rw [hkd] at y0
    have hinsI := ins_main (insG_at g (q := q) hPl) len 0 [] k t (by omega) (unhide HOK1) (Nat.zero_le _) ht hP
    have HINS := hide hinsI
    clear ht hP hkd y1 y3 hinsI
    obtain ⟨WA, hWA⟩ : ∃ WA, W1.alloc (.cells #[.string ⟨#[32]⟩, .string ⟨#[10]⟩, .string ⟨#[9, 13, 32]⟩, .string ⟨#[47, 42, 32, 195, 169, 32, 42, 47]⟩, .string ⟨#[47, 42, 120, 42, 47, 32]⟩, .string ⟨#[47, 47, 120, 10]⟩] 9) = WA := ⟨_, rfl⟩
    have hB1A : Below W1.heap.size W1 WA := by rw [← hWA]; exact (Below.refl _ W1).alloc (Nat.le_refl _) _
    have hBA : Below W.heap.size W WA := (unhide HB1).trans (hB1A.mono hz1')
    have hza : WA.heap.size = W1.heap.size + 1 := by rw [← hWA]; simp
    have hgs : WA.cell? ⟨W1.heap.size, q, none⟩ = some (.string (gapS q)) := by
      rw [← hWA, Lib.cell_of_heap (World.alloc_heap_new W1 _)]
      rcases (by omega : q = 0 ∨ q = 1 ∨ q = 2 ∨ q = 3 ∨ q = 4 ∨ q = 5) with rfl | rfl | rfl | rfl | rfl | rfl <;> rfl
    have x0 := (hB1A.cell (p := ⟨g1, k * 4, none⟩) hg1).trans y0
    have x2 := (hB1A.cell (p := ⟨g1, k * 4 + 2, none⟩) hg1).trans y2
    obtain ⟨ah, caph, hslh, hnh, hsrh⟩ := cut_h (c := c) (g := g) (unhide HN) hcap hPl
    obtain ⟨al, capl, hsll, hnl, hsrl⟩ := cut_l (c := c) (g := g) (unhide HN) hcap hPl
    have hRh := (hsrh WA (unhide HSA WA hBA)).2
    simp only [Nat.zero_add] at hRh
    have HRh := hide hRh
    have HSRL := hide hsrl
    have HBA := hide hBA
    have HZA := hide hza
    have h0 : WA.ownsRow WA.heap.size 5 1 (.slice none 0 0) 0 [] := World.ownsRow_nil _ _ _ _
    have hkn : (k : Int) < n1 := by omega
    have hq6 : (q : Int) < 6 := by omega
    have hk0 : ¬ (k : Int) < 0 := by omega
    have hq0 : ¬ (q : Int) < 0 := by omega
    obtain ⟨S, hgS⟩ : ∃ S, gapS q = S := ⟨_, rfl⟩
    rw [hgS] at hgs
    have HGS := hide hgS
    clear hRh hsrh hsrl hB1A hnh hnl hza hBA y0 y2 hgS
    rcases hkc with ⟨e1, s1⟩ | ⟨s1, e1⟩ <;> rcases hqc with ⟨e2, s2⟩ | ⟨s2, e2⟩
    all_goals (
      go_wp2_with (at_builtin; refine append_src rfl _ _ rfl WA.heap.size _ _ _ rfl h0 _ P g rfl (unhide HRh) (by omega) (Nat.le_refl _) ?_)
      intro v3 w3 hown3 hg3
      have hs3 := hg3.size
      have hB3 : Below WA.heap.size WA w3 := (Below.refl _ WA).grown hg3 (Nat.le_refl _) (fun k e => by cases e)
      have hgs3 := (hB3.cell (p := ⟨W1.heap.size, q, none⟩) (by show W1.heap.size < _; rw [show WA.heap.size = W1.heap.size + 1 from unhide HZA]; omega)).trans hgs
      have hbs := gap_size q
      have hbl := gapL_len q
      have hcs := gap_cells q
      rw [show gapS q = S from unhide HGS] at hbs hcs
      have hss : S.size ≤ 8 := by
        have h := hbs
        simp only [ByteArray.size_append] at h
        have h1 : (⟨#[32]⟩ : ByteArray).size = 1 := rfl
        omega
      have hsz1 : ¬ 9223372036854775807 < 1 + S.size := by omega
      have hsz2 : ¬ 9223372036854775807 < 1 + S.size + 1 := by omega
      have HCS := hide hcs
      have HBS := hide hbs
      obtain ⟨D, hD⟩ : ∃ D, (gapL q).length = D := ⟨_, rfl⟩
      have HD := hide hD
      have HSD : Hid (1 + S.size + 1 = D) := by
        have h := unhide HBS
        simp only [ByteArray.size_append] at h
        have h1 : (⟨#[32]⟩ : ByteArray).size = 1 := rfl
        rw [hD] at h
        show 1 + S.size + 1 = D
        omega
      rw [hD] at hbl
      clear hgs hslh hcs hbs hD
      go_wp2_with (at_builtin; refine wpList_append_str rfl _ _ 22 9 rfl WA.heap.size 5 i0 Tryd.underlying22 Tryd.underlying9 hi hz0 hz1 hz2 _ _ _ rfl hown3 (⟨#[32]⟩ ++ S ++ ⟨#[32]⟩) rfl (by rw [unhide HBS, unhide HD]; unfold maxLen; omega) (by rw [unhide HBS, unhide HD]; omega) hs3 ?_)
      intro v4 w4 hown4 hg4 _
      have hs4 := hg4.size
      have hB4 : Below WA.heap.size WA w4 := hB3.grown hg4 hs3 (fun k hk => (hown3.lt k hk).1)
      have hown4' : w4.ownsRow WA.heap.size 5 1 v4 (P + D) (bcells g P ++ (gapL q).map (Value.int .u8)) := by
        have h := hown4
        rw [unhide HCS, show 1 + S.size + 1 = D from unhide HSD] at h
        exact h
      have x2' := (hB4.cell (p := ⟨g1, k * 4 + 2, none⟩) (by show g1 < _; rw [show WA.heap.size = W1.heap.size + 1 from unhide HZA]; omega)).trans x2
      have HRl := hide (unhide HSRL w4 (unhide HSA w4 ((unhide HBA).trans (hB4.mono (unhide HBA).size)))).2
      clear x2 hgs3 hown4
      go_wp2_with (at_builtin; refine append_src rfl _ _ rfl WA.heap.size _ _ _ rfl hown4' _ (len - P) (fun j => g (P + j)) rfl (unhide HRl) (by omega) (by omega) ?_)
      intro v5 w5 hown5 hg5
      have hs5 := hg5.size
      have hB5 : Below WA.heap.size WA w5 := hB4.grown hg5 (by omega) (fun k hk => (hown4'.lt k hk).1)
      have x0' := (hB5.cell (p := ⟨g1, k * 4, none⟩) (by show g1 < _; rw [show WA.heap.size = W1.heap.size + 1 from unhide HZA]; omega)).trans x0
      have HB5' := hide hB5
      have hBw5 := (unhide HBA).trans (hB5.mono (unhide HBA).size)
      have HB5 := hide hBw5
      have hw5 : 0 < w5.heap.size := by have := (unhide HBA).size; omega
      have hown5' : w5.ownsRow WA.heap.size 5 1 v5 (P + D + (len - P)) (bcells g P ++ (gapL q).map (Value.int .u8) ++ bcells (fun m => g (P + m)) (len - P)) := by
        first | exact hown5 | (rw [List.append_assoc]; exact hown5)
      obtain ⟨c5, a5, cap5, hv5, hn5, hc5, hS5⟩ := own_sl (g := insG g q P) hown5' hw5 (fun j hj => insG_get hPl (by rw [show (gapL q).length = D from unhide HD]; exact hj))
      subst hv5
      have HT5 := hide (callsIn_wide.1 (tokens_any a5 (P + D + (len - P)) cap5 c5 (insG g q P) (insG_bd (unhide HG) q P) w5 (by omega) hS5 hc5 hn5 (unhide HE w5 hBw5).1 (unhide HE w5 hBw5).2))
      have hinsD : scI (insG g q P) (P + D + (len - P)) 0 [] = scI (insG g q P) (len + (gapL q).length) 0 [] := by rw [show (gapL q).length = D from unhide HD, show P + D + (len - P) = len + D by omega]
      have HID := hide hinsD
      have HKw := hide (unhide HK w5 hBw5)
      clear hown3 hown4' hown5 hown5' hg3 hg4 hg5 h0 hB3 hB4 hB5 hS5 hn5 hBw5 hsll x2' hinsD hss hsz1 hsz2 x0
      by_cases h7 : kd = 7 ∨ kd = 8
      · rcases h7 with rfl | rfl
        all_goals (
          go_wp2_with (go_at_call 14; refine (unhide HKw).mono ?_)
          first | rintro x W9 rfl hB9 | rintro x W9 ⟨rfl, hB9⟩
          have HB9 := hide ((unhide HB5).trans (hB9.mono (unhide HB5).size))
          clear hB9
          go_wp2
          go_ret
          exact ⟨rfl, unhide HB9⟩)
      have b7 : (kd == 7) = false := by simpa using fun h => h7 (.inl h)
      have b8 : (kd == 8) = false := by simpa using fun h => h7 (.inr h)
      go_wp2_with (go_at_call 10; refine (unhide HT5).mono ?_)
      rintro x W6 hT6
      have HB6 := hide ((unhide HB5).trans (hT6.2.mono (unhide HB5).size))
      have HB6' := hide ((unhide HB5').trans (hT6.2.mono (unhide HB5').size))
      have hz6 := hT6.2.size
      have h6 := hT6.1
      rw [unhide HID] at h6
      obtain ⟨hokN, hkt⟩ := unhide HINS
      rcases h6 with ⟨_, v6, rfl, hv6⟩ | ⟨p, i, hp, _⟩
      rotate_left
      · exact (ok_apart hokN hp).elim
      have hln : (scI (insG g q P) (len + (gapL q).length) 0 []).length = n1 := by
        have h := congrArg List.length hkt
        rw [List.length_map, List.length_map, show (scI g len 0 []).length = n1 from unhide HN1] at h
        exact h
      obtain ⟨g6, c6, hvv, q5, q6, hg6, _⟩ := row_open hv6 (by rw [hln]; exact hp1)
      have HV6 := hide hv6
      have HKT := hide hkt
      rw [hln] at hvv q5
      subst hvv
      unfold maxLen at q6
      have HLN := hide hln
      have hnb : ((n1 : Int) != n1) = false := by simp
      clear hT6 hv6 hln hkt hokN
      go_wp2
      go_loopw [17] (fun t17 wr => ∃ m : Nat, m ≤ n1 ∧ t17 = .int .i64 (m : Int) ∧ Hid (Below W6.heap.size W6 wr)) (fun t17 _ => n1 - (intOf t17).toNat)
      case atStart => exact ⟨0, Nat.zero_le _, rfl, Below.refl _ _⟩
      case round =>
        obtain ⟨m, hm, rfl, HBr⟩ := hrel
        have hrz := (unhide HBr).size
        by_cases hlm : m < n1
        · have hlm' : (m : Int) < n1 := by omega
          have up6 : ∀ {b : Addr} {u : Value}, W6.cell? b = some u → wr.cell? b = some u := fun {b u} h => ((unhide HBr).cell (World.block_lt_of_cell? W6 _ h)).trans h
          have up1 : ∀ {b : Addr} {u : Value}, W1.cell? b = some u → wr.cell? b = some u := fun {b u} h => up6 (by
            have hb := World.block_lt_of_cell? W1 _ h
            have hA : WA.cell? b = some u := by
              rw [← hWA, World.cell?_alloc_lt _ _ _ hb]
              exact h
            exact ((unhide HB6').cell (World.block_lt_of_cell? WA _ hA)).trans hA)
          obtain ⟨t1, ht1⟩ : ∃ t, (scI g len 0 [])[m]? = some t := ⟨_, List.getElem?_eq_getElem (by rw [show (scI g len 0 []).length = n1 from unhide HN1]; exact hlm)⟩
          obtain ⟨t2, ht2⟩ : ∃ t, (scI (insG g q P) (len + (gapL q).length) 0 [])[m]? = some t := ⟨_, List.getElem?_eq_getElem (by rw [show (scI (insG g q P) (len + (gapL q).length) 0 []).length = n1 from unhide HLN]; exact hlm)⟩
          have he := congrArg (fun l => l[m]?) (unhide HKT)
          simp only [List.getElem?_map, ht1, ht2, Option.map_some, Option.some.injEq, ktT, Prod.mk.injEq] at he
          obtain ⟨y0, y1, _, _⟩ := row_cells (unhide HV1) ht1
          obtain ⟨z0, z1, _, _⟩ := row_cells (unhide HV6) ht2
          rw [he.1] at z0
          rw [he.2] at z1
          have y0 := up1 y0; have y1 := up1 y1
          have z0 := up6 z0; have z1 := up6 z1
          obtain ⟨S1, hS1⟩ : ∃ S, strOfNums t1.1.2.1 = S := ⟨_, rfl⟩
          rw [hS1] at y1 z1
          obtain ⟨k1, hk1⟩ : ∃ S, t1.1.1 = S := ⟨_, rfl⟩
          rw [hk1] at y0 z0
          clear up6 up1 ht1 ht2 he hS1 hk1
          go_wp2
          go_quiet (fail)
          go_wp2
          exact ⟨⟨m + 1, by omega, by go_num, below_drewN (unhide HBr) _⟩, by simp [intOf]; omega⟩
        · have hlm' : ¬ (m : Int) < n1 := by omega
          have HBz := hide ((unhide HB6).trans ((unhide HBr).mono (unhide HB6).size))
          have HKz := hide (unhide HK wr (unhide HBz))
          go_wp2_with (go_at_call 14; refine (unhide HKz).mono ?_)
          first | rintro x W9 rfl hB9 | rintro x W9 ⟨rfl, hB9⟩
          have HB9 := hide ((unhide HBz).trans (hB9.mono (unhide HBz).size))
          clear hB9
          go_wp2
          go_ret
          exact ⟨rfl, unhide HB9⟩)
  · have HKw := hide (unhide HK W1 (unhide HB1))
    clear hT1 hp hokp
    go_wp2_with (go_at_call 14; refine (unhide HKw).mono ?_)
    first | rintro x W9 rfl hB9 | rintro x W9 ⟨rfl, hB9⟩
    have HB9 := hide ((unhide HB1).trans (hB9.mono hz1'))
    clear hB9
    go_wp2
    go_ret
    exact ⟨rfl, unhide HB9⟩
end Go.Proofs.YtpdkeggiokebmaaDoor
