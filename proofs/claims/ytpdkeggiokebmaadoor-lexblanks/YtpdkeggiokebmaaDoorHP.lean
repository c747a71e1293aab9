/- Merged: EV, LV, LO, LP, LQ, LR, LX, LY, LZ, LG, LH. -/
import Derived.Test.YtpdkeggiokebmaaDoorG0
import Derived.Test.YtpdkeggiokebmaaDoorHH
/- The two errors of strconv, by the listed variables. -/
namespace Go.Proofs.YtpdkeggiokebmaaDoor
set_option linter.unusedSimpArgs false
set_option linter.unusedVariables false
open Go.ChangeShapes Go.WideShapes Go.ChangeAt Go.RowKit Go.Shelf

def laid5 : List (String × DataW Unit) := [("math/bits.deBruijn32tab", Rows.laid_math_bits_deBruijn32tab), ("math/bits.deBruijn64tab", Rows.laid_math_bits_deBruijn64tab), ("internal/strconv.uint64pow10", Rows.laid_internal_strconv_uint64pow10), ("strconv.ErrRange", Rows.laid_strconv_ErrRange), ("strconv.ErrSyntax", Rows.laid_strconv_ErrSyntax)]
set_option maxRecDepth 100000 in
theorem door_met5 (os : Os) (args : Array Value) : laidMetH Tryd.prog laid5 ((World.doorLaid Tryd.prog 60 os).forCall (fun _ _ => 0) ⟨#[], args, []⟩).memory :=
  laidMetH_of_parts3 (fuel := 8) (laidMet_of_run' 8 (by kernel_rfl) (by kernel_rfl)) (by kernel_rfl) (by kernel_rfl)
theorem iface_read {P : Program} {w : World} {fuel : Nat} {t : TypeId} {m} {cs : List Value} {d : DataW Unit} {p : List MemPlace} (ht : P.underlying t = some (.interface m))
    (h : DataW.trod (fun _ => ()) P w 0 (fun _ => true) false fuel t cs = some (d, p)) : cs = [.nilIface] ∨ ∃ u v, cs = [.iface u v] := by
  cases fuel with
  | zero => cases h
  | succ n =>
    unfold DataW.trod at h
    rw [ht] at h
    split at h <;> simp_all
def isIf : Option TypeDesc → Bool
  | some (.interface _) => true
  | _ => false
theorem isIf_some {o : Option TypeDesc} (h : isIf o = true) : ∃ m, o = some (.interface m) := by
  unfold isIf at h
  split at h
  · exact ⟨_, rfl⟩
  · cases h
def ifAt (P : Program) (G : Nat) : Bool :=
  match (P.globals[G]?).map (·.type) with
  | some t => isIf (P.underlying t)
  | none => false
theorem err_cell {P : Program} {W : World} {n : String} {g t : Nat} {cs : Array Value} {fuel : Nat} {d : DataW Unit} {p : List MemPlace} (G : Nat) (hg : P.globalNamed n = some g) (eg : P.globalNamed n = some G)
    (ht : (P.globals[g]?).map (·.type) = some t) (hm : ifAt P G = true)
    (hv : W.var? P n = some cs) (h : DataW.trod (fun _ => ()) P W 0 (fun _ => true) false fuel t cs.toList = some (d, p)) : ErrG W G := by
  have hG : g = G := by
    have := hg.symm.trans eg
    exact Option.some.inj this
  subst hG
  unfold ifAt at hm
  rw [ht] at hm
  obtain ⟨m, hm⟩ := isIf_some hm
  have hr := iface_read (P := P) hm h
  simp only [World.var?, eg, Option.bind_some] at hv
  split at hv
  · rename_i c1 t1 f1 hh
    cases hv
    have hc : ∀ u, cs.toList = [u] → W.cell? ⟨g, 0, none⟩ = some u := fun u hu => by
      have e : cs = #[u] := by rw [← Array.toArray_toList (xs := cs), hu]
      subst e
      unfold World.cell?
      rw [hh]
      rfl
    rcases hr with h | ⟨u, v, h⟩
    · exact ⟨_, hc _ h, .inl rfl⟩
    · exact ⟨_, hc _ h, .inr ⟨_, _, rfl⟩⟩
  · cases hv
set_option maxRecDepth 100000 in
theorem err_vars {W : World} (h : laidMetH Tryd.prog laid5 W) : ErrG W 1 ∧ ErrG W 2 := by
  rw [MakeChecks.laidMetH_plain _ _ _ (by kernel_rfl)] at h
  obtain ⟨ps, ⟨_, _, _, _, _, _, _, _, _, _, ⟨_, _, _, _, _, _, _, _, _, _, ⟨_, _, _, _, _, _, _, _, _, _, ⟨g1, t1, c1, f1, p1, q1, a1, b1, d1, e1, ⟨g2, t2, c2, f2, p2, q2, a2, b2, d2, e2, _⟩, _⟩, _⟩, _⟩, _⟩, _, _⟩ := h
  exact ⟨err_cell 1 a2 (by kernel_rfl) b2 (by kernel_rfl) d2 e2, err_cell 2 a1 (by kernel_rfl) b1 (by kernel_rfl) d1 e1⟩
end Go.Proofs.YtpdkeggiokebmaaDoor

/- Rows of tokens, how many there are; there is one at least. -/
namespace Go.Proofs.YtpdkeggiokebmaaDoor
set_option linter.unusedSimpArgs false
set_option linter.unusedVariables false
open Go.ChangeShapes Go.WideShapes Go.ChangeAt Go.RowKit Go.Shelf

/-- The cells of a row of tokens. -/
theorem rowD_len (l : List TokD) : (rowD l).length = l.length * 4 := by
  unfold rowD
  induction l with
  | nil => rfl
  | cons t l ih => rw [List.flatMap_cons, List.length_append, ih]; simp; omega
theorem rowD_get {l : List TokD} {j : Nat} {t : TokD} (h : l[j]? = some t) : (rowD l)[j * 4]? = some (.int .i64 t.1.1) ∧ (rowD l)[j * 4 + 1]? = some (.string (strOfNums t.1.2.1)) ∧ (rowD l)[j * 4 + 2]? = some (.int .i64 (t.1.2.2.1 : Int)) ∧ (rowD l)[j * 4 + 3]? = some (.int .i64 (t.1.2.2.2 : Int)) := by
  induction l generalizing j with
  | nil => cases h
  | cons x l ih =>
    have e : rowD (x :: l) = [.int .i64 x.1.1, .string (strOfNums x.1.2.1), .int .i64 (x.1.2.2.1 : Int), .int .i64 (x.1.2.2.2 : Int)] ++ rowD l := rfl
    cases j with
    | zero =>
      cases h
      rw [e]
      exact ⟨rfl, rfl, rfl, rfl⟩
    | succ j =>
      obtain ⟨h0, h1, h2, h3⟩ := ih (j := j) h
      have s : ∀ k, (rowD (x :: l))[(j + 1) * 4 + k]? = (rowD l)[j * 4 + k]? := fun k => by
        rw [e, List.getElem?_append_right (by simp; omega)]
        congr 1
        simp
        omega
      exact ⟨(s 0).trans h0, (s 1).trans h1, (s 2).trans h2, (s 3).trans h3⟩
/-- Where a row's tokens lie. -/
theorem row_cells {w : World} {B gw n cap : Nat} {l : List TokD} (h : w.ownsRow B 33 4 (.slice (some ⟨gw, 0, none⟩) n cap) l.length (rowD l)) {j : Nat} {t : TokD} (hj : l[j]? = some t) : w.cell? ⟨gw, j * 4, none⟩ = some (.int .i64 t.1.1) ∧ w.cell? ⟨gw, j * 4 + 1, none⟩ = some (.string (strOfNums t.1.2.1)) ∧ w.cell? ⟨gw, j * 4 + 2, none⟩ = some (.int .i64 (t.1.2.2.1 : Int)) ∧ w.cell? ⟨gw, j * 4 + 3, none⟩ = some (.int .i64 (t.1.2.2.2 : Int)) := by
  obtain ⟨h0, h1, h2, h3⟩ := rowD_get hj
  have c := h.cells (g := gw) rfl
  have f : ∀ k u, (rowD l)[k]? = some u → w.cell? ⟨gw, k, none⟩ = some u := fun k u hk => by
    have := c k u hk
    rw [Addr.add_lit, Nat.zero_add] at this
    exact this
  exact ⟨f _ _ h0, f _ _ h1, f _ _ h2, f _ _ h3⟩
theorem scF_len (g : Nat → Int) (len : Nat) : ∀ (f i : Nat) (bs : List Bool), (scF g len f i bs).length ≤ f
  | 0, _, _ => Nat.le_refl _
  | f + 1, i, bs => by
    simp only [scF]
    split
    · simp
    · split
      · exact Nat.le_succ_of_le (scF_len g len f _ _)
      · split
        · exact Nat.le_succ_of_le (scF_len g len f _ _)
        · split
          · split
            · exact Nat.le_succ_of_le (scF_len g len f _ _)
            · simp
          · split
            · simp
            · simp only [List.length_cons]
              exact Nat.succ_le_succ (scF_len g len f _ _)
theorem scI_len (g : Nat → Int) (len : Nat) : (scI g len 0 []).length ≤ len + 1 := scF_len g len _ _ _
theorem ok_apart {I p : List TokD} {i : Nat} (h : okI I) (e : I = p ++ [((0, [], i, 0), 3)]) : False := by
  have := h ((0, [], i, 0), 3) (by rw [e]; simp)
  cases this
theorem sc_some {g : Nat → Int} {len : Nat} : ∀ (d i : Nat) (bs : List Bool), len - i ≤ d → 0 < (scI g len i bs).length
  | 0, i, bs, hd => by rw [sc_end (by omega)]; simp
  | d + 1, i, bs, hd => by
    by_cases hl : i < len
    · by_cases hb : blk (g i) = true
      · rw [sc_blk hl hb]
        exact sc_some d _ _ (by omega)
      by_cases h1 : g i = 47 ∧ i + 1 < len ∧ g (i + 1) = 47
      · rw [sc_line h1.2.1 h1.1 h1.2.2]
        have hp : (g i != 10) = true := by rw [h1.1]; decide
        have s1 := stopI_step (p := fun c => c != 10) (g := g) hl hp
        have s2 := (stopI_spec (p := fun c => c != 10) (g := g) (len := len) (i := i + 1) (by omega)).1
        exact sc_some d _ _ (by omega)
      by_cases h2 : g i = 47 ∧ i + 1 < len ∧ g (i + 1) = 42
      · rw [sc_rem h2.2.1 h2.1 h2.2.2]
        have h3 : i + 2 ≤ remI g len (i + 2) := remF_ge (g := g) (len := len) (len - (i + 2)) (i + 2)
        split
        · exact sc_some d _ _ (by omega)
        · simp
      have hn : NoGap g len i := ⟨by simpa using hb, h1, h2⟩
      cases hk : tokP g len i bs with
      | none => rw [sc_bad hl hn hk]; simp
      | some y =>
        obtain ⟨k, tx, e, bs'⟩ := y
        rw [sc_tok hl hn hk]
        simp
    · rw [sc_end hl]; simp
end Go.Proofs.YtpdkeggiokebmaaDoor

/- A token hangs on its own bytes and on what follows them: words, numbers, signs. -/
namespace Go.Proofs.YtpdkeggiokebmaaDoor
set_option linter.unusedSimpArgs false
set_option linter.unusedVariables false
open Go.RowKit Go.Shelf

/-- Two texts say the same at two places, so many bytes long. -/
def Agr (g g' : Nat → Int) (i i' n : Nat) : Prop := ∀ j, j < n → g' (i' + j) = g (i + j)
/-- Here the text ends, or a blank stands. -/
def Nx (g' : Nat → Int) (len' e : Nat) : Prop := e = len' ∨ (e < len' ∧ blk (g' e) = true)
theorem stopI_is {p : Int → Bool} {g : Nat → Int} {len i m : Nat} (h1 : i ≤ m) (h2 : m ≤ len) (hp : ∀ j, i ≤ j → j < m → p (g j) = true) (hs : m = len ∨ p (g m) = false) : stopI p g len i = m := by
  obtain ⟨a, b, c, d⟩ := stopI_spec (p := p) (g := g) (len := len) (i := i) (Nat.le_trans h1 h2)
  rcases Nat.lt_trichotomy (stopI p g len i) m with h | h | h
  · have := hp _ a h
    rcases d with d | d
    · omega
    · rw [this] at d; cases d
  · exact h
  · have := c m h1 h
    rcases hs with hs | hs
    · omega
    · rw [this] at hs; cases hs
theorem blk_vals {c : Int} (h : blk c = true) : c = 9 ∨ c = 10 ∨ c = 13 ∨ c = 32 := by
  simpa [blk, or_assoc] using h
theorem blk_not {c : Int} (h : blk c = true) : isL c = false ∧ isD c = false ∧ isLD c = false := by
  rcases blk_vals h with rfl | rfl | rfl | rfl <;> decide
theorem stopI_loc {p : Int → Bool} {g g' : Nat → Int} {len len' i i' : Nat} (hi : i ≤ len) (hA : Agr g g' i i' (stopI p g len i - i)) (hl : i' + (stopI p g len i - i) ≤ len') (hn : Nx g' len' (i' + (stopI p g len i - i))) (hb : ∀ c, blk c = true → p c = false) : stopI p g' len' i' = i' + (stopI p g len i - i) := by
  obtain ⟨a, b, c, d⟩ := stopI_spec (p := p) (g := g) (len := len) (i := i) hi
  refine stopI_is (by omega) hl (fun j h1 h2 => ?_) ?_
  · have := hA (j - i') (by omega)
    rw [show i' + (j - i') = j by omega] at this
    rw [this]
    exact c _ (by omega) (by omega)
  · rcases hn with h | ⟨_, h⟩
    · exact .inl h
    · exact .inr (hb _ h)
theorem upto_same {α : Type} {f f' : Nat → α} {n : Nat} (h : ∀ j, j < n → f' j = f j) : upto f' n = upto f n := by
  unfold upto
  exact List.map_congr_left fun j hj => h j (List.mem_range.1 hj)
theorem sub_loc {g g' : Nat → Int} {i i' n : Nat} (hA : Agr g g' i i' n) : sub g' i' (i' + n) = sub g i (i + n) := by
  rw [sub_upto, sub_upto]
  exact upto_same hA
theorem decV_loc {g g' : Nat → Int} {i i' : Nat} : ∀ {n : Nat}, Agr g g' i i' n → decV g' i' n = decV g i n
  | 0, _ => rfl
  | n + 1, h => by
    simp only [decV]
    rw [decV_loc (n := n) (fun j hj => h j (by omega)), h n (by omega)]
/-- What was read here is read there, with the end moved along. -/
def At2 (i i' : Nat) (y : Int × List Int × Nat × List Bool) : Int × List Int × Nat × List Bool := (y.1, y.2.1, i' + (y.2.2.1 - i), y.2.2.2)
theorem word_loc {g g' : Nat → Int} {len len' i i' : Nat} {bs : List Bool} (hi : i < len) (hL : isL (g i) = true) {e : Nat} (he : e = stopI isLD g len (i + 1)) (hA : Agr g g' i i' (e - i)) (hl : i' + (e - i) ≤ len') (hn : Nx g' len' (i' + (e - i))) :
    tokP g' len' i' bs = (tokP g len i bs).map (At2 i i') := by
  have hs := stopI_spec (p := isLD) (g := g) (len := len) (i := i + 1) (by omega)
  rw [← he] at hs
  have h0 : g' i' = g i := hA 0 (by omega)
  have e2 : stopI isLD g' len' (i' + 1) = i' + (e - i) := by
    refine stopI_is (by omega) hl (fun j h1 h2 => ?_) ?_
    · have := hA (j - i') (by omega)
      rw [show i' + (j - i') = j by omega] at this
      rw [this]
      exact hs.2.2.1 _ (by omega) (by omega)
    · rcases hn with h | ⟨_, h⟩
      · exact .inl h
      · exact .inr (blk_not h).2.2
  have e3 := sub_loc hA
  rw [show i + (e - i) = e by omega] at e3
  unfold tokP
  rw [if_pos (by rw [h0]; exact hL), if_pos hL, ← he, e2, e3]
  rfl
theorem LD_D {c : Int} (h : isD c = true) : isL c = false := by
  have := isD_bd h
  simp [isL]
  omega
theorem num_loc {g g' : Nat → Int} {len len' i i' : Nat} {bs : List Bool} (hi : i < len) (hD : isD (g i) = true) {e : Nat} (he : e = numEnd g len i) (hok : numOk g len i = true) (hA : Agr g g' i i' (e - i)) (hl : i' + (e - i) ≤ len') (hn : Nx g' len' (i' + (e - i))) :
    tokP g' len' i' bs = (tokP g len i bs).map (At2 i i') := by
  have hs := stopI_spec (p := isD) (g := g) (len := len) (i := i) (by omega)
  have hst := stopI_step (p := isD) (g := g) hi hD
  have hs1 := (stopI_spec (p := isD) (g := g) (len := len) (i := i + 1) (by omega)).1
  unfold numEnd at he
  rw [← hst] at hs1
  rw [← he] at hs hs1
  have h0 : g' i' = g i := hA 0 (by omega)
  have e2 : numEnd g' len' i' = i' + (e - i) := by
    refine stopI_is (by omega) hl (fun j h1 h2 => ?_) ?_
    · have := hA (j - i') (by omega)
      rw [show i' + (j - i') = j by omega] at this
      rw [this]
      exact hs.2.2.1 _ (by omega) (by omega)
    · rcases hn with h | ⟨_, h⟩
      · exact .inl h
      · exact .inr (blk_not h).2.1
  have e3 := sub_loc hA
  rw [show i + (e - i) = e by omega] at e3
  have he' : numEnd g len i = e := he.symm
  have ok2 : numOk g' len' i' = true := by
    unfold numOk at hok ⊢
    rw [he'] at hok
    rw [e2, show i' + (e - i) - i' = e - i by omega, decV_loc hA, h0]
    simp only [Bool.and_eq_true, Bool.not_eq_true', decide_eq_true_eq, Bool.and_eq_false_iff, decide_eq_false_iff_not] at hok ⊢
    refine ⟨⟨hok.1.1, ?_⟩, ?_⟩
    · rcases hok.1.2 with h | h
      · exact .inl h
      · exact .inr (by omega)
    · rcases hn with h | ⟨_, h⟩
      · exact .inl (by omega)
      · exact .inr (blk_not h).1
  have hL := LD_D hD
  unfold tokP
  rw [if_neg (by rw [h0, hL]; simp), if_pos (by rw [h0]; exact hD), if_pos ok2, if_neg (by rw [hL]; simp), if_pos hD, if_pos hok, he', e2, e3]
  rfl
theorem lsgN_is {f : Nat → Int} {m : Nat} : ∀ {L : Nat}, m ≤ L → (0 < m → hasT (sgnL m) (strOfNums (upto f m)) = true) → (∀ l, m < l → l ≤ L → hasT (sgnL l) (strOfNums (upto f l)) = false) → lsgN f L = m
  | 0, hm, _, _ => by
    have : m = 0 := by omega
    subst this
    rfl
  | L + 1, hm, h1, h2 => by
    simp only [lsgN]
    by_cases e : m = L + 1
    · subst e
      rw [if_pos (h1 (by omega))]
    · rw [if_neg (by rw [h2 (L + 1) (by omega) (Nat.le_refl _)]; simp)]
      exact lsgN_is (by omega) h1 (fun l a b => h2 l a (by omega))
theorem lsgN_has {f : Nat → Int} : ∀ {L : Nat}, 0 < lsgN f L → hasT (sgnL (lsgN f L)) (strOfNums (upto f (lsgN f L))) = true
  | 0, h => by cases h
  | L + 1, h => by
    simp only [lsgN] at h ⊢
    by_cases e : hasT (sgnL (L + 1)) (strOfNums (upto f (L + 1))) = true
    · rw [if_pos e]; exact e
    · rw [if_neg e] at h ⊢
      exact lsgN_has h
theorem sgn_bytes : ∀ s ∈ sgn1 ++ sgn2 ++ sgn3, ∀ b ∈ s.data.toList, b ≠ 9 ∧ b ≠ 10 ∧ b ≠ 13 ∧ b ≠ 32 := by decide
theorem sign_blank {f : Nat → Int} {l j : Nat} (h : hasT (sgnL l) (strOfNums (upto f l)) = true) (hj : j < l) : blk (f j) = false := by
  rw [hasD_eq] at h
  obtain ⟨s, hs, he⟩ := List.any_eq_true.1 h
  have he : (strOfNums (upto f l)).data.toList = s.data.toList := by simpa using he
  have hm : s ∈ sgn1 ++ sgn2 ++ sgn3 := by
    unfold sgnL at hs
    simp only [List.mem_append]
    split at hs
    · exact .inl (.inl hs)
    · split at hs
      · exact .inl (.inr hs)
      · exact .inr hs
  have hb : UInt8.ofNat (f j).toNat ∈ s.data.toList := by
    rw [← he, strOfNums_data]
    refine List.mem_map.2 ⟨f j, ?_, rfl⟩
    unfold upto
    exact List.mem_map.2 ⟨j, List.mem_range.2 hj, rfl⟩
  have hn := sgn_bytes s hm _ hb
  cases hk : blk (f j) with
  | false => rfl
  | true =>
    exfalso
    rcases blk_vals hk with e | e | e | e <;> rw [e] at hn
    · exact hn.1 rfl
    · exact hn.2.1 rfl
    · exact hn.2.2.1 rfl
    · exact hn.2.2.2 rfl
theorem sgN_loc {g g' : Nat → Int} {len len' i i' : Nat} (hm : 0 < sgN g len i) (hA : Agr g g' i i' (sgN g len i)) (hl : i' + sgN g len i ≤ len') (hn : Nx g' len' (i' + sgN g len i)) : sgN g' len' i' = sgN g len i := by
  have hle := sgN_le g len i
  obtain ⟨m, em⟩ : ∃ m, sgN g len i = m := ⟨_, rfl⟩
  have hh : hasT (sgnL m) (strOfNums (upto (fun j => g (i + j)) m)) = true := by
    have := lsgN_has (f := fun j => g (i + j)) (L := min 3 (len - i)) hm
    rw [show lsgN (fun j => g (i + j)) (min 3 (len - i)) = m from em] at this
    exact this
  rw [em] at hm hA hl hn hle ⊢
  unfold sgN
  refine lsgN_is (by omega) (fun _ => ?_) (fun l h1 h2 => ?_)
  · rw [upto_same (f := fun j => g (i + j)) hA]
    exact hh
  · cases hk : hasT (sgnL l) (strOfNums (upto (fun j => g' (i' + j)) l)) with
    | false => rfl
    | true =>
      exfalso
      have hb := sign_blank hk h1
      rcases hn with h | ⟨_, h⟩
      · omega
      · rw [hb] at h; cases h
theorem sig_loc {g g' : Nat → Int} {len len' i i' : Nat} {bs : List Bool} (hm : 0 < sgN g len i) (hA : Agr g g' i i' (sgN g len i)) (hl : i' + sgN g len i ≤ len') (hn : Nx g' len' (i' + sgN g len i)) : sigQ g' len' i' bs = (sigQ g len i bs).map (At2 i i') := by
  have e1 := sgN_loc hm hA hl hn
  have e3 := sub_loc hA
  unfold sigQ
  have h0 : ¬ sgN g len i = 0 := by omega
  have e4 : i + sgN g len i - i = sgN g len i := by omega
  rw [e1, e3]
  simp only [if_neg h0]
  by_cases h1 : sub g i (i + sgN g len i) = [123]
  · simp only [if_pos h1]; simp [At2, e4]
  · simp only [if_neg h1]
    by_cases h2 : sub g i (i + sgN g len i) = [125]
    · simp only [if_pos h2]; simp [At2, e4]
    · simp only [if_neg h2]; simp [At2, e4]
end Go.Proofs.YtpdkeggiokebmaaDoor

/- A string hangs on its own bytes. -/
namespace Go.Proofs.YtpdkeggiokebmaaDoor
set_option linter.unusedSimpArgs false
set_option linter.unusedVariables false
open Go.RowKit Go.Shelf

theorem acc_loc {g g' : Nat → Int} {i i' : Nat} : ∀ {k : Nat}, Agr g g' i i' (k + 1) → acc g' i' k = acc g i k
  | 0, h => by simp only [acc]; rw [show g' i' = g i from h 0 (by omega)]
  | k + 1, h => by
    simp only [acc]
    rw [acc_loc (k := k) (fun j hj => h j (by omega)), show i' + 1 + k = i' + (k + 1) by omega, h (k + 1) (by omega), show i + 1 + k = i + (k + 1) by omega]
theorem conts_loc {g g' : Nat → Int} {i i' : Nat} : ∀ {k : Nat}, Agr g g' i i' (k + 1) → conts g' i' k = conts g i k
  | 0, h => rfl
  | k + 1, h => by
    simp only [conts]
    rw [conts_loc (k := k) (fun j hj => h j (by omega)), show i' + 1 + k = i' + (k + 1) by omega, h (k + 1) (by omega), show i + 1 + k = i + (k + 1) by omega]
theorem conts_cut {g : Nat → Int} {i k q : Nat} (hq : 0 < q) (hk : q ≤ k) (h : g (i + q) < 128) : conts g i k = false := by
  cases e : conts g i k with
  | false => rfl
  | true =>
    have := (conts_lt e (q - 1) (by omega)).1
    rw [show i + 1 + (q - 1) = i + q by omega] at this
    omega
/-- Whether a rune begins hangs on the bytes up to the next that is below 128. -/
theorem good_loc {g g' : Nat → Int} {len len' i i' n q : Nat} (hA : Agr g g' i i' n) (hq : 0 < q) (hqn : q < n) (hm : g (i + q) < 128) (h1 : i + n ≤ len) (h2 : i' + n ≤ len') : good g' len' i' = good g len i := by
  have h0 : g' i' = g i := hA 0 (by omega)
  have hm' : g' (i' + q) < 128 := by rw [hA q hqn]; exact hm
  unfold good
  rw [h0]
  by_cases hw : wid (g i) ≤ n
  · by_cases hz : wid (g i) = 0
    · simp [hz]
    · rw [conts_loc (k := wid (g i) - 1) (fun j hj => hA j (by omega)), acc_loc (k := wid (g i) - 1) (fun j hj => hA j (by omega))]
      rw [decide_eq_true (show i' + wid (g i) ≤ len' by omega), decide_eq_true (show i + wid (g i) ≤ len by omega)]
  · rw [conts_cut (k := wid (g i) - 1) hq (by omega) hm, conts_cut (k := wid (g i) - 1) hq (by omega) hm']
    simp
theorem good_wid {g : Nat → Int} {len i q : Nat} (h : good g len i = true) (hq : 0 < q) (hm : g (i + q) < 128) : wid (g i) ≤ q := by
  rcases Nat.lt_or_ge q (wid (g i)) with hlt | hge
  · unfold good at h
    rw [conts_cut (k := wid (g i) - 1) hq (by omega) hm] at h
    simp at h
  · exact hge
theorem rune_loc {g g' : Nat → Int} {len len' i i' n q : Nat} (hA : Agr g g' i i' n) (hq : 0 < q) (hqn : q < n) (hm : g (i + q) < 128) (h1 : i + n ≤ len) (h2 : i' + n ≤ len') : stepN g' len' i' = stepN g len i ∧ dRune g' len' i' = dRune g len i := by
  have hg := good_loc hA hq hqn hm h1 h2
  have h0 : g' i' = g i := hA 0 (by omega)
  have a1 : i < len := by omega
  have a2 : i' < len' := by omega
  have b1 : inside len (i : Int) = true := by simp [inside, a1]
  have b2 : inside len' (i' : Int) = true := by simp [inside, a2]
  unfold stepN dRune
  simp only [Int.toNat_natCast]
  rw [hg, h0, if_pos a1, if_pos a2, b1, b2]
  refine ⟨rfl, ?_⟩
  cases hgd : good g len i with
  | false => rfl
  | true =>
    have hw := good_wid hgd hq hm
    have hw0 : wid (g i) ≠ 0 := by
      unfold good at hgd
      simp only [Bool.and_eq_true, decide_eq_true_eq] at hgd
      exact hgd.1.1.1.1
    simp only [if_true]
    exact acc_loc (k := wid (g i) - 1) (fun j hj => hA j (by omega))
theorem hexV_loc {g g' : Nat → Int} {i i' : Nat} : ∀ {n : Nat}, Agr g g' i i' n → hexV g' i' n = hexV g i n
  | 0, _ => rfl
  | n + 1, h => by
    simp only [hexV]
    rw [hexV_loc (n := n) (fun j hj => h j (by omega)), h n (by omega)]
theorem numE_loc {g g' : Nat → Int} {len len' i i' : Nat} {r : Int} {w : Nat} (h : numE g len i = some (r, w)) (hA : Agr g g' i i' w) (hl : i' + w ≤ len') : numE g' len' i' = some (r, w) := by
  unfold numE at h
  by_cases hc : i + 2 < len ∧ g (i + 1) = 117 ∧ g (i + 2) = 123 ∧ stopI hexB g len (i + 3) < len ∧ g (stopI hexB g len (i + 3)) = 125 ∧ i + 3 < stopI hexB g len (i + 3) ∧ stopI hexB g len (i + 3) ≤ i + 9 ∧ alw (hexV g (i + 3) (stopI hexB g len (i + 3) - (i + 3))) = true
  · rw [if_pos hc] at h
    obtain ⟨c0, c1, c2, c3, c4, c5, c6, c7⟩ := hc
    have hs := stopI_spec (p := hexB) (g := g) (len := len) (i := i + 3) (by omega)
    obtain ⟨s, es⟩ : ∃ s, stopI hexB g len (i + 3) = s := ⟨_, rfl⟩
    rw [es] at h c3 c4 c5 c6 c7 hs
    injection h with h
    injection h with h5 h6
    subst h6
    have e2 : stopI hexB g' len' (i' + 3) = i' + (s - i) := by
      refine stopI_is (by omega) (by omega) (fun j h1 h2 => ?_) (.inr ?_)
      · have := hA (j - i') (by omega)
        rw [show i' + (j - i') = j by omega] at this
        rw [this]
        exact hs.2.2.1 _ (by omega) (by omega)
      · rw [hA (s - i) (by omega), show i + (s - i) = s by omega, c4]
        decide
    have hv : hexV g' (i' + 3) (i' + (s - i) - (i' + 3)) = hexV g (i + 3) (s - (i + 3)) := by
      rw [show i' + (s - i) - (i' + 3) = s - (i + 3) by omega]
      refine hexV_loc fun j hj => ?_
      have := hA (3 + j) (by omega)
      rw [show i' + 3 + j = i' + (3 + j) by omega, this, show i + 3 + j = i + (3 + j) by omega]
    unfold numE
    rw [e2, hv, if_pos ⟨by omega, by rw [hA 1 (by omega)]; exact c1, by rw [hA 2 (by omega)]; exact c2, by omega, by rw [hA (s - i) (by omega), show i + (s - i) = s by omega]; exact c4, by omega, by omega, c7⟩, h5]
    rw [show i' + (s - i) + 1 - i' = s + 1 - i by omega]
  · rw [if_neg hc] at h; cases h
theorem escE_loc {g g' : Nat → Int} {len len' i i' : Nat} {r : Int} {w : Nat} (h : escE g len i = some (r, w)) (hA : Agr g g' i i' w) (hl : i' + w ≤ len') : escE g' len' i' = some (r, w) := by
  have hw := escE_w h
  have h1 : g' (i' + 1) = g (i + 1) := hA 1 (by omega)
  unfold escE at h ⊢
  rw [if_neg (by omega)] at h ⊢
  rw [h1]
  by_cases a1 : g (i + 1) = 110
  · rw [if_pos a1] at h ⊢; exact h
  rw [if_neg a1] at h ⊢
  by_cases a2 : g (i + 1) = 114
  · rw [if_pos a2] at h ⊢; exact h
  rw [if_neg a2] at h ⊢
  by_cases a3 : g (i + 1) = 116
  · rw [if_pos a3] at h ⊢; exact h
  rw [if_neg a3] at h ⊢
  by_cases a4 : g (i + 1) = 48
  · rw [if_pos a4] at h ⊢; exact h
  rw [if_neg a4] at h ⊢
  by_cases a5 : g (i + 1) = 92 ∨ g (i + 1) = 34 ∨ g (i + 1) = 39 ∨ g (i + 1) = 36 ∨ g (i + 1) = 96
  · rw [if_pos a5] at h ⊢; exact h
  rw [if_neg a5] at h ⊢
  exact numE_loc h hA hl
theorem quoF_mark {g : Nat → Int} {len : Nat} {mark : Int} : ∀ (f i : Nat) {t : List Int} {e : Nat}, quoF g len mark f i = some (t, e) → g (e - 1) = mark
  | 0, i, t, e, h => by cases h
  | f + 1, i, t, e, h => by
    simp only [quoF] at h
    by_cases hl : i < len
    · rw [if_neg (fun h' => h' hl)] at h
      by_cases h1 : g i = 10 ∨ g i = 13
      · rw [if_pos h1] at h; cases h
      rw [if_neg h1] at h
      by_cases h2 : g i = mark
      · rw [if_pos h2] at h; cases h; exact h2
      rw [if_neg h2] at h
      by_cases h3 : g i = 92
      · rw [if_pos h3] at h
        cases he : escE g len i with
        | none => rw [he] at h; cases h
        | some y =>
          obtain ⟨r, w⟩ := y
          rw [he] at h
          simp only at h
          cases hq : quoF g len mark f (i + w) with
          | none => rw [hq] at h; cases h
          | some z =>
            obtain ⟨t', e'⟩ := z
            rw [hq] at h
            cases h
            exact quoF_mark f _ hq
      · rw [if_neg h3] at h
        cases hq : quoF g len mark f (i + stepN g len i) with
        | none => rw [hq] at h; cases h
        | some z =>
          obtain ⟨t', e'⟩ := z
          rw [hq] at h
          cases h
          exact quoF_mark f _ hq
    · rw [if_pos hl] at h; cases h
theorem quoF_loc {g g' : Nat → Int} {len len' : Nat} {mark : Int} (hmk : mark < 128) : ∀ (f f' i i' : Nat) {t : List Int} {e : Nat}, quoF g len mark f i = some (t, e) → Agr g g' i i' (e - i) → i' + (e - i) ≤ len' → len' - i' < f' → quoF g' len' mark f' i' = some (t, i' + (e - i))
  | 0, f', i, i', t, e, h, _, _, _ => by cases h
  | f + 1, 0, i, i', t, e, h, hA, hl, hf => by omega
  | f + 1, f' + 1, i, i', t, e, h, hA, hl, hf => by
    have hadv := quoF_adv (f + 1) i h
    have hmark := quoF_mark (f + 1) i h
    have h0 : g' i' = g i := hA 0 (by omega)
    simp only [quoF] at h ⊢
    have hli : i < len := by omega
    rw [if_neg (fun h' => h' hli)] at h
    rw [if_neg (fun h' => h' (show i' < len' by omega)), h0]
    by_cases h1 : g i = 10 ∨ g i = 13
    · rw [if_pos h1] at h; cases h
    rw [if_neg h1] at h ⊢
    by_cases h2 : g i = mark
    · rw [if_pos h2] at h ⊢
      cases h
      rw [show i + 1 - i = 1 by omega]
    rw [if_neg h2] at h ⊢
    by_cases h3 : g i = 92
    · rw [if_pos h3] at h ⊢
      cases he : escE g len i with
      | none => rw [he] at h; cases h
      | some y =>
        obtain ⟨r, w⟩ := y
        rw [he] at h
        simp only at h
        cases hq : quoF g len mark f (i + w) with
        | none => rw [hq] at h; cases h
        | some z =>
          obtain ⟨t', e'⟩ := z
          rw [hq] at h
          cases h
          have ha := quoF_adv f _ hq
          have hw := (escE_w he).1
          rw [escE_loc he (fun j hj => hA j (by omega)) (by omega)]
          simp only
          rw [quoF_loc hmk f f' (i + w) (i' + w) hq (fun j hj => by
            have := hA (w + j) (by omega)
            rw [show i' + w + j = i' + (w + j) by omega, this, show i + w + j = i + (w + j) by omega]) (by omega) (by omega)]
          simp only
          rw [show i' + w + (e - (i + w)) = i' + (e - i) by omega]
    · rw [if_neg h3] at h ⊢
      cases hq : quoF g len mark f (i + stepN g len i) with
      | none => rw [hq] at h; cases h
      | some z =>
        obtain ⟨t', e'⟩ := z
        rw [hq] at h
        cases h
        have ha := quoF_adv f _ hq
        have hp := step_pos (g := g) hli
        obtain ⟨q1, q2⟩ := rune_loc (g := g) (g' := g') (len := len) (len' := len') (i := i) (i' := i') (n := e - i) (q := e - 1 - i) hA (by omega) (by omega) (by rw [show i + (e - 1 - i) = e - 1 by omega, hmark]; exact hmk) (by omega) hl
        rw [q1, q2]
        obtain ⟨w, ew⟩ : ∃ w, stepN g len i = w := ⟨_, rfl⟩
        rw [ew] at hq ha hp ⊢
        rw [quoF_loc hmk f f' (i + w) (i' + w) hq (fun j hj => by
          have := hA (w + j) (by omega)
          rw [show i' + w + j = i' + (w + j) by omega, this, show i + w + j = i + (w + j) by omega]) (by omega) (by omega)]
        simp only
        rw [show i' + w + (e - (i + w)) = i' + (e - i) by omega]
end Go.Proofs.YtpdkeggiokebmaaDoor

/- A token hangs on its own bytes and on what follows them up to a blank or the text's end. -/
namespace Go.Proofs.YtpdkeggiokebmaaDoor
set_option linter.unusedSimpArgs false
set_option linter.unusedVariables false
open Go.RowKit Go.Shelf

theorem Agr.mono {g g' : Nat → Int} {i i' n m : Nat} (h : Agr g g' i i' n) (hm : m ≤ n) : Agr g g' i i' m := fun j hj => h j (by omega)
theorem Agr.from {g g' : Nat → Int} {i i' n : Nat} (h : Agr g g' i i' n) (w : Nat) : Agr g g' (i + w) (i' + w) (n - w) := fun j hj => by
  have := h (w + j) (by omega)
  rw [show i' + w + j = i' + (w + j) by omega, this, show i + w + j = i + (w + j) by omega]
/-- Where a run ends here it ends there. -/
theorem stop_loc {q : Int → Bool} {g g' : Nat → Int} {len len' i i' p d : Nat} (hd : i + d ≤ len) (hA : Agr g g' i i' p) (hp : stopI q g len (i + d) - i ≤ p) (hpl : i + p ≤ len) (hl : i' + p ≤ len') (hn : Nx g' len' (i' + p)) (hb : ∀ c, blk c = true → q c = false) : stopI q g' len' (i' + d) = i' + (stopI q g len (i + d) - i) := by
  obtain ⟨a, b, c, e⟩ := stopI_spec (p := q) (g := g) (len := len) (i := i + d) hd
  obtain ⟨s, es⟩ : ∃ s, stopI q g len (i + d) = s := ⟨_, rfl⟩
  rw [es] at a b c e hp ⊢
  refine stopI_is (by omega) (by omega) (fun j h1 h2 => ?_) ?_
  · have := hA (j - i') (by omega)
    rw [show i' + (j - i') = j by omega] at this
    rw [this]
    exact c _ (by omega) (by omega)
  · by_cases h : s - i = p
    · rw [h]
      rcases hn with h | ⟨_, h⟩
      · exact .inl h
      · exact .inr (hb _ h)
    · right
      rw [hA (s - i) (by omega), show i + (s - i) = s by omega]
      rcases e with e | e
      · omega
      · exact e
theorem word2 {g g' : Nat → Int} {len len' i i' p : Nat} {bs : List Bool} (hi : i < len) (hL : isL (g i) = true) (hA : Agr g g' i i' p) (hp : stopI isLD g len (i + 1) - i ≤ p) (hpl : i + p ≤ len) (hl : i' + p ≤ len') (hn : Nx g' len' (i' + p)) :
    tokP g' len' i' bs = (tokP g len i bs).map (At2 i i') := by
  have hs := (stopI_spec (p := isLD) (g := g) (len := len) (i := i + 1) (by omega)).1
  have e2 := stop_loc (d := 1) (by omega) hA hp hpl hl hn (fun c h => (blk_not h).2.2)
  have h0 : g' i' = g i := hA 0 (by omega)
  have e3 := sub_loc (hA.mono hp)
  rw [show i + (stopI isLD g len (i + 1) - i) = stopI isLD g len (i + 1) by omega] at e3
  unfold tokP
  rw [if_pos (by rw [h0]; exact hL), if_pos hL, e2, e3]
  rfl
theorem num2 {g g' : Nat → Int} {len len' i i' p : Nat} {bs : List Bool} (hi : i < len) (hD : isD (g i) = true) (hok : numOk g len i = true) (hA : Agr g g' i i' p) (hp : numEnd g len i - i ≤ p) (hpl : i + p ≤ len) (hl : i' + p ≤ len') (hn : Nx g' len' (i' + p)) :
    tokP g' len' i' bs = (tokP g len i bs).map (At2 i i') := by
  have hst := stopI_step (p := isD) (g := g) hi hD
  have hs1 := (stopI_spec (p := isD) (g := g) (len := len) (i := i + 1) (by omega)).1
  rw [← hst] at hs1
  have hs2 := (stopI_spec (p := isD) (g := g) (len := len) (i := i) (by omega)).2.1
  have e2 : numEnd g' len' i' = i' + (numEnd g len i - i) := stop_loc (q := isD) (d := 0) (by omega) hA hp hpl hl hn (fun c h => (blk_not h).2.1)
  obtain ⟨e, he⟩ : ∃ e, numEnd g len i = e := ⟨_, rfl⟩
  rw [show stopI isD g len i = e from he] at hs1 hs2
  rw [he] at hp e2
  have h0 : g' i' = g i := hA 0 (by omega)
  have e3 := sub_loc (hA.mono hp)
  rw [show i + (e - i) = e by omega] at e3
  have ok2 : numOk g' len' i' = true := by
    unfold numOk at hok ⊢
    rw [he] at hok
    rw [e2, show i' + (e - i) - i' = e - i by omega, decV_loc (hA.mono hp), h0]
    simp only [Bool.and_eq_true, Bool.not_eq_true', decide_eq_true_eq, Bool.and_eq_false_iff, decide_eq_false_iff_not] at hok ⊢
    refine ⟨⟨hok.1.1, ?_⟩, ?_⟩
    · rcases hok.1.2 with h | h
      · exact .inl h
      · exact .inr (by omega)
    · by_cases h : e - i = p
      · rw [h]
        rcases hn with h | ⟨_, h⟩
        · exact .inl (by omega)
        · exact .inr (blk_not h).1
      · rcases hok.2 with h' | h'
        · omega
        · right
          rw [hA (e - i) (by omega), show i + (e - i) = e by omega]
          exact h'
  have hL := LD_D hD
  unfold tokP
  rw [if_neg (by rw [h0, hL]; simp), if_pos (by rw [h0]; exact hD), if_pos ok2, if_neg (by rw [hL]; simp), if_pos hD, if_pos hok, he, e2, e3]
  rfl
theorem lsgN_max {f : Nat → Int} : ∀ {L l : Nat}, l ≤ L → lsgN f L < l → hasT (sgnL l) (strOfNums (upto f l)) = false
  | 0, l, h, h' => by simp [lsgN] at h'; omega
  | L + 1, l, h, h' => by
    simp only [lsgN] at h'
    by_cases e : hasT (sgnL (L + 1)) (strOfNums (upto f (L + 1))) = true
    · rw [if_pos e] at h'; omega
    · rw [if_neg e] at h'
      by_cases e' : l = L + 1
      · subst e'; simpa using e
      · exact lsgN_max (by omega) h'
theorem sgN2 {g g' : Nat → Int} {len len' i i' p : Nat} (hm : 0 < sgN g len i) (hA : Agr g g' i i' p) (hp : sgN g len i ≤ p) (hpl : i + p ≤ len) (hl : i' + p ≤ len') (hn : Nx g' len' (i' + p)) : sgN g' len' i' = sgN g len i := by
  have hle := sgN_le g len i
  obtain ⟨m, em⟩ : ∃ m, sgN g len i = m := ⟨_, rfl⟩
  have hh : hasT (sgnL m) (strOfNums (upto (fun j => g (i + j)) m)) = true := by
    have := lsgN_has (f := fun j => g (i + j)) (L := min 3 (len - i)) hm
    rw [show lsgN (fun j => g (i + j)) (min 3 (len - i)) = m from em] at this
    exact this
  have hx : ∀ l, l ≤ min 3 (len - i) → m < l → hasT (sgnL l) (strOfNums (upto (fun j => g (i + j)) l)) = false := fun l a b => lsgN_max a (by rw [show lsgN (fun j => g (i + j)) (min 3 (len - i)) = m from em]; exact b)
  rw [em] at hm hp hle ⊢
  unfold sgN
  refine lsgN_is (by omega) (fun _ => ?_) (fun l h1 h2 => ?_)
  · rw [upto_same (f := fun j => g (i + j)) (hA.mono hp)]
    exact hh
  · by_cases hlp : l ≤ p
    · rw [upto_same (f := fun j => g (i + j)) (hA.mono hlp)]
      exact hx l (by omega) h1
    · cases hk : hasT (sgnL l) (strOfNums (upto (fun j => g' (i' + j)) l)) with
      | false => rfl
      | true =>
        exfalso
        have hb := sign_blank hk (show p < l by omega)
        rcases hn with h | ⟨_, h⟩
        · omega
        · rw [hb] at h; cases h
theorem sig2 {g g' : Nat → Int} {len len' i i' p : Nat} {bs : List Bool} (hm : 0 < sgN g len i) (hA : Agr g g' i i' p) (hp : sgN g len i ≤ p) (hpl : i + p ≤ len) (hl : i' + p ≤ len') (hn : Nx g' len' (i' + p)) : sigQ g' len' i' bs = (sigQ g len i bs).map (At2 i i') := by
  have e1 := sgN2 hm hA hp hpl hl hn
  have e3 := sub_loc (hA.mono hp)
  unfold sigQ
  have h0 : ¬ sgN g len i = 0 := by omega
  have e4 : i + sgN g len i - i = sgN g len i := by omega
  rw [e1, e3]
  simp only [if_neg h0]
  by_cases h1 : sub g i (i + sgN g len i) = [123]
  · simp only [if_pos h1]; simp [At2, e4]
  · simp only [if_neg h1]
    by_cases h2 : sub g i (i + sgN g len i) = [125]
    · simp only [if_pos h2]; simp [At2, e4]
    · simp only [if_neg h2]; simp [At2, e4]
end Go.Proofs.YtpdkeggiokebmaaDoor

/- Any token hangs on its own bytes and on what follows them up to a blank or the text's end. -/
namespace Go.Proofs.YtpdkeggiokebmaaDoor
set_option linter.unusedSimpArgs false
set_option linter.unusedVariables false
open Go.RowKit Go.Shelf

theorem pieF_mark {g : Nat → Int} {len : Nat} : ∀ (f i : Nat) {t : List Int} {b : Bool} {e : Nat}, pieF g len f i = some (t, b, e) → g (e - 1) < 128
  | 0, i, t, b, e, h => by cases h
  | f + 1, i, t, b, e, h => by
    simp only [pieF] at h
    by_cases hl : i < len
    · rw [if_neg (fun h' => h' hl)] at h
      by_cases h1 : g i = 96
      · rw [if_pos h1] at h
        cases h
        rw [show i + 1 - 1 = i by omega, h1]
        decide
      rw [if_neg h1] at h
      by_cases h2 : g i = 36 ∧ i + 1 < len ∧ g (i + 1) = 123
      · rw [if_pos h2] at h
        cases h
        rw [show i + 2 - 1 = i + 1 by omega, h2.2.2]
        decide
      rw [if_neg h2] at h
      by_cases h3 : g i = 92
      · rw [if_pos h3] at h
        cases he : escE g len i with
        | none => rw [he] at h; cases h
        | some y =>
          obtain ⟨r, w⟩ := y
          rw [he] at h
          simp only at h
          cases hq : pieF g len f (i + w) with
          | none => rw [hq] at h; cases h
          | some z =>
            obtain ⟨t', b', e'⟩ := z
            rw [hq] at h
            cases h
            exact pieF_mark f _ hq
      · rw [if_neg h3] at h
        cases hq : pieF g len f (i + stepN g len i) with
        | none => rw [hq] at h; cases h
        | some z =>
          obtain ⟨t', b', e'⟩ := z
          rw [hq] at h
          cases h
          exact pieF_mark f _ hq
    · rw [if_pos hl] at h; cases h
theorem pieF_loc {g g' : Nat → Int} {len len' : Nat} : ∀ (f f' i i' : Nat) {t : List Int} {b : Bool} {e : Nat}, pieF g len f i = some (t, b, e) → Agr g g' i i' (e - i) → i' + (e - i) ≤ len' → len' - i' < f' → pieF g' len' f' i' = some (t, b, i' + (e - i))
  | 0, f', i, i', t, b, e, h, _, _, _ => by cases h
  | f + 1, 0, i, i', t, b, e, h, hA, hl, hf => by omega
  | f + 1, f' + 1, i, i', t, b, e, h, hA, hl, hf => by
    have hadv := pieF_adv (f + 1) i h
    have hmark := pieF_mark (f + 1) i h
    have h0 : g' i' = g i := hA 0 (by omega)
    simp only [pieF] at h ⊢
    have hli : i < len := by omega
    rw [if_neg (fun h' => h' hli)] at h
    rw [if_neg (fun h' => h' (show i' < len' by omega)), h0]
    by_cases h1 : g i = 96
    · rw [if_pos h1] at h ⊢
      cases h
      rw [show i + 1 - i = 1 by omega]
    rw [if_neg h1] at h ⊢
    by_cases h2 : g i = 36 ∧ i + 1 < len ∧ g (i + 1) = 123
    · rw [if_pos h2] at h
      cases h
      have h01 : g' (i' + 1) = g (i + 1) := hA 1 (by omega)
      rw [if_pos ⟨h2.1, by omega, by rw [h01]; exact h2.2.2⟩, show i + 2 - i = 2 by omega]
    rw [if_neg h2] at h
    have hmore : i + 1 < e := by
      rcases Nat.lt_or_ge (i + 1) e with a | a
      · exact a
      · exfalso
        by_cases h3 : g i = 92
        · rw [if_pos h3] at h
          cases he : escE g len i with
          | none => rw [he] at h; cases h
          | some y =>
            obtain ⟨r, w⟩ := y
            rw [he] at h
            simp only at h
            have hw := (escE_w he).1
            cases hq : pieF g len f (i + w) with
            | none => rw [hq] at h; cases h
            | some z =>
              obtain ⟨t', b', e'⟩ := z
              rw [hq] at h
              cases h
              have ha := pieF_adv f _ hq
              omega
        · rw [if_neg h3] at h
          have hp := step_pos (g := g) hli
          cases hq : pieF g len f (i + stepN g len i) with
          | none => rw [hq] at h; cases h
          | some z =>
            obtain ⟨t', b', e'⟩ := z
            rw [hq] at h
            cases h
            have ha := pieF_adv f _ hq
            omega
    have h01 : g' (i' + 1) = g (i + 1) := hA 1 (by omega)
    rw [if_neg (show ¬ (g i = 36 ∧ i' + 1 < len' ∧ g' (i' + 1) = 123) from fun hc => h2 ⟨hc.1, by omega, by rw [← h01]; exact hc.2.2⟩)]
    by_cases h3 : g i = 92
    · rw [if_pos h3] at h ⊢
      cases he : escE g len i with
      | none => rw [he] at h; cases h
      | some y =>
        obtain ⟨r, w⟩ := y
        rw [he] at h
        simp only at h
        cases hq : pieF g len f (i + w) with
        | none => rw [hq] at h; cases h
        | some z =>
          obtain ⟨t', b', e'⟩ := z
          rw [hq] at h
          cases h
          have ha := pieF_adv f _ hq
          have hw := (escE_w he).1
          rw [escE_loc he (fun j hj => hA j (by omega)) (by omega)]
          simp only
          rw [pieF_loc f f' (i + w) (i' + w) hq (fun j hj => by
            have := hA (w + j) (by omega)
            rw [show i' + w + j = i' + (w + j) by omega, this, show i + w + j = i + (w + j) by omega]) (by omega) (by omega)]
          simp only
          rw [show i' + w + (e - (i + w)) = i' + (e - i) by omega]
    · rw [if_neg h3] at h ⊢
      cases hq : pieF g len f (i + stepN g len i) with
      | none => rw [hq] at h; cases h
      | some z =>
        obtain ⟨t', b', e'⟩ := z
        rw [hq] at h
        cases h
        have ha := pieF_adv f _ hq
        have hp := step_pos (g := g) hli
        obtain ⟨q1, q2⟩ := rune_loc (g := g) (g' := g') (len := len) (len' := len') (i := i) (i' := i') (n := e - i) (q := e - 1 - i) hA (by omega) (by omega) (by rw [show i + (e - 1 - i) = e - 1 by omega]; exact hmark) (by omega) hl
        rw [q1, q2]
        obtain ⟨w, ew⟩ : ∃ w, stepN g len i = w := ⟨_, rfl⟩
        rw [ew] at hq ha hp ⊢
        rw [pieF_loc f f' (i + w) (i' + w) hq (fun j hj => by
          have := hA (w + j) (by omega)
          rw [show i' + w + j = i' + (w + j) by omega, this, show i + w + j = i + (w + j) by omega]) (by omega) (by omega)]
        simp only
        rw [show i' + w + (e - (i + w)) = i' + (e - i) by omega]
theorem pie2 {g g' : Nat → Int} {len len' i i' : Nat} {a b : Int} {bs : List Bool} {y : Int × List Int × Nat × List Bool} (hi : i < len) (h : pieQ a b bs (pieI g len (i + 1)) = some y) (hA : Agr g g' i i' (y.2.2.1 - i)) (hl : i' + (y.2.2.1 - i) ≤ len') : pieQ a b bs (pieI g' len' (i' + 1)) = some (At2 i i' y) := by
  cases hq : pieI g len (i + 1) with
  | none => rw [hq] at h; cases h
  | some z =>
    obtain ⟨t, bb, e⟩ := z
    rw [hq] at h
    have hy : y.2.2.1 = e := by cases bb <;> (cases h; rfl)
    rw [hy] at hA hl
    unfold pieI at hq
    have ha := pieF_adv _ _ hq
    have hz := pieF_loc (g' := g') (len' := len') _ (len' + 1 - (i' + 1)) (i + 1) (i' + 1) hq (fun j hj => by
      have := hA (1 + j) (by omega)
      rw [show i' + 1 + j = i' + (1 + j) by omega, this, show i + 1 + j = i + (1 + j) by omega]) (by omega) (by omega)
    unfold pieI
    rw [hz]
    cases bb <;> (cases h; simp only [pieQ, At2]; rw [show i' + 1 + (e - (i + 1)) = i' + (e - i) by omega])
/-- A token that is read here is read there. -/
theorem tokP_loc {g g' : Nat → Int} {len len' i i' p : Nat} {bs : List Bool} {y : Int × List Int × Nat × List Bool} (hi : i < len) (h : tokP g len i bs = some y) (hA : Agr g g' i i' p) (hp : y.2.2.1 - i ≤ p) (hpl : i + p ≤ len) (hl : i' + p ≤ len') (hn : Nx g' len' (i' + p)) : tokP g' len' i' bs = some (At2 i i' y) := by
  obtain ⟨k, t, e, bs'⟩ := y
  have hadv := tokP_adv hi h
  simp only at hp
  have h0 : g' i' = g i := hA 0 (by omega)
  have key : tokP g' len' i' bs = (tokP g len i bs).map (At2 i i') → tokP g' len' i' bs = some (At2 i i' (k, t, e, bs')) := fun hk => by rw [hk, h]; rfl
  by_cases hL : isL (g i) = true
  · have h' := h
    unfold tokP at h'
    rw [if_pos hL] at h'
    cases h'
    exact key (word2 hi hL hA hp hpl hl hn)
  by_cases hD : isD (g i) = true
  · have h' := h
    unfold tokP at h'
    rw [if_neg hL, if_pos hD] at h'
    by_cases hok : numOk g len i = true
    · rw [if_pos hok] at h'
      cases h'
      exact key (num2 hi hD hok hA hp hpl hl hn)
    · rw [if_neg hok] at h'; cases h'
  have hL' : ¬ isL (g' i') = true := by rw [h0]; exact hL
  have hD' : ¬ isD (g' i') = true := by rw [h0]; exact hD
  unfold tokP at h ⊢
  rw [if_neg hL, if_neg hD] at h
  rw [if_neg hL', if_neg hD', h0]
  by_cases hq : g i = 34 ∨ g i = 39
  · rw [if_pos hq] at h ⊢
    unfold quoP at h ⊢
    cases hz : quoI g len (g i) (i + 1) with
    | none => rw [hz] at h; cases h
    | some z =>
      obtain ⟨t', e'⟩ := z
      rw [hz] at h
      simp only [Option.map_some, Option.some.injEq, Prod.mk.injEq] at h
      obtain ⟨hk1, hk2, hk3, hk4⟩ := h
      subst hk1 hk2 hk3 hk4
      unfold quoI at hz ⊢
      have ha := quoF_adv _ _ hz
      have hmk : g i < 128 := by omega
      have hz' := quoF_loc (g' := g') (len' := len') hmk _ (len' + 1 - (i' + 1)) (i + 1) (i' + 1) hz (fun j hj => by
        have := hA (1 + j) (by omega)
        rw [show i' + 1 + j = i' + (1 + j) by omega, this, show i + 1 + j = i + (1 + j) by omega]) (by omega) (by omega)
      rw [hz']
      simp only [Option.map_some, At2]
      rw [show i' + 1 + (e' - (i + 1)) = i' + (e' - i) by omega]
  rw [if_neg hq] at h ⊢
  by_cases hb : g i = 96
  · rw [if_pos hb] at h ⊢
    exact pie2 hi h (hA.mono hp) (by show i' + (e - i) ≤ len'; omega)
  rw [if_neg hb] at h ⊢
  by_cases hh : g i = 125 ∧ lastB bs = true
  · rw [if_pos hh] at h ⊢
    exact pie2 hi h (hA.mono hp) (by show i' + (e - i) ≤ len'; omega)
  rw [if_neg hh] at h ⊢
  have hm : 0 < sgN g len i := by
    rcases Nat.eq_zero_or_pos (sgN g len i) with hz | hz
    · unfold sigQ at h; rw [if_pos hz] at h; cases h
    · exact hz
  have he : e = i + sgN g len i := by
    have h' := h
    unfold sigQ at h'
    rw [if_neg (by omega)] at h'
    split at h'
    · cases h'; rfl
    · split at h'
      · cases h'; rfl
      · cases h'; rfl
  rw [sig2 hm hA (by omega) hpl hl hn, h]
  rfl
end Go.Proofs.YtpdkeggiokebmaaDoor

/- A text's tokens, when the text stands further on. -/
namespace Go.Proofs.YtpdkeggiokebmaaDoor
set_option linter.unusedSimpArgs false
set_option linter.unusedVariables false
open Go.RowKit Go.Shelf

/-- A token that stands further on. -/
def shT (d : Nat) (t : TokD) : TokD := ((t.1.1, t.1.2.1, t.1.2.2.1 + d, t.1.2.2.2 + d), t.2)
theorem stopF_sh {p : Int → Bool} {g g' : Nat → Int} {len d : Nat} (hA : ∀ j, j < len → g' (j + d) = g j) : ∀ (f i : Nat), stopF p g' (len + d) f (i + d) = stopF p g len f i + d
  | 0, i => rfl
  | f + 1, i => by
    simp only [stopF]
    by_cases h : i < len ∧ p (g i) = true
    · rw [if_pos h, if_pos ⟨by omega, by rw [hA i h.1]; exact h.2⟩, show i + d + 1 = (i + 1) + d by omega]
      exact stopF_sh hA f (i + 1)
    · rw [if_neg h, if_neg (fun hc => h ⟨by omega, by rw [← hA i (by omega)]; exact hc.2⟩)]
theorem stopI_sh {p : Int → Bool} {g g' : Nat → Int} {len d : Nat} (hA : ∀ j, j < len → g' (j + d) = g j) (i : Nat) : stopI p g' (len + d) (i + d) = stopI p g len i + d := by
  unfold stopI
  rw [show len + d - (i + d) = len - i by omega]
  exact stopF_sh hA _ i
theorem remF_sh {g g' : Nat → Int} {len d : Nat} (hA : ∀ j, j < len → g' (j + d) = g j) : ∀ (f i : Nat), remF g' (len + d) f (i + d) = remF g len f i + d
  | 0, i => rfl
  | f + 1, i => by
    simp only [remF]
    by_cases h : i + 1 < len ∧ ¬ (g i = 42 ∧ g (i + 1) = 47)
    · have h1 := hA (i + 1) h.1
      rw [if_pos h, if_pos ⟨by omega, by rw [hA i (by omega), show i + d + 1 = (i + 1) + d by omega, h1]; exact h.2⟩, show i + d + 1 = (i + 1) + d by omega]
      exact remF_sh hA f (i + 1)
    · rw [if_neg h, if_neg (fun hc => h ⟨by omega, fun hh => hc.2 ⟨by rw [hA i (by omega)]; exact hh.1, by rw [show i + d + 1 = (i + 1) + d by omega, hA (i + 1) (by omega)]; exact hh.2⟩⟩)]
theorem remI_sh {g g' : Nat → Int} {len d : Nat} (hA : ∀ j, j < len → g' (j + d) = g j) (i : Nat) : remI g' (len + d) (i + d) = remI g len i + d := by
  unfold remI
  rw [show len + d - (i + d) = len - i by omega]
  exact remF_sh hA _ i
theorem sc_sh {g g' : Nat → Int} {len d : Nat} (hA : ∀ j, j < len → g' (j + d) = g j) : ∀ (n i : Nat) (bs : List Bool), len - i ≤ n → okI (scI g len i bs) → i ≤ len → scI g' (len + d) (i + d) bs = (scI g len i bs).map (shT d)
  | n, i, bs, hn, hok, hi => by
    by_cases hl : i < len
    · have h0 : g' (i + d) = g i := hA i hl
      match n, hn with
      | 0, hn => omega
      | n + 1, hn =>
      by_cases hb : blk (g i) = true
      · rw [sc_blk hl hb] at hok ⊢
        rw [sc_blk (i := i + d) (by omega) (by rw [h0]; exact hb), show i + d + 1 = (i + 1) + d by omega]
        exact sc_sh hA n _ _ (by omega) hok (by omega)
      by_cases h1 : g i = 47 ∧ i + 1 < len ∧ g (i + 1) = 47
      · have e1 := hA (i + 1) h1.2.1
        have hp : (g i != 10) = true := by rw [h1.1]; decide
        have s1 := stopI_step (p := fun c => c != 10) (g := g) hl hp
        have s2 := stopI_spec (p := fun c => c != 10) (g := g) (len := len) (i := i + 1) (by omega)
        rw [← s1] at s2
        rw [sc_line h1.2.1 h1.1 h1.2.2] at hok ⊢
        rw [sc_line (i := i + d) (by omega) (by rw [h0]; exact h1.1) (by rw [show i + d + 1 = (i + 1) + d by omega, e1]; exact h1.2.2), stopI_sh hA]
        exact sc_sh hA n _ _ (by omega) hok (by omega)
      by_cases h2 : g i = 47 ∧ i + 1 < len ∧ g (i + 1) = 42
      · have e1 := hA (i + 1) h2.2.1
        have h3 : i + 2 ≤ remI g len (i + 2) := remF_ge (g := g) (len := len) (len - (i + 2)) (i + 2)
        rw [sc_rem h2.2.1 h2.1 h2.2.2] at hok ⊢
        rw [sc_rem (i := i + d) (by omega) (by rw [h0]; exact h2.1) (by rw [show i + d + 1 = (i + 1) + d by omega, e1]; exact h2.2.2), show i + d + 2 = (i + 2) + d by omega, remI_sh hA]
        by_cases hr : remI g len (i + 2) + 1 < len
        · rw [if_pos hr] at hok ⊢
          rw [if_pos (by omega), show remI g len (i + 2) + d + 2 = (remI g len (i + 2) + 2) + d by omega]
          exact sc_sh hA n _ _ (by omega) hok (by omega)
        · rw [if_neg hr] at hok
          exact absurd (show (3 : Int) = 0 from hok _ (List.mem_singleton.2 rfl)) (by decide)
      have hng : NoGap g len i := ⟨by simpa using hb, h1, h2⟩
      have hng' : NoGap g' (len + d) (i + d) := ⟨by rw [h0]; simpa using hb, fun hc => h1 ⟨by rw [← h0]; exact hc.1, by omega, by rw [← hA (i + 1) (by omega), show i + 1 + d = i + d + 1 by omega]; exact hc.2.2⟩, fun hc => h2 ⟨by rw [← h0]; exact hc.1, by omega, by rw [← hA (i + 1) (by omega), show i + 1 + d = i + d + 1 by omega]; exact hc.2.2⟩⟩
      cases hk : tokP g len i bs with
      | none =>
        rw [sc_bad hl hng hk] at hok
        exact absurd (show (3 : Int) = 0 from hok _ (List.mem_singleton.2 rfl)) (by decide)
      | some y =>
        obtain ⟨k, tx, e, bs'⟩ := y
        have ha := tokP_adv hl hk
        rw [sc_tok hl hng hk] at hok ⊢
        have ht := tokP_loc (g' := g') (len' := len + d) (i' := i + d) (p := len - i) hl hk (fun j hj => by rw [show i + d + j = (i + j) + d by omega]; exact hA _ (by omega)) (by show e - i ≤ _; omega) (by omega) (by omega) (.inl (by omega))
        simp only [At2] at ht
        rw [show i + d + (e - i) = e + d by omega] at ht
        rw [sc_tok (by omega) hng' ht, List.map_cons, sc_sh hA n e bs' (by omega) (fun t h => hok t (List.mem_cons_of_mem _ h)) ha.2.1]
        rfl
    · rw [sc_end hl, sc_end (show ¬ i + d < len + d by omega)]
      rfl
end Go.Proofs.YtpdkeggiokebmaaDoor

/- The tokens of a text behind which a line's end stands. -/
namespace Go.Proofs.YtpdkeggiokebmaaDoor
set_option linter.unusedSimpArgs false
set_option linter.unusedVariables false
open Go.RowKit Go.Shelf

theorem remF_pre {g g' : Nat → Int} {la len' : Nat} (hA : ∀ j, j < la → g' j = g j) (hl : la ≤ len') : ∀ (f f' i : Nat), la - i ≤ f → len' - i ≤ f' → remF g la f i + 1 < la → remF g' len' f' i = remF g la f i
  | 0, f', i, h1, h2, h => by simp only [remF] at h; omega
  | f + 1, 0, i, h1, h2, h => by
    have := remF_ge (g := g) (len := la) (f + 1) i
    omega
  | f + 1, f' + 1, i, h1, h2, h => by
    have hge := remF_ge (g := g) (len := la) (f + 1) i
    simp only [remF] at h hge ⊢
    by_cases hc : i + 1 < la ∧ ¬ (g i = 42 ∧ g (i + 1) = 47)
    · rw [if_pos hc] at h ⊢
      rw [if_pos ⟨by omega, by rw [hA i (by omega), hA (i + 1) hc.1]; exact hc.2⟩]
      exact remF_pre hA hl f f' (i + 1) (by omega) (by omega) h
    · rw [if_neg hc] at h ⊢
      have hs : g i = 42 ∧ g (i + 1) = 47 := Classical.byContradiction fun hn => hc ⟨h, hn⟩
      rw [if_neg (fun hh => hh.2 (by rw [hA i (by omega), hA (i + 1) (by omega)]; exact hs))]
/-- What leaves the open brackets as they are. -/
def keepT (t : TokD) : Prop := t.1.1 ≠ 6 ∧ t.1.1 ≠ 8 ∧ t.1.2.1 ≠ [123] ∧ t.1.2.1 ≠ [125]
theorem last_pop {bs : List Bool} (h : lastB bs = true) : bs.dropLast ++ [true] = bs := by
  unfold lastB at h
  rcases List.eq_nil_or_concat bs with rfl | ⟨l, b, rfl⟩
  · simp at h
  · simp at h ⊢
    exact h
theorem tokP_keep {g : Nat → Int} {len i : Nat} {bs bs' : List Bool} {k : Int} {t : List Int} {e : Nat} (h : tokP g len i bs = some (k, t, e, bs')) (h6 : k ≠ 6) (h8 : k ≠ 8) (ho : t ≠ [123]) (hc : t ≠ [125]) : bs' = bs := by
  unfold tokP at h
  by_cases hL : isL (g i) = true
  · rw [if_pos hL] at h; cases h; rfl
  rw [if_neg hL] at h
  by_cases hD : isD (g i) = true
  · rw [if_pos hD] at h
    by_cases hok : numOk g len i = true
    · rw [if_pos hok] at h; cases h; rfl
    · rw [if_neg hok] at h; cases h
  rw [if_neg hD] at h
  by_cases hq : g i = 34 ∨ g i = 39
  · rw [if_pos hq] at h
    cases hz : quoP g len (g i) i with
    | none => rw [hz] at h; cases h
    | some z => rw [hz] at h; cases h; rfl
  rw [if_neg hq] at h
  by_cases hb : g i = 96
  · rw [if_pos hb] at h
    cases hz : pieI g len (i + 1) with
    | none => rw [hz] at h; cases h
    | some z =>
      obtain ⟨t', b, e'⟩ := z
      rw [hz] at h
      cases b with
      | false => cases h; rfl
      | true => cases h; exact absurd rfl h6
  rw [if_neg hb] at h
  by_cases hh : g i = 125 ∧ lastB bs = true
  · rw [if_pos hh] at h
    cases hz : pieI g len (i + 1) with
    | none => rw [hz] at h; cases h
    | some z =>
      obtain ⟨t', b, e'⟩ := z
      rw [hz] at h
      cases b with
      | false => cases h; exact absurd rfl h8
      | true => cases h; exact last_pop hh.2
  rw [if_neg hh] at h
  unfold sigQ at h
  split at h
  · cases h
  · split at h
    · rename_i h1
      cases h
      exact absurd h1 ho
    · split at h
      · rename_i h1
        cases h
        exact absurd h1 hc
      · cases h; rfl
theorem sc_pre {g g' : Nat → Int} {la len' : Nat} (hA : ∀ j, j < la → g' j = g j) (hl : la < len') (h10 : g' la = 10) : ∀ (n i : Nat) (bs : List Bool), la - i ≤ n → okI (scI g la i bs) → i ≤ la → ∃ bsE, scI g' len' i bs = (scI g la i bs).dropLast ++ scI g' len' la bsE ∧ ((∀ t ∈ scI g la i bs, keepT t) → bsE = bs)
  | n, i, bs, hn, hok, hi => by
    by_cases hlt : i < la
    · have h0 : g' i = g i := hA i hlt
      match n, hn with
      | 0, hn => omega
      | n + 1, hn =>
      by_cases hb : blk (g i) = true
      · rw [sc_blk hlt hb] at hok ⊢
        rw [sc_blk (i := i) (show i < len' by omega) (by rw [h0]; exact hb)]
        exact sc_pre hA hl h10 n _ _ (by omega) hok (by omega)
      by_cases h1 : g i = 47 ∧ i + 1 < la ∧ g (i + 1) = 47
      · have e1 := hA (i + 1) h1.2.1
        have hp : (g i != 10) = true := by rw [h1.1]; decide
        have s1 := stopI_step (p := fun c => c != 10) (g := g) hlt hp
        have s2 := stopI_spec (p := fun c => c != 10) (g := g) (len := la) (i := i + 1) (by omega)
        rw [← s1] at s2
        obtain ⟨s, es⟩ : ∃ s, stopI (fun c => c != 10) g la i = s := ⟨_, rfl⟩
        rw [es] at s2
        have es' : stopI (fun c => c != 10) g' len' i = s := by
          refine stopI_is (by omega) (by omega) (fun j a b => ?_) (.inr ?_)
          · show (g' j != 10) = true
            rw [hA j (by omega)]
            by_cases hj : j = i
            · rw [hj]; exact hp
            · exact s2.2.2.1 j (by omega) b
          · show (g' s != 10) = false
            rcases s2.2.2.2 with h | h
            · rw [h, h10]; decide
            · by_cases hs : s = la
              · rw [hs, h10]; decide
              · rw [hA s (by omega)]; exact h
        rw [sc_line h1.2.1 h1.1 h1.2.2, es] at hok ⊢
        rw [sc_line (i := i) (show i + 1 < len' by omega) (by rw [h0]; exact h1.1) (by rw [e1]; exact h1.2.2), es']
        exact sc_pre hA hl h10 n _ _ (by omega) hok (by omega)
      by_cases h2 : g i = 47 ∧ i + 1 < la ∧ g (i + 1) = 42
      · have e1 := hA (i + 1) h2.2.1
        have h3 : i + 2 ≤ remI g la (i + 2) := remF_ge (g := g) (len := la) (la - (i + 2)) (i + 2)
        rw [sc_rem h2.2.1 h2.1 h2.2.2] at hok ⊢
        by_cases hr : remI g la (i + 2) + 1 < la
        · have er : remI g' len' (i + 2) = remI g la (i + 2) := remF_pre hA (by omega) _ _ _ (Nat.le_refl _) (Nat.le_refl _) hr
          rw [if_pos hr] at hok ⊢
          rw [sc_rem (i := i) (show i + 1 < len' by omega) (by rw [h0]; exact h2.1) (by rw [e1]; exact h2.2.2), er, if_pos (by omega)]
          exact sc_pre hA hl h10 n _ _ (by omega) hok (by omega)
        · rw [if_neg hr] at hok
          exact absurd (show (3 : Int) = 0 from hok _ (List.mem_singleton.2 rfl)) (by decide)
      have hng : NoGap g la i := ⟨by simpa using hb, h1, h2⟩
      have hnx : ∀ c : Int, c ≠ 10 → ¬ (g i = 47 ∧ i + 1 < la ∧ g (i + 1) = c) → ¬ (g' i = 47 ∧ i + 1 < len' ∧ g' (i + 1) = c) := fun c hc hno hh => by
        by_cases hx : i + 1 < la
        · exact hno ⟨by rw [← h0]; exact hh.1, hx, by rw [← hA (i + 1) hx]; exact hh.2.2⟩
        · have : i + 1 = la := by omega
          rw [this, h10] at hh
          exact hc hh.2.2.symm
      have hng' : NoGap g' len' i := ⟨by rw [h0]; simpa using hb, hnx 47 (by decide) h1, hnx 42 (by decide) h2⟩
      cases hk : tokP g la i bs with
      | none =>
        rw [sc_bad hlt hng hk] at hok
        exact absurd (show (3 : Int) = 0 from hok _ (List.mem_singleton.2 rfl)) (by decide)
      | some y =>
        obtain ⟨k, tx, e, bs'⟩ := y
        have ha := tokP_adv hlt hk
        rw [sc_tok hlt hng hk] at hok ⊢
        have ht := tokP_loc (g' := g') (len' := len') (i' := i) (p := la - i) hlt hk (fun j hj => hA _ (by omega)) (by show e - i ≤ _; omega) (by omega) (by omega) (.inr ⟨by omega, by rw [show i + (la - i) = la by omega, h10]; decide⟩)
        simp only [At2] at ht
        rw [show i + (e - i) = e by omega] at ht
        rw [sc_tok (by omega) hng' ht]
        obtain ⟨bsE, q1, q2⟩ := sc_pre hA hl h10 n e bs' (by omega) (fun t h => hok t (List.mem_cons_of_mem _ h)) ha.2.1
        have hpos := sc_some (g := g) (len := la) la e bs' (by omega)
        refine ⟨bsE, ?_, fun hkp => ?_⟩
        · rw [q1]
          cases hx : scI g la e bs' with
          | nil => rw [hx] at hpos; simp at hpos
          | cons a l => rfl
        · have hk1 := hkp _ (List.mem_cons_self ..)
          rw [q2 (fun t h => hkp t (List.mem_cons_of_mem _ h))]
          exact tokP_keep hk hk1.1 hk1.2.1 hk1.2.2.1 hk1.2.2.2
    · obtain rfl : i = la := by omega
      exact ⟨bs, by rw [sc_end (g := g) hlt]; simp, fun _ => rfl⟩
end Go.Proofs.YtpdkeggiokebmaaDoor

/- Two texts, one behind the other with a line's end between. -/
namespace Go.Proofs.YtpdkeggiokebmaaDoor
set_option linter.unusedSimpArgs false
set_option linter.unusedVariables false
open Go.RowKit Go.Shelf

theorem sc_join {ga gb g' : Nat → Int} {la lb : Nat} (hA : ∀ j, j < la → g' j = ga j) (h10 : g' la = 10) (hB : ∀ j, j < lb → g' (j + (la + 1)) = gb j) (oka : okI (scI ga la 0 [])) (okb : okI (scI gb lb 0 [])) (hk : ∀ t ∈ scI ga la 0 [], keepT t) :
    scI g' (lb + (la + 1)) 0 [] = (scI ga la 0 []).dropLast ++ (scI gb lb 0 []).map (shT (la + 1)) := by
  obtain ⟨bsE, h1, h2⟩ := sc_pre (len' := lb + (la + 1)) hA (by omega) h10 la 0 [] (by omega) oka (by omega)
  rw [h1, h2 hk, sc_blk (i := la) (by omega) (by rw [h10]; decide)]
  have h3 := sc_sh (g := gb) (g' := g') (len := lb) (d := la + 1) hB lb 0 [] (by omega) okb (by omega)
  rw [Nat.zero_add] at h3
  rw [h3]
theorem okI_join {l m : List TokD} {d : Nat} (hl : okI l) (hm : okI m) : okI (l.dropLast ++ m.map (shT d)) := fun t ht => by
  rcases List.mem_append.1 ht with h | h
  · exact hl t (List.dropLast_subset l h)
  · obtain ⟨s, hs, rfl⟩ := List.mem_map.1 h
    exact hm s hs
theorem len_join (l m : List TokD) (d : Nat) : (l.dropLast ++ m.map (shT d)).length = l.length - 1 + m.length := by simp
/-- What the law wants at a place. -/
theorem at_join {l m : List TokD} {d j : Nat} (hl : 0 < l.length) : (l.dropLast ++ m.map (shT d))[j]? = if j < l.length - 1 then l[j]? else (m[j - (l.length - 1)]?).map (shT d) := by
  by_cases h : j < l.length - 1
  · rw [if_pos h, List.getElem?_append_left (by simp; omega), List.getElem?_dropLast, if_pos h]
  · rw [if_neg h, List.getElem?_append_right (by simp; omega), List.getElem?_map]
    simp
end Go.Proofs.YtpdkeggiokebmaaDoor

/- A token's bytes alone are it. -/
namespace Go.Proofs.YtpdkeggiokebmaaDoor
set_option linter.unusedSimpArgs false
set_option linter.unusedVariables false
open Go.RowKit Go.Shelf

/-- But for the pieces of templates with holes a token hangs on no open bracket. -/
theorem tokP_nil {g : Nat → Int} {len i : Nat} {bs bs' : List Bool} {k : Int} {t : List Int} {e : Nat} (h : tokP g len i bs = some (k, t, e, bs')) (h7 : k ≠ 7) (h8 : k ≠ 8) : ∃ bs2, tokP g len i [] = some (k, t, e, bs2) := by
  unfold tokP at h ⊢
  by_cases hL : isL (g i) = true
  · rw [if_pos hL] at h ⊢; cases h; exact ⟨_, rfl⟩
  rw [if_neg hL] at h ⊢
  by_cases hD : isD (g i) = true
  · rw [if_pos hD] at h ⊢
    by_cases hok : numOk g len i = true
    · rw [if_pos hok] at h ⊢; cases h; exact ⟨_, rfl⟩
    · rw [if_neg hok] at h; cases h
  rw [if_neg hD] at h ⊢
  by_cases hq : g i = 34 ∨ g i = 39
  · rw [if_pos hq] at h ⊢
    cases hz : quoP g len (g i) i with
    | none => rw [hz] at h; cases h
    | some z => rw [hz] at h; cases h; exact ⟨_, rfl⟩
  rw [if_neg hq] at h ⊢
  by_cases hb : g i = 96
  · rw [if_pos hb] at h ⊢
    cases hz : pieI g len (i + 1) with
    | none => rw [hz] at h; cases h
    | some z =>
      obtain ⟨t', b, e'⟩ := z
      rw [hz] at h
      cases b with
      | false => cases h; exact ⟨_, rfl⟩
      | true => cases h; exact ⟨_, rfl⟩
  rw [if_neg hb] at h ⊢
  rw [if_neg (show ¬ (g i = 125 ∧ lastB [] = true) from fun hc => by have := hc.2; simp [lastB] at this)]
  by_cases hh : g i = 125 ∧ lastB bs = true
  · rw [if_pos hh] at h
    cases hz : pieI g len (i + 1) with
    | none => rw [hz] at h; cases h
    | some z =>
      obtain ⟨t', b, e'⟩ := z
      rw [hz] at h
      cases b with
      | false => cases h; exact absurd rfl h8
      | true => cases h; exact absurd rfl h7
  rw [if_neg hh] at h
  unfold sigQ at h ⊢
  split at h
  · cases h
  · rename_i h0
    rw [if_neg h0]
    split at h
    · rename_i h1; cases h; rw [if_pos h1]; exact ⟨_, rfl⟩
    · rename_i h1
      rw [if_neg h1]
      split at h
      · rename_i h2; cases h; rw [if_pos h2]; exact ⟨_, rfl⟩
      · rename_i h2; cases h; rw [if_neg h2]; exact ⟨_, rfl⟩
theorem sc_alone {g g' : Nat → Int} {len i : Nat} {bs bs' : List Bool} {k : Int} {t : List Int} {e : Nat} (hi : i < len) (hng : NoGap g len i) (h : tokP g len i bs = some (k, t, e, bs')) (h7 : k ≠ 7) (h8 : k ≠ 8) (hA : Agr g g' i 0 (e - i)) :
    scI g' (e - i) 0 [] = [((k, t, 0, e - i), 0), ((10, [], e - i, e - i), 0)] := by
  have ha := tokP_adv hi h
  obtain ⟨bs2, h2⟩ := tokP_nil h h7 h8
  have ht := tokP_loc (g' := g') (len' := e - i) (i' := 0) (p := e - i) hi h2 hA (Nat.le_refl _) (by omega) (by omega) (.inl (by omega))
  simp only [At2, Nat.zero_add] at ht
  have h0 : g' 0 = g i := by have := hA 0 (by omega); simpa using this
  have h1 : 1 < e - i → g' 1 = g (i + 1) := fun hh => by have := hA 1 hh; simpa using this
  have hng' : NoGap g' (e - i) 0 := ⟨by rw [h0]; exact hng.1, fun hc => hng.2.1 ⟨by rw [← h0]; exact hc.1, by omega, by rw [← h1 (by omega)]; exact hc.2.2⟩, fun hc => hng.2.2 ⟨by rw [← h0]; exact hc.1, by omega, by rw [← h1 (by omega)]; exact hc.2.2⟩⟩
  rw [sc_tok (by omega) hng' ht, sc_end (by omega)]
end Go.Proofs.YtpdkeggiokebmaaDoor

/- What lies between two tokens: blanks and remarks. -/
namespace Go.Proofs.YtpdkeggiokebmaaDoor
set_option linter.unusedSimpArgs false
set_option linter.unusedVariables false
open Go.RowKit Go.Shelf

/-- From one place to another there are blanks and remarks alone. -/
inductive GapTo (g : Nat → Int) (len : Nat) : Nat → Nat → Prop
  | here (i : Nat) : GapTo g len i i
  | blk {i j : Nat} : i < len → blk (g i) = true → GapTo g len (i + 1) j → GapTo g len i j
  | line {i j : Nat} : i + 1 < len → g i = 47 → g (i + 1) = 47 → GapTo g len (stopI (fun c => c != 10) g len i) j → GapTo g len i j
  | rem {i j : Nat} : i + 1 < len → g i = 47 → g (i + 1) = 42 → remI g len (i + 2) + 1 < len → GapTo g len (remI g len (i + 2) + 2) j → GapTo g len i j
theorem line_end {g : Nat → Int} {len i : Nat} (hi : i < len) (h : g i = 47) : i + 1 ≤ stopI (fun c => c != 10) g len i ∧ stopI (fun c => c != 10) g len i ≤ len ∧ (∀ j, i ≤ j → j < stopI (fun c => c != 10) g len i → (g j != 10) = true) ∧ (stopI (fun c => c != 10) g len i = len ∨ (g (stopI (fun c => c != 10) g len i) != 10) = false) := by
  have hp : (g i != 10) = true := by rw [h]; decide
  have s1 := stopI_step (p := fun c => c != 10) (g := g) hi hp
  have s2 := stopI_spec (p := fun c => c != 10) (g := g) (len := len) (i := i + 1) (by omega)
  have s3 := stopI_spec (p := fun c => c != 10) (g := g) (len := len) (i := i) (by omega)
  rw [← s1] at s2
  exact ⟨s2.1, s3.2.1, s3.2.2.1, s3.2.2.2⟩
theorem GapTo.le {g : Nat → Int} {len i j : Nat} (h : GapTo g len i j) (hi : i ≤ len) : i ≤ j ∧ j ≤ len := by
  induction h with
  | here i => exact ⟨Nat.le_refl _, hi⟩
  | blk a _ _ ih => have := ih (by omega); omega
  | line a b c _ ih =>
    have h1 := line_end (show _ < len by omega) b
    have := ih (by omega)
    omega
  | @rem i j a b c d _ ih =>
    have h3 : i + 2 ≤ remI g len (i + 2) := remF_ge (g := g) (len := len) (len - (i + 2)) (i + 2)
    have := ih (by omega)
    omega
theorem GapTo.sc {g : Nat → Int} {len i j : Nat} (h : GapTo g len i j) (bs : List Bool) : scI g len i bs = scI g len j bs := by
  induction h with
  | here i => rfl
  | blk a b _ ih => rw [sc_blk a b, ih]
  | line a b c _ ih => rw [sc_line a b c, ih]
  | rem a b c d _ ih => rw [sc_rem a b c, if_pos d, ih]
/-- The next token. -/
theorem sc_step {g : Nat → Int} {len : Nat} : ∀ (n i : Nat) (bs : List Bool), len - i ≤ n → okI (scI g len i bs) → i ≤ len → ∃ j, GapTo g len i j ∧ (j = len ∨ (j < len ∧ NoGap g len j ∧ ∃ y, tokP g len j bs = some y))
  | n, i, bs, hn, hok, hi => by
    by_cases hl : i < len
    · match n, hn with
      | 0, hn => omega
      | n + 1, hn =>
      by_cases hb : Go.Proofs.YtpdkeggiokebmaaDoor.blk (g i) = true
      · rw [sc_blk hl hb] at hok
        obtain ⟨j, h1, h2⟩ := sc_step n _ _ (by omega) hok (by omega)
        exact ⟨j, .blk hl hb h1, h2⟩
      by_cases h1 : g i = 47 ∧ i + 1 < len ∧ g (i + 1) = 47
      · have h3 := line_end hl h1.1
        rw [sc_line h1.2.1 h1.1 h1.2.2] at hok
        obtain ⟨j, a, b⟩ := sc_step n _ _ (by omega) hok (by omega)
        exact ⟨j, .line h1.2.1 h1.1 h1.2.2 a, b⟩
      by_cases h2 : g i = 47 ∧ i + 1 < len ∧ g (i + 1) = 42
      · have h3 : i + 2 ≤ remI g len (i + 2) := remF_ge (g := g) (len := len) (len - (i + 2)) (i + 2)
        rw [sc_rem h2.2.1 h2.1 h2.2.2] at hok
        by_cases hr : remI g len (i + 2) + 1 < len
        · rw [if_pos hr] at hok
          obtain ⟨j, a, b⟩ := sc_step n _ _ (by omega) hok (by omega)
          exact ⟨j, .rem h2.2.1 h2.1 h2.2.2 hr a, b⟩
        · rw [if_neg hr] at hok
          exact absurd (show (3 : Int) = 0 from hok _ (List.mem_singleton.2 rfl)) (by decide)
      have hng : NoGap g len i := ⟨by simpa using hb, h1, h2⟩
      cases hk : tokP g len i bs with
      | none =>
        rw [sc_bad hl hng hk] at hok
        exact absurd (show (3 : Int) = 0 from hok _ (List.mem_singleton.2 rfl)) (by decide)
      | some y => exact ⟨i, .here i, .inr ⟨hl, hng, y, hk⟩⟩
    · exact ⟨i, .here i, .inl (by omega)⟩
theorem remF_loc {g g' : Nat → Int} {len len' : Nat} : ∀ (f f' i i' : Nat), len - i ≤ f → len' - i' ≤ f' → remF g len f i + 1 < len → Agr g g' i i' (remF g len f i + 2 - i) → i' + (remF g len f i + 2 - i) ≤ len' → remF g' len' f' i' = i' + (remF g len f i - i)
  | 0, f', i, i', h1, h2, h, hA, hl => by simp only [remF] at h; omega
  | f + 1, 0, i, i', h1, h2, h, hA, hl => by
    have := remF_ge (g := g) (len := len) (f + 1) i
    omega
  | f + 1, f' + 1, i, i', h1, h2, h, hA, hl => by
    by_cases hc : i + 1 < len ∧ ¬ (g i = 42 ∧ g (i + 1) = 47)
    · have e : remF g len (f + 1) i = remF g len f (i + 1) := by simp only [remF]; rw [if_pos hc]
      rw [e] at h hA hl ⊢
      have hge := remF_ge (g := g) (len := len) f (i + 1)
      have a0 : g' i' = g i := hA 0 (by omega)
      have a1 : g' (i' + 1) = g (i + 1) := hA 1 (by omega)
      have hz := remF_loc (g := g) (g' := g') (len := len) (len' := len') f f' (i + 1) (i' + 1) (by omega) (by omega) h (fun j hj => by
        have := hA (1 + j) (by omega)
        rw [show i' + 1 + j = i' + (1 + j) by omega, this, show i + 1 + j = i + (1 + j) by omega]) (by omega)
      simp only [remF]
      rw [if_pos ⟨by omega, by rw [a0, a1]; exact hc.2⟩, hz]
      omega
    · have e : remF g len (f + 1) i = i := by simp only [remF]; rw [if_neg hc]
      rw [e] at h hA hl ⊢
      have hs : g i = 42 ∧ g (i + 1) = 47 := Classical.byContradiction fun hn => hc ⟨h, hn⟩
      have a0 : g' i' = g i := hA 0 (by omega)
      have a1 : g' (i' + 1) = g (i + 1) := hA 1 (by omega)
      simp only [remF]
      rw [if_neg (fun hh => hh.2 (by rw [a0, a1]; exact hs))]
      omega
/-- What lies between two tokens, with a line's end behind it, has no token. -/
theorem gap_alone {g g' : Nat → Int} {len i j : Nat} (h : GapTo g len i j) : ∀ (c n : Nat), i ≤ len → Agr g g' i c (j - i) → n = c + (j - i) + 1 → g' (c + (j - i)) = 10 → scI g' n c [] = [((10, [], n, n), 0)] := by
  induction h with
  | here i =>
    intro c n hi hA hn h10
    rw [Nat.sub_self] at hn h10
    rw [sc_blk (i := c) (by omega) (by rw [show c = c + 0 by omega, h10]; decide), sc_end (by omega)]
  | @blk i j a b hg ih =>
    intro c n hi hA hn h10
    have hle := hg.le (by omega)
    rw [sc_blk (i := c) (by omega) (by rw [show g' c = g i from hA 0 (by omega)]; exact b)]
    exact ih (c + 1) n (by omega) (fun m hm => by
      have := hA (1 + m) (by omega)
      rw [show c + 1 + m = c + (1 + m) by omega, this, show i + 1 + m = i + (1 + m) by omega]) (by omega) (by rw [show c + 1 + (j - (i + 1)) = c + (j - i) by omega]; exact h10)
  | @line i j a b d hg ih =>
    intro c n hi hA hn h10
    have h1 := line_end (show i < len by omega) b
    obtain ⟨s, es⟩ : ∃ s, stopI (fun c => c != 10) g len i = s := ⟨_, rfl⟩
    rw [es] at h1 hg ih
    have hle := hg.le (by omega)
    have hi1 : i + 1 < j ∨ i + 1 = s := by omega
    have hsj : i + 2 ≤ s := by
      rcases h1.2.2.2 with h | h
      · omega
      · rcases Nat.lt_or_ge (i + 1) s with q | q
        · omega
        · have : s = i + 1 := by omega
          rw [this, d] at h
          cases h
    have e2 : stopI (fun c => c != 10) g' n c = c + (s - i) := by
      refine stopI_is (by omega) (by omega) (fun m x y => ?_) (.inr ?_)
      · have := hA (m - c) (by omega)
        rw [show c + (m - c) = m by omega] at this
        show (g' m != 10) = true
        rw [this]
        exact h1.2.2.1 _ (by omega) (by omega)
      · show (g' (c + (s - i)) != 10) = false
        by_cases hs : s = j
        · rw [hs, h10]; decide
        · rw [hA (s - i) (by omega), show i + (s - i) = s by omega]
          rcases h1.2.2.2 with h | h
          · omega
          · exact h
    rw [sc_line (i := c) (by omega) (by rw [show g' c = g i from hA 0 (by omega)]; exact b) (by rw [hA 1 (by omega)]; exact d), e2]
    exact ih (c + (s - i)) n (by omega) (fun m hm => by
      have := hA (s - i + m) (by omega)
      rw [show c + (s - i) + m = c + (s - i + m) by omega, this, show i + (s - i + m) = s + m by omega]) (by omega) (by rw [show c + (s - i) + (j - s) = c + (j - i) by omega]; exact h10)
  | @rem i j a b d e hg ih =>
    intro c n hi hA hn h10
    have h3 : i + 2 ≤ remI g len (i + 2) := remF_ge (g := g) (len := len) (len - (i + 2)) (i + 2)
    have hle := hg.le (by omega)
    have er : remI g' n (c + 2) = c + 2 + (remI g len (i + 2) - (i + 2)) := remF_loc _ _ (i + 2) (c + 2) (Nat.le_refl _) (Nat.le_refl _) e (fun m hm => by
      have hm' : m < remI g len (i + 2) + 2 - (i + 2) := hm
      have := hA (2 + m) (by omega)
      rw [show c + 2 + m = c + (2 + m) by omega, this, show i + 2 + m = i + (2 + m) by omega]) (by show c + 2 + (remI g len (i + 2) + 2 - (i + 2)) ≤ n; omega)
    obtain ⟨r, hr⟩ : ∃ r, remI g len (i + 2) = r := ⟨_, rfl⟩
    rw [hr] at h3 hle er e hg ih
    rw [sc_rem (i := c) (by omega) (by rw [show g' c = g i from hA 0 (by omega)]; exact b) (by rw [hA 1 (by omega)]; exact d), er, if_pos (by omega), show c + 2 + (r - (i + 2)) + 2 = c + (r + 2 - i) by omega]
    exact ih (c + (r + 2 - i)) n (by omega) (fun m hm => by
      have := hA (r + 2 - i + m) (by omega)
      rw [show c + (r + 2 - i) + m = c + (r + 2 - i + m) by omega, this, show i + (r + 2 - i + m) = r + 2 + m by omega]) (by omega) (by rw [show c + (r + 2 - i) + (j - (r + 2)) = c + (j - i) by omega]; exact h10)
end Go.Proofs.YtpdkeggiokebmaaDoor
