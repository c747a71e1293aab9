/- Merged: EV, LV, LO, AP. -/
import Derived.Laws.AppendOwnNone
import Derived.Test.YtpdkeggiokebmaaDoorF2
import Derived.Test.YtpdkeggiokebmaaDoorG0
import Derived.Test.YtpdkeggiokebmaaDoorHH
/- The two errors of strconv, by the listed variables. -/
namespace Go.Proofs.YtpdkeggiokebmaaDoor
set_option linter.unusedSimpArgs false
set_option linter.unusedVariables false
open Go.ChangeShapes Go.WideShapes Go.ChangeAt Go.RowKit Go.Shelf

def laid5 : List (String × DataW Unit) := [("math/bits.deBruijn32tab", Rows.laid_math_bits_deBruijn32tab), ("math/bits.deBruijn64tab", Rows.laid_math_bits_deBruijn64tab), ("internal/strconv.uint64pow10", Rows.laid_internal_strconv_uint64pow10), ("strconv.ErrRange", Rows.laid_strconv_ErrRange), ("strconv.ErrSyntax", Rows.laid_strconv_ErrSyntax)]
set_option maxRecDepth 100000 in
theorem door_met5 (os : Os) (args : Array Value) : laidMetH Tryd.prog laid5 ((World.doorLaid Tryd.prog 60 os).forCall (fun _ _ => 0) ⟨#[], args, []⟩).memory :=
  laidMetH_of_parts3 (fuel := 8) (laidMet_of_run' 8 (by kernel_rfl) (by kernel_rfl)) (by kernel_rfl) (by kernel_rfl)
theorem iface_read {P : Program} {w : World} {fuel : Nat} {t : TypeId} {m} {cs : List Value} {d : DataW Unit} {p : List MemPlace} (ht : P.underlying t = some (.interface m))
    (h : DataW.trod (fun _ => ()) P w 0 (fun _ => true) false fuel t cs = some (d, p)) : cs = [.nilIface] ∨ ∃ u v, cs = [.iface u v] := by
  cases fuel with
  | zero => cases h
  | succ n =>
    unfold DataW.trod at h
    rw [ht] at h
    split at h <;> simp_all
def isIf : Option TypeDesc → Bool
  | some (.interface _) => true
  | _ => false
theorem isIf_some {o : Option TypeDesc} (h : isIf o = true) : ∃ m, o = some (.interface m) := by
  unfold isIf at h
  split at h
  · exact ⟨_, rfl⟩
  · cases h
def ifAt (P : Program) (G : Nat) : Bool :=
  match (P.globals[G]?).map (·.type) with
  | some t => isIf (P.underlying t)
  | none => false
theorem err_cell {P : Program} {W : World} {n : String} {g t : Nat} {cs : Array Value} {fuel : Nat} {d : DataW Unit} {p : List MemPlace} (G : Nat) (hg : P.globalNamed n = some g) (eg : P.globalNamed n = some G)
    (ht : (P.globals[g]?).map (·.type) = some t) (hm : ifAt P G = true)
    (hv : W.var? P n = some cs) (h : DataW.trod (fun _ => ()) P W 0 (fun _ => true) false fuel t cs.toList = some (d, p)) : ErrG W G := by
  have hG : g = G := by
    have := hg.symm.trans eg
    exact Option.some.inj this
  subst hG
  unfold ifAt at hm
  rw [ht] at hm
  obtain ⟨m, hm⟩ := isIf_some hm
  have hr := iface_read (P := P) hm h
  simp only [World.var?, eg, Option.bind_some] at hv
  split at hv
  · rename_i c1 t1 f1 hh
    cases hv
    have hc : ∀ u, cs.toList = [u] → W.cell? ⟨g, 0, none⟩ = some u := fun u hu => by
      have e : cs = #[u] := by rw [← Array.toArray_toList (xs := cs), hu]
      subst e
      unfold World.cell?
      rw [hh]
      rfl
    rcases hr with h | ⟨u, v, h⟩
    · exact ⟨_, hc _ h, .inl rfl⟩
    · exact ⟨_, hc _ h, .inr ⟨_, _, rfl⟩⟩
  · cases hv
set_option maxRecDepth 100000 in
theorem err_vars {W : World} (h : laidMetH Tryd.prog laid5 W) : ErrG W 1 ∧ ErrG W 2 := by
  rw [MakeChecks.laidMetH_plain _ _ _ (by kernel_rfl)] at h
  obtain ⟨ps, ⟨_, _, _, _, _, _, _, _, _, _, ⟨_, _, _, _, _, _, _, _, _, _, ⟨_, _, _, _, _, _, _, _, _, _, ⟨g1, t1, c1, f1, p1, q1, a1, b1, d1, e1, ⟨g2, t2, c2, f2, p2, q2, a2, b2, d2, e2, _⟩, _⟩, _⟩, _⟩, _⟩, _, _⟩ := h
  exact ⟨err_cell 1 a2 (by kernel_rfl) b2 (by kernel_rfl) d2 e2, err_cell 2 a1 (by kernel_rfl) b1 (by kernel_rfl) d1 e1⟩
end Go.Proofs.YtpdkeggiokebmaaDoor

/- Rows of tokens, how many there are; there is one at least. -/
namespace Go.Proofs.YtpdkeggiokebmaaDoor
set_option linter.unusedSimpArgs false
set_option linter.unusedVariables false
open Go.ChangeShapes Go.WideShapes Go.ChangeAt Go.RowKit Go.Shelf

/-- The cells of a row of tokens. -/
theorem rowD_len (l : List TokD) : (rowD l).length = l.length * 4 := by
  unfold rowD
  induction l with
  | nil => rfl
  | cons t l ih => rw [List.flatMap_cons, List.length_append, ih]; simp; omega
theorem rowD_get {l : List TokD} {j : Nat} {t : TokD} (h : l[j]? = some t) : (rowD l)[j * 4]? = some (.int .i64 t.1.1) ∧ (rowD l)[j * 4 + 1]? = some (.string (strOfNums t.1.2.1)) ∧ (rowD l)[j * 4 + 2]? = some (.int .i64 (t.1.2.2.1 : Int)) ∧ (rowD l)[j * 4 + 3]? = some (.int .i64 (t.1.2.2.2 : Int)) := by
  induction l generalizing j with
  | nil => cases h
  | cons x l ih =>
    have e : rowD (x :: l) = [.int .i64 x.1.1, .string (strOfNums x.1.2.1), .int .i64 (x.1.2.2.1 : Int), .int .i64 (x.1.2.2.2 : Int)] ++ rowD l := rfl
    cases j with
    | zero =>
      cases h
      rw [e]
      exact ⟨rfl, rfl, rfl, rfl⟩
    | succ j =>
      obtain ⟨h0, h1, h2, h3⟩ := ih (j := j) h
      have s : ∀ k, (rowD (x :: l))[(j + 1) * 4 + k]? = (rowD l)[j * 4 + k]? := fun k => by
        rw [e, List.getElem?_append_right (by simp; omega)]
        congr 1
        simp
        omega
      exact ⟨(s 0).trans h0, (s 1).trans h1, (s 2).trans h2, (s 3).trans h3⟩
/-- Where a row's tokens lie. -/
theorem row_cells {w : World} {B gw n cap : Nat} {l : List TokD} (h : w.ownsRow B 33 4 (.slice (some ⟨gw, 0, none⟩) n cap) l.length (rowD l)) {j : Nat} {t : TokD} (hj : l[j]? = some t) : w.cell? ⟨gw, j * 4, none⟩ = some (.int .i64 t.1.1) ∧ w.cell? ⟨gw, j * 4 + 1, none⟩ = some (.string (strOfNums t.1.2.1)) ∧ w.cell? ⟨gw, j * 4 + 2, none⟩ = some (.int .i64 (t.1.2.2.1 : Int)) ∧ w.cell? ⟨gw, j * 4 + 3, none⟩ = some (.int .i64 (t.1.2.2.2 : Int)) := by
  obtain ⟨h0, h1, h2, h3⟩ := rowD_get hj
  have c := h.cells (g := gw) rfl
  have f : ∀ k u, (rowD l)[k]? = some u → w.cell? ⟨gw, k, none⟩ = some u := fun k u hk => by
    have := c k u hk
    rw [Addr.add_lit, Nat.zero_add] at this
    exact this
  exact ⟨f _ _ h0, f _ _ h1, f _ _ h2, f _ _ h3⟩
theorem scF_len (g : Nat → Int) (len : Nat) : ∀ (f i : Nat) (bs : List Bool), (scF g len f i bs).length ≤ f
  | 0, _, _ => Nat.le_refl _
  | f + 1, i, bs => by
    simp only [scF]
    split
    · simp
    · split
      · exact Nat.le_succ_of_le (scF_len g len f _ _)
      · split
        · exact Nat.le_succ_of_le (scF_len g len f _ _)
        · split
          · split
            · exact Nat.le_succ_of_le (scF_len g len f _ _)
            · simp
          · split
            · simp
            · simp only [List.length_cons]
              exact Nat.succ_le_succ (scF_len g len f _ _)
theorem scI_len (g : Nat → Int) (len : Nat) : (scI g len 0 []).length ≤ len + 1 := scF_len g len _ _ _
theorem ok_apart {I p : List TokD} {i : Nat} (h : okI I) (e : I = p ++ [((0, [], i, 0), 3)]) : False := by
  have := h ((0, [], i, 0), 3) (by rw [e]; simp)
  cases this
theorem sc_some {g : Nat → Int} {len : Nat} : ∀ (d i : Nat) (bs : List Bool), len - i ≤ d → 0 < (scI g len i bs).length
  | 0, i, bs, hd => by rw [sc_end (by omega)]; simp
  | d + 1, i, bs, hd => by
    by_cases hl : i < len
    · by_cases hb : blk (g i) = true
      · rw [sc_blk hl hb]
        exact sc_some d _ _ (by omega)
      by_cases h1 : g i = 47 ∧ i + 1 < len ∧ g (i + 1) = 47
      · rw [sc_line h1.2.1 h1.1 h1.2.2]
        have hp : (g i != 10) = true := by rw [h1.1]; decide
        have s1 := stopI_step (p := fun c => c != 10) (g := g) hl hp
        have s2 := (stopI_spec (p := fun c => c != 10) (g := g) (len := len) (i := i + 1) (by omega)).1
        exact sc_some d _ _ (by omega)
      by_cases h2 : g i = 47 ∧ i + 1 < len ∧ g (i + 1) = 42
      · rw [sc_rem h2.2.1 h2.1 h2.2.2]
        have h3 : i + 2 ≤ remI g len (i + 2) := remF_ge (g := g) (len := len) (len - (i + 2)) (i + 2)
        split
        · exact sc_some d _ _ (by omega)
        · simp
      have hn : NoGap g len i := ⟨by simpa using hb, h1, h2⟩
      cases hk : tokP g len i bs with
      | none => rw [sc_bad hl hn hk]; simp
      | some y =>
        obtain ⟨k, tx, e, bs'⟩ := y
        rw [sc_tok hl hn hk]
        simp
    · rw [sc_end hl]; simp
end Go.Proofs.YtpdkeggiokebmaaDoor

/- A token hangs on its own bytes and on what follows them: words, numbers, signs. -/
namespace Go.Proofs.YtpdkeggiokebmaaDoor
set_option linter.unusedSimpArgs false
set_option linter.unusedVariables false
open Go.RowKit Go.Shelf

/-- Two texts say the same at two places, so many bytes long. -/
def Agr (g g' : Nat → Int) (i i' n : Nat) : Prop := ∀ j, j < n → g' (i' + j) = g (i + j)
/-- Here the text ends, or a blank stands. -/
def Nx (g' : Nat → Int) (len' e : Nat) : Prop := e = len' ∨ (e < len' ∧ blk (g' e) = true)
theorem stopI_is {p : Int → Bool} {g : Nat → Int} {len i m : Nat} (h1 : i ≤ m) (h2 : m ≤ len) (hp : ∀ j, i ≤ j → j < m → p (g j) = true) (hs : m = len ∨ p (g m) = false) : stopI p g len i = m := by
  obtain ⟨a, b, c, d⟩ := stopI_spec (p := p) (g := g) (len := len) (i := i) (Nat.le_trans h1 h2)
  rcases Nat.lt_trichotomy (stopI p g len i) m with h | h | h
  · have := hp _ a h
    rcases d with d | d
    · omega
    · rw [this] at d; cases d
  · exact h
  · have := c m h1 h
    rcases hs with hs | hs
    · omega
    · rw [this] at hs; cases hs
theorem blk_vals {c : Int} (h : blk c = true) : c = 9 ∨ c = 10 ∨ c = 13 ∨ c = 32 := by
  simpa [blk, or_assoc] using h
theorem blk_not {c : Int} (h : blk c = true) : isL c = false ∧ isD c = false ∧ isLD c = false := by
  rcases blk_vals h with rfl | rfl | rfl | rfl <;> decide
theorem stopI_loc {p : Int → Bool} {g g' : Nat → Int} {len len' i i' : Nat} (hi : i ≤ len) (hA : Agr g g' i i' (stopI p g len i - i)) (hl : i' + (stopI p g len i - i) ≤ len') (hn : Nx g' len' (i' + (stopI p g len i - i))) (hb : ∀ c, blk c = true → p c = false) : stopI p g' len' i' = i' + (stopI p g len i - i) := by
  obtain ⟨a, b, c, d⟩ := stopI_spec (p := p) (g := g) (len := len) (i := i) hi
  refine stopI_is (by omega) hl (fun j h1 h2 => ?_) ?_
  · have := hA (j - i') (by omega)
    rw [show i' + (j - i') = j by omega] at this
    rw [this]
    exact c _ (by omega) (by omega)
  · rcases hn with h | ⟨_, h⟩
    · exact .inl h
    · exact .inr (hb _ h)
theorem upto_same {α : Type} {f f' : Nat → α} {n : Nat} (h : ∀ j, j < n → f' j = f j) : upto f' n = upto f n := by
  unfold upto
  exact List.map_congr_left fun j hj => h j (List.mem_range.1 hj)
theorem sub_loc {g g' : Nat → Int} {i i' n : Nat} (hA : Agr g g' i i' n) : sub g' i' (i' + n) = sub g i (i + n) := by
  rw [sub_upto, sub_upto]
  exact upto_same hA
theorem decV_loc {g g' : Nat → Int} {i i' : Nat} : ∀ {n : Nat}, Agr g g' i i' n → decV g' i' n = decV g i n
  | 0, _ => rfl
  | n + 1, h => by
    simp only [decV]
    rw [decV_loc (n := n) (fun j hj => h j (by omega)), h n (by omega)]
/-- What was read here is read there, with the end moved along. -/
def At2 (i i' : Nat) (y : Int × List Int × Nat × List Bool) : Int × List Int × Nat × List Bool := (y.1, y.2.1, i' + (y.2.2.1 - i), y.2.2.2)
theorem word_loc {g g' : Nat → Int} {len len' i i' : Nat} {bs : List Bool} (hi : i < len) (hL : isL (g i) = true) {e : Nat} (he : e = stopI isLD g len (i + 1)) (hA : Agr g g' i i' (e - i)) (hl : i' + (e - i) ≤ len') (hn : Nx g' len' (i' + (e - i))) :
    tokP g' len' i' bs = (tokP g len i bs).map (At2 i i') := by
  have hs := stopI_spec (p := isLD) (g := g) (len := len) (i := i + 1) (by omega)
  rw [← he] at hs
  have h0 : g' i' = g i := hA 0 (by omega)
  have e2 : stopI isLD g' len' (i' + 1) = i' + (e - i) := by
    refine stopI_is (by omega) hl (fun j h1 h2 => ?_) ?_
    · have := hA (j - i') (by omega)
      rw [show i' + (j - i') = j by omega] at this
      rw [this]
      exact hs.2.2.1 _ (by omega) (by omega)
    · rcases hn with h | ⟨_, h⟩
      · exact .inl h
      · exact .inr (blk_not h).2.2
  have e3 := sub_loc hA
  rw [show i + (e - i) = e by omega] at e3
  unfold tokP
  rw [if_pos (by rw [h0]; exact hL), if_pos hL, ← he, e2, e3]
  rfl
theorem LD_D {c : Int} (h : isD c = true) : isL c = false := by
  have := isD_bd h
  simp [isL]
  omega
theorem num_loc {g g' : Nat → Int} {len len' i i' : Nat} {bs : List Bool} (hi : i < len) (hD : isD (g i) = true) {e : Nat} (he : e = numEnd g len i) (hok : numOk g len i = true) (hA : Agr g g' i i' (e - i)) (hl : i' + (e - i) ≤ len') (hn : Nx g' len' (i' + (e - i))) :
    tokP g' len' i' bs = (tokP g len i bs).map (At2 i i') := by
  have hs := stopI_spec (p := isD) (g := g) (len := len) (i := i) (by omega)
  have hst := stopI_step (p := isD) (g := g) hi hD
  have hs1 := (stopI_spec (p := isD) (g := g) (len := len) (i := i + 1) (by omega)).1
  unfold numEnd at he
  rw [← hst] at hs1
  rw [← he] at hs hs1
  have h0 : g' i' = g i := hA 0 (by omega)
  have e2 : numEnd g' len' i' = i' + (e - i) := by
    refine stopI_is (by omega) hl (fun j h1 h2 => ?_) ?_
    · have := hA (j - i') (by omega)
      rw [show i' + (j - i') = j by omega] at this
      rw [this]
      exact hs.2.2.1 _ (by omega) (by omega)
    · rcases hn with h | ⟨_, h⟩
      · exact .inl h
      · exact .inr (blk_not h).2.1
  have e3 := sub_loc hA
  rw [show i + (e - i) = e by omega] at e3
  have he' : numEnd g len i = e := he.symm
  have ok2 : numOk g' len' i' = true := by
    unfold numOk at hok ⊢
    rw [he'] at hok
    rw [e2, show i' + (e - i) - i' = e - i by omega, decV_loc hA, h0]
    simp only [Bool.and_eq_true, Bool.not_eq_true', decide_eq_true_eq, Bool.and_eq_false_iff, decide_eq_false_iff_not] at hok ⊢
    refine ⟨⟨hok.1.1, ?_⟩, ?_⟩
    · rcases hok.1.2 with h | h
      · exact .inl h
      · exact .inr (by omega)
    · rcases hn with h | ⟨_, h⟩
      · exact .inl (by omega)
      · exact .inr (blk_not h).1
  have hL := LD_D hD
  unfold tokP
  rw [if_neg (by rw [h0, hL]; simp), if_pos (by rw [h0]; exact hD), if_pos ok2, if_neg (by rw [hL]; simp), if_pos hD, if_pos hok, he', e2, e3]
  rfl
theorem lsgN_is {f : Nat → Int} {m : Nat} : ∀ {L : Nat}, m ≤ L → (0 < m → hasT (sgnL m) (strOfNums (upto f m)) = true) → (∀ l, m < l → l ≤ L → hasT (sgnL l) (strOfNums (upto f l)) = false) → lsgN f L = m
  | 0, hm, _, _ => by
    have : m = 0 := by omega
    subst this
    rfl
  | L + 1, hm, h1, h2 => by
    simp only [lsgN]
    by_cases e : m = L + 1
    · subst e
      rw [if_pos (h1 (by omega))]
    · rw [if_neg (by rw [h2 (L + 1) (by omega) (Nat.le_refl _)]; simp)]
      exact lsgN_is (by omega) h1 (fun l a b => h2 l a (by omega))
theorem lsgN_has {f : Nat → Int} : ∀ {L : Nat}, 0 < lsgN f L → hasT (sgnL (lsgN f L)) (strOfNums (upto f (lsgN f L))) = true
  | 0, h => by cases h
  | L + 1, h => by
    simp only [lsgN] at h ⊢
    by_cases e : hasT (sgnL (L + 1)) (strOfNums (upto f (L + 1))) = true
    · rw [if_pos e]; exact e
    · rw [if_neg e] at h ⊢
      exact lsgN_has h
theorem sgn_bytes : ∀ s ∈ sgn1 ++ sgn2 ++ sgn3, ∀ b ∈ s.data.toList, b ≠ 9 ∧ b ≠ 10 ∧ b ≠ 13 ∧ b ≠ 32 := by decide
theorem sign_blank {f : Nat → Int} {l j : Nat} (h : hasT (sgnL l) (strOfNums (upto f l)) = true) (hj : j < l) : blk (f j) = false := by
  rw [hasD_eq] at h
  obtain ⟨s, hs, he⟩ := List.any_eq_true.1 h
  have he : (strOfNums (upto f l)).data.toList = s.data.toList := by simpa using he
  have hm : s ∈ sgn1 ++ sgn2 ++ sgn3 := by
    unfold sgnL at hs
    simp only [List.mem_append]
    split at hs
    · exact .inl (.inl hs)
    · split at hs
      · exact .inl (.inr hs)
      · exact .inr hs
  have hb : UInt8.ofNat (f j).toNat ∈ s.data.toList := by
    rw [← he, strOfNums_data]
    refine List.mem_map.2 ⟨f j, ?_, rfl⟩
    unfold upto
    exact List.mem_map.2 ⟨j, List.mem_range.2 hj, rfl⟩
  have hn := sgn_bytes s hm _ hb
  cases hk : blk (f j) with
  | false => rfl
  | true =>
    exfalso
    rcases blk_vals hk with e | e | e | e <;> rw [e] at hn
    · exact hn.1 rfl
    · exact hn.2.1 rfl
    · exact hn.2.2.1 rfl
    · exact hn.2.2.2 rfl
theorem sgN_loc {g g' : Nat → Int} {len len' i i' : Nat} (hm : 0 < sgN g len i) (hA : Agr g g' i i' (sgN g len i)) (hl : i' + sgN g len i ≤ len') (hn : Nx g' len' (i' + sgN g len i)) : sgN g' len' i' = sgN g len i := by
  have hle := sgN_le g len i
  obtain ⟨m, em⟩ : ∃ m, sgN g len i = m := ⟨_, rfl⟩
  have hh : hasT (sgnL m) (strOfNums (upto (fun j => g (i + j)) m)) = true := by
    have := lsgN_has (f := fun j => g (i + j)) (L := min 3 (len - i)) hm
    rw [show lsgN (fun j => g (i + j)) (min 3 (len - i)) = m from em] at this
    exact this
  rw [em] at hm hA hl hn hle ⊢
  unfold sgN
  refine lsgN_is (by omega) (fun _ => ?_) (fun l h1 h2 => ?_)
  · rw [upto_same (f := fun j => g (i + j)) hA]
    exact hh
  · cases hk : hasT (sgnL l) (strOfNums (upto (fun j => g' (i' + j)) l)) with
    | false => rfl
    | true =>
      exfalso
      have hb := sign_blank hk h1
      rcases hn with h | ⟨_, h⟩
      · omega
      · rw [hb] at h; cases h
theorem sig_loc {g g' : Nat → Int} {len len' i i' : Nat} {bs : List Bool} (hm : 0 < sgN g len i) (hA : Agr g g' i i' (sgN g len i)) (hl : i' + sgN g len i ≤ len') (hn : Nx g' len' (i' + sgN g len i)) : sigQ g' len' i' bs = (sigQ g len i bs).map (At2 i i') := by
  have e1 := sgN_loc hm hA hl hn
  have e3 := sub_loc hA
  unfold sigQ
  have h0 : ¬ sgN g len i = 0 := by omega
  have e4 : i + sgN g len i - i = sgN g len i := by omega
  rw [e1, e3]
  simp only [if_neg h0]
  by_cases h1 : sub g i (i + sgN g len i) = [123]
  · simp only [if_pos h1]; simp [At2, e4]
  · simp only [if_neg h1]
    by_cases h2 : sub g i (i + sgN g len i) = [125]
    · simp only [if_pos h2]; simp [At2, e4]
    · simp only [if_neg h2]; simp [At2, e4]
end Go.Proofs.YtpdkeggiokebmaaDoor

/- Bytes laid behind bytes: one append, whatever row they come from; rows of bytes and of tokens, opened. -/
namespace Go.Proofs.YtpdkeggiokebmaaDoor
set_option linter.unusedSimpArgs false
set_option linter.unusedVariables false
open Go.ChangeShapes Go.WideShapes Go.ChangeAt Go.RowKit Go.Shelf

theorem append_src {w : World} {ops : Array Oper} {rest : List Oper} {o : Oper} {a : Act} {Q : Exit → Act → World → Prop} (hgd : o.guard = none) (s x : Operand) (ho : o.op = .call { callee := .builtin .append, args := #[s, x], argTypes := #[22, 22] }) (base : Nat) (v : Value) (n : Nat) (xs : List Value) (hs : a.eval s = v) (hown : w.ownsRow base 5 1 v n xs) (sv : Value) (m : Nat) (g : Nat → Int) (hx : a.eval x = sv) (hsrc : Src w sv m g) (hm : n + m ≤ 4294967296) (hbase : base ≤ w.heap.size)
    (h : ∀ v' w', w'.ownsRow base 5 1 v' (n + m) (xs ++ bcells g m) → w.grownBy w' v.ownBlock → wpList Tryd.prog ops Q rest (a.put o.dst v') w') : wpList Tryd.prog ops Q (o :: rest) a w := by
  obtain ⟨i0, hi, hz0, hz1, hz2⟩ := info_parts infoByte
  rcases hsrc with ⟨rfl, rfl⟩ | ⟨ad, cap, rfl, hc⟩
  · refine wpList_append_own_none hgd s x 22 ho base 5 i0 1 Tryd.underlying22 hi v n xs hs hown hx ?_
    refine h v w ?_ ⟨rfl, rfl, rfl, Nat.le_refl _, fun _ _ _ => rfl⟩
    rw [show bcells g 0 = [] from rfl, List.append_nil]
    exact hown
  · refine wpList_append_own _ hgd s x 22 ho base 5 i0 (.int .u8 0) 1 1 Tryd.underlying22 hi hz0 hz1 hz2 rfl (by decide) v n xs hs hown ad m cap (bcells g m) hx (by simp [bcells_length]) (fun j u hj => ?_) (fun u hu => ?_) (by unfold maxLen; omega) (by omega) hbase (fun v' w' h1 h2 _ => h v' w' h1 h2)
    · have hj' : j < m := by have := (List.getElem?_eq_some_iff.1 hj).1; rw [bcells_length] at this; exact this
      rw [bcells_get hj'] at hj
      cases hj
      exact hc j hj'
    · obtain ⟨j, _, rfl⟩ := List.mem_map.1 hu; rfl
theorem Src.below {n : Nat} {A B : World} {sv : Value} {len : Nat} {g : Nat → Int} (h : Src A sv len g) (hb : Below A.heap.size A B) : Src B sv len g := by
  rcases h with h | ⟨ad, cap, h, hc⟩
  · exact .inl h
  · exact .inr ⟨ad, cap, h, fun j hj => (hb.cell (World.block_lt_of_cell? A _ (hc j hj))).trans (hc j hj)⟩
/-- One byte, laid for an append. -/
theorem src_one (w : World) (z : Int) (f : Nat × Nat) : Src (w.alloc (.cells #[.int .u8 z] 5 f)) (.slice (some ⟨w.heap.size, 0, none⟩) 1 1) 1 (fun _ => z) := by
  refine .inr ⟨_, _, rfl, fun j hj => ?_⟩
  obtain rfl : j = 0 := by omega
  rw [addr_at, Lib.cell_of_heap (World.alloc_heap_new w _)]
  rfl
/-- A row of bytes of the call's own. -/
theorem own_sl {w : World} {B n : Nat} {v : Value} {xs : List Value} {g : Nat → Int} (h : w.ownsRow B 5 1 v n xs) (hpos : 0 < w.heap.size) (hx : ∀ j, j < n → xs[j]? = some (.int .u8 (g j))) : ∃ c a cap, v = .slice a n cap ∧ (a = none → cap = 0) ∧ c < w.heap.size ∧ Sl w c v n g := by
  rcases h.2 with ⟨rfl, rfl⟩ | ⟨gb, cap, cur, rfl, hg, hh, h1, h2, _⟩
  · exact ⟨0, none, 0, rfl, fun _ => rfl, hpos, .inl ⟨_, _, rfl, rfl⟩⟩
  · refine ⟨gb, _, cap, rfl, (fun h => by cases h), (Array.getElem?_eq_some_iff.1 hh).1, ?_⟩
    by_cases h0 : n = 0
    · exact .inl ⟨_, cap, by rw [h0], h0⟩
    · refine .inr ⟨0, cap, rfl, by omega, h1, h2, fun j hj => ?_⟩
      have := h.cells (g := gb) rfl j _ (hx j hj)
      rw [Addr.add_lit] at this
      exact this
/-- A row of tokens of the call's own. -/
theorem row_open {w : World} {B n : Nat} {v : Value} {xs : List Value} (h : w.ownsRow B 33 4 v n xs) (hn : 0 < n) : ∃ g c, v = .slice (some ⟨g, 0, none⟩) n c ∧ n ≤ c ∧ c ≤ maxLen ∧ g < w.heap.size ∧ B ≤ g := by
  rcases h.2 with ⟨_, h0⟩ | ⟨g, cap, cur, hv, hg, hh, h1, h2, _⟩
  · omega
  · exact ⟨g, cap, hv, h1, h2, (Array.getElem?_eq_some_iff.1 hh).1, hg⟩
theorem row_up {A B : World} {B0 g n c m : Nat} {xs : List Value} (h : A.ownsRow B0 33 4 (.slice (some ⟨g, 0, none⟩) n c) m xs) (hg : g < A.heap.size) (hb : Below A.heap.size A B) : B.ownsRow B0 33 4 (.slice (some ⟨g, 0, none⟩) n c) m xs :=
  row_keep h fun k hk => by cases hk; exact hb.block g hg
/-- Two rows of bytes with a line's end between. -/
def joinG (ga gb : Nat → Int) (la j : Nat) : Int := if j < la then ga j else if j = la then 10 else gb (j - (la + 1))
theorem joinG_get {ga gb : Nat → Int} {la lb j : Nat} (h : j < 0 + la + 1 + lb) : (([] ++ bcells ga la ++ bcells (fun _ => 10) 1) ++ bcells gb lb)[j]? = some (.int .u8 (joinG ga gb la j)) := by
  unfold joinG
  simp only [List.nil_append, List.append_assoc]
  by_cases h1 : j < la
  · rw [if_pos h1, List.getElem?_append_left (by rw [bcells_length]; exact h1)]
    exact bcells_get h1
  · rw [if_neg h1, List.getElem?_append_right (by rw [bcells_length]; omega), bcells_length]
    by_cases h2 : j = la
    · rw [if_pos h2, h2, Nat.sub_self, List.getElem?_append_left (by rw [bcells_length]; omega)]
      exact bcells_get (by omega)
    · rw [if_neg h2, List.getElem?_append_right (by rw [bcells_length]; omega), bcells_length, show j - la - 1 = j - (la + 1) by omega]
      exact bcells_get (by omega)
end Go.Proofs.YtpdkeggiokebmaaDoor
