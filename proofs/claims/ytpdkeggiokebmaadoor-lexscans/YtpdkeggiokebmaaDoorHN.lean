/- Merged: EV, LT, LU. -/
import Derived.BigQuiet
import Derived.Deep.QuietTactic
import Derived.LoopN
import Derived.WalkMore
import Derived.Test.YtpdkeggiokebmaaDoorG0
import Derived.Test.YtpdkeggiokebmaaDoorHH
import Derived.Test.YtpdkeggiokebmaaDoorHM
/- The two errors of strconv, by the listed variables. -/
namespace Go.Proofs.YtpdkeggiokebmaaDoor
set_option linter.unusedSimpArgs false
set_option linter.unusedVariables false
open Go.ChangeShapes Go.WideShapes Go.ChangeAt Go.RowKit Go.Shelf

def laid5 : List (String × DataW Unit) := [("math/bits.deBruijn32tab", Rows.laid_math_bits_deBruijn32tab), ("math/bits.deBruijn64tab", Rows.laid_math_bits_deBruijn64tab), ("internal/strconv.uint64pow10", Rows.laid_internal_strconv_uint64pow10), ("strconv.ErrRange", Rows.laid_strconv_ErrRange), ("strconv.ErrSyntax", Rows.laid_strconv_ErrSyntax)]
set_option maxRecDepth 100000 in
theorem door_met5 (os : Os) (args : Array Value) : laidMetH Tryd.prog laid5 ((World.doorLaid Tryd.prog 60 os).forCall (fun _ _ => 0) ⟨#[], args, []⟩).memory :=
  laidMetH_of_parts3 (fuel := 8) (laidMet_of_run' 8 (by kernel_rfl) (by kernel_rfl)) (by kernel_rfl) (by kernel_rfl)
theorem iface_read {P : Program} {w : World} {fuel : Nat} {t : TypeId} {m} {cs : List Value} {d : DataW Unit} {p : List MemPlace} (ht : P.underlying t = some (.interface m))
    (h : DataW.trod (fun _ => ()) P w 0 (fun _ => true) false fuel t cs = some (d, p)) : cs = [.nilIface] ∨ ∃ u v, cs = [.iface u v] := by
  cases fuel with
  | zero => cases h
  | succ n =>
    unfold DataW.trod at h
    rw [ht] at h
    split at h <;> simp_all
def isIf : Option TypeDesc → Bool
  | some (.interface _) => true
  | _ => false
theorem isIf_some {o : Option TypeDesc} (h : isIf o = true) : ∃ m, o = some (.interface m) := by
  unfold isIf at h
  split at h
  · exact ⟨_, rfl⟩
  · cases h
def ifAt (P : Program) (G : Nat) : Bool :=
  match (P.globals[G]?).map (·.type) with
  | some t => isIf (P.underlying t)
  | none => false
theorem err_cell {P : Program} {W : World} {n : String} {g t : Nat} {cs : Array Value} {fuel : Nat} {d : DataW Unit} {p : List MemPlace} (G : Nat) (hg : P.globalNamed n = some g) (eg : P.globalNamed n = some G)
    (ht : (P.globals[g]?).map (·.type) = some t) (hm : ifAt P G = true)
    (hv : W.var? P n = some cs) (h : DataW.trod (fun _ => ()) P W 0 (fun _ => true) false fuel t cs.toList = some (d, p)) : ErrG W G := by
  have hG : g = G := by
    have := hg.symm.trans eg
    exact Option.some.inj this
  subst hG
  unfold ifAt at hm
  rw [ht] at hm
  obtain ⟨m, hm⟩ := isIf_some hm
  have hr := iface_read (P := P) hm h
  simp only [World.var?, eg, Option.bind_some] at hv
  split at hv
  · rename_i c1 t1 f1 hh
    cases hv
    have hc : ∀ u, cs.toList = [u] → W.cell? ⟨g, 0, none⟩ = some u := fun u hu => by
      have e : cs = #[u] := by rw [← Array.toArray_toList (xs := cs), hu]
      subst e
      unfold World.cell?
      rw [hh]
      rfl
    rcases hr with h | ⟨u, v, h⟩
    · exact ⟨_, hc _ h, .inl rfl⟩
    · exact ⟨_, hc _ h, .inr ⟨_, _, rfl⟩⟩
  · cases hv
set_option maxRecDepth 100000 in
theorem err_vars {W : World} (h : laidMetH Tryd.prog laid5 W) : ErrG W 1 ∧ ErrG W 2 := by
  rw [MakeChecks.laidMetH_plain _ _ _ (by kernel_rfl)] at h
  obtain ⟨ps, ⟨_, _, _, _, _, _, _, _, _, _, ⟨_, _, _, _, _, _, _, _, _, _, ⟨_, _, _, _, _, _, _, _, _, _, ⟨g1, t1, c1, f1, p1, q1, a1, b1, d1, e1, ⟨g2, t2, c2, f2, p2, q2, a2, b2, d2, e2, _⟩, _⟩, _⟩, _⟩, _⟩, _, _⟩ := h
  exact ⟨err_cell 1 a2 (by kernel_rfl) b2 (by kernel_rfl) d2 e2, err_cell 2 a1 (by kernel_rfl) b1 (by kernel_rfl) d1 e1⟩
end Go.Proofs.YtpdkeggiokebmaaDoor

/- LexTokens: the helpers of the law. -/
namespace Go.Proofs.YtpdkeggiokebmaaDoor
set_option linter.unusedSimpArgs false
set_option linter.unusedVariables false
open Go.ChangeShapes Go.WideShapes Go.ChangeAt Go.RowKit Go.Shelf

set_option maxHeartbeats 1000000 in
theorem rTok_any (a : Option Addr) (len cap c : Nat) (g : Nat → Int) (hg : ∀ j, 0 ≤ g j ∧ g j ≤ 255) (W : World) (hlen : len ≤ 4000) (hS : Sl W c (.slice a len cap) len g) (hc : c < W.heap.size) :
    Calls Tryd.prog 11 #[.slice a len cap] W (RTokR g len W) := by
  have H := hide (rtokens_any a len cap c g hg W hlen hS hc)
  have hl : ¬ (65536 : Int) < len := by omega
  have hlb : decide ((65536 : Int) < len) = false := by simpa using hl
  clear hS
  go_enter Tryd.func11, Tryd.ntmps11
  go_wp2_with (go_at_call 20; refine (unhide H).mono ?_)
  rintro x W2 hR
  have hv : ∃ v i e, x = .returned (.tuple #[v, .int .i64 i, .int .i64 e]) := by
    rcases hR.1 with ⟨_, v, h, _⟩ | ⟨p, i, _, _, v, h, _⟩
    · exact ⟨_, _, _, h⟩
    · exact ⟨_, _, _, h⟩
  obtain ⟨v, i, e, rfl⟩ := hv
  have HR := hide hR
  have hvs : ∃ va vn vc, v = .slice va vn vc := by
    rcases hR.1 with ⟨_, v', h, ho⟩ | ⟨p, i', _, _, v', h, ho⟩
    · injection h with h; injection h with h; injection h with h; injection h with h _
      subst h
      rcases ho.2 with ⟨h, _⟩ | ⟨_, _, _, h, _⟩ <;> exact ⟨_, _, _, h⟩
    · injection h with h; injection h with h; injection h with h; injection h with h _
      subst h
      rcases ho.2 with ⟨h, _⟩ | ⟨_, _, _, h, _⟩ <;> exact ⟨_, _, _, h⟩
  obtain ⟨va, vn, vc, rfl⟩ := hvs
  clear hR
  go_wp2
  refine bodyPost_ret (v := .tuple #[.slice va vn vc, .int .i64 i, .int .i64 e]) ?_ rfl (unhide HR)
  simp [results, Tryd.results11, go_sem]
/-- The cells of a row of tokens. -/
theorem rowD_len (l : List TokD) : (rowD l).length = l.length * 4 := by
  unfold rowD
  induction l with
  | nil => rfl
  | cons t l ih => rw [List.flatMap_cons, List.length_append, ih]; simp; omega
theorem rowD_get {l : List TokD} {j : Nat} {t : TokD} (h : l[j]? = some t) : (rowD l)[j * 4]? = some (.int .i64 t.1.1) ∧ (rowD l)[j * 4 + 1]? = some (.string (strOfNums t.1.2.1)) ∧ (rowD l)[j * 4 + 2]? = some (.int .i64 (t.1.2.2.1 : Int)) ∧ (rowD l)[j * 4 + 3]? = some (.int .i64 (t.1.2.2.2 : Int)) := by
  induction l generalizing j with
  | nil => cases h
  | cons x l ih =>
    have e : rowD (x :: l) = [.int .i64 x.1.1, .string (strOfNums x.1.2.1), .int .i64 (x.1.2.2.1 : Int), .int .i64 (x.1.2.2.2 : Int)] ++ rowD l := rfl
    cases j with
    | zero =>
      cases h
      rw [e]
      exact ⟨rfl, rfl, rfl, rfl⟩
    | succ j =>
      obtain ⟨h0, h1, h2, h3⟩ := ih (j := j) h
      have s : ∀ k, (rowD (x :: l))[(j + 1) * 4 + k]? = (rowD l)[j * 4 + k]? := fun k => by
        rw [e, List.getElem?_append_right (by simp; omega)]
        congr 1
        simp
        omega
      exact ⟨(s 0).trans h0, (s 1).trans h1, (s 2).trans h2, (s 3).trans h3⟩
/-- Where a row's tokens lie. -/
theorem row_cells {w : World} {B gw n cap : Nat} {l : List TokD} (h : w.ownsRow B 33 4 (.slice (some ⟨gw, 0, none⟩) n cap) l.length (rowD l)) {j : Nat} {t : TokD} (hj : l[j]? = some t) : w.cell? ⟨gw, j * 4, none⟩ = some (.int .i64 t.1.1) ∧ w.cell? ⟨gw, j * 4 + 1, none⟩ = some (.string (strOfNums t.1.2.1)) ∧ w.cell? ⟨gw, j * 4 + 2, none⟩ = some (.int .i64 (t.1.2.2.1 : Int)) ∧ w.cell? ⟨gw, j * 4 + 3, none⟩ = some (.int .i64 (t.1.2.2.2 : Int)) := by
  obtain ⟨h0, h1, h2, h3⟩ := rowD_get hj
  have c := h.cells (g := gw) rfl
  have f : ∀ k u, (rowD l)[k]? = some u → w.cell? ⟨gw, k, none⟩ = some u := fun k u hk => by
    have := c k u hk
    rw [Addr.add_lit, Nat.zero_add] at this
    exact this
  exact ⟨f _ _ h0, f _ _ h1, f _ _ h2, f _ _ h3⟩
set_option maxRecDepth 100000 in
set_option maxHeartbeats 2000000 in
theorem toks_same (l : List TokD) (B1 B2 : Nat) (v1 v2 : Value) (W : World) (hl : l.length ≤ 100000) (h1 : W.ownsRow B1 33 4 v1 l.length (rowD l)) (h2 : W.ownsRow B2 33 4 v2 l.length (rowD l)) :
    Calls Tryd.prog 13 #[v1, v2] W fun e w' => e = .returned (.bool true) ∧ Below W.heap.size W w' := by
  by_cases hz : l.length = 0
  · have f : ∀ {v : Value} {B : Nat}, W.ownsRow B 33 4 v l.length (rowD l) → ∃ a c, v = .slice a 0 c := fun {v B} h => by
      rcases h.2 with ⟨h, _⟩ | ⟨g, cap, cur, h, _⟩
      · exact ⟨none, 0, h⟩
      · exact ⟨_, cap, by rw [h, hz]⟩
    obtain ⟨a1, c1, rfl⟩ := f h1
    obtain ⟨a2, c2, rfl⟩ := f h2
    clear h1 h2 f hz
    go_enter Tryd.func13, Tryd.ntmps13
    go_wp2
    refine wp_loop_rounds 1 ?_
    rw [rounds_succ]
    go_wp2
    go_ret
    exact ⟨rfl, Below.refl _ _⟩
  · have f : ∀ {v : Value} {B : Nat}, W.ownsRow B 33 4 v l.length (rowD l) → ∃ g c, v = .slice (some ⟨g, 0, none⟩) l.length c ∧ l.length ≤ c ∧ c ≤ maxLen := fun {v B} h => by
      rcases h.2 with ⟨_, h0⟩ | ⟨g, cap, cur, h, _, _, h3, h4, _⟩
      · exact absurd h0 hz
      · exact ⟨g, cap, h, h3, h4⟩
    obtain ⟨g1, c1, rfl, k1, k2⟩ := f h1
    obtain ⟨g2, c2, rfl, k3, k4⟩ := f h2
    unfold maxLen at k2 k4
    have H1 := hide h1
    have H2 := hide h2
    obtain ⟨n, hn⟩ : ∃ n, l.length = n := ⟨_, rfl⟩
    rw [hn] at hl k1 k3 ⊢
    have HN := hide hn
    clear h1 h2 f hz hn
    go_enter Tryd.func13, Tryd.ntmps13
    go_wp2
    go_loopw [5] (fun t wr => ∃ k : Nat, k ≤ n ∧ t = .int .i64 (k : Int) ∧ Hid (Below W.heap.size W wr)) (fun t _ => n - (intOf t).toNat)
    case atStart => exact ⟨0, Nat.zero_le _, rfl, Below.refl _ _⟩
    case round =>
      obtain ⟨k, hk, rfl, HB⟩ := hrel
      by_cases hlt : k < n
      · have hlt' : (k : Int) < n := by omega
        obtain ⟨t, ht⟩ : ∃ t, l[k]? = some t := ⟨_, List.getElem?_eq_getElem (by rw [show l.length = n from unhide HN]; exact hlt)⟩
        obtain ⟨a0, a1, a2, a3⟩ := row_cells (unhide H1) ht
        obtain ⟨b0, b1, b2, b3⟩ := row_cells (unhide H2) ht
        have up : ∀ {q : Addr} {u : Value}, W.cell? q = some u → wr.cell? q = some u := fun {q u} h => ((unhide HB).cell (World.block_lt_of_cell? W _ h)).trans h
        have a0 := up a0; have a1 := up a1; have a2 := up a2; have a3 := up a3
        have b0 := up b0; have b1 := up b1; have b2 := up b2; have b3 := up b3
        obtain ⟨S, hS⟩ : ∃ S, strOfNums t.1.2.1 = S := ⟨_, rfl⟩
        rw [hS] at a1 b1
        clear hS ht
        go_wp2
        go_quiet (fail)
        go_wp2
        exact ⟨⟨k + 1, by omega, by go_num, below_drewN (unhide HB) _⟩, by simp [intOf]; omega⟩
      · have hlt' : ¬ (k : Int) < n := by omega
        go_wp2
        go_ret
        exact ⟨rfl, unhide HB⟩
end Go.Proofs.YtpdkeggiokebmaaDoor

/- LexTokens: the bytes stand; the walk. -/
namespace Go.Proofs.YtpdkeggiokebmaaDoor
set_option linter.unusedSimpArgs false
set_option linter.unusedVariables false
open Go.ChangeShapes Go.WideShapes Go.ChangeAt Go.RowKit Go.Shelf

theorem scF_len (g : Nat → Int) (len : Nat) : ∀ (f i : Nat) (bs : List Bool), (scF g len f i bs).length ≤ f
  | 0, _, _ => Nat.le_refl _
  | f + 1, i, bs => by
    simp only [scF]
    split
    · simp
    · split
      · exact Nat.le_succ_of_le (scF_len g len f _ _)
      · split
        · exact Nat.le_succ_of_le (scF_len g len f _ _)
        · split
          · split
            · exact Nat.le_succ_of_le (scF_len g len f _ _)
            · simp
          · split
            · simp
            · simp only [List.length_cons]
              exact Nat.succ_le_succ (scF_len g len f _ _)
theorem scI_len (g : Nat → Int) (len : Nat) : (scI g len 0 []).length ≤ len + 1 := scF_len g len _ _ _
set_option maxRecDepth 100000 in
set_option maxHeartbeats 2000000 in
theorem stands12 (gb c' : Nat) (a : Option Addr) (len cap c : Nat) (g : Nat → Int) (W : World) (hlen : len ≤ 4000) (hS : Sl W c (.slice a len cap) len g) (hc : c < W.heap.size) (h1 : len + 1 ≤ c') (h2 : c' ≤ maxLen)
    (hw : ∀ j, j < len → W.cell? ⟨gb, j, none⟩ = some (.int .u8 (g j))) (hm : W.cell? ⟨gb, len, none⟩ = some (.int .u8 171)) :
    Calls Tryd.prog 12 #[.slice (some ⟨gb, 0, none⟩) (len + 1) c', .slice a len cap] W fun e w' => e = .returned (.bool true) ∧ Below W.heap.size W w' := by
  have hgb : gb < W.heap.size := World.block_lt_of_cell? W _ hm
  have HB : Hid (Calls Tryd.prog 21 #[.slice (some ⟨gb, 0, none⟩) len c', .slice a len cap] W fun e w' => e = .returned (.bool true) ∧ Below W.heap.size W w') := by
    rcases hS with ⟨a', cap', h, rfl⟩ | ⟨off, cap', h, h0, _, _, hcl⟩
    · exact bytes_none _ _ _ _ W
    · cases h
      exact bytes_some gb 0 c' c off cap len g W (by unfold maxLen; omega) (fun j hj => by rw [Nat.zero_add]; exact hw j hj) hcl hgb hc
  clear hS hw
  unfold maxLen at h2
  have e1 : ((len + 1 : Nat) : Int) = (len : Int) + 1 := by omega
  go_enter Tryd.func12, Tryd.ntmps12
  go_wp2_with (go_at_call 21; refine (unhide HB).mono ?_)
  rintro x W1 ⟨rfl, hB1⟩
  have hm1 := (hB1.cell (p := ⟨gb, len, none⟩) hgb).trans hm
  go_wp2
  go_ret
  exact ⟨rfl, hB1⟩
theorem ok_apart {I p : List TokD} {i : Nat} (h : okI I) (e : I = p ++ [((0, [], i, 0), 3)]) : False := by
  have := h ((0, [], i, 0), 3) (by rw [e]; simp)
  cases this
theorem bad_same {p p' : List TokD} {i i' : Nat} (e : p ++ [(((0 : Int), ([] : List Int), i, 0), (3 : Int))] = p' ++ [((0, [], i', 0), 3)]) : i = i' := by
  have := List.append_inj_right' e rfl
  simpa using this
/-- A row of tokens that may be written. -/
def RowW (W : World) (g1 c1 : Nat) : Prop := ∃ cur, W.heap[g1]? = some (.cells cur 33 (0, 0)) ∧ cur.size = c1 * 4
theorem RowW.set {W : World} {g1 c1 : Nat} (h : RowW W g1 c1) (o : Nat) (u : Value) : RowW (W.setCell ⟨g1, o, none⟩ u) g1 c1 := by
  obtain ⟨cur, h0, h1⟩ := h
  refine ⟨cur.setIfInBounds o u, ?_, by rw [Array.size_setIfInBounds]; exact h1⟩
  simp only [World.setCell, Array.getElem?_modify, h0]
  simp
theorem RowW.cell {W : World} {g1 c1 : Nat} (h : RowW W g1 c1) {o : Nat} (ho : o < c1 * 4) : ∃ u, W.cell? ⟨g1, o, none⟩ = some u := by
  obtain ⟨cur, h0, h1⟩ := h
  exact ⟨cur[o]'(by omega), by simp [World.cell?, h0, h1, ho]⟩
theorem RowW.free {W : World} {g1 c1 : Nat} (h : RowW W g1 c1) (o : Nat) : W.frozen? ⟨g1, o, none⟩ = false := by
  obtain ⟨cur, h0, h1⟩ := h
  simp [World.frozen?, h0]
theorem row_form {W2 W3 : World} {B n : Nat} {v1 v2 : Value} {xs ys : List Value} (h1 : W2.ownsRow B 33 4 v1 n xs) (h2 : W3.ownsRow W2.heap.size 33 4 v2 n ys) (hs : W2.heap.size ≤ W3.heap.size) (hk : ∀ k, k < W2.heap.size → W3.heap[k]? = W2.heap[k]?) (hB : B ≤ W2.heap.size) :
    ∃ g1 a1 c1, v1 = .slice a1 n c1 ∧ n ≤ c1 ∧ c1 ≤ maxLen ∧ B ≤ g1 ∧ (∀ k, v2.ownBlock = some k → k ≠ g1 ∧ k < W3.heap.size) ∧ (0 < n → a1 = some ⟨g1, 0, none⟩ ∧ RowW W3 g1 c1 ∧ g1 < W3.heap.size) := by
  have own2 : ∀ k, v2.ownBlock = some k → W2.heap.size ≤ k ∧ k < W3.heap.size := fun k hk2 => by
    rcases h2.2 with ⟨rfl, _⟩ | ⟨g, cap, cur, rfl, hg, hh, _⟩
    · cases hk2
    · cases hk2
      exact ⟨hg, (Array.getElem?_eq_some_iff.1 hh).1⟩
  rcases h1.2 with ⟨rfl, hn⟩ | ⟨g, cap, cur, rfl, hg, hh, q1, q2, q3, _⟩
  · subst hn
    exact ⟨W3.heap.size, none, 0, rfl, Nat.le_refl _, Nat.zero_le _, Nat.le_trans hB hs, fun k hk2 => ⟨by have := own2 k hk2; omega, (own2 k hk2).2⟩, fun h => absurd h (Nat.lt_irrefl _)⟩
  · have hl : g < W2.heap.size := (Array.getElem?_eq_some_iff.1 hh).1
    exact ⟨g, _, cap, rfl, q1, q2, hg, fun k hk2 => ⟨by have := own2 k hk2; omega, (own2 k hk2).2⟩, fun _ => ⟨rfl, ⟨cur, (hk g hl).trans hh, q3⟩, by omega⟩⟩
set_option maxRecDepth 100000 in
set_option maxHeartbeats 8000000 in
theorem lexTokens_small (a : Option Addr) (len cap c : Nat) (g : Nat → Int) (hg : ∀ j, 0 ≤ g j ∧ g j ≤ 255) (W : World) (hlen : len ≤ 1500) (hS : Sl W c (.slice a len cap) len g) (hc : c < W.heap.size) (hR : Src W (.slice a len cap) len g) (hnil : a = none → cap = 0) (hE1 : ErrG W 1) (hE2 : ErrG W 2) :
    Calls Tryd.prog 3 #[.slice a len cap] W fun e w' => e = .returned (.bool true) ∧ Below W.heap.size W w' := by
  have h2w := hE2.lt
  have Hr := hide (roomy_any (by omega) hR)
  have HSA : Hid (∀ W', Below W.heap.size W W' → Sl W' c (.slice a len cap) len g) := fun W' hb => hS.keep (fun k e => by subst e; exact hb.block k hc)
  have HE : Hid (∀ W', Below W.heap.size W W' → ErrG W' 1 ∧ ErrG W' 2) := fun W' hb => ⟨hE1.below hb (by omega), hE2.below hb h2w⟩
  have HG := hide hg
  have hlI := hide (scI_len g len)
  obtain ⟨I, hI⟩ : ∃ I, scI g len 0 [] = I := ⟨_, rfl⟩
  have HI := hide hI
  have HN := hide hnil
  have hl' : ¬ (1500 : Int) < len := by omega
  have hld : decide ((1500 : Int) < len) = false := by simpa using hl'
  clear hS hR hE1 hE2 hI hnil hg
  go_enter Tryd.func3, Tryd.ntmps3
  go_wp2_with (go_at_call 9; refine (unhide Hr).mono ?_)
  rintro x W1 gb c' rfl hgb hc1 hc2 hcl hmk hB1
  have hgs : gb < W1.heap.size := World.block_lt_of_cell? W1 _ hmk
  have hs1 : Sl W1 gb (.slice (some ⟨gb, 0, none⟩) len c') len g := by
    by_cases h0 : len = 0
    · exact .inl ⟨_, c', by rw [h0], h0⟩
    · exact .inr ⟨0, c', rfl, by omega, by omega, hc2, fun j hj => by rw [Nat.zero_add]; exact hcl j hj⟩
  have HT := hide (callsIn_wide.1 (tokens_any (some ⟨gb, 0, none⟩) len c' gb g (unhide HG) W1 (by omega) hs1 hgs (fun h => by cases h) (unhide HE W1 hB1).1 (unhide HE W1 hB1).2))
  have HC := hide hcl
  have HM := hide hmk
  have HB1 := hide hB1
  have hz1 := hB1.size
  clear hs1 hcl hmk hB1
  have hc2' := hc2
  unfold maxLen at hc2'
  have e1 : ((len + 1 : Nat) : Int) = (len : Int) + 1 := by omega
  go_wp2_with (go_at_call 10; refine (unhide HT).mono ?_)
  rintro x W2 hT
  have HB2 := hide ((unhide HB1).trans (hT.2.mono hz1))
  have HB2' := hide hT.2
  have hz2 := hT.2.size
  have HRT := hide (rTok_any a len cap c g (unhide HG) W2 (by omega) (unhide HSA W2 (unhide HB2)) (by omega))
  rcases hT.1 with ⟨hok, v1, rfl, hv1⟩ | ⟨p, i, hp, hokp, rfl⟩
  · have HV1 := hide hv1
    have HOK := hide hok
    clear hT hok hv1
    have hvs : ∃ va vn vc, v1 = .slice va vn vc := by
      rcases (unhide HV1).2 with ⟨h, _⟩ | ⟨_, _, _, h, _⟩ <;> exact ⟨_, _, _, h⟩
    obtain ⟨va, vn, vc, hvs⟩ := hvs
    subst hvs
    go_wp2_with (go_at_call 11; refine (unhide HRT).mono ?_)
    rintro x W3 hT3
    have HB3 := hide ((unhide HB2).trans (hT3.2.mono (Nat.le_trans hz1 hz2)))
    have HB3' := hide hT3.2
    have hz3 := hT3.2.size
    rcases hT3.1 with ⟨_, v2, rfl, hv2⟩ | ⟨p, i, hp, _⟩
    case inr => exact (ok_apart (unhide HOK) hp).elim
    have HV2 := hide hv2
    clear hT3 hv2
    have hv2s : ∃ va vn vc, v2 = .slice va vn vc := by
      rcases (unhide HV2).2 with ⟨h, _⟩ | ⟨_, _, _, h, _⟩ <;> exact ⟨_, _, _, h⟩
    obtain ⟨v2a, v2n, v2c, hv2s⟩ := hv2s
    subst hv2s
    obtain ⟨g1, a1, c1, e0, q1, q2, hg1, hown2, hrow⟩ := row_form (unhide HV1) (unhide HV2) hz3 (fun k hk => (unhide HB3').block k hk) hz2
    injection e0 with e2 e3 e4
    subst e2 e4
    rw [← e3] at q1 hrow
    have HVN := hide e3
    have HROW := hide hrow
    have HOWN := hide hown2
    have hvn : vn ≤ 1501 := by rw [e3]; exact Nat.le_trans (unhide hlI) (by omega)
    clear hrow hown2 e3
    unfold maxLen at q2
    have HC3 : Hid (∀ j, j < len → W3.cell? ⟨gb, j, none⟩ = some (.int .u8 (g j))) := fun j hj => ((unhide HB3').cell (by show gb < _; omega)).trans (((unhide HB2').cell (by show gb < _; omega)).trans (unhide HC j hj))
    have HM3 : Hid (W3.cell? ⟨gb, len, none⟩ = some (.int .u8 171)) := ((unhide HB3').cell (by show gb < _; omega)).trans (((unhide HB2').cell (by show gb < _; omega)).trans (unhide HM))
    have H12 := hide (stands12 gb c' a len cap c g W3 (by omega) (unhide HSA W3 (unhide HB3)) (by omega) hc1 hc2 (unhide HC3) (unhide HM3))
    go_wp2_with (go_at_call 12; refine (unhide H12).mono ?_)
    rintro x W4 ⟨rfl, hB4⟩
    have HB4 := hide ((unhide HB3).trans (hB4.mono (by omega)))
    have HB4' := hide hB4
    have hz4 := hB4.size
    clear hB4
    have HV14 : Hid (W4.ownsRow W1.heap.size 33 4 (.slice va vn vc) (scI g len 0 []).length (rowD (scI g len 0 []))) := row_keep (unhide HV1) fun k hk => by
      have hkl : k < W2.heap.size := by
        rcases (unhide HV1).2 with ⟨h, _⟩ | ⟨g, cap, cur, h, _, hh, _⟩
        · rw [h] at hk; cases hk
        · rw [h] at hk; cases hk; exact (Array.getElem?_eq_some_iff.1 hh).1
      exact ((unhide HB4').block k (by omega)).trans ((unhide HB3').block k hkl)
    have HV24 : Hid (W4.ownsRow W2.heap.size 33 4 (.slice v2a v2n v2c) (scI g len 0 []).length (rowD (scI g len 0 []))) := row_keep (unhide HV2) fun k hk => (unhide HB4').block k (unhide HOWN k hk).2
    have H13 := hide (toks_same (scI g len 0 []) _ _ _ _ W4 (Nat.le_trans (unhide hlI) (by omega)) (unhide HV14) (unhide HV24))
    go_wp2_with (go_at_call 13; refine (unhide H13).mono ?_)
    rintro x W5 ⟨rfl, hB5⟩
    have HB5 := hide ((unhide HB4).trans (hB5.mono (by omega)))
    have hz5 := hB5.size
    have HB35 := hide ((unhide HB4').trans (hB5.mono hz4))
    clear hB5
    go_wp2
    go_loopw [10] (fun t wr => ∃ k : Nat, k ≤ vn ∧ t = .int .i64 (k : Int) ∧ Hid (Fr (fun k => k = g1) W5 wr) ∧ Hid (0 < vn → RowW wr g1 vc)) (fun t _ => vn - (intOf t).toNat)
    case atStart => exact ⟨0, Nat.zero_le _, rfl, Fr.refl _ _, fun h => by
      obtain ⟨cur, h0, h1⟩ := (unhide HROW h).2.1
      exact ⟨cur, ((unhide HB35).block g1 (unhide HROW h).2.2).trans h0, h1⟩⟩
    case round =>
      obtain ⟨k, hk, rfl, HF, HW⟩ := hrel
      by_cases hlt : k < vn
      · have hlt' : (k : Int) < vn := by omega
        obtain ⟨hva, -, -⟩ := unhide HROW (by omega)
        subst hva
        have hw := unhide HW (by omega)
        obtain ⟨u0, y0⟩ := hw.cell (o := k * 4) (by omega)
        obtain ⟨u1, y1⟩ := hw.cell (o := k * 4 + 1) (by omega)
        obtain ⟨u2, y2⟩ := hw.cell (o := k * 4 + 2) (by omega)
        obtain ⟨u3, y3⟩ := hw.cell (o := k * 4 + 3) (by omega)
        have f0 := hw.free (k * 4)
        have f1 := hw.free (k * 4 + 1)
        have f2 := hw.free (k * 4 + 2)
        have f3 := hw.free (k * 4 + 3)
        clear hw
        go_wp2
        exact ⟨⟨k + 1, by omega, by go_num, ((((unhide HF).set g1 _ _ rfl).set g1 _ _ rfl).set g1 _ _ rfl).set g1 _ _ rfl, fun h => ((((unhide HW h).set _ _).set _ _).set _ _).set _ _⟩, by simp [intOf]; omega⟩
      · have hlt' : ¬ (k : Int) < vn := by omega
        have hz6 := (unhide HF).size
        have HB6 := hide ((unhide HB5).trans ((unhide HF).toBelow (n := W.heap.size) (by omega) (fun k hk e => by omega)))
        have HV26 : Hid (wr.ownsRow W2.heap.size 33 4 (.slice v2a v2n v2c) (scI g len 0 []).length (rowD (scI g len 0 []))) := row_keep (unhide HV2) fun k hk => by
          have h2 := unhide HOWN k hk
          exact ((unhide HF).block k (by omega) h2.1).trans ((unhide HB35).block k h2.2)
        have HT6 := hide (callsIn_wide.1 (tokens_any a len cap c g (unhide HG) wr (by omega) (unhide HSA wr (unhide HB6)) (by omega) (unhide HN) (unhide HE wr (unhide HB6)).1 (unhide HE wr (unhide HB6)).2))
        go_wp2_with (go_at_call 10; refine (unhide HT6).mono ?_)
        rintro x W7 hT7
        have HB7 := hide ((unhide HB6).trans (hT7.2.mono (by omega)))
        have HB7' := hide hT7.2
        have hz7 := hT7.2.size
        rcases hT7.1 with ⟨_, v3, rfl, hv3⟩ | ⟨p, i, hp, _⟩
        case inr => exact (ok_apart (unhide HOK) hp).elim
        have HV3 := hide hv3
        clear hT7 hv3
        have hv3s : ∃ va vn vc, v3 = .slice va vn vc := by
          rcases (unhide HV3).2 with ⟨h, _⟩ | ⟨_, _, _, h, _⟩ <;> exact ⟨_, _, _, h⟩
        obtain ⟨v3a, v3n, v3c, hv3s⟩ := hv3s
        subst hv3s
        have HV27 : Hid (W7.ownsRow W2.heap.size 33 4 (.slice v2a v2n v2c) (scI g len 0 []).length (rowD (scI g len 0 []))) := row_keep (unhide HV26) fun k hk => (unhide HB7').block k (by have h2 := unhide HOWN k hk; omega)
        have H13' := hide (toks_same (scI g len 0 []) _ _ _ _ W7 (Nat.le_trans (unhide hlI) (by omega)) (unhide HV3) (unhide HV27))
        go_wp2_with (go_at_call 13; refine (unhide H13').mono ?_)
        rintro x W8 ⟨rfl, hB8⟩
        have HB8 := hide ((unhide HB7).trans (hB8.mono (by omega)))
        have hz8 := hB8.size
        have HK := hide (lexknown_any W8 (unhide HE W8 (unhide HB8)).1 (unhide HE W8 (unhide HB8)).2)
        clear hB8
        go_wp2_with (go_at_call 14; refine (unhide HK).mono ?_)
        rintro x W9 ⟨rfl, hB9⟩
        have HB9 := hide ((unhide HB8).trans (hB9.mono (by omega)))
        clear hB9
        go_wp2
        go_ret
        exact ⟨rfl, unhide HB9⟩
  · have HP := hide hp
    clear hT hp hokp
    go_wp2_with (go_at_call 11; refine (unhide HRT).mono ?_)
    rintro x W3 hT3
    have HB3 := hide ((unhide HB2).trans (hT3.2.mono (Nat.le_trans hz1 hz2)))
    have HB3' := hide hT3.2
    have hz3 := hT3.2.size
    rcases hT3.1 with ⟨hok, _⟩ | ⟨p', i', hp', _, v2, rfl, hv2⟩
    case inl => exact (ok_apart hok (unhide HP)).elim
    obtain rfl : i' = i := (bad_same ((unhide HP).symm.trans hp')).symm
    have hv2s : ∃ va vn vc, v2 = .slice va vn vc := by
      rcases hv2.2 with ⟨h, _⟩ | ⟨_, _, _, h, _⟩ <;> exact ⟨_, _, _, h⟩
    obtain ⟨v2a, v2n, v2c, hv2s⟩ := hv2s
    subst hv2s
    clear hT3 hv2 hp'
    have HC3 : Hid (∀ j, j < len → W3.cell? ⟨gb, j, none⟩ = some (.int .u8 (g j))) := fun j hj => ((unhide HB3').cell (by show gb < _; omega)).trans (((unhide HB2').cell (by show gb < _; omega)).trans (unhide HC j hj))
    have HM3 : Hid (W3.cell? ⟨gb, len, none⟩ = some (.int .u8 171)) := ((unhide HB3').cell (by show gb < _; omega)).trans (((unhide HB2').cell (by show gb < _; omega)).trans (unhide HM))
    have H12 := hide (stands12 gb c' a len cap c g W3 (by omega) (unhide HSA W3 (unhide HB3)) (by omega) hc1 hc2 (unhide HC3) (unhide HM3))
    go_wp2_with (go_at_call 12; refine (unhide H12).mono ?_)
    rintro x W4 ⟨rfl, hB4⟩
    have HB4 := hide ((unhide HB3).trans (hB4.mono (by omega)))
    have hz4 := hB4.size
    clear hB4
    go_wp2
    refine wp_loop_rounds 1 ?_
    rw [rounds_succ]
    have HT6 := hide (callsIn_wide.1 (tokens_any a len cap c g (unhide HG) W4 (by omega) (unhide HSA W4 (unhide HB4)) (by omega) (unhide HN) (unhide HE W4 (unhide HB4)).1 (unhide HE W4 (unhide HB4)).2))
    go_wp2_with (go_at_call 10; refine (unhide HT6).mono ?_)
    rintro x W7 hT7
    have HB7 := hide ((unhide HB4).trans (hT7.2.mono (by omega)))
    have hz7 := hT7.2.size
    rcases hT7.1 with ⟨hok, _⟩ | ⟨p', i'', hp', _, rfl⟩
    case inl => exact (ok_apart hok (unhide HP)).elim
    clear hT7 hp'
    have HK := hide (lexknown_any W7 (unhide HE W7 (unhide HB7)).1 (unhide HE W7 (unhide HB7)).2)
    go_wp2_with (go_at_call 14; refine (unhide HK).mono ?_)
    rintro x W9 ⟨rfl, hB9⟩
    have HB9 := hide ((unhide HB7).trans (hB9.mono (by omega)))
    clear hB9
    go_wp2
    go_ret
    exact ⟨rfl, unhide HB9⟩
set_option maxHeartbeats 2000000 in
theorem lexTokens_big (a : Option Addr) (len cap : Nat) (W : World) (hbig : 1500 < len) (hl : len ≤ maxLen) : Calls Tryd.prog 3 #[.slice a len cap] W fun e w' => e = .returned (.bool true) ∧ Below W.heap.size W w' := by
  unfold maxLen at hl
  have hl' : (1500 : Int) < len := by omega
  have hld : decide ((1500 : Int) < len) = true := by simpa using hl'
  go_enter Tryd.func3, Tryd.ntmps3
  go_wp2
  go_ret
  exact ⟨rfl, Below.refl _ _⟩
end Go.Proofs.YtpdkeggiokebmaaDoor
