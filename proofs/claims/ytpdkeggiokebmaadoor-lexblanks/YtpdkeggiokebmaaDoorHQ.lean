/- Merged: AP, GP. -/
import Derived.BigQuiet
import Derived.Deep.QuietTactic
import Derived.Laws.AppendOwnNone
import Derived.LoopN
import Derived.WalkMore
import Derived.Test.YtpdkeggiokebmaaDoorF2
import Derived.Test.YtpdkeggiokebmaaDoorHP
/- Bytes laid behind bytes: one append, whatever row they come from; rows of bytes and of tokens, opened. -/
namespace Go.Proofs.YtpdkeggiokebmaaDoor
set_option linter.unusedSimpArgs false
set_option linter.unusedVariables false
open Go.ChangeShapes Go.WideShapes Go.ChangeAt Go.RowKit Go.Shelf

theorem append_src {w : World} {ops : Array Oper} {rest : List Oper} {o : Oper} {a : Act} {Q : Exit → Act → World → Prop} (hgd : o.guard = none) (s x : Operand) (ho : o.op = .call { callee := .builtin .append, args := #[s, x], argTypes := #[22, 22] }) (base : Nat) (v : Value) (n : Nat) (xs : List Value) (hs : a.eval s = v) (hown : w.ownsRow base 5 1 v n xs) (sv : Value) (m : Nat) (g : Nat → Int) (hx : a.eval x = sv) (hsrc : Src w sv m g) (hm : n + m ≤ 4294967296) (hbase : base ≤ w.heap.size)
    (h : ∀ v' w', w'.ownsRow base 5 1 v' (n + m) (xs ++ bcells g m) → w.grownBy w' v.ownBlock → wpList Tryd.prog ops Q rest (a.put o.dst v') w') : wpList Tryd.prog ops Q (o :: rest) a w := by
  obtain ⟨i0, hi, hz0, hz1, hz2⟩ := info_parts infoByte
  rcases hsrc with ⟨rfl, rfl⟩ | ⟨ad, cap, rfl, hc⟩
  · refine wpList_append_own_none hgd s x 22 ho base 5 i0 1 Tryd.underlying22 hi v n xs hs hown hx ?_
    refine h v w ?_ ⟨rfl, rfl, rfl, Nat.le_refl _, fun _ _ _ => rfl⟩
    rw [show bcells g 0 = [] from rfl, List.append_nil]
    exact hown
  · refine wpList_append_own _ hgd s x 22 ho base 5 i0 (.int .u8 0) 1 1 Tryd.underlying22 hi hz0 hz1 hz2 rfl (by decide) v n xs hs hown ad m cap (bcells g m) hx (by simp [bcells_length]) (fun j u hj => ?_) (fun u hu => ?_) (by unfold maxLen; omega) (by omega) hbase (fun v' w' h1 h2 _ => h v' w' h1 h2)
    · have hj' : j < m := by have := (List.getElem?_eq_some_iff.1 hj).1; rw [bcells_length] at this; exact this
      rw [bcells_get hj'] at hj
      cases hj
      exact hc j hj'
    · obtain ⟨j, _, rfl⟩ := List.mem_map.1 hu; rfl
theorem Src.below {n : Nat} {A B : World} {sv : Value} {len : Nat} {g : Nat → Int} (h : Src A sv len g) (hb : Below A.heap.size A B) : Src B sv len g := by
  rcases h with h | ⟨ad, cap, h, hc⟩
  · exact .inl h
  · exact .inr ⟨ad, cap, h, fun j hj => (hb.cell (World.block_lt_of_cell? A _ (hc j hj))).trans (hc j hj)⟩
/-- One byte, laid for an append. -/
theorem src_one (w : World) (z : Int) (f : Nat × Nat) : Src (w.alloc (.cells #[.int .u8 z] 5 f)) (.slice (some ⟨w.heap.size, 0, none⟩) 1 1) 1 (fun _ => z) := by
  refine .inr ⟨_, _, rfl, fun j hj => ?_⟩
  obtain rfl : j = 0 := by omega
  rw [addr_at, Lib.cell_of_heap (World.alloc_heap_new w _)]
  rfl
/-- A row of bytes of the call's own. -/
theorem own_sl {w : World} {B n : Nat} {v : Value} {xs : List Value} {g : Nat → Int} (h : w.ownsRow B 5 1 v n xs) (hpos : 0 < w.heap.size) (hx : ∀ j, j < n → xs[j]? = some (.int .u8 (g j))) : ∃ c a cap, v = .slice a n cap ∧ (a = none → cap = 0) ∧ c < w.heap.size ∧ Sl w c v n g := by
  rcases h.2 with ⟨rfl, rfl⟩ | ⟨gb, cap, cur, rfl, hg, hh, h1, h2, _⟩
  · exact ⟨0, none, 0, rfl, fun _ => rfl, hpos, .inl ⟨_, _, rfl, rfl⟩⟩
  · refine ⟨gb, _, cap, rfl, (fun h => by cases h), (Array.getElem?_eq_some_iff.1 hh).1, ?_⟩
    by_cases h0 : n = 0
    · exact .inl ⟨_, cap, by rw [h0], h0⟩
    · refine .inr ⟨0, cap, rfl, by omega, h1, h2, fun j hj => ?_⟩
      have := h.cells (g := gb) rfl j _ (hx j hj)
      rw [Addr.add_lit] at this
      exact this
/-- A row of tokens of the call's own. -/
theorem row_open {w : World} {B n : Nat} {v : Value} {xs : List Value} (h : w.ownsRow B 33 4 v n xs) (hn : 0 < n) : ∃ g c, v = .slice (some ⟨g, 0, none⟩) n c ∧ n ≤ c ∧ c ≤ maxLen ∧ g < w.heap.size ∧ B ≤ g := by
  rcases h.2 with ⟨_, h0⟩ | ⟨g, cap, cur, hv, hg, hh, h1, h2, _⟩
  · omega
  · exact ⟨g, cap, hv, h1, h2, (Array.getElem?_eq_some_iff.1 hh).1, hg⟩
theorem row_up {A B : World} {B0 g n c m : Nat} {xs : List Value} (h : A.ownsRow B0 33 4 (.slice (some ⟨g, 0, none⟩) n c) m xs) (hg : g < A.heap.size) (hb : Below A.heap.size A B) : B.ownsRow B0 33 4 (.slice (some ⟨g, 0, none⟩) n c) m xs :=
  row_keep h fun k hk => by cases hk; exact hb.block g hg
/-- Two rows of bytes with a line's end between. -/
def joinG (ga gb : Nat → Int) (la j : Nat) : Int := if j < la then ga j else if j = la then 10 else gb (j - (la + 1))
theorem joinG_get {ga gb : Nat → Int} {la lb j : Nat} (h : j < 0 + la + 1 + lb) : (([] ++ bcells ga la ++ bcells (fun _ => 10) 1) ++ bcells gb lb)[j]? = some (.int .u8 (joinG ga gb la j)) := by
  unfold joinG
  simp only [List.nil_append, List.append_assoc]
  by_cases h1 : j < la
  · rw [if_pos h1, List.getElem?_append_left (by rw [bcells_length]; exact h1)]
    exact bcells_get h1
  · rw [if_neg h1, List.getElem?_append_right (by rw [bcells_length]; omega), bcells_length]
    by_cases h2 : j = la
    · rw [if_pos h2, h2, Nat.sub_self, List.getElem?_append_left (by rw [bcells_length]; omega)]
      exact bcells_get (by omega)
    · rw [if_neg h2, List.getElem?_append_right (by rw [bcells_length]; omega), bcells_length, show j - la - 1 = j - (la + 1) by omega]
      exact bcells_get (by omega)
end Go.Proofs.YtpdkeggiokebmaaDoor

/- LexGaps: what the law's rounds ask, purely; slices of a row; blank. -/
namespace Go.Proofs.YtpdkeggiokebmaaDoor
set_option linter.unusedSimpArgs false
set_option linter.unusedVariables false
open Go.ChangeShapes Go.WideShapes Go.ChangeAt Go.RowKit Go.Shelf

theorem sliced_sl {c : Nat} {a : Option Addr} {len cap : Nat} {g : Nat → Int} {xf xt : Nat} (hnil : a = none → cap = 0) (h1 : xf ≤ xt) (h2 : xt ≤ len) (hcap : len ≤ cap) :
    ∃ a' cap', sliced a xf xt cap 1 = .slice a' (xt - xf) cap' ∧ (a' = none → cap' = 0) ∧
      ∀ W', Sl W' c (.slice a len cap) len g → Sl W' c (.slice a' (xt - xf) cap') (xt - xf) (fun j => g (xf + j)) ∧ Src W' (.slice a' (xt - xf) cap') (xt - xf) (fun j => g (xf + j)) := by
  unfold sliced
  cases a with
  | none =>
    have hc := hnil rfl
    subst hc
    have hx : xf = 0 := by omega
    have hy : xt = 0 := by omega
    subst hx hy
    exact ⟨none, 0, by rw [if_pos rfl], fun _ => rfl, fun W' _ => ⟨.inl ⟨_, _, rfl, rfl⟩, .inl ⟨rfl, rfl⟩⟩⟩
  | some ad =>
    refine ⟨some (if cap = xf then ad else ad.add (xf * 1)), cap - xf, by split <;> rfl, (fun h => by cases h), fun W' hS' => ?_⟩
    rcases hS' with ⟨a', cap', h, h0⟩ | ⟨off, cap', h, h3, h4, h5, hc⟩
    · cases h
      obtain rfl : xt = 0 := by omega
      obtain rfl : xf = 0 := by omega
      exact ⟨.inl ⟨_, _, rfl, rfl⟩, .inr ⟨_, _, rfl, fun j hj => by omega⟩⟩
    · cases h
      have hcell : xf < xt → cap ≠ xf ∧ ∀ j, j < xt - xf → W'.cell? ⟨c, off + xf + j, none⟩ = some (.int .u8 (g (xf + j))) := fun hlt => ⟨by omega, fun j hj => by rw [Nat.add_assoc]; exact hc (xf + j) (by omega)⟩
      by_cases hlt : xf < xt
      · obtain ⟨hne, hcl⟩ := hcell hlt
        rw [if_neg hne]
        simp only [Nat.mul_one, Addr.add_lit]
        refine ⟨.inr ⟨off + xf, cap - xf, rfl, by omega, by omega, by omega, hcl⟩, .inr ⟨_, _, rfl, fun j hj => ?_⟩⟩
        rw [Addr.add_lit]
        exact hcl j hj
      · have e0 : xt - xf = 0 := by omega
        rw [e0]
        exact ⟨.inl ⟨_, _, rfl, rfl⟩, .inr ⟨_, _, rfl, fun j hj => by omega⟩⟩
theorem Sl.cap {W : World} {c : Nat} {a : Option Addr} {len cap : Nat} {g : Nat → Int} (hS : Sl W c (.slice a len cap) len g) : len ≤ cap := by
  rcases hS with ⟨a', cap', h, h0⟩ | ⟨off, cap', h, _, h3, _⟩
  · cases h; omega
  · cases h; omega
/-- A slice of a row of bytes. -/
def CutTo (c : Nat) (a : Option Addr) (len cap : Nat) (g : Nat → Int) (xf n : Nat) (a' : Option Addr) (cap' : Nat) : Prop := (a' = none → cap' = 0) ∧ ∀ W', Sl W' c (.slice a len cap) len g → Sl W' c (.slice a' n cap') n (fun j => g (xf + j)) ∧ Src W' (.slice a' n cap') n (fun j => g (xf + j))
theorem cut_lh {c : Nat} {a : Option Addr} {len cap : Nat} {g : Nat → Int} {xf xt : Nat} (hnil : a = none → cap = 0) (hcap : len ≤ cap) (h1 : xf ≤ xt) (h2 : xt ≤ len) :
    ∃ a' cap', (∀ W', (Instr.slice 22 (.slice a len cap) (some (.int .i64 (xf : Int))) (some (.int .i64 (xt : Int))) none).run Tryd.prog W' = .ok (.slice a' (xt - xf) cap') W') ∧ CutTo c a len cap g xf (xt - xf) a' cap' := by
  obtain ⟨a', cap', e, h⟩ := sliced_sl (c := c) (g := g) hnil h1 h2 hcap
  refine ⟨a', cap', fun W' => ?_, h⟩
  rw [run_slice_lh W' 22 a len cap under22 .i64 .i64 xf xt (by omega) (by omega) (by omega), elem22, size5, ← e]
  rfl
theorem cut_h {c : Nat} {a : Option Addr} {len cap : Nat} {g : Nat → Int} {xt : Nat} (hnil : a = none → cap = 0) (hcap : len ≤ cap) (h2 : xt ≤ len) :
    ∃ a' cap', (∀ W', (Instr.slice 22 (.slice a len cap) none (some (.int .i64 (xt : Int))) none).run Tryd.prog W' = .ok (.slice a' xt cap') W') ∧ CutTo c a len cap g 0 xt a' cap' := by
  obtain ⟨a', cap', e, h⟩ := sliced_sl (c := c) (g := g) (xf := 0) hnil (Nat.zero_le xt) h2 hcap
  refine ⟨a', cap', fun W' => ?_, h⟩
  have e' : sliced a 0 xt cap 1 = .slice a' xt cap' := e
  rw [run_slice_h W' 22 a len cap under22 .i64 xt (by omega) (by omega), elem22, size5, ← e']
  rfl
theorem cut_l {c : Nat} {a : Option Addr} {len cap : Nat} {g : Nat → Int} {xf : Nat} (hnil : a = none → cap = 0) (hcap : len ≤ cap) (h2 : xf ≤ len) :
    ∃ a' cap', (∀ W', (Instr.slice 22 (.slice a len cap) (some (.int .i64 (xf : Int))) none none).run Tryd.prog W' = .ok (.slice a' (len - xf) cap') W') ∧ CutTo c a len cap g xf (len - xf) a' cap' := by
  obtain ⟨a', cap', e, h⟩ := sliced_sl (c := c) (g := g) (xf := xf) hnil h2 (Nat.le_refl len) hcap
  refine ⟨a', cap', fun W' => ?_, h⟩
  rw [run_slice_l W' 22 a len cap under22 .i64 xf (by omega) (by omega), elem22, size5, ← e]
  rfl
theorem gap_round {g : Nat → Int} {len : Nat} {L : List TokD} {k at' : Nat} {bs : List Bool} {t : TokD} (hok : okI (scI g len at' bs)) (hat : at' ≤ len) (hd : scI g len at' bs = L.drop k) (ht : L[k]? = some t) :
    ∃ j, GapTo g len at' j ∧ at' ≤ j ∧ j ≤ len ∧ t.1.2.2.1 = j ∧ j ≤ t.1.2.2.2 ∧ t.1.2.2.2 ≤ len ∧ ((t.1.1 = 10 ∧ L.length = k + 1) ∨ (j < len ∧ NoGap g len j ∧ ∃ bs', tokP g len j bs = some (t.1.1, t.1.2.1, t.1.2.2.2, bs') ∧ okI (scI g len t.1.2.2.2 bs') ∧ scI g len t.1.2.2.2 bs' = L.drop (k + 1))) := by
  obtain ⟨j, hg, hj⟩ := sc_step (g := g) (len := len) len at' bs (by omega) hok hat
  rw [hg.sc bs] at hd hok
  have hle := hg.le hat
  obtain ⟨hk, hkt⟩ := List.getElem?_eq_some_iff.1 ht
  have hdk : L.drop k = t :: L.drop (k + 1) := by rw [List.drop_eq_getElem_cons hk, hkt]
  refine ⟨j, hg, hle.1, hle.2, ?_⟩
  rcases hj with rfl | ⟨hl, hng, ⟨kd, tx, e, bs'⟩, hy⟩
  · rw [sc_end (by omega), hdk] at hd
    injection hd with h1 h2
    subst h1
    have h3 := congrArg List.length h2
    rw [List.length_drop] at h3
    simp at h3
    exact ⟨rfl, Nat.le_refl _, Nat.le_refl _, .inl ⟨rfl, by omega⟩⟩
  · rw [sc_tok hl hng hy] at hd hok
    rw [hdk] at hd
    injection hd with h1 h2
    subst h1
    have ha := tokP_adv hl hy
    exact ⟨rfl, by show j ≤ e; omega, ha.2.1, .inr ⟨hl, hng, bs', hy, fun t h => hok t (List.mem_cons_of_mem _ h), h2⟩⟩
theorem joinG_bd {ga gb : Nat → Int} {la : Nat} (ha : ∀ j, 0 ≤ ga j ∧ ga j ≤ 255) (hb : ∀ j, 0 ≤ gb j ∧ gb j ≤ 255) (j : Nat) : 0 ≤ joinG ga gb la j ∧ joinG ga gb la j ≤ 255 := by
  unfold joinG
  split
  · exact ha _
  · split
    · omega
    · exact hb _
set_option maxRecDepth 100000 in
set_option maxHeartbeats 4000000 in
theorem blank_any (a : Option Addr) (n cap : Nat) (g : Nat → Int) (hg : ∀ j, 0 ≤ g j ∧ g j ≤ 255) (W : World) (hn : n ≤ 3000) (hR : Src W (.slice a n cap) n g) (hx : scI (joinG g g n) (n + 1) 0 [] = [((10, [], n + 1, n + 1), 0)]) (hE1 : ErrG W 1) (hE2 : ErrG W 2) :
    Calls Tryd.prog 18 #[.slice a n cap] W fun e w' => e = .returned (.bool true) ∧ Below W.heap.size W w' := by
  have h2w := hE2.lt
  have HE : Hid (∀ W', Below W.heap.size W W' → ErrG W' 1 ∧ ErrG W' 2) := fun W' hb => ⟨hE1.below hb (by omega), hE2.below hb h2w⟩
  have HG := hide hg
  have h0 := empty_owns W
  have hB0 : Below W.heap.size W (W.alloc (.cells #[] 5)) := (Below.refl _ W).alloc (Nat.le_refl _) _
  have HR := hide (hR.below (n := 0) hB0)
  have HX := hide hx
  clear hx hR hg hE1 hE2
  go_enter Tryd.func18, Tryd.ntmps18
  go_wp2_with (at_builtin; refine append_src rfl _ _ rfl W.heap.size _ _ _ rfl h0 _ n g rfl (unhide HR) (by omega) (by simp) ?_)
  intro v1 w1 hown1 hg1
  have hs1 : W.heap.size + 1 ≤ w1.heap.size := by have := hg1.size; simp at this; omega
  have hB1 : Below W.heap.size W w1 := hB0.grown hg1 (by simp) (fun k e => by simp [Value.ownBlock] at e; omega)
  go_wp2_with (at_builtin; refine append_src rfl _ _ rfl W.heap.size _ _ _ rfl (hown1.alloc _) _ 1 (fun _ => 10) rfl (src_one w1 10 _) (by omega) (by simp; omega) ?_)
  intro v2 w2 hown2 hg2
  have hs2 : w1.heap.size + 1 ≤ w2.heap.size := by have := hg2.size; simp at this; omega
  have hB2 : Below W.heap.size W w2 := (hB1.alloc (by omega) _).grown hg2 (by simp; omega) (fun k hk => (hown1.lt k hk).1)
  have hown3 : w2.ownsRow W.heap.size 5 1 v2 (n + 1) (([] ++ bcells g n ++ bcells (fun _ => 10) 1) ++ bcells g 0) := by
    rw [show bcells g 0 = [] from rfl, List.append_nil, List.nil_append]
    exact hown2
  obtain ⟨c2, a2, cap2, hv2, hn2, hc2, hS2⟩ := own_sl hown3 (by omega) (fun j hj => joinG_get (ga := g) (gb := g) (la := n) (lb := 0) (by omega))
  subst hv2
  have hE2' := unhide HE w2 hB2
  have HT := hide (callsIn_wide.1 (tokens_any a2 (n + 1) cap2 c2 (joinG g g n) (joinG_bd (unhide HG) (unhide HG)) w2 (by omega) hS2 hc2 hn2 hE2'.1 hE2'.2))
  have HB2 := hide hB2
  clear hown1 hown2 hown3 hg1 hg2 h0 hB0 hB1 hB2 hS2 hE2'
  go_wp2_with (go_at_call 10; refine (unhide HT).mono ?_)
  rintro x W3 hT
  have HB3 := hide ((unhide HB2).trans (hT.2.mono (by omega)))
  have h3 := hT.1
  rw [unhide HX] at h3
  rcases h3 with ⟨_, v, rfl, hv⟩ | ⟨p, i, hp, _⟩
  rotate_left
  · exact (ok_apart (fun t ht => by simp at ht; subst ht; rfl) hp).elim
  obtain ⟨g1, c1, hvv, q1, q2, hg1, _⟩ := row_open hv (by simp)
  have hvv' : v = .slice (some ⟨g1, 0, none⟩) 1 c1 := hvv
  subst hvv'
  clear hvv hv hT
  go_wp2
  go_ret
  exact ⟨rfl, unhide HB3⟩
end Go.Proofs.YtpdkeggiokebmaaDoor
