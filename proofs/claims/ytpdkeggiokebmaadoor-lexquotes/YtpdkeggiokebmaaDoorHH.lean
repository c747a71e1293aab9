/- Merged: TY, KN. -/
import Derived.BigQuiet
import Derived.Deep.QuietTactic
import Derived.OwnWalkIn
import Derived.RangeFuncLeaves
import Derived.Stop.RegionWithIn
import Derived.Test.YtpdkeggiokebmaaDoorHG
import Derived.Test.YtpdkeggiokebmaaDoorXD
import Derived.Test.YtpdkeggiokebmaaDoorXE
/- lex.Tokens, over any text. -/
namespace Go.Proofs.YtpdkeggiokebmaaDoor
set_option linter.unusedSimpArgs false
set_option linter.unusedVariables false
open Go.RowKit Go.Shelf

attribute [local go_sem] Oper.semAt_some
attribute [local go_sem] tokV
/-- The cells of tokens. -/
def rowD (l : List TokD) : List Value := l.flatMap fun t => [.int .i64 t.1.1, .string (strOfNums t.1.2.1), .int .i64 (t.1.2.2.1 : Int), .int .i64 (t.1.2.2.2 : Int)]
theorem rowD_snoc (l : List TokD) (t : TokD) : rowD (l ++ [t]) = rowD l ++ [.int .i64 t.1.1, .string (strOfNums t.1.2.1), .int .i64 (t.1.2.2.1 : Int), .int .i64 (t.1.2.2.2 : Int)] := by simp [rowD]
/-- No error is among them. -/
def okI (l : List TokD) : Prop := ∀ t ∈ l, t.2 = 0
theorem one_split {α : Type} {x t : α} {q rest : List α} (h : [x] = q ++ t :: rest) : rest = [] := by
  cases q with
  | nil => injection h with _ h; exact h.symm
  | cons y q => injection h with _ h; cases q <;> cases h
theorem sc_last {g : Nat → Int} {len : Nat} : ∀ (f i : Nat) (bs : List Bool) (q : List TokD) (t : TokD) (rest : List TokD), scF g len f i bs = q ++ t :: rest → t.2 ≠ 0 → rest = []
  | 0, i, bs, q, t, rest, h, ht => by cases q <;> cases h
  | f + 1, i, bs, q, t, rest, h, ht => by
    simp only [scF] at h
    by_cases hl : i < len
    · rw [if_neg (fun h' => h' hl)] at h
      by_cases hb : blk (g i) = true
      · rw [if_pos hb] at h; exact sc_last f _ _ q t rest h ht
      rw [if_neg hb] at h
      by_cases h1 : g i = 47 ∧ i + 1 < len ∧ g (i + 1) = 47
      · rw [if_pos h1] at h; exact sc_last f _ _ q t rest h ht
      rw [if_neg h1] at h
      by_cases h2 : g i = 47 ∧ i + 1 < len ∧ g (i + 1) = 42
      · rw [if_pos h2] at h
        split at h
        · exact sc_last f _ _ q t rest h ht
        · exact one_split h
      rw [if_neg h2] at h
      cases hk : tokP g len i bs with
      | none => rw [hk] at h; exact one_split h
      | some y =>
        obtain ⟨k, tx, e, bs'⟩ := y
        rw [hk] at h
        simp only at h
        cases q with
        | nil =>
          injection h with h0 _
          exact absurd (congrArg Prod.snd h0).symm ht
        | cons y q =>
          injection h with _ h
          exact sc_last f _ _ q t rest h ht
    · rw [if_pos hl] at h; exact one_split h
/-- What Scan gives, whatever it was handed. -/
def ScanMade' (w : World) (len : Nat) (g : Nat → Int) (e : Ending) (w' : World) : Prop :=
  ∃ Bk c a' cap', e = .returned (.func (.func 24) #[] #[.pointer (some ⟨Bk, 0, none⟩)]) ∧ Boxed w' Bk 22 (.slice a' len cap') ∧ Sl w' c (.slice a' len cap') len g ∧ w.heap.size ≤ Bk ∧ c < w'.heap.size ∧ w.heap.size ≤ c ∧ Below w.heap.size w w' ∧ CC w' c
set_option maxHeartbeats 1000000 in
theorem scan_nil (g : Nat → Int) (w : World) (hp : 0 < w.heap.size) : Calls Tryd.prog 15 #[.slice none 0 0] w (ScanMade' w 0 g) := by
  have H := hide (clone_none g w hp)
  go_enter Tryd.func15, Tryd.ntmps15
  go_wp2_with (go_at_call 23; refine (unhide H).mono ?_; rintro e w1 ⟨rfl, hw⟩; subst w1)
  go_ret
  refine ⟨w.heap.size, w.heap.size, none, 0, rfl, Boxed.new w 22 _, .inl ⟨none, 0, rfl, rfl⟩, Nat.le_refl _, by simp, Nat.le_refl _, (Below.refl _ w).alloc (Nat.le_refl _) _, _, Boxed.new w 22 _, fun cur e => by cases e⟩
theorem scan_src {a : Option Addr} {len cap c0 : Nat} {g : Nat → Int} {w : World} (hS : Sl w c0 (.slice a len cap) len g) (hnil : a = none → cap = 0) (hlen : len ≤ 65536) (hp : 0 < w.heap.size) : Calls Tryd.prog 15 #[.slice a len cap] w (ScanMade' w len g) := by
  cases a with
  | none =>
    obtain rfl := hnil rfl
    have hl : len = 0 := by
      rcases hS with ⟨_, _, h, h0⟩ | ⟨off, cap', h, _⟩
      · exact h0
      · cases h
    subst hl
    exact scan_nil g w hp
  | some ad =>
    refine (scan_some ad len cap g w hlen (fun j hj => ?_)).mono ?_
    · rcases hS with ⟨_, _, h, h0⟩ | ⟨off, cap', h, h0, h1, h2, hc⟩
      · omega
      · cases h
        rw [Addr.add_lit]
        exact hc j hj
    · rintro e w' ⟨Bk, c, a', cap', h1, h2, h3, h4, h5, h6, h7, cur, fr, h8⟩
      exact ⟨Bk, c, a', cap', h1, h2, h3, h4, h5, h6, h7, _, h8, fun cur e => by cases e⟩

set_option maxRecDepth 100000 in
set_option maxHeartbeats 2000000 in
theorem scan2Y (n : Nat) (hn : 2 ≤ n) (l Bk c : Nat) (a : Option Addr) (len cap : Nat) (g : Nat → Int) (hg : ∀ j, 0 ≤ g j ∧ g j ≤ 255) (hlen : len ≤ 4000) (W : World) (hcM : c < W.heap.size) (J : List TokD → Option Nat → World → Prop) (Jx : List TokD → World → Prop)
    (hJ : ∀ pre ob ob' A C, J pre ob A → Fr (fun k => k = W.heap.size ∨ ob = some k) A C → (ob' = ob ∨ ∃ k, ob' = some k ∧ A.heap.size ≤ k) → J pre ob' C)
    (hY : ∀ pre ob t A, t.2 = 0 → J pre ob A → pre.length < len + 1 → (∃ cs : Array Value, A.heap[W.heap.size]? = some (.cells cs 49)) → (∀ k, ob = some k → W.heap.size < k ∧ ∃ cur, A.heap[k]? = some (.cells cur 4 (0, 0))) → CC A c → YieldAt Fence.wide (n - 1 - 1) Tryd.prog l #[tdV t, .int .i64 t.2] A fun e A' =>
      (e = .returned (.bool true) ∧ J (pre ++ [t]) ob A' ∧ Kept W.heap.size c ob A A') ∨ (e = .returned (.bool false) ∧ Jx (pre ++ [t]) A'))
    (hYe : ∀ pre ob i A, J pre ob A → pre.length < len + 1 → YieldAt Fence.wide (n - 1 - 1) Tryd.prog l #[tdV ((0, [], i, 0), 3), .int .i64 3] A fun e A' => ∃ r : Bool, e = .returned (.bool r) ∧ ((∃ ob', J (pre ++ [((0, [], i, 0), 3)]) ob' A') ∨ Jx (pre ++ [((0, [], i, 0), 3)]) A'))
    (h0 : J [] none W) (hB : Boxed W Bk 22 (.slice a len cap)) (hS : Sl W c (.slice a len cap) len g) (hcc : CC W c) (hE1 : ErrG W 1) (hE2 : ErrG W 2) :
    CallsIn Fence.wide n Tryd.prog 24 #[.func (.yield l) #[] #[], .pointer (some ⟨Bk, 0, none⟩)] W fun e W' => (∃ v, e = .returned v) ∧ ((∃ ob, J (scI g len 0 []) ob W') ∨ ∃ pre rest, scI g len 0 [] = pre ++ rest ∧ Jx pre W') := by
  obtain ⟨W1, hW1⟩ : ∃ W1, W.alloc (.cells #[.slice a len cap, .int .i64 0, .slice none 0 0] 49) = W1 := ⟨_, rfl⟩
  have hF1 : Fr (fun k => k = W.heap.size ∨ (none : Option Nat) = some k) W W1 := by rw [← hW1]; exact (Fr.refl _ W).alloc _
  have hM1 : MAt W1 W.heap.size (.slice a len cap) ((0 : Nat) : Int) (.slice none 0 0) := by rw [← hW1]; exact World.alloc_heap_new W _
  have hB1 : Below W.heap.size W W1 := by rw [← hW1]; exact (Below.refl _ W).alloc (Nat.le_refl _) _
  have hS1 : Sl W1 c (.slice a len cap) len g := hS.keep (fun k e => by subst e; exact hB1.block k hcM)
  have hcc1 : CC W1 c := by
    obtain ⟨o, h, hno⟩ := hcc
    exact ⟨o, (hB1.block c hcM).trans h, hno⟩
  have HC := hide (scanY (n - 1) (by omega) l W.heap.size c a len cap g hg hlen hcM hE2.lt J Jx hJ hY hYe W1 (hJ _ _ _ _ _ h0 hF1 (.inl rfl)) hM1 hS1 hcc1 (hE1.below hB1 hE1.lt) (hE2.below hB1 hE2.lt))
  have cb := hB.cell
  have HW1 := hide hW1
  clear hJ hY hYe h0 hS hS1 hW1
  refine callsIn_of_wp Tryd.func24 rfl trivial ?_ rfl
  simp only [Tryd.ntmps24, List.size_toArray, List.length_cons, List.length_nil, Nat.reduceAdd, Nat.reduceSub, Array.replicate_succ, Array.replicate_zero, List.push_toArray, List.append_toArray, List.nil_append, List.cons_append]
  gi_wp2
  refine ⟨trivial, fun _ => by omega, ?_⟩
  rw [show W.alloc (.cells #[.slice a len cap, .int .i64 0, .slice none 0 0] 49) = W1 from unhide HW1]
  refine (unhide HC).mono ?_
  rintro x W2 ⟨⟨u, rfl⟩, hor⟩
  have HOR := hide hor
  clear hor
  gi_wp2
  go_end0
  exact ⟨⟨_, rfl⟩, unhide HOR⟩

def opsE : Array Oper := #[{ dst := some 14, op := Op.fieldAddr 33 (Operand.tmp 6) 2, type := 0, pos := "lex.go:33", after := #[{ on := 3, ground := Ground.gcOnly Departure.lateStores }], guard := none },
        { dst := some 15, op := Op.load 3 (Operand.tmp 14), type := 3, pos := "lex.go:33", after := #[{ on := 0, ground := Ground.data }, { on := 3, ground := Ground.gcOnly Departure.lateStores }], guard := none },
        { dst := some 16, op := Op.move (Operand.tmp 7), type := 25, pos := "lex.go:33", after := #[{ on := 4, ground := Ground.gcOnly Departure.lateStores }], guard := none },
        { dst := none, op := Op.store 24 (Operand.tmp 2) (Operand.const (Value.slice none 0 0)), type := 0, pos := "lex.go:33", after := #[{ on := 0, ground := Ground.textOnly Departure.lateStores }, { on := 1, ground := Ground.textOnly Departure.lateStores }, { on := 2, ground := Ground.textOnly Departure.lateStores }], guard := none },
        { dst := none, op := Op.store 3 (Operand.tmp 3) (Operand.tmp 15), type := 0, pos := "lex.go:33", after := #[{ on := 1, ground := Ground.data }, { on := 3, ground := Ground.chain }, { on := 0, ground := Ground.phase }, { on := 1, ground := Ground.phase }, { on := 2, ground := Ground.textOnly Departure.lateStores }, { on := 3, ground := Ground.phase }], guard := none },
        { dst := none, op := Op.store 25 (Operand.tmp 4) (Operand.tmp 16), type := 0, pos := "lex.go:33", after := #[{ on := 2, ground := Ground.data }, { on := 4, ground := Ground.chain }, { on := 0, ground := Ground.phase }, { on := 1, ground := Ground.phase }, { on := 2, ground := Ground.phase }, { on := 3, ground := Ground.phase }, { on := 4, ground := Ground.phase }], guard := none }]
/-- What the error's region leaves. -/
def ErrW (A A6 : World) (b0 b1 b2 : Nat) (x : Int) : Prop :=
  Boxed A6 b0 24 (.slice none 0 0) ∧ Boxed A6 b1 3 (.int .i64 x) ∧ Boxed A6 b2 25 (.int .i64 3) ∧ (∀ k, k ≠ b0 → k ≠ b1 → k ≠ b2 → A6.heap[k]? = A.heap[k]?) ∧ A6.heap.size = A.heap.size ∧ A6.os = A.os ∧ A6.tape = A.tape ∧ A6.output = A.output
set_option maxRecDepth 100000 in
set_option maxHeartbeats 4000000 in
theorem err_region (lp : Nat) (Q : Exit → Act → World → Prop) (A : World) (b0 b1 b2 bt : Nat) (x x0 x1 : Int) (t0 t1 t5 t8 t9 t10 t11 t12 t13 : Value) (v0 : Value) (nn : Nat)
    (p0 : Boxed A b0 24 v0) (p1 : Boxed A b1 3 (.int .i64 x0)) (p2 : Boxed A b2 25 (.int .i64 x1)) (d1 : b0 ≠ b1) (d2 : b0 ≠ b2) (d3 : b1 ≠ b2) (d4 : bt ≠ b0) (d5 : bt ≠ b1) (d6 : bt ≠ b2)
    (ct : A.cell? ⟨bt, 2, none⟩ = some (.int .i64 x))
    (hQ : ∀ A6, ErrW A A6 b0 b1 b2 x → Q .normal { tmps := #[t0, t1, .pointer (some ⟨b0, 0, none⟩), .pointer (some ⟨b1, 0, none⟩), .pointer (some ⟨b2, 0, none⟩), t5, .pointer (some ⟨bt, 0, none⟩), .int .i64 3, t8, t9, t10, t11, t12, t13, .pointer (some ⟨bt, 2, none⟩), .int .i64 x, .int .i64 3, undef, undef, undef, undef, undef], defers := [] } A6) :
    (Code.region 6 opsE true).wpIn (Fence.wide.inRound lp) nn Tryd.prog Q { tmps := #[t0, t1, .pointer (some ⟨b0, 0, none⟩), .pointer (some ⟨b1, 0, none⟩), .pointer (some ⟨b2, 0, none⟩), t5, .pointer (some ⟨bt, 0, none⟩), .int .i64 3, t8, t9, t10, t11, t12, t13, undef, undef, undef, undef, undef, undef, undef, undef], defers := [] } A := by
  have HQ := hide hQ
  clear hQ
  have c0 := p0.cell
  have f0 := p0.frozen
  have c1 := p1.cell
  have f1 := p1.frozen
  have c2 := p2.cell
  have f2 := p2.frozen
  have HP0 := hide p0
  have HP1 := hide p1
  have HP2 := hide p2
  unfold opsE
  gi_region
  all_goals (
    refine unhide HQ _ ⟨?_, ?_, ?_, ?_, ?_, rfl, rfl, rfl⟩
    · exact (((unhide HP0).set _).other d1 _).other d2 _
    · exact (((unhide HP1).other d1.symm _).set _).other d3 _
    · exact (((unhide HP2).other d2.symm _).other d3.symm _).set _
    · intro k h0 h1 h2
      exact ((Below.heap_setCell _ _ _ _ h2).trans (Below.heap_setCell _ _ _ _ h1)).trans (Below.heap_setCell _ _ _ _ h0)
    · simp [World.setCell])
/-- What stands between two rounds of Tokens. -/
def TW (w : World) (l D L M c : Nat) (rc : Loop) (pre : List TokD) (ob : Option Nat) (A : World) : Prop :=
  okI pre ∧ A.heap[l]? = some (.loop rc) ∧ A.heap[D]? = some (.deferred (some [])) ∧ M ≤ A.heap.size ∧ Below w.heap.size w A ∧ (Boxed A w.heap.size 24 (.slice none 0 0) ∧ Boxed A (w.heap.size + 1) 3 (.int .i64 0) ∧ Boxed A (w.heap.size + 1 + 1) 25 (.int .i64 0)) ∧
    ∃ v, Boxed A L 24 v ∧ A.ownsRow w.heap.size 33 4 v pre.length (rowD pre) ∧ v.ownBlock ≠ some M ∧ ∀ k, ob = some k → M ≤ k ∧ v.ownBlock ≠ some k
theorem TW.fr {w : World} {l D L M c : Nat} {rc : Loop} {pre : List TokD} {ob ob' : Option Nat} {A C : World} (h : TW w l D L M c rc pre ob A) (hf : Fr (fun k => k = M ∨ ob = some k) A C) (hob : ob' = ob ∨ ∃ k, ob' = some k ∧ A.heap.size ≤ k) (h1 : l < M) (h2 : D < M) (h4 : w.heap.size + 1 + 1 < M) (h5 : L < M) : TW w l D L M c rc pre ob' C := by
  obtain ⟨a0, a1, a2, a4, a5, ⟨b0, b1, b2⟩, v, a6, a7, a8, a9⟩ := h
  have hsz := hf.size
  have hn : ∀ k, k < M → ¬ (k = M ∨ ob = some k) := fun k hk h => by
    rcases h with h | h
    · omega
    · have := (a9 k h).1; omega
  refine ⟨a0, (hf.block l (by omega) (hn l h1)).trans a1, (hf.block D (by omega) (hn D h2)).trans a2, by omega, a5.trans (hf.toBelow a5.size (fun k hk => hn k (by omega))), ⟨boxed_fr b0 hf (hn _ (by omega)), boxed_fr b1 hf (hn _ (by omega)), boxed_fr b2 hf (hn _ (by omega))⟩, v, boxed_fr a6 hf (hn _ h5), ?_, a8, ?_⟩
  · refine row_keep a7 fun k hk => hf.block k (World.ownsRow.lt a7 k hk).2 fun h => ?_
    rcases h with h | h
    · subst h; exact a8 hk
    · exact (a9 k h).2 hk
  · intro k hk
    rcases hob with rfl | ⟨k', hk', hl⟩
    · exact a9 k hk
    · rw [hk] at hk'
      injection hk' with hk'
      subst hk'
      exact ⟨by omega, fun e => by have := (World.ownsRow.lt a7 k e).2; omega⟩
/-- What Tokens leaves in an error's round. -/
def TX (w : World) (l D : Nat) (rc : Loop) (items : List TokD) (A : World) : Prop :=
  ∃ (p : List TokD) (i : Nat), items = p ++ [((0, [], i, 0), 3)] ∧ okI p ∧ A.heap[l]? = some (.loop { rc with state := .done, pending := some .ret }) ∧ A.heap[D]? = some (.deferred (some [])) ∧ Below w.heap.size w A ∧ Boxed A w.heap.size 24 (.slice none 0 0) ∧ Boxed A (w.heap.size + 1) 3 (.int .i64 (i : Int)) ∧ Boxed A (w.heap.size + 1 + 1) 25 (.int .i64 3)
/-- What Tokens answers. -/
def TokensR (g : Nat → Int) (len : Nat) (w : World) (e : Ending) (w' : World) : Prop :=
  ((okI (scI g len 0 []) ∧ ∃ v, e = .returned (.tuple #[v, .int .i64 0, .int .i64 0]) ∧ w'.ownsRow w.heap.size 33 4 v (scI g len 0 []).length (rowD (scI g len 0 []))) ∨
    ∃ (p : List TokD) (i : Nat), scI g len 0 [] = p ++ [((0, [], i, 0), 3)] ∧ okI p ∧ e = .returned (.tuple #[.slice none 0 0, .int .i64 (i : Int), .int .i64 3])) ∧ Below w.heap.size w w'
set_option maxRecDepth 100000 in
set_option maxHeartbeats 8000000 in
theorem tokens_any (a : Option Addr) (len cap c0 : Nat) (g : Nat → Int) (hg : ∀ j, 0 ≤ g j ∧ g j ≤ 255) (w : World) (hlen : len ≤ 4000) (hS0 : Sl w c0 (.slice a len cap) len g) (hc0 : c0 < w.heap.size) (hnil : a = none → cap = 0) (hE1 : ErrG w 1) (hE2 : ErrG w 2) :
    CallsIn Fence.wide 8 Tryd.prog 10 #[.slice a len cap] w (TokensR g len w) := by
  have h2w := hE2.lt
  refine callsIn_of_wp_marks Tryd.func10 rfl trivial ?_ rfl
  simp only [Tryd.ntmps10, List.size_toArray, List.length_cons, List.length_nil, Nat.reduceAdd, Nat.reduceSub, Array.replicate_succ, Array.replicate_zero, List.push_toArray, List.append_toArray, List.nil_append, List.cons_append]
  gi_wp2
  obtain ⟨W1, hW1⟩ : ∃ W1, (((w.alloc (.cells #[.slice none 0 0] 24)).alloc (.cells #[.int .i64 0] 3)).alloc (.cells #[.int .i64 0] 25)).alloc (.cells #[.slice none 0 0] 24) = W1 := ⟨_, rfl⟩
  have hB1 : Below w.heap.size w W1 := by rw [← hW1]; exact ((((Below.refl _ w).alloc (Nat.le_refl _) _).alloc (by simp) _).alloc (by simp; omega) _).alloc (by simp; omega) _
  have hz1 : W1.heap.size = w.heap.size + 1 + 1 + 1 + 1 := by rw [← hW1]; simp
  have b0 : Boxed W1 w.heap.size 24 (.slice none 0 0) := by rw [← hW1]; exact (((Boxed.new w 24 _).alloc _).alloc _).alloc _
  have b1 : Boxed W1 (w.heap.size + 1) 3 (.int .i64 0) := by
    have := ((Boxed.new (w.alloc (.cells #[.slice none 0 0] 24)) 3 (.int .i64 0)).alloc (.cells #[.int .i64 0] 25)).alloc (.cells #[.slice none 0 0] 24)
    rw [World.size_alloc] at this
    rw [← hW1]; exact this
  have b2 : Boxed W1 (w.heap.size + 1 + 1) 25 (.int .i64 0) := by
    have := (Boxed.new ((w.alloc (.cells #[.slice none 0 0] 24)).alloc (.cells #[.int .i64 0] 3)) 25 (.int .i64 0)).alloc (.cells #[.slice none 0 0] 24)
    rw [World.size_alloc, World.size_alloc] at this
    rw [← hW1]; exact this
  have b3 : Boxed W1 (w.heap.size + 1 + 1 + 1) 24 (.slice none 0 0) := by
    have := Boxed.new (((w.alloc (.cells #[.slice none 0 0] 24)).alloc (.cells #[.int .i64 0] 3)).alloc (.cells #[.int .i64 0] 25)) 24 (.slice none 0 0)
    rw [World.size_alloc, World.size_alloc, World.size_alloc] at this
    rw [← hW1]; exact this
  rw [hW1]
  clear hW1
  refine ⟨trivial, (callsIn_wide.2 (scan_src (hS0.keep (B := W1) (fun k e => by subst e; exact hB1.block k hc0)) hnil (by omega) (by omega))).mono ?_⟩
  rintro e W2 ⟨Bk, c, a', cap', rfl, hBk, hSc, hbk1, hc1, hc2, hB2, hcur⟩
  have HSc := hide hSc
  clear hS0 hSc
  gi_wp2
  have hz2 := hB2.size
  have hbl := hBk.lt
  refine range_enter rfl (by omega) (gf := 24) (lb := #[.pointer (some ⟨Bk, 0, none⟩)]) rfl trivial enter34 ?_
  intro fn hfn
  generalize hrc : recOf fn _ _ _ _ _ _ _ = rc
  obtain ⟨W3, hW3⟩ : ∃ W3, ranged W2 rc = W3 := ⟨_, rfl⟩
  have hz3 : W3.heap.size = W2.heap.size + 1 + 1 := by rw [← hW3]; exact ranged_size W2 rc
  have hB3 : Below W2.heap.size W2 W3 := by rw [← hW3]; exact ranged_below W2 rc
  have hl3 : W3.heap[W2.heap.size + 1]? = some (.loop rc) := by rw [← hW3]; exact ranged_l W2 rc
  have hd3 : W3.heap[W2.heap.size]? = some (.deferred (some [])) := by rw [← hW3]; exact ranged_d W2 rc
  rw [hW3]
  clear hW3
  have hB12 : Below W1.heap.size W1 W3 := hB2.trans (hB3.mono hz2)
  have hj0 : TW w (W2.heap.size + 1) W2.heap.size (w.heap.size + 1 + 1 + 1) W3.heap.size c rc [] none W3 :=
    ⟨fun t ht => by simp at ht, hl3, hd3, Nat.le_refl _, hB1.trans (hB12.mono hB1.size), ⟨boxed_below b0 hB12 (by omega), boxed_below b1 hB12 (by omega), boxed_below b2 hB12 (by omega)⟩, .slice none 0 0, boxed_below b3 hB12 (by omega), World.ownsRow_nil _ _ _ _, by simp [Value.ownBlock], fun k hk => by cases hk⟩
  have hcc3 : CC W3 c := by
    obtain ⟨o, h, hno⟩ := hcur
    exact ⟨o, (hB3.block c hc1).trans h, hno⟩
  have hBw3 : Below w.heap.size w W3 := hB1.trans (hB12.mono hB1.size)
  refine (scan2Y 7 (by omega) (W2.heap.size + 1) Bk c a' len cap' g hg hlen W3 (by omega) (TW w (W2.heap.size + 1) W2.heap.size (w.heap.size + 1 + 1 + 1) W3.heap.size c rc) (TX w (W2.heap.size + 1) W2.heap.size rc) (fun pre ob ob' A C h hf hob => h.fr hf hob (by omega) (by omega) (by omega) (by omega)) ?hY ?hYe hj0 (boxed_below hBk hB3 hbl) ((unhide HSc).keep (fun k e => by subst e; exact hB3.block k hc1)) hcc3 (hE1.below hBw3 (by omega)) (hE2.below hBw3 (by omega))).mono ?post
  case hY =>
    rintro pre ob ⟨⟨kd, tx, i, i'⟩, er⟩ A her ⟨a0, a1, a2, a4, a5, ⟨q0, q1, q2⟩, v, a6, a7, a8, a9⟩ hpl ⟨cs, hcs⟩ hobc ⟨oc, hoc, hocn⟩
    obtain ⟨S, hSx⟩ : ∃ S, strOfNums tx = S := ⟨_, rfl⟩
    have HSX := hide hSx
    dsimp only [tdV]
    rw [hSx]
    clear hSx
    obtain rfl : er = 0 := her
    rw [← hrc] at a1
    refine yield_round (W₁ := ?W1) hfn a1 rfl ?a1 ?hl1 ?hassign ?hbody
    case hassign =>
      intro K hK
      gi_wp2
      exact hK
    case hl1 => exact (Below.heap_alloc A _ _ (Array.getElem?_eq_some_iff.1 a1).1).trans a1
    case hbody =>
      have hrb : { (recOf fn _ _ _ _ _ .busy none : Loop) with state := .ready, pending := none } = rc := hrc
      generalize recOf fn _ _ _ _ _ .busy none = rb at hrb ⊢
      have hla : W2.heap.size + 1 < A.heap.size := (Array.getElem?_eq_some_iff.1 a1).1
      obtain ⟨A1, hA1⟩ : ∃ A1, (A.alloc (.cells #[.int .i64 kd, .string S, .int .i64 (i : Int), .int .i64 (i' : Int)] 33)).putObj (W2.heap.size + 1) (.loop rb) = A1 := ⟨_, rfl⟩
      have hk1 : ∀ k, k < A.heap.size → k ≠ W2.heap.size + 1 → A1.heap[k]? = A.heap[k]? := fun k hk hn => by rw [← hA1]; exact (World.putObj_heap_other hn).trans (Below.heap_alloc A _ k hk)
      have hl1 : A1.heap[W2.heap.size + 1]? = some (.loop rb) := by rw [← hA1]; exact World.putObj_heap_same (by simp; omega)
      have ht1 : A1.heap[A.heap.size]? = some (.cells #[.int .i64 kd, .string S, .int .i64 (i : Int), .int .i64 (i' : Int)] 33) := by rw [← hA1]; exact (World.putObj_heap_other (by omega)).trans (World.alloc_heap_new A _)
      have hzA1 : A1.heap.size = A.heap.size + 1 := by rw [← hA1]; simp
      have hA1os : A1.os = A.os := by rw [← hA1]; rfl
      have hA1tape : A1.tape = A.tape := by rw [← hA1]; rfl
      have hA1out : A1.output = A.output := by rw [← hA1]; rfl
      rw [hA1]
      clear hA1
      have hLb := a6.lt
      have bL : Boxed A1 (w.heap.size + 1 + 1 + 1) 24 v := (hk1 _ hLb (by omega)).trans a6
      have own1 : A1.ownsRow w.heap.size 33 4 v pre.length (rowD pre) := by
        refine ⟨a7.1, ?_⟩
        rcases a7.2 with h | ⟨gw, cp, cr, rfl, p1, p2, p3⟩
        · exact .inl h
        · refine .inr ⟨gw, cp, cr, rfl, p1, (hk1 gw (Array.getElem?_eq_some_iff.1 p2).1 (fun e => ?_)).trans p2, p3⟩
          rw [e, a1] at p2
          cases p2
      obtain ⟨ao, cv, rfl⟩ : ∃ ao cv, v = .slice ao pre.length cv := by
        rcases a7.2 with ⟨h, h0⟩ | ⟨gw, cp, cr, h, _⟩
        · exact ⟨none, 0, by rw [h, h0]⟩
        · exact ⟨_, cp, h⟩
      obtain ⟨t0, t1, t2, t3⟩ := tok_cells ht1
      obtain ⟨i0, hi, hz0, hz1', hz2'⟩ := info_parts infoTok
      have cL := bL.cell
      have OWN := hide own1
      clear own1 a7
      have hzw := a5.size
      gi_wp2_with (gi_at_builtin; refine wpListIn_append_own _ rfl _ _ 24 rfl w.heap.size 33 i0 _ 4 40 Tryd.underlying24 hi hz0 hz1' hz2' rfl (by decide) _ _ _ rfl ((unhide OWN).alloc _) ⟨A.heap.size + 1, 0, none⟩ 1 1 [.int .i64 kd, .string S, .int .i64 (i : Int), .int .i64 (i' : Int)] rfl rfl ?c1 ?c2 ?c3 ?c4 ?c5 ?_)
      case c2 => exact ⟨rfl, rfl, rfl, rfl⟩
      case c3 => first | (unfold maxLen; omega) | omega
      case c4 => omega
      case c5 => first | omega | (simp; omega)
      intro v' w2 hown2 hgrow _
      obtain ⟨x1, x2, x3, x4, x5⟩ := bL.appended (by decide) (unhide OWN) (by omega) (by omega) hown2 hgrow
      obtain ⟨g2, cp2, rfl⟩ := ownsRow_succ hown2
      have x1c := x1.cell
      have x1f := x1.frozen
      have hgr := hide hgrow
      have X3 := hide x3
      clear hgrow hown2 x3
      gi_wp2
      obtain ⟨W6, hW6⟩ : ∃ W6, w2.setCell ⟨w.heap.size + 1 + 1 + 1, 0, none⟩ (.slice (some ⟨g2, 0, none⟩) (pre.length + 1) cp2) = W6 := ⟨_, rfl⟩
      have hk6 : ∀ k, k < A.heap.size → k ≠ W2.heap.size + 1 → k ≠ w.heap.size + 1 + 1 + 1 → (Value.slice ao pre.length cv).ownBlock ≠ some k → W6.heap[k]? = A.heap[k]? := fun k h1 h2 h3 h4 => by
        rw [← hW6, Below.heap_setCell _ _ _ _ (by simpa using h3), (unhide hgr).block k (by simp; omega) (fun e => h4 e.symm), Below.heap_alloc A1 _ k (by omega)]
        exact hk1 k h1 h2
      rw [hW6] at x2 x4 x5 X3 ⊢
      have hl6 : W6.heap[W2.heap.size + 1]? = some (.loop rb) := x4.same _ _ hl1 rfl
      have hz6 := x4.size
      clear hW6
      have own1 := unhide OWN
      have nA : ∀ k o, k < A.heap.size → k ≠ W2.heap.size + 1 → A.heap[k]? = some o → (∀ cr, o ≠ .cells cr 33 (0, 0)) → (Value.slice ao pre.length cv).ownBlock ≠ some k := fun k o h1 h2 h3 h4 => own_ne own1 ((hk1 k h1 h2).trans h3) h4
      have e7 : { rb with state := if (none : Option Code).isNone then LoopState.ready else LoopState.done, pending := none } = rc := hrb
      have hMl : W3.heap.size < A.heap.size := (Array.getElem?_eq_some_iff.1 hcs).1
      have kM := hk6 W3.heap.size hMl (by omega) (by omega) (nA _ _ hMl (by omega) hcs (fun cr e => by cases e))
      have hcl : c < A.heap.size := (Array.getElem?_eq_some_iff.1 hoc).1
      have kc := hk6 c hcl (by omega) (by omega) (nA _ _ hcl (by omega) hoc hocn)
      have kD := hk6 W2.heap.size (by omega) (by omega) (by omega) (nA _ _ (by omega) (by omega) a2 (fun cr e => by cases e))
      have k0 := hk6 w.heap.size (by omega) (by omega) (by omega) (nA _ _ (by omega) (by omega) q0 (fun cr e => by cases e))
      have k1 := hk6 (w.heap.size + 1) (by omega) (by omega) (by omega) (nA _ _ (by omega) (by omega) q1 (fun cr e => by cases e))
      have k2 := hk6 (w.heap.size + 1 + 1) (by omega) (by omega) (by omega) (nA _ _ (by omega) (by omega) q2 (fun cr e => by cases e))
      have hlow : ∀ k, k < w.heap.size → W6.heap[k]? = A.heap[k]? := fun k hk => hk6 k (by omega) (by omega) (by omega) (fun e => by have := (World.ownsRow.lt own1 k e).1; omega)
      have kob : ∀ k, ob = some k → W6.heap[k]? = A.heap[k]? ∧ k ≠ W2.heap.size + 1 := fun k hk => by
        obtain ⟨hk1', cur, hcu⟩ := hobc k hk
        have hkl : k < A.heap.size := (Array.getElem?_eq_some_iff.1 hcu).1
        exact ⟨hk6 k hkl (by omega) (by omega) (a9 k hk).2, by omega⟩
      have hkk : ∀ k, k = W3.heap.size ∨ k = c ∨ k = 1 ∨ k = 2 ∨ ob = some k → (W6.putObj (W2.heap.size + 1) (.loop rc)).heap[k]? = A.heap[k]? := fun k hk => by
        rcases hk with rfl | rfl | rfl | rfl | hk
        · exact (World.putObj_heap_other (by omega)).trans kM
        · exact (World.putObj_heap_other (by omega)).trans kc
        · exact (World.putObj_heap_other (by omega)).trans (hlow _ (by omega))
        · exact (World.putObj_heap_other (by omega)).trans (hlow _ (by omega))
        · exact (World.putObj_heap_other (kob k hk).2).trans (kob k hk).1
      refine ⟨_, _, run_endRound none hl6, .inl ⟨rfl, ?_, ?_⟩⟩
      rotate_left
      · rw [e7]
        exact ⟨hkk, by simp; omega⟩
      rw [e7]
      refine ⟨fun t ht => ?_, World.putObj_heap_same (by omega), (World.putObj_heap_other (by omega)).trans (kD.trans a2), by simp; omega, ?_, ⟨(World.putObj_heap_other (by omega)).trans (k0.trans q0), (World.putObj_heap_other (by omega)).trans (k1.trans q1), (World.putObj_heap_other (by omega)).trans (k2.trans q2)⟩, _, (World.putObj_heap_other (by omega)).trans x2, ?_, ?_, fun k hk => ⟨(a9 k hk).1, ?_⟩⟩
      · rcases List.mem_append.1 ht with h | h
        · exact a0 t h
        · simp at h; subst h; rfl
      · have hbA : Below w.heap.size w W6 := by
          refine ⟨x5.os.trans ?_, x5.tape.trans ?_, x5.output.trans ?_, by have := a5.size; omega, fun k hk => ?_⟩
          · rw [hA1os]; exact a5.os
          · rw [hA1tape]; exact a5.tape
          · rw [hA1out]; exact a5.output
          · exact (x5.block k hk).trans ((hk1 k (by omega) (by omega)).trans (a5.block k hk))
        exact hbA.trans ((Below.refl _ W6).grown (grownBy_putObj' W6 (W2.heap.size + 1) (.loop rc)) hbA.size (fun k e => by cases e; omega))
      · have := ownsRow_putObj (unhide X3) (.loop rc) hl6 rfl
        rw [rowD_snoc]
        simp only [List.length_append, List.length_cons, List.length_nil]
        rw [show strOfNums tx = S from unhide HSX]
        exact this
      · exact own_ne (unhide X3) (kM.trans hcs) (fun cr e => by cases e)
      · obtain ⟨_, cur, hcu⟩ := hobc k hk
        exact own_ne (unhide X3) ((kob k hk).1.trans hcu) (fun cr e => by cases e)
  case hYe =>
    rintro pre ob i A ⟨a0, a1, a2, a4, a5, ⟨q0, q1, q2⟩, v, a6, a7, a8, a9⟩ hpl
    rw [← hrc] at a1
    dsimp only [tdV]
    rw [show strOfNums [] = ⟨#[]⟩ from rfl]
    refine yield_round (W₁ := ?W1e) hfn a1 rfl ?a1e ?hl1e ?hassigne ?hbodye
    case hassigne =>
      intro K hK
      gi_wp2
      exact hK
    case hl1e => exact (Below.heap_alloc A _ _ (Array.getElem?_eq_some_iff.1 a1).1).trans a1
    case hbodye =>
      have hrb : { (recOf fn _ _ _ _ _ .busy none : Loop) with state := .ready, pending := none } = rc := hrc
      generalize recOf fn _ _ _ _ _ .busy none = rb at hrb ⊢
      have hla : W2.heap.size + 1 < A.heap.size := (Array.getElem?_eq_some_iff.1 a1).1
      obtain ⟨A1, hA1⟩ : ∃ A1, (A.alloc (.cells #[.int .i64 0, .string ⟨#[]⟩, .int .i64 (i : Int), .int .i64 0] 33)).putObj (W2.heap.size + 1) (.loop rb) = A1 := ⟨_, rfl⟩
      have hk1 : ∀ k, k < A.heap.size → k ≠ W2.heap.size + 1 → A1.heap[k]? = A.heap[k]? := fun k hk hn => by rw [← hA1]; exact (World.putObj_heap_other hn).trans (Below.heap_alloc A _ k hk)
      have hl1 : A1.heap[W2.heap.size + 1]? = some (.loop rb) := by rw [← hA1]; exact World.putObj_heap_same (by simp; omega)
      have ht1 : A1.heap[A.heap.size]? = some (.cells #[.int .i64 0, .string ⟨#[]⟩, .int .i64 (i : Int), .int .i64 0] 33) := by rw [← hA1]; exact (World.putObj_heap_other (by omega)).trans (World.alloc_heap_new A _)
      have hzA1 : A1.heap.size = A.heap.size + 1 := by rw [← hA1]; simp
      have hA1os : A1.os = A.os := by rw [← hA1]; rfl
      have hA1tape : A1.tape = A.tape := by rw [← hA1]; rfl
      have hA1out : A1.output = A.output := by rw [← hA1]; rfl
      rw [hA1]
      clear hA1
      obtain ⟨t0, t1, t2, t3⟩ := tok_cells ht1
      have p0 : Boxed A1 w.heap.size 24 (.slice none 0 0) := (hk1 _ (by omega) (by omega)).trans q0
      have p1 : Boxed A1 (w.heap.size + 1) 3 (.int .i64 0) := (hk1 _ (by omega) (by omega)).trans q1
      have p2 : Boxed A1 (w.heap.size + 1 + 1) 25 (.int .i64 0) := (hk1 _ (by omega) (by omega)).trans q2
      have hd1 : A1.heap[W2.heap.size]? = some (.deferred (some [])) := (hk1 _ (by omega) (by omega)).trans a2
      have hBA1 : Below w.heap.size w A1 := ⟨hA1os.trans a5.os, hA1tape.trans a5.tape, hA1out.trans a5.output, by have := a5.size; omega, fun k hk => (hk1 k (by have := a5.size; omega) (by omega)).trans (a5.block k hk)⟩
      have HP0 := hide p0
      have HP1 := hide p1
      have HP2 := hide p2
      clear p0 p1 p2
      gi_wp2
      refine err_region _ _ _ _ _ _ _ _ _ _ _ _ _ _ _ _ _ _ _ _ _ (unhide HP0) (unhide HP1) (unhide HP2) (by omega) (by omega) (by omega) (by omega) (by omega) (by omega) t2 ?_
      intro A6 hA6
      obtain ⟨c0, c1, c2, hoth, hsz6, hos6, htp6, hou6⟩ := hA6
      have hl6 : A6.heap[W2.heap.size + 1]? = some (.loop rb) := (hoth _ (by omega) (by omega) (by omega)).trans hl1
      have hd6 : A6.heap[W2.heap.size]? = some (.deferred (some [])) := (hoth _ (by omega) (by omega) (by omega)).trans hd1
      have hB6 : Below w.heap.size w A6 := ⟨hos6.trans hBA1.os, htp6.trans hBA1.tape, hou6.trans hBA1.output, by have := hBA1.size; omega, fun k hk => (hoth k (by omega) (by omega) (by omega)).trans (hBA1.block k hk)⟩
      have HA0 := hide a0
      clear a0
      gi_wp2
      refine ⟨_, _, run_endRound (some .ret) hl6, false, rfl, .inr ⟨pre, i, rfl, unhide HA0, ?_, (World.putObj_heap_other (by omega)).trans hd6, ?_, (World.putObj_heap_other (by omega)).trans c0, (World.putObj_heap_other (by omega)).trans c1, (World.putObj_heap_other (by omega)).trans c2⟩⟩
      · rw [show rc = { rb with state := .ready, pending := none } from hrb.symm]; exact World.putObj_heap_same (by omega)
      · exact hB6.trans ((Below.refl _ A6).grown (grownBy_putObj' A6 (W2.heap.size + 1) _) hB6.size (fun k e => by cases e; omega))
  case post =>
    rintro e W' ⟨⟨u, rfl⟩, (⟨ob, ⟨a0, a1, a2, a4, a5, ⟨q0, q1, q2⟩, v, a6, a7, a8, a9⟩⟩ | ⟨pre, rest, hpre, hx⟩)⟩
    · have hpe : rc.pending = none := by rw [← hrc]; rfl
      have hne : rc.state ≠ .busy := by rw [← hrc]; simp [recOf]
      have hend := run_endLoop (P := Tryd.prog) a1 hne
      rw [hpe] at hend
      refine ⟨none, _, hend, ?_⟩
      have hlw : W2.heap.size + 1 < W'.heap.size := (Array.getElem?_eq_some_iff.1 a1).1
      obtain ⟨W7, hW7⟩ : ∃ W7, W'.putObj (W2.heap.size + 1) (.loop { rc with state := .exhausted, pending := none }) = W7 := ⟨_, rfl⟩
      have hk7 : ∀ k, k ≠ W2.heap.size + 1 → W7.heap[k]? = W'.heap[k]? := fun k hk => by rw [← hW7]; exact World.putObj_heap_other hk
      have own7 : W7.ownsRow w.heap.size 33 4 v (scI g len 0 []).length (rowD (scI g len 0 [])) := by
        have := ownsRow_putObj a7 (.loop { rc with state := .exhausted, pending := none }) a1 rfl
        rw [hW7] at this
        exact this
      have hB7 : Below w.heap.size w W7 := by
        rw [← hW7]
        exact a5.trans ((Below.refl _ W').grown (grownBy_putObj' W' (W2.heap.size + 1) _) a5.size (fun k e => by cases e; omega))
      have hz7 : W7.heap.size = W'.heap.size := by rw [← hW7]; simp
      rw [hW7]
      clear hW7 hend
      dsimp only
      have b0 : Boxed W7 w.heap.size 24 (.slice none 0 0) := (hk7 _ (by omega)).trans q0
      have b1 : Boxed W7 (w.heap.size + 1) 3 (.int .i64 0) := (hk7 _ (by omega)).trans q1
      have b2 : Boxed W7 (w.heap.size + 1 + 1) 25 (.int .i64 0) := (hk7 _ (by omega)).trans q2
      have bL : Boxed W7 (w.heap.size + 1 + 1 + 1) 24 v := (hk7 _ (by omega)).trans a6
      have hd7 : W7.heap[W2.heap.size]? = some (.deferred (some [])) := (hk7 _ (by omega)).trans a2
      obtain ⟨RI, hRI⟩ : ∃ RI, rowD (scI g len 0 []) = RI := ⟨_, rfl⟩
      obtain ⟨IL, hIL⟩ : ∃ IL, (scI g len 0 []).length = IL := ⟨_, rfl⟩
      rw [hRI, hIL] at own7
      have HRI := hide hRI
      have HIL := hide hIL
      have HA0 := hide a0
      clear hRI hIL a7 a0
      obtain ⟨ao, cv, rfl⟩ : ∃ ao cv, v = .slice ao IL cv := by
        rcases own7.2 with ⟨h, h0⟩ | ⟨gw, cp, cr, h, _⟩
        · exact ⟨none, 0, by rw [h, h0]⟩
        · exact ⟨_, cp, h⟩
      have cL := bL.cell
      have c0 := b0.cell
      have f0 := b0.frozen
      have e1 := (b1.other (show w.heap.size + 1 ≠ w.heap.size by omega) (.slice ao IL cv)).cell
      have e1f := (b1.other (show w.heap.size + 1 ≠ w.heap.size by omega) (.slice ao IL cv)).frozen
      have e2 := ((b2.other (show w.heap.size + 1 + 1 ≠ w.heap.size by omega) (.slice ao IL cv)).other (show w.heap.size + 1 + 1 ≠ w.heap.size + 1 by omega) (.int .i64 0)).cell
      have e2f := ((b2.other (show w.heap.size + 1 + 1 ≠ w.heap.size by omega) (.slice ao IL cv)).other (show w.heap.size + 1 + 1 ≠ w.heap.size + 1 by omega) (.int .i64 0)).frozen
      have OWN := hide own7
      clear own7
      gi_wp2
      obtain ⟨V, hV⟩ : ∃ V, Value.slice ao IL cv = V := ⟨_, rfl⟩
      rw [hV] at OWN ⊢
      have d1 : w.heap.size ≠ w.heap.size + 1 := by omega
      have d2 : w.heap.size ≠ w.heap.size + 1 + 1 := by omega
      have d3 : w.heap.size + 1 ≠ w.heap.size + 1 + 1 := by omega
      have B0 := ((b0.set V).other d1 (.int .i64 0)).other d2 (.int .i64 0)
      have B1 := ((b1.other d1.symm V).set (.int .i64 0)).other d3 (.int .i64 0)
      have B2 := ((b2.other d2.symm V).other d3.symm (.int .i64 0)).set (.int .i64 0)
      have own8 := (((unhide OWN).kept (grownBy_setCell' W7 w.heap.size V) (.inr (own_ne (unhide OWN) b0 (fun cr e => by cases e)))).kept (grownBy_setCell' _ (w.heap.size + 1) (.int .i64 0)) (.inr (own_ne (unhide OWN) b1 (fun cr e => by cases e)))).kept (grownBy_setCell' _ (w.heap.size + 1 + 1) (.int .i64 0)) (.inr (own_ne (unhide OWN) b2 (fun cr e => by cases e)))
      have hB8 : Below w.heap.size W7 (((W7.setCell ⟨w.heap.size, 0, none⟩ V).setCell ⟨w.heap.size + 1, 0, none⟩ (.int .i64 0)).setCell ⟨w.heap.size + 1 + 1, 0, none⟩ (.int .i64 0)) := (((Below.refl _ W7).setCell (p := ⟨w.heap.size, 0, none⟩) (Nat.le_refl _) _).setCell (p := ⟨w.heap.size + 1, 0, none⟩) (by show w.heap.size ≤ w.heap.size + 1; omega) _).setCell (p := ⟨w.heap.size + 1 + 1, 0, none⟩) (by show w.heap.size ≤ w.heap.size + 1 + 1; omega) _
      have hd8 : (((W7.setCell ⟨w.heap.size, 0, none⟩ V).setCell ⟨w.heap.size + 1, 0, none⟩ (.int .i64 0)).setCell ⟨w.heap.size + 1 + 1, 0, none⟩ (.int .i64 0)).heap[W2.heap.size]? = some (.deferred (some [])) := by
        rw [Below.heap_setCell _ _ _ _ (by show W2.heap.size ≠ w.heap.size + 1 + 1; omega), Below.heap_setCell _ _ _ _ (by show W2.heap.size ≠ w.heap.size + 1; omega), Below.heap_setCell _ _ _ _ (by show W2.heap.size ≠ w.heap.size; omega)]
        exact hd7
      obtain ⟨W8, hW8⟩ : ∃ W8, (((W7.setCell ⟨w.heap.size, 0, none⟩ V).setCell ⟨w.heap.size + 1, 0, none⟩ (.int .i64 0)).setCell ⟨w.heap.size + 1 + 1, 0, none⟩ (.int .i64 0)) = W8 := ⟨_, rfl⟩
      rw [hW8] at B0 B1 B2 own8 hB8 hd8 ⊢
      clear hW8
      refine ⟨by simp, .inl ⟨_, _, rfl, run_takeDeferred hd8, ?_⟩⟩
      have hdl : W2.heap.size < W8.heap.size := (Array.getElem?_eq_some_iff.1 hd8).1
      obtain ⟨W9, hW9⟩ : ∃ W9, W8.putObj W2.heap.size (.deferred none) = W9 := ⟨_, rfl⟩
      have E0 : Boxed W9 w.heap.size 24 V := by rw [← hW9]; exact (World.putObj_heap_other (by omega)).trans B0
      have E1 : Boxed W9 (w.heap.size + 1) 3 (.int .i64 0) := by rw [← hW9]; exact (World.putObj_heap_other (by omega)).trans B1
      have E2 : Boxed W9 (w.heap.size + 1 + 1) 25 (.int .i64 0) := by rw [← hW9]; exact (World.putObj_heap_other (by omega)).trans B2
      have own9 : W9.ownsRow w.heap.size 33 4 V IL RI := by rw [← hW9]; exact ownsRow_putObj own8 _ hd8 rfl
      have hB9 : Below w.heap.size w W9 := by
        rw [← hW9]
        exact (hB7.trans hB8).trans ((Below.refl _ W8).grown (grownBy_putObj' W8 W2.heap.size _) (by have := hB7.size; have := hB8.size; omega) (fun k e => by cases e; omega))
      rw [hW9]
      clear hW9
      have z0 := E0.cell
      have z1 := E1.cell
      have z2 := E2.cell
      refine ⟨.tuple #[V, .int .i64 0, .int .i64 0], ?_, .inl ⟨unhide HA0, V, rfl, by rw [show (scI g len 0 []).length = IL from unhide HIL, show rowD (scI g len 0 []) = RI from unhide HRI]; exact own9⟩, hB9⟩
      clear cL c0 f0 e1 e1f e2 e2f
      simp [results, Tryd.results10, go_sem, z0, z1, z2]
    · obtain ⟨p, i, hpi, hok, a1, a2, a5, q0, q1, q2⟩ := hx
      have hI : scI g len 0 [] = p ++ [((0, [], i, 0), 3)] := by
        rw [hpi, List.append_assoc] at hpre
        have hr := sc_last _ _ _ p ((0, [], i, 0), 3) rest hpre (by show (3 : Int) ≠ 0; decide)
        rw [hr] at hpre
        exact hpre
      have hend := run_endLoop (P := Tryd.prog) a1 (by simp)
      refine ⟨some .ret, _, hend, ?_⟩
      have hlw : W2.heap.size + 1 < W'.heap.size := (Array.getElem?_eq_some_iff.1 a1).1
      obtain ⟨W7, hW7⟩ : ∃ W7, W'.putObj (W2.heap.size + 1) (.loop { rc with state := .exhausted, pending := some .ret }) = W7 := ⟨_, rfl⟩
      have hk7 : ∀ k, k ≠ W2.heap.size + 1 → W7.heap[k]? = W'.heap[k]? := fun k hk => by rw [← hW7]; exact World.putObj_heap_other hk
      have hB7 : Below w.heap.size w W7 := by
        rw [← hW7]
        exact a5.trans ((Below.refl _ W').grown (grownBy_putObj' W' (W2.heap.size + 1) _) a5.size (fun k e => by cases e; omega))
      have hz7 : W7.heap.size = W'.heap.size := by rw [← hW7]; simp
      rw [hW7]
      clear hW7 hend
      have b0 : Boxed W7 w.heap.size 24 (.slice none 0 0) := (hk7 _ (by omega)).trans q0
      have b1 : Boxed W7 (w.heap.size + 1) 3 (.int .i64 (i : Int)) := (hk7 _ (by omega)).trans q1
      have b2 : Boxed W7 (w.heap.size + 1 + 1) 25 (.int .i64 3) := (hk7 _ (by omega)).trans q2
      have hd7 : W7.heap[W2.heap.size]? = some (.deferred (some [])) := (hk7 _ (by omega)).trans a2
      dsimp only
      gi_wp2
      refine ⟨by simp, .inl ⟨_, _, rfl, run_takeDeferred hd7, ?_⟩⟩
      have hdl : W2.heap.size < W7.heap.size := (Array.getElem?_eq_some_iff.1 hd7).1
      obtain ⟨W9, hW9⟩ : ∃ W9, W7.putObj W2.heap.size (.deferred none) = W9 := ⟨_, rfl⟩
      have E0 : Boxed W9 w.heap.size 24 (.slice none 0 0) := by rw [← hW9]; exact (World.putObj_heap_other (by omega)).trans b0
      have E1 : Boxed W9 (w.heap.size + 1) 3 (.int .i64 (i : Int)) := by rw [← hW9]; exact (World.putObj_heap_other (by omega)).trans b1
      have E2 : Boxed W9 (w.heap.size + 1 + 1) 25 (.int .i64 3) := by rw [← hW9]; exact (World.putObj_heap_other (by omega)).trans b2
      have hB9 : Below w.heap.size w W9 := by
        rw [← hW9]
        exact hB7.trans ((Below.refl _ W7).grown (grownBy_putObj' W7 W2.heap.size _) hB7.size (fun k e => by cases e; omega))
      rw [hW9]
      clear hW9
      have z0 := E0.cell
      have z1 := E1.cell
      have z2 := E2.cell
      refine ⟨.tuple #[.slice none 0 0, .int .i64 (i : Int), .int .i64 3], ?_, .inr ⟨p, i, hI, hok, rfl⟩, hB9⟩
      simp [results, Tryd.results10, go_sem, z0, z1, z2]
end Go.Proofs.YtpdkeggiokebmaaDoor

/- shucklaw2.known answers true, in whatever memory. -/
namespace Go.Proofs.YtpdkeggiokebmaaDoor
set_option linter.unusedSimpArgs false
set_option linter.unusedVariables false
open Go.RowKit Go.Shelf

def lsgND (g : Nat → Int) : Nat → Nat
  | 0 => 0
  | L + 1 => if hasD (sgnL (L + 1)) (strOfNums (upto g (L + 1))) then L + 1 else lsgND g L
theorem lsgND_eq (g : Nat → Int) : ∀ L, lsgN g L = lsgND g L
  | 0 => rfl
  | L + 1 => by simp only [lsgN, lsgND, hasD_eq, lsgND_eq g L]
def sigQD (g : Nat → Int) (len at' : Nat) (bs : List Bool) : Option (Int × List Int × Nat × List Bool) :=
  let n := lsgND (fun j => g (at' + j)) (min 3 (len - at'))
  if n = 0 then none
  else if sub g at' (at' + n) = [123] then some (9, sub g at' (at' + n), at' + n, bs ++ [false])
  else if sub g at' (at' + n) = [125] then some (9, sub g at' (at' + n), at' + n, bs.dropLast)
  else some (9, sub g at' (at' + n), at' + n, bs)
theorem sigQD_eq (g : Nat → Int) (len at' : Nat) (bs : List Bool) : sigQ g len at' bs = sigQD g len at' bs := by
  unfold sigQ sigQD sgN
  simp only [lsgND_eq]
def tokPD (g : Nat → Int) (len at' : Nat) (bs : List Bool) : Option (Int × List Int × Nat × List Bool) :=
  if isL (g at') = true then some (if hasD wordL (strOfNums (sub g at' (stopI isLD g len (at' + 1)))) then 2 else 1, sub g at' (stopI isLD g len (at' + 1)), stopI isLD g len (at' + 1), bs)
  else if isD (g at') = true then (if numOk g len at' = true then some (3, sub g at' (numEnd g len at'), numEnd g len at', bs) else none)
  else if g at' = 34 ∨ g at' = 39 then (quoP g len (g at') at').map fun y => (y.1, y.2.1, y.2.2, bs)
  else if g at' = 96 then pieQ 5 6 bs (pieI g len (at' + 1))
  else if g at' = 125 ∧ lastB bs = true then pieQ 8 7 bs.dropLast (pieI g len (at' + 1))
  else sigQD g len at' bs
theorem tokPD_eq (g : Nat → Int) (len at' : Nat) (bs : List Bool) : tokP g len at' bs = tokPD g len at' bs := by
  unfold tokP tokPD
  simp only [hasD_eq, sigQD_eq]
def scFD (g : Nat → Int) (len : Nat) : Nat → Nat → List Bool → List TokD
  | 0, _, _ => []
  | f + 1, i, bs =>
    if ¬ i < len then [((10, [], len, len), 0)]
    else if blk (g i) = true then scFD g len f (i + 1) bs
    else if g i = 47 ∧ i + 1 < len ∧ g (i + 1) = 47 then scFD g len f (stopI (fun c => c != 10) g len i) bs
    else if g i = 47 ∧ i + 1 < len ∧ g (i + 1) = 42 then (if remI g len (i + 2) + 1 < len then scFD g len f (remI g len (i + 2) + 2) bs else [((0, [], i, 0), 3)])
    else match tokPD g len i bs with
      | none => [((0, [], i, 0), 3)]
      | some (k, t, e, bs') => ((k, t, i, e), 0) :: scFD g len f e bs'
theorem scFD_eq (g : Nat → Int) (len : Nat) : ∀ (f i : Nat) (bs : List Bool), scF g len f i bs = scFD g len f i bs
  | 0, _, _ => rfl
  | f + 1, i, bs => by
    simp only [scF, scFD, tokPD_eq, scFD_eq g len f]
    generalize tokPD g len i bs = y
    cases y with
    | none => rfl
    | some z => rfl
/-- The known text's tokens. -/
def toksK : List TokD := [((2, [108, 101, 116], 0, 3), 0), ((1, [120], 4, 5), 0), ((9, [61], 6, 7), 0), ((4, [97, 10], 8, 13), 0), ((9, [59], 13, 14), 0), ((10, [], 14, 14), 0)]
set_option maxRecDepth 100000 in
theorem sc_known : scI gT 14 0 [] = toksK := by
  unfold scI
  rw [scFD_eq]
  decide +kernel

set_option maxRecDepth 100000 in
set_option maxHeartbeats 1000000 in
theorem lexknown_any (w : World) (hE1 : ErrG w 1) (hE2 : ErrG w 2) : Calls Tryd.prog 14 #[] w fun e w' => e = .returned (.bool true) ∧ Below w.heap.size w w' := by
  have hcv := conv_mark w #[.int .u8 108, .int .u8 101, .int .u8 116, .int .u8 32, .int .u8 120, .int .u8 32, .int .u8 61, .int .u8 32, .int .u8 34, .int .u8 97, .int .u8 92, .int .u8 110, .int .u8 34, .int .u8 59] 14 14
  have hBd : Below w.heap.size w (w.alloc (.cells #[.int .u8 108, .int .u8 101, .int .u8 116, .int .u8 32, .int .u8 120, .int .u8 32, .int .u8 61, .int .u8 32, .int .u8 34, .int .u8 97, .int .u8 92, .int .u8 110, .int .u8 34, .int .u8 59] 5 (14, 15))) := (Below.refl _ w).alloc (Nat.le_refl _) _
  have HT := hide (callsIn_wide.1 (tokens_any (some ⟨w.heap.size, 0, none⟩) 14 14 w.heap.size gT gT_bd (w.alloc (.cells #[.int .u8 108, .int .u8 101, .int .u8 116, .int .u8 32, .int .u8 120, .int .u8 32, .int .u8 61, .int .u8 32, .int .u8 34, .int .u8 97, .int .u8 92, .int .u8 110, .int .u8 34, .int .u8 59] 5 (14, 15))) (by decide) (.inr ⟨0, 14, rfl, by decide, by decide, by unfold maxLen; decide, fun j hj => by
    have h1 : (w.alloc (.cells #[.int .u8 108, .int .u8 101, .int .u8 116, .int .u8 32, .int .u8 120, .int .u8 32, .int .u8 61, .int .u8 32, .int .u8 34, .int .u8 97, .int .u8 92, .int .u8 110, .int .u8 34, .int .u8 59] 5 (14, 15))).heap[w.heap.size]? = some (.cells #[.int .u8 108, .int .u8 101, .int .u8 116, .int .u8 32, .int .u8 120, .int .u8 32, .int .u8 61, .int .u8 32, .int .u8 34, .int .u8 97, .int .u8 92, .int .u8 110, .int .u8 34, .int .u8 59] 5 (14, 15)) := World.alloc_heap_new w _
    rw [Lib.cell_of_heap h1, Nat.zero_add]
    rcases (by omega : j = 0 ∨ j = 1 ∨ j = 2 ∨ j = 3 ∨ j = 4 ∨ j = 5 ∨ j = 6 ∨ j = 7 ∨ j = 8 ∨ j = 9 ∨ j = 10 ∨ j = 11 ∨ j = 12 ∨ j = 13) with rfl | rfl | rfl | rfl | rfl | rfl | rfl | rfl | rfl | rfl | rfl | rfl | rfl | rfl <;> rfl⟩) (by simp) (fun h => by cases h) (hE1.below hBd hE1.lt) (hE2.below hBd hE2.lt)))
  go_enter Tryd.func14, Tryd.ntmps14
  go_wp2_with (go_at_call 10; refine (unhide HT).mono ?_)
  rintro e w1 ⟨hor, hB1⟩
  rw [sc_known] at hor
  rcases hor with ⟨_, v, rfl, hown⟩ | ⟨p, i, hp, _⟩
  rotate_left
  · exfalso
    have h1 := congrArg List.getLast? hp
    simp [toksK] at h1
  obtain ⟨gw, cp, rfl, hcp, hcm2, hgl⟩ : ∃ gw cp, v = .slice (some ⟨gw, 0, none⟩) 6 cp ∧ 6 ≤ cp ∧ cp ≤ maxLen ∧ gw < w1.heap.size := by
    rcases hown.2 with ⟨_, h0⟩ | ⟨gw, cp, cr, h, _, h1, h2, h3, _⟩
    · exact absurd h0 (by decide)
    · exact ⟨gw, cp, h, h2, h3, (Array.getElem?_eq_some_iff.1 h1).1⟩
  have hcell : ∀ j u, (rowD toksK)[j]? = some u → w1.cell? ⟨gw, j, none⟩ = some u := fun j u hj => by
    have := hown.cells (g := gw) rfl j u hj
    rw [Addr.add_lit, Nat.zero_add] at this
    exact this
  have u0 : w1.cell? ⟨gw, 0, none⟩ = some (.int .i64 2) := hcell 0 _ rfl
  have u5 : w1.cell? ⟨gw, 5, none⟩ = some (.string ⟨#[120]⟩) := hcell 5 _ rfl
  have u13 : w1.cell? ⟨gw, 13, none⟩ = some (.string ⟨#[97, 10]⟩) := hcell 13 _ rfl
  have u15 : w1.cell? ⟨gw, 15, none⟩ = some (.int .i64 13) := hcell 15 _ rfl
  have u20 : w1.cell? ⟨gw, 20, none⟩ = some (.int .i64 10) := hcell 20 _ rfl
  unfold maxLen at hcm2
  clear hcell hown hcv HT
  go_wp2
  go_ret
  exact ⟨rfl, hBd.trans (hB1.mono (by simp))⟩
end Go.Proofs.YtpdkeggiokebmaaDoor
