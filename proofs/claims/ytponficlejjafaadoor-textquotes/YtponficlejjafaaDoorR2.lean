/- text.Runes' function value, handed any function that takes a place and a rune: it is called with the runes of the copy, one behind the other, till it says no. -/
import Derived.Test.YtponficlejjafaaDoorR1
namespace Go.Proofs.YtponficlejjafaaDoor
set_option linter.unusedSimpArgs false
set_option linter.unusedVariables false
open Go.RowKit Go.Shelf

attribute [local go_sem] Oper.semAt_some

/-- The k-th rune, with its place. -/
def runeAt (g : Nat → Int) (len k : Nat) : Nat × Int := (posn g len k, dRune g len (posn g len k))
/-- Runes with the bytes behind them, turned into runes with their places. -/
def shf (l : List (Nat × Int)) : Nat × List (Nat × Int) := l.foldl (fun s x => (x.1, s.2 ++ [(s.1, x.2)])) (0, [])
theorem shf_snoc (l : List (Nat × Int)) (x : Nat × Int) : shf (l ++ [x]) = (x.1, (shf l).2 ++ [((shf l).1, x.2)]) := by simp [shf]
theorem shf_length (l : List (Nat × Int)) : (shf l).2.length = l.length := by
  have key : ∀ n (l : List (Nat × Int)), l.length = n → (shf l).2.length = n := by
    intro n
    induction n with
    | zero => intro l h; obtain rfl := List.length_eq_zero_iff.1 h; rfl
    | succ n ih =>
      intro l h
      have hne : l ≠ [] := by intro e; subst e; simp at h
      rw [← List.dropLast_concat_getLast hne, shf_snoc]
      have := ih l.dropLast (by simp [h])
      simp [this]
  exact key _ l rfl
theorem shf_upto (g : Nat → Int) (len : Nat) : ∀ k, shf (upto (endAt g len) k) = (posn g len k, upto (runeAt g len) k)
  | 0 => rfl
  | k + 1 => by rw [upto_succ, shf_snoc, shf_upto g len k, upto_succ]; rfl

/-- Between two rounds within the function value. -/
def RuI (w : World) (yf : Value) (J : List (Nat × Int) → World → Prop) (pre : List (Nat × Int)) (W : World) : Prop :=
  J (shf pre).2 W ∧ Boxed W w.heap.size 37 yf ∧ Boxed W (w.heap.size + 1) 3 (.int .i64 ((shf pre).1 : Int)) ∧ w.heap.size + 1 + 1 < W.heap.size
def RuX (w : World) (Jx : List (Nat × Int) → World → Prop) (c : Code) (pre : List (Nat × Int)) (W : World) : Prop := c = .ret ∧ Jx (shf pre).2 W ∧ w.heap.size + 1 + 1 < W.heap.size
theorem ruI_own {w : World} {yf : Value} {J : List (Nat × Int) → World → Prop} (hJ : ∀ pre A B, J pre A → Below w.heap.size A B → J pre B) {B : Nat} (hB : w.heap.size + 1 + 1 < B) : OwnFrom B (RuI w yf J) := fun s A C row hs hg hr => by
  have hne : ∀ k, k < B → some k ≠ row := fun k hk e => by have := (hr k e.symm).1; omega
  refine ⟨hJ _ _ _ hs.1 ⟨hg.os, hg.tape, hg.output, hg.size, fun k hk => ?_⟩, hs.2.1.kept hg (hne _ (by omega)), hs.2.2.1.kept hg (hne _ (by omega)), Nat.lt_of_lt_of_le hs.2.2.2 hg.size⟩
  have : k < A.heap.size := by have := hs.2.2.2; omega
  exact hg.block k this (hne k (by omega))
theorem ruX_own {w : World} {Jx : List (Nat × Int) → World → Prop} (hJ : ∀ pre A B, Jx pre A → Below w.heap.size A B → Jx pre B) {B : Nat} (hB : w.heap.size + 1 + 1 < B) (c : Code) : OwnFrom B (RuX w Jx c) := fun s A C row hs hg hr => by
  have hne : ∀ k, k < B → some k ≠ row := fun k hk e => by have := (hr k e.symm).1; omega
  refine ⟨hs.1, hJ _ _ _ hs.2.1 ⟨hg.os, hg.tape, hg.output, hg.size, fun k hk => ?_⟩, Nat.lt_of_lt_of_le hs.2.2 hg.size⟩
  have : k < A.heap.size := by have := hs.2.2; omega
  exact hg.block k this (hne k (by omega))

set_option maxRecDepth 100000 in
set_option maxHeartbeats 2000000 in
theorem runes1_in (Fy : Nat) (caps : Array Value) (ey : ∀ args w, (callFunc Fy args).run Tryd.prog w = .ok (.enter Fy args) w) (Bk c : Nat) (a : Option Addr) (len cap : Nat) (g : Nat → Int) (hg : ∀ j, 0 ≤ g j ∧ g j ≤ 255) (w : World)
    (hBk : Boxed w Bk 22 (.slice a len cap)) (hS : Sl w c (.slice a len cap) len g) (hc : c < w.heap.size) (J Jx : List (Nat × Int) → World → Prop)
    (hJ : ∀ pre A B, J pre A → Below w.heap.size A B → J pre B) (hJx : ∀ pre A B, Jx pre A → Below w.heap.size A B → Jx pre B)
    (hY : ∀ pre x A, J pre A → pre.length < len → w.heap.size ≤ A.heap.size → Calls Tryd.prog Fy (#[.int .i64 (x.1 : Int), .int .i32 x.2] ++ caps) A fun e A' =>
      KeepsOthers A A' ∧ (∀ k, (w.heap.size ≤ k ∧ k < A.heap.size) ∨ k = Bk ∨ k = c → A'.heap[k]? = A.heap[k]?) ∧ ((e = .returned (.bool true) ∧ J (pre ++ [x]) A') ∨ (e = .returned (.bool false) ∧ Jx (pre ++ [x]) A')))
    (h0 : J [] w) :
    CallsIn Fence.wide 6 Tryd.prog 33 #[.func (.func Fy) #[] caps, .pointer (some ⟨Bk, 0, none⟩)] w fun e W' => (∃ v, e = .returned v) ∧ ((∃ m, Runes g len m ∧ J (upto (runeAt g len) m) W') ∨ (∃ k, Before g len k ∧ Jx (upto (runeAt g len) k) W')) := by
  have HY := hide hY
  have HJ := hide hJ
  have HJx := hide hJx
  have HS := hide hS
  have H0 := hide h0
  have hbk := hBk.cell
  clear hY hJ hJx hS h0
  refine callsIn_of_wp_marks Tryd.func33 rfl trivial ?_ rfl
  simp only [Tryd.ntmps33, List.size_toArray, List.length_cons, List.length_nil, Nat.reduceAdd, Nat.reduceSub, Array.replicate_succ, Array.replicate_zero, List.push_toArray, List.append_toArray, List.nil_append, List.cons_append]
  have hbl := hBk.lt
  gi_wp2_with (refine ⟨trivial, ?_⟩; gi_at_call 34; refine (ends_in _ _ _ _ _).mono ?_; rintro e w' ⟨rfl, rfl⟩)
  obtain ⟨W0, hW0⟩ : ∃ W0, ((w.alloc (.cells #[.func (.func Fy) #[] caps] 37)).alloc (.cells #[.int .i64 0] 3)).alloc (.cells #[.slice a len cap] 22) = W0 := ⟨_, rfl⟩
  have c0 : Boxed W0 w.heap.size 37 (.func (.func Fy) #[] caps) := by rw [← hW0]; exact ((Boxed.new w 37 _).alloc _).alloc _
  have c1 : Boxed W0 (w.heap.size + 1) 3 (.int .i64 0) := by
    have := Boxed.new (w.alloc (.cells #[.func (.func Fy) #[] caps] 37)) 3 (.int .i64 0)
    rw [World.size_alloc] at this
    rw [← hW0]; exact this.alloc _
  have c2 : Boxed W0 (w.heap.size + 1 + 1) 22 (.slice a len cap) := by
    have := Boxed.new ((w.alloc (.cells #[.func (.func Fy) #[] caps] 37)).alloc (.cells #[.int .i64 0] 3)) 22 (.slice a len cap)
    rw [World.size_alloc, World.size_alloc] at this
    rw [← hW0]; exact this
  have hsz : W0.heap.size = w.heap.size + 1 + 1 + 1 := by rw [← hW0]; simp
  have hBW : Below w.heap.size w W0 := by rw [← hW0]; exact (((Below.refl _ w).alloc (Nat.le_refl _) _).alloc (by simp) _).alloc (by simp; omega) _
  rw [hW0]
  clear hW0
  have hS0 : Sl W0 c (.slice a len cap) len g := (unhide HS).keep (fun k e => by subst e; exact hBW.block k hc)
  refine wpIn_rangeFunc_ownF rfl (by omega) (gf := 43) (lb := #[.pointer (some ⟨w.heap.size + 1 + 1, 0, none⟩)]) rfl trivial (enters_of Tryd.func43 (by kernel_rfl) rfl)
    (ends_stops (6 - 1) (by omega) (w.heap.size + 1 + 1) c (.slice a len cap) len g hg W0 (by omega) (by omega) c2.cell hS0) (fun h k => h.trans k) (keepS_b (fun k hk => by rcases hk with rfl | rfl <;> omega)) (Below.refl _ _) (fun _ => rfl)
    (RuI w (.func (.func Fy) #[] caps) J) (RuX w Jx) (ruI_own (unhide HJ) (by omega)) (fun c => ruX_own (unhide HJx) (by omega) c)
    ⟨unhide HJ _ _ _ (unhide H0) hBW, c0, c1, by omega⟩
    (fun x => { tmps := #[.func (.func Fy) #[] caps, .pointer (some ⟨Bk, 0, none⟩), .pointer (some ⟨w.heap.size, 0, none⟩), .pointer (some ⟨w.heap.size + 1, 0, none⟩), .int .i64 x.1, .int .i32 x.2, .slice a len cap, .func (.func 43) #[] #[.pointer (some ⟨w.heap.size + 1 + 1, 0, none⟩)], .int .i64 x.1, .int .i32 x.2, undef, undef, undef, undef, undef, undef], defers := [] }) ?assign ?body ?done ?stop
  case assign =>
    intro l x W K hK
    gi_wp2
    exact hK
  case body =>
    rintro l pre ⟨xe, xr⟩ W ⟨hj, b0, b1, hl⟩ hlt
    have d0 := b0.cell
    have d1 := b1.cell
    have HC := hide (unhide HY (shf pre).2 ((shf pre).1, xr) W hj (by rw [shf_length]; exact hlt) (by omega))
    have HJJ := hide hj
    clear hj HY
    gi_wp2
    refine ⟨trivial, ?_⟩
    refine (CallsIn.inRound l (callsIn_wide.2 (unhide HC))).mono ?_
    rintro e W2 ⟨hko, hks, hor⟩
    have hs2 := hko.size
    have b0' : Boxed W2 w.heap.size 37 (.func (.func Fy) #[] caps) := (hks _ (.inl ⟨Nat.le_refl _, b0.lt⟩)).trans b0
    have b1' : Boxed W2 (w.heap.size + 1) 3 (.int .i64 ((shf pre).1 : Int)) := (hks _ (.inl ⟨by omega, b1.lt⟩)).trans b1
    have hkp : KeepS (fun k => k = w.heap.size + 1 + 1 ∨ k = c) W W2 := fun k hk => by
      rcases hk with rfl | rfl
      · exact hks _ (.inl ⟨by omega, hl⟩)
      · exact hks _ (.inr (.inr rfl))
    rcases hor with ⟨rfl, hj2⟩ | ⟨rfl, hx2⟩
    · have d1' := b1'.cell
      have f1' := b1'.frozen
      have HJ2 := hide hj2
      clear hj2 hks
      gi_wp2
      refine ⟨hko.trans (KeepsOthers.setCell _ _ _), hkp.trans (KeepS.setCell _ _ _ (by omega)), ?_, b0'.other (by omega) _, ?_, by simp [World.setCell]; omega⟩
      · rw [shf_snoc]
        exact unhide HJ _ _ _ (unhide HJ2) ((Below.refl _ W2).setCell (p := ⟨w.heap.size + 1, 0, none⟩) (by simp) _)
      · rw [shf_snoc]; exact b1'.set _
    · have HX2 := hide hx2
      clear hx2 hks
      gi_wp2
      refine ⟨hko, rfl, ?_, by omega⟩
      rw [shf_snoc]
      exact unhide HX2
  case done =>
    rintro D xs W hD ⟨m, hm, rfl⟩ ⟨hj, b0, b1, hl⟩ hK
    gi_wp2
    refine ⟨by simp, .inl ⟨_, _, rfl, run_takeDeferred hK, ?_⟩⟩
    refine ⟨_, results_none rfl _ _ _, ⟨_, rfl⟩, .inl ⟨m, hm, ?_⟩⟩
    rw [shf_upto] at hj
    exact unhide HJ _ _ _ hj (belowK_b (w := w) (Nat.le_refl _) _ D _ (.deferred none) (by omega) hK rfl rfl)
  case stop =>
    rintro D cd pre W hD ⟨k, hk, rfl⟩ ⟨rfl, hj, hl⟩ hK
    gi_wp2
    refine ⟨by simp, .inl ⟨_, _, rfl, run_takeDeferred hK, ?_⟩⟩
    refine ⟨_, results_none rfl _ _ _, ⟨_, rfl⟩, .inr ⟨k, hk, ?_⟩⟩
    rw [shf_upto] at hj
    exact unhide HJx _ _ _ hj (belowK_b (w := w) (Nat.le_refl _) _ D _ (.deferred none) (by omega) hK rfl rfl)

/-- The same, at any row of bytes, as a plain call. -/
theorem runes1_any {Fy : Nat} {caps : Array Value} (ey : ∀ args w, (callFunc Fy args).run Tryd.prog w = .ok (.enter Fy args) w) {Bk c : Nat} {sv : Value} {len : Nat} {g : Nat → Int} (hg : ∀ j, 0 ≤ g j ∧ g j ≤ 255) {w : World}
    (hBk : Boxed w Bk 22 sv) (hS : Sl w c sv len g) (hc : c < w.heap.size) (J Jx : List (Nat × Int) → World → Prop)
    (hJ : ∀ pre A B, J pre A → Below w.heap.size A B → J pre B) (hJx : ∀ pre A B, Jx pre A → Below w.heap.size A B → Jx pre B)
    (hY : ∀ pre x A, J pre A → pre.length < len → w.heap.size ≤ A.heap.size → Calls Tryd.prog Fy (#[.int .i64 (x.1 : Int), .int .i32 x.2] ++ caps) A fun e A' =>
      KeepsOthers A A' ∧ (∀ k, (w.heap.size ≤ k ∧ k < A.heap.size) ∨ k = Bk ∨ k = c → A'.heap[k]? = A.heap[k]?) ∧ ((e = .returned (.bool true) ∧ J (pre ++ [x]) A') ∨ (e = .returned (.bool false) ∧ Jx (pre ++ [x]) A')))
    (h0 : J [] w) :
    Calls Tryd.prog 33 #[.func (.func Fy) #[] caps, .pointer (some ⟨Bk, 0, none⟩)] w fun e W' => (∃ v, e = .returned v) ∧ ((∃ m, Runes g len m ∧ J (upto (runeAt g len) m) W') ∨ (∃ k, Before g len k ∧ Jx (upto (runeAt g len) k) W')) := by
  obtain ⟨a, cap, rfl⟩ := hS.len
  exact callsIn_wide.1 (runes1_in Fy caps ey Bk c a len cap g hg w hBk hS hc J Jx hJ hJx hY h0)
end Go.Proofs.YtponficlejjafaaDoor
