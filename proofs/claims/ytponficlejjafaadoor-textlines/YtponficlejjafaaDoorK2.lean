/- text.Lines: a copy in a box, the function value over it, and the lines that it hands on. -/
import Derived.Stop.RegionWithIn
import Derived.Test.YtponficlejjafaaDoorK1b
import Derived.Test.YtponficlejjafaaDoorV0
namespace Go.Proofs.YtponficlejjafaaDoor
set_option linter.unusedSimpArgs false
set_option linter.unusedVariables false
open Go.RowKit Go.Shelf

/-- text.Lines: the copy lies in the box Bk. -/
def LinesMade (w : World) (len : Nat) (g : Nat → Int) (e : Ending) (w' : World) : Prop :=
  ∃ Bk c sv, e = .returned (.func (.func 35) #[] #[.pointer (some ⟨Bk, 0, none⟩)]) ∧ Boxed w' Bk 22 sv ∧ Sl w' c sv len g ∧ w.heap.size ≤ Bk ∧ c < w'.heap.size ∧ (len = 0 ∨ w.heap.size ≤ c) ∧ Below w.heap.size w w'

set_option maxHeartbeats 1000000 in
theorem lines_some (ad : Addr) (len cap : Nat) (g : Nat → Int) (w : World) (hlen : len ≤ 4294967296) (hsrc : ∀ j, j < len → w.cell? (ad.add j) = some (.int .u8 (g j))) :
    Calls Tryd.prog 23 #[.slice (some ad) len cap] w (LinesMade w len g) := by
  have H := hide (clone_some ad len cap g w hlen hsrc)
  clear hsrc
  go_enter Tryd.func23, Tryd.ntmps23
  go_wp2_with (go_at_call 32; refine (unhide H).mono ?_; rintro e w1 ⟨c, a', cap', rfl, hS, hc1, hc2, hB⟩; have HS := hide hS; clear hS)
  go_ret
  refine ⟨w1.heap.size, c, .slice a' len cap', rfl, Boxed.new w1 22 _, (unhide HS).keep (fun k e => by subst e; exact Below.heap_alloc w1 _ k hc2), hB.size, by simp; omega, .inr hc1, hB.alloc hB.size _⟩

set_option maxHeartbeats 1000000 in
theorem lines_none (g : Nat → Int) (w : World) (hp : 0 < w.heap.size) : Calls Tryd.prog 23 #[.slice none 0 0] w (LinesMade w 0 g) := by
  go_enter Tryd.func23, Tryd.ntmps23
  go_wp2_with (go_at_call 32; refine (clone_none g w hp).mono ?_; rintro e w1 ⟨rfl, rfl⟩)
  go_ret
  refine ⟨_, 0, .slice none 0 0, rfl, Boxed.new _ 22 _, .inl ⟨_, _, rfl, rfl⟩, Nat.le_refl _, by simp, .inl rfl, (Below.refl _ _).alloc (Nat.le_refl _) _⟩

theorem lines_any {sv : Value} {len : Nat} {g : Nat → Int} {w : World} (hlen : len ≤ 4294967296) (h : Src w sv len g) (hp : 0 < w.heap.size) : Calls Tryd.prog 23 #[sv] w (LinesMade w len g) := by
  rcases h with ⟨rfl, rfl⟩ | ⟨ad, cap, rfl, hc⟩
  · exact lines_none g w hp
  · exact lines_some ad len cap g w hlen hc

attribute [local go_sem] Oper.semAt_some

/-- Between two rounds within the function value. -/
def LiI (w : World) (len : Nat) (g : Nat → Int) (Bk c : Nat) (sv yf : Value) (J : List (Nat × Nat) → World → Prop) (pre : List { x : Nat × Nat // Sp len x }) (W : World) : Prop :=
  J (pre.map (·.1)) W ∧ Boxed W w.heap.size 49 yf ∧ w.heap.size + 1 < W.heap.size ∧ Boxed W Bk 22 sv ∧ Sl W c sv len g
def LiX (w : World) (len : Nat) (Jx : List (Nat × Nat) → World → Prop) (cd : Code) (pre : List { x : Nat × Nat // Sp len x }) (W : World) : Prop := cd = .ret ∧ Jx (pre.map (·.1)) W ∧ w.heap.size + 1 < W.heap.size
theorem liI_own {w : World} {len : Nat} {g : Nat → Int} {Bk c : Nat} {sv yf : Value} {J : List (Nat × Nat) → World → Prop} (hJ : ∀ pre A B, J pre A → Below w.heap.size A B → J pre B) {B : Nat} (hB : w.heap.size + 1 < B) (h1 : Bk < w.heap.size) (h2 : c < w.heap.size) : OwnFrom B (LiI w len g Bk c sv yf J) := fun s A C row hs hg hr => by
  have hne : ∀ k, k < B → some k ≠ row := fun k hk e => by have := (hr k e.symm).1; omega
  have hz := hs.2.2.1
  have blk : ∀ k, k < w.heap.size → C.heap[k]? = A.heap[k]? := fun k hk => hg.block k (by omega) (hne k (by omega))
  exact ⟨hJ _ _ _ hs.1 ⟨hg.os, hg.tape, hg.output, hg.size, blk⟩, hs.2.1.kept hg (hne _ (by omega)), Nat.lt_of_lt_of_le hz hg.size, hs.2.2.2.1.kept hg (hne _ (by omega)), hs.2.2.2.2.keep (fun k e => by subst e; exact blk k h2)⟩
theorem liX_own {w : World} {len : Nat} {Jx : List (Nat × Nat) → World → Prop} (hJ : ∀ pre A B, Jx pre A → Below w.heap.size A B → Jx pre B) {B : Nat} (hB : w.heap.size + 1 < B) (cd : Code) : OwnFrom B (LiX w len Jx cd) := fun s A C row hs hg hr => by
  have hne : ∀ k, k < B → some k ≠ row := fun k hk e => by have := (hr k e.symm).1; omega
  have hz := hs.2.2
  exact ⟨hs.1, hJ _ _ _ hs.2.1 ⟨hg.os, hg.tape, hg.output, hg.size, fun k hk => hg.block k (by omega) (hne k (by omega))⟩, Nat.lt_of_lt_of_le hz hg.size⟩

/-- An operation that is no 'defer' does in a round what it does outside one. -/
theorem oper_inRound {F : Fence} {n : Nat} {P : Program} {o : Oper} {a : Act} {w : World} {K : Act → World → Prop} {Q : Exit → Act → World → Prop} (l : Nat) (hr : F.round = none) (hd : ∀ c, o.op ≠ .defer c) (h : o.wpIn F n P a w K Q) : o.wpIn (F.inRound l) n P a w K Q := by
  unfold Oper.wpIn at *
  rw [Oper.semAt_eq _ _ _ hd] at h ⊢
  refine ⟨h.1, ?_⟩
  have h2 := h.2
  generalize (execOp a.eval o).run P w = r at *
  cases r with
  | ok x w' => cases x <;> exact h2
  | halt x w' => cases x <;> exact h2
/-- No 'defer' among them. -/
def plainOps (ops : Array Oper) : Bool := ops.toList.all fun o => match o.op with | .defer _ => false | _ => true
theorem plainOps_spec {ops : Array Oper} (h : plainOps ops = true) {i : Nat} {o : Oper} (ho : ops[i]? = some o) (c) : o.op ≠ .defer c := by
  intro e
  have := List.all_eq_true.1 h o (by simpa using Array.mem_of_getElem? ho)
  simp [e] at this
theorem any_inRound {F : Fence} {n : Nat} {P : Program} {md : Region.Mode} {ops : Array Oper} {Q : Exit → Act → World → Prop} (l : Nat) (hr : F.round = none) (hd : plainOps ops = true) : ∀ (fuel : Nat) (listed : Array Bool) (a : Act) (w : World), wpAnyIn F n P md ops Q fuel listed a w → wpAnyIn (F.inRound l) n P md ops Q fuel listed a w
  | 0, listed, a, w, h => h
  | fuel + 1, listed, a, w, h => by
    refine ⟨h.1, fun i hi => ?_⟩
    have h1 := wpOpIn_mono (fun a w => any_inRound l hr hd fuel _ a w) (h.2 i hi)
    unfold wpOpIn at *
    cases ho : ops[i]? with
    | none => simpa only [ho] using h1
    | some o =>
      simp only [ho] at h1 ⊢
      split
      · rename_i hw
        simp only [hw, if_true] at h1
        exact oper_inRound l hr (fun c => plainOps_spec hd ho c) h1
      · rename_i hw
        simp only [hw] at h1
        exact h1

set_option maxRecDepth 100000 in
set_option maxHeartbeats 2000000 in
theorem lines1_in (Fy : Nat) (caps : Array Value) (ey : ∀ args w, (callFunc Fy args).run Tryd.prog w = .ok (.enter Fy args) w) (Bk c : Nat) (a : Option Addr) (len cap : Nat) (g : Nat → Int) (hg : ∀ j, 0 ≤ g j ∧ g j ≤ 255) (w : World)
    (hBk : Boxed w Bk 22 (.slice a len cap)) (hS : Sl w c (.slice a len cap) len g) (hc : c < w.heap.size) (J Jx : List (Nat × Nat) → World → Prop)
    (hJ : ∀ pre A B, J pre A → Below w.heap.size A B → J pre B) (hJx : ∀ pre A B, Jx pre A → Below w.heap.size A B → Jx pre B)
    (hY : ∀ pre x A, Sp len x → J pre A → pre.length < len + 1 → w.heap.size ≤ A.heap.size → Calls Tryd.prog Fy (#[.int .i64 (x.1 : Int), .string (strOfNums (sub g x.1 x.2))] ++ caps) A fun e A' =>
      KeepsOthers A A' ∧ (∀ k, (w.heap.size ≤ k ∧ k < A.heap.size) ∨ k = Bk ∨ k = c → A'.heap[k]? = A.heap[k]?) ∧ ((e = .returned (.bool true) ∧ J (pre ++ [x]) A') ∨ (e = .returned (.bool false) ∧ Jx (pre ++ [x]) A')))
    (h0 : J [] w) :
    CallsIn Fence.wide 6 Tryd.prog 35 #[.func (.func Fy) #[] caps, .pointer (some ⟨Bk, 0, none⟩)] w fun e W' => (∃ v, e = .returned v) ∧ (J (allL g len) W' ∨ (∃ pre, (pre <+: allL g len ∧ pre ≠ []) ∧ Jx pre W')) := by
  have HY := hide hY
  have HJ := hide hJ
  have HJx := hide hJx
  have HS := hide hS
  have H0 := hide h0
  have hbk := hBk.cell
  clear hY hJ hJx hS h0
  refine callsIn_of_wp_marks Tryd.func35 rfl trivial ?_ rfl
  simp only [Tryd.ntmps35, List.size_toArray, List.length_cons, List.length_nil, Nat.reduceAdd, Nat.reduceSub, Array.replicate_succ, Array.replicate_zero, List.push_toArray, List.append_toArray, List.nil_append, List.cons_append]
  have hbl := hBk.lt
  gi_wp2_with (refine ⟨trivial, ?_⟩; gi_at_call 36; refine (spans_in _ _ _ _ _).mono ?_; rintro e w' ⟨rfl, rfl⟩)
  obtain ⟨W0, hW0⟩ : ∃ W0, (w.alloc (.cells #[.func (.func Fy) #[] caps] 49)).alloc (.cells #[.slice a len cap] 22) = W0 := ⟨_, rfl⟩
  have c0 : Boxed W0 w.heap.size 49 (.func (.func Fy) #[] caps) := by rw [← hW0]; exact (Boxed.new w 49 _).alloc _
  have c2 : Boxed W0 (w.heap.size + 1) 22 (.slice a len cap) := by
    have := Boxed.new (w.alloc (.cells #[.func (.func Fy) #[] caps] 49)) 22 (.slice a len cap)
    rw [World.size_alloc] at this
    rw [← hW0]; exact this
  have hsz : W0.heap.size = w.heap.size + 1 + 1 := by rw [← hW0]; simp
  have hBW : Below w.heap.size w W0 := by rw [← hW0]; exact ((Below.refl _ w).alloc (Nat.le_refl _) _).alloc (by simp) _
  rw [hW0]
  clear hW0
  have hS0 : Sl W0 c (.slice a len cap) len g := (unhide HS).keep (fun k e => by subst e; exact hBW.block k hc)
  refine wpIn_rangeFunc_ownF rfl (by omega) (gf := 44) (lb := #[.pointer (some ⟨w.heap.size + 1, 0, none⟩)]) rfl trivial (enters_of Tryd.func44 (by kernel_rfl) rfl)
    (spans_stops (6 - 1) (by omega) (w.heap.size + 1) c (.slice a len cap) len g hg W0 (by omega) (by omega) c2.cell hS0) (fun h k => h.trans k) (keepS_b (fun k hk => by rcases hk with rfl | rfl <;> omega)) (Below.refl _ _) (fun _ => rfl)
    (LiI w len g Bk c (.slice a len cap) (.func (.func Fy) #[] caps) J) (LiX w len Jx) (liI_own (unhide HJ) (by omega) hbl hc) (fun cd => liX_own (unhide HJx) (by omega) cd)
    ⟨unhide HJ _ _ _ (unhide H0) hBW, c0, by omega, boxed_below hBk hBW hbl, hS0⟩
    (fun x => { tmps := #[.func (.func Fy) #[] caps, .pointer (some ⟨Bk, 0, none⟩), .pointer (some ⟨w.heap.size, 0, none⟩), .int .i64 x.1.1, .int .i64 x.1.2, .slice a len cap, .func (.func 44) #[] #[.pointer (some ⟨w.heap.size + 1, 0, none⟩)], .int .i64 x.1.1, .int .i64 x.1.2, undef, undef, undef, undef, undef, undef, undef, undef, undef], defers := [] }) ?assign ?body ?done ?stop
  case assign =>
    intro l x W K hK
    gi_wp2
    exact hK
  case body =>
    rintro l pre x W ⟨hj, b0, hl, bk, hSW⟩ hlt
    obtain ⟨xf, hxf⟩ : ∃ xf, x.1.1 = xf := ⟨_, rfl⟩
    obtain ⟨xt, hxt⟩ : ∃ xt, x.1.2 = xt := ⟨_, rfl⟩
    have hx := x.2
    have HXE : Hid (x.1 = (xf, xt)) := by show x.1 = (xf, xt); rw [← hxf, ← hxt]
    rw [hxf, hxt]
    have d0 := b0.cell
    have d1 := bk.cell
    have hdr : Below w.heap.size W W.drew := ⟨rfl, rfl, rfl, Nat.le_refl _, fun _ _ => rfl⟩
    have hdk : KeepsOthers W W.drew := ⟨Nat.le_refl _, fun _ _ h _ => h⟩
    have HC := hide (unhide HY (pre.map (·.1)) x.1 W.drew hx (unhide HJ _ _ _ hj hdr) (by simpa using hlt) (by show w.heap.size ≤ W.heap.size; omega))
    rw [hxf, hxt] at HC
    have HD := hide ((unhide HC).mono (R' := fun e A' => ∃ r : Bool, e = .returned (.bool r) ∧ KeepsOthers W.drew A' ∧ (∀ k, (w.heap.size ≤ k ∧ k < W.drew.heap.size) ∨ k = Bk ∨ k = c → A'.heap[k]? = W.drew.heap[k]?) ∧ ((r = true ∧ J (pre.map (·.1) ++ [x.1]) A') ∨ (r = false ∧ Jx (pre.map (·.1) ++ [x.1]) A'))) (by
      rintro e A' ⟨h1, h2, ⟨rfl, h3⟩ | ⟨rfl, h3⟩⟩
      · exact ⟨true, rfl, h1, h2, .inl ⟨rfl, h3⟩⟩
      · exact ⟨false, rfl, h1, h2, .inr ⟨rfl, h3⟩⟩))
    clear HC
    have HJJ := hide hj
    obtain ⟨sv', hsl, hcv0⟩ := cut_conv (xf := xf) (xt := xt) hSW (by rw [← hxf, ← hxt]; exact hx.1) (by rw [← hxt]; exact hx.2)
    have hcv := hcv0 W.drew (hSW.keep (fun _ _ => rfl))
    have HSW := hide hSW
    clear hcv0 hSW hj HY hx hxf hxt
    gi_wp2
    refine wpIn_region_any (by kernel_rfl) ?_
    change wpAnyIn _ _ _ _ _ _ _ _ _ (World.drew _)
    refine any_inRound l rfl (by kernel_rfl) _ _ _ _ ?_
    refine wpAnyIn_take (i := 1) (v := ?_) rfl rfl (by kernel_rfl) (by kernel_rfl) (by kernel_rfl) (fun _ _ _ h => h) ⟨Or.inl ⟨by rfl, ?_⟩, fun _ => rfl⟩ ?_
    rotate_left
    · intro w; go_simp; try rfl
    refine wpAnyIn_take (i := 3) (v := ?_) rfl rfl (by kernel_rfl) (by kernel_rfl) (by kernel_rfl) (fun _ _ _ h => h) ⟨Or.inl ⟨by rfl, ?_⟩, fun _ => rfl⟩ ?_
    rotate_left
    · intro w; go_simp; try rfl
    refine wpAnyIn_take (i := 4) (v := ?_) rfl rfl (by kernel_rfl) (by kernel_rfl) (by kernel_rfl) (fun _ _ _ h => h) ⟨Or.inl ⟨by rfl, ?_⟩, fun _ => rfl⟩ ?_
    rotate_left
    · intro w; go_simp; try rfl
    refine wpAnyIn_ready (rs := [0, 2]) (by kernel_rfl) (by simp) ?_
    refine AllReadyIn.cons rfl (fun K hK => ?_) (AllReadyIn.cons rfl (fun K hK => ?_) AllReadyIn.nil)
    · go_simp
      refine hK _ _ ?_
      clear hK K
      refine wpAnyIn_ready (rs := [2]) (by kernel_rfl) (by simp) ?_
      refine AllReadyIn.cons rfl (fun K hK => ?_) AllReadyIn.nil
      go_simp
      refine hK _ _ ?_
      clear hK K
      refine wpAnyIn_take (i := 5) (v := ?_) rfl rfl (by kernel_rfl) (by kernel_rfl) (by kernel_rfl) (fun _ _ _ h => h) ⟨Or.inl ⟨by rfl, ?_⟩, fun _ => rfl⟩ ?_
      rotate_left
      · intro w; go_simp; try rfl
      refine wpAnyIn_ready (rs := [6]) (by kernel_rfl) (by simp) ?_
      refine AllReadyIn.cons rfl (fun K hK => ?_) AllReadyIn.nil
      go_simp
      refine hK _ _ ?_
      clear hK K
      refine wpAnyIn_ready (rs := [7]) (by kernel_rfl) (by simp) ?_
      refine AllReadyIn.cons rfl (fun K hK => ?_) AllReadyIn.nil
      go_simp
      refine ⟨trivial, ?_⟩
      refine (callsIn_wide.2 (unhide HD)).mono ?_
      rintro e W2 ⟨r, rfl, hko, hks, hor⟩
      have HOR := hide hor
      clear hor
      go_simp
      refine hK _ _ ?_
      clear hK K
      refine wpAnyIn_take (i := 8) (v := ?_) rfl rfl (by kernel_rfl) (by kernel_rfl) (by kernel_rfl) (fun _ _ _ h => h) ⟨Or.inl ⟨by rfl, ?_⟩, fun _ => rfl⟩ ?_
      rotate_left
      · intro w; go_simp; try rfl
      refine wpAnyIn_done (by kernel_rfl) ?_ _
      have hs2 := hko.size
      have hs2' : W.heap.size ≤ W2.heap.size := hs2
      have b0' : Boxed W2 w.heap.size 49 (.func (.func Fy) #[] caps) := (hks _ (.inl ⟨Nat.le_refl _, b0.lt⟩)).trans b0
      have bk' : Boxed W2 Bk 22 (.slice a len cap) := (hks _ (.inr (.inl rfl))).trans bk
      have hS2 : Sl W2 c (.slice a len cap) len g := (unhide HSW).keep (fun k e => by subst e; exact hks _ (.inr (.inr rfl)))
      have hkp : KeepS (fun k => k = w.heap.size + 1 ∨ k = c) W W2 := fun k hk => by
        rcases hk with rfl | rfl
        · exact hks _ (.inl ⟨by omega, hl⟩)
        · exact hks _ (.inr (.inr rfl))
      have hko' : KeepsOthers W W2 := hdk.trans hko
      rcases unhide HOR with ⟨rfl, hj2⟩ | ⟨rfl, hx2⟩
      · have HJ2 := hide hj2
        clear hj2 hks
        gi_wp2
        refine ⟨hko', hkp, ?_, b0', by omega, bk', hS2⟩
        rw [List.map_append]
        exact unhide HJ2
      · have HX2 := hide hx2
        clear hx2 hks
        gi_wp2
        refine ⟨hko', rfl, ?_, by omega⟩
        rw [List.map_append]
        exact unhide HX2

    · go_simp
      refine hK _ _ ?_
      clear hK K
      refine wpAnyIn_take (i := 5) (v := ?_) rfl rfl (by kernel_rfl) (by kernel_rfl) (by kernel_rfl) (fun _ _ _ h => h) ⟨Or.inl ⟨by rfl, ?_⟩, fun _ => rfl⟩ ?_
      rotate_left
      · intro w; go_simp; try rfl
      refine wpAnyIn_ready (rs := [0, 6]) (by kernel_rfl) (by simp) ?_
      refine AllReadyIn.cons rfl (fun K hK => ?_) (AllReadyIn.cons rfl (fun K hK => ?_) AllReadyIn.nil)
      · go_simp
        refine hK _ _ ?_
        clear hK K
        refine wpAnyIn_ready (rs := [6]) (by kernel_rfl) (by simp) ?_
        refine AllReadyIn.cons rfl (fun K hK => ?_) AllReadyIn.nil
        go_simp
        refine hK _ _ ?_
        clear hK K
        refine wpAnyIn_ready (rs := [7]) (by kernel_rfl) (by simp) ?_
        refine AllReadyIn.cons rfl (fun K hK => ?_) AllReadyIn.nil
        go_simp
        refine ⟨trivial, ?_⟩
        refine (callsIn_wide.2 (unhide HD)).mono ?_
        rintro e W2 ⟨r, rfl, hko, hks, hor⟩
        have HOR := hide hor
        clear hor
        go_simp
        refine hK _ _ ?_
        clear hK K
        refine wpAnyIn_take (i := 8) (v := ?_) rfl rfl (by kernel_rfl) (by kernel_rfl) (by kernel_rfl) (fun _ _ _ h => h) ⟨Or.inl ⟨by rfl, ?_⟩, fun _ => rfl⟩ ?_
        rotate_left
        · intro w; go_simp; try rfl
        refine wpAnyIn_done (by kernel_rfl) ?_ _
        have hs2 := hko.size
        have hs2' : W.heap.size ≤ W2.heap.size := hs2
        have b0' : Boxed W2 w.heap.size 49 (.func (.func Fy) #[] caps) := (hks _ (.inl ⟨Nat.le_refl _, b0.lt⟩)).trans b0
        have bk' : Boxed W2 Bk 22 (.slice a len cap) := (hks _ (.inr (.inl rfl))).trans bk
        have hS2 : Sl W2 c (.slice a len cap) len g := (unhide HSW).keep (fun k e => by subst e; exact hks _ (.inr (.inr rfl)))
        have hkp : KeepS (fun k => k = w.heap.size + 1 ∨ k = c) W W2 := fun k hk => by
          rcases hk with rfl | rfl
          · exact hks _ (.inl ⟨by omega, hl⟩)
          · exact hks _ (.inr (.inr rfl))
        have hko' : KeepsOthers W W2 := hdk.trans hko
        rcases unhide HOR with ⟨rfl, hj2⟩ | ⟨rfl, hx2⟩
        · have HJ2 := hide hj2
          clear hj2 hks
          gi_wp2
          refine ⟨hko', hkp, ?_, b0', by omega, bk', hS2⟩
          rw [List.map_append]
          exact unhide HJ2
        · have HX2 := hide hx2
          clear hx2 hks
          gi_wp2
          refine ⟨hko', rfl, ?_, by omega⟩
          rw [List.map_append]
          exact unhide HX2

      · go_simp
        refine hK _ _ ?_
        clear hK K
        refine wpAnyIn_ready (rs := [0]) (by kernel_rfl) (by simp) ?_
        refine AllReadyIn.cons rfl (fun K hK => ?_) AllReadyIn.nil
        go_simp
        refine hK _ _ ?_
        clear hK K
        refine wpAnyIn_ready (rs := [7]) (by kernel_rfl) (by simp) ?_
        refine AllReadyIn.cons rfl (fun K hK => ?_) AllReadyIn.nil
        go_simp
        refine ⟨trivial, ?_⟩
        refine (callsIn_wide.2 (unhide HD)).mono ?_
        rintro e W2 ⟨r, rfl, hko, hks, hor⟩
        have HOR := hide hor
        clear hor
        go_simp
        refine hK _ _ ?_
        clear hK K
        refine wpAnyIn_take (i := 8) (v := ?_) rfl rfl (by kernel_rfl) (by kernel_rfl) (by kernel_rfl) (fun _ _ _ h => h) ⟨Or.inl ⟨by rfl, ?_⟩, fun _ => rfl⟩ ?_
        rotate_left
        · intro w; go_simp; try rfl
        refine wpAnyIn_done (by kernel_rfl) ?_ _
        have hs2 := hko.size
        have hs2' : W.heap.size ≤ W2.heap.size := hs2
        have b0' : Boxed W2 w.heap.size 49 (.func (.func Fy) #[] caps) := (hks _ (.inl ⟨Nat.le_refl _, b0.lt⟩)).trans b0
        have bk' : Boxed W2 Bk 22 (.slice a len cap) := (hks _ (.inr (.inl rfl))).trans bk
        have hS2 : Sl W2 c (.slice a len cap) len g := (unhide HSW).keep (fun k e => by subst e; exact hks _ (.inr (.inr rfl)))
        have hkp : KeepS (fun k => k = w.heap.size + 1 ∨ k = c) W W2 := fun k hk => by
          rcases hk with rfl | rfl
          · exact hks _ (.inl ⟨by omega, hl⟩)
          · exact hks _ (.inr (.inr rfl))
        have hko' : KeepsOthers W W2 := hdk.trans hko
        rcases unhide HOR with ⟨rfl, hj2⟩ | ⟨rfl, hx2⟩
        · have HJ2 := hide hj2
          clear hj2 hks
          gi_wp2
          refine ⟨hko', hkp, ?_, b0', by omega, bk', hS2⟩
          rw [List.map_append]
          exact unhide HJ2
        · have HX2 := hide hx2
          clear hx2 hks
          gi_wp2
          refine ⟨hko', rfl, ?_, by omega⟩
          rw [List.map_append]
          exact unhide HX2

  case done =>
    rintro D xs W hD hxs ⟨hj, b0, hl, bk, hSW⟩ hK
    gi_wp2
    refine ⟨by simp, .inl ⟨_, _, rfl, run_takeDeferred hK, ?_⟩⟩
    refine ⟨_, results_none rfl _ _ _, ⟨_, rfl⟩, .inl ?_⟩
    rw [hxs] at hj
    exact unhide HJ _ _ _ hj (belowK_b (w := w) (Nat.le_refl _) _ D _ (.deferred none) (by omega) hK rfl rfl)
  case stop =>
    rintro D cd pre W hD ⟨hp1, hp2⟩ ⟨rfl, hj, hl⟩ hK
    gi_wp2
    refine ⟨by simp, .inl ⟨_, _, rfl, run_takeDeferred hK, ?_⟩⟩
    refine ⟨_, results_none rfl _ _ _, ⟨_, rfl⟩, .inr ⟨_, ⟨hp1, by simpa using hp2⟩, ?_⟩⟩
    exact unhide HJx _ _ _ hj (belowK_b (w := w) (Nat.le_refl _) _ D _ (.deferred none) (by omega) hK rfl rfl)

/-- The same, at any row of bytes, as a plain call. -/
theorem lines1_any {Fy : Nat} {caps : Array Value} (ey : ∀ args w, (callFunc Fy args).run Tryd.prog w = .ok (.enter Fy args) w) {Bk c : Nat} {sv : Value} {len : Nat} {g : Nat → Int} (hg : ∀ j, 0 ≤ g j ∧ g j ≤ 255) {w : World}
    (hBk : Boxed w Bk 22 sv) (hS : Sl w c sv len g) (hc : c < w.heap.size) (J Jx : List (Nat × Nat) → World → Prop)
    (hJ : ∀ pre A B, J pre A → Below w.heap.size A B → J pre B) (hJx : ∀ pre A B, Jx pre A → Below w.heap.size A B → Jx pre B)
    (hY : ∀ pre x A, Sp len x → J pre A → pre.length < len + 1 → w.heap.size ≤ A.heap.size → Calls Tryd.prog Fy (#[.int .i64 (x.1 : Int), .string (strOfNums (sub g x.1 x.2))] ++ caps) A fun e A' =>
      KeepsOthers A A' ∧ (∀ k, (w.heap.size ≤ k ∧ k < A.heap.size) ∨ k = Bk ∨ k = c → A'.heap[k]? = A.heap[k]?) ∧ ((e = .returned (.bool true) ∧ J (pre ++ [x]) A') ∨ (e = .returned (.bool false) ∧ Jx (pre ++ [x]) A')))
    (h0 : J [] w) :
    Calls Tryd.prog 35 #[.func (.func Fy) #[] caps, .pointer (some ⟨Bk, 0, none⟩)] w fun e W' => (∃ v, e = .returned v) ∧ (J (allL g len) W' ∨ (∃ pre, (pre <+: allL g len ∧ pre ≠ []) ∧ Jx pre W')) := by
  obtain ⟨a, cap, rfl⟩ := hS.len
  exact callsIn_wide.1 (lines1_in Fy caps ey Bk c a len cap g hg w hBk hS hc J Jx hJ hJx hY h0)
end Go.Proofs.YtponficlejjafaaDoor
