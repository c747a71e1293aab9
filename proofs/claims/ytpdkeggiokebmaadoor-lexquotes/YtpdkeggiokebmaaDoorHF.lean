/- Merged: TK, TL. -/
import Derived.BigQuiet
import Derived.Deep.QuietTactic
import Derived.Test.YtpdkeggiokebmaaDoorHE
import Derived.Test.YtpdkeggiokebmaaDoorN4
import Derived.Test.YtpdkeggiokebmaaDoorXA
import Derived.Test.YtpdkeggiokebmaaDoorXO
/- lex's machine: the token that begins at its place, whatever it is. -/
namespace Go.Proofs.YtpdkeggiokebmaaDoor
set_option linter.unusedSimpArgs false
set_option linter.unusedVariables false
open Go.RowKit Go.Shelf

/-- The token that begins at a place, and the open brackets behind it. -/
def tokP (g : Nat → Int) (len at' : Nat) (bs : List Bool) : Option (Int × List Int × Nat × List Bool) :=
  if isL (g at') = true then some (if hasT wordL (strOfNums (sub g at' (stopI isLD g len (at' + 1)))) then 2 else 1, sub g at' (stopI isLD g len (at' + 1)), stopI isLD g len (at' + 1), bs)
  else if isD (g at') = true then (if numOk g len at' = true then some (3, sub g at' (numEnd g len at'), numEnd g len at', bs) else none)
  else if g at' = 34 ∨ g at' = 39 then (quoP g len (g at') at').map fun y => (y.1, y.2.1, y.2.2, bs)
  else if g at' = 96 then pieQ 5 6 bs (pieI g len (at' + 1))
  else if g at' = 125 ∧ lastB bs = true then pieQ 8 7 bs.dropLast (pieI g len (at' + 1))
  else sigQ g len at' bs
theorem tkR_form (at' : Nat) (q : Option (Int × List Int × Nat)) : ∃ k S x e b, tkR at' q = .tuple #[tokV k S x e, .bool b] := by
  cases q with
  | none => exact ⟨_, _, _, _, _, rfl⟩
  | some y => obtain ⟨k, t, e⟩ := y; exact ⟨_, _, _, _, _, rfl⟩
def q3 (q : Option (Int × List Int × Nat × List Bool)) : Option (Int × List Int × Nat) := q.map fun y => (y.1, y.2.1, y.2.2.1)
theorem TokO.val {W : World} {M : Nat} {bv ov : Value} {at' : Nat} {q : Option (Int × List Int × Nat × List Bool)} {x : Ending} {W' : World} (h : TokO W M bv ov at' q x W') : x = .returned (tkR at' (q3 q)) ∧ Fr (fun k => k = M ∨ ov.ownBlock = some k) W W' := by
  cases q with
  | none => exact h
  | some y => obtain ⟨k, t, e, bs⟩ := y; exact ⟨h.1, h.2.2⟩
theorem TokO.lift {W W1 W' W'' : World} {M : Nat} {bv ov : Value} {at' : Nat} {bs : List Bool} {q : Option (Int × List Int × Nat × List Bool)} {x y : Ending} (hB : Below W.heap.size W W1) (hz : W.heap.size < W1.heap.size) (hO : OwnO W M ov bs) (hml : M < W.heap.size) (h : TokO W1 M bv ov at' q x W') (hK : ∀ k, k ≠ W.heap.size → W''.heap[k]? = W'.heap[k]?) (hB6 : Below W.heap.size W' W'') (hy : y = x) : TokO W M bv ov at' q y W'' := by
  subst hy
  have hF : ∀ A, Fr (fun k => k = M ∨ ov.ownBlock = some k) W1 A → Fr (fun k => k = M ∨ ov.ownBlock = some k) W A := fun A hA => ⟨hA.os.trans hB.os, hA.tape.trans hB.tape, hA.output.trans hB.output, Nat.le_trans hB.size hA.size, fun k hk hn => (hA.block k (Nat.lt_of_lt_of_le hk hB.size) hn).trans (hB.block k hk)⟩
  cases q with
  | none => exact ⟨h.1, (hF _ h.2).below hB6⟩
  | some y =>
    obtain ⟨k, t, e, bs'⟩ := y
    obtain ⟨h1, ⟨ov', hM, hO', hob⟩, hf⟩ := h
    refine ⟨h1, ⟨ov', hM.below hB6 hml, hO'.keep fun k hk => hK k ?_, ?_⟩, (hF _ hf).below hB6⟩
    · rcases hob with hob | ⟨k', hk', hl⟩
      · have := (hO.lt (k := k) (by rw [← hob]; exact hk)).2
        omega
      · rw [hk] at hk'
        injection hk' with hk'
        omega
    · rcases hob with hob | ⟨k', hk', hl⟩
      · exact .inl hob
      · exact .inr ⟨k', hk', by omega⟩
theorem TokO.pre {W W3 W' : World} {M : Nat} {bv ov ov' : Value} {at' : Nat} {q : Option (Int × List Int × Nat × List Bool)} {x : Ending} (hF : Fr (fun k => k = M) W W3) (hob : ov'.ownBlock = ov.ownBlock) (h : TokO W3 M bv ov' at' q x W') : TokO W M bv ov at' q x W' := by
  have hF' : ∀ A, Fr (fun k => k = M ∨ ov'.ownBlock = some k) W3 A → Fr (fun k => k = M ∨ ov.ownBlock = some k) W A := fun A hA => (hF.mono (fun k _ e => .inl e)).trans (hA.mono fun k _ e => by rwa [hob] at e)
  cases q with
  | none => exact ⟨h.1, hF' _ h.2⟩
  | some y =>
    obtain ⟨k, t, e, bs'⟩ := y
    obtain ⟨h1, ⟨ov2, hM, hO', ho⟩, hf⟩ := h
    refine ⟨h1, ⟨ov2, hM, hO', ?_⟩, hF' _ hf⟩
    rcases ho with ho | ⟨k', hk', hl⟩
    · exact .inl (ho.trans hob)
    · exact .inr ⟨k', hk', Nat.le_trans hF.size hl⟩
theorem number_post (M c : Nat) (a : Option Addr) (len cap : Nat) (g : Nat → Int) (hg : ∀ j, 0 ≤ g j ∧ g j ≤ 255) (at' : Nat) (ov : Value) (bs : List Bool) (W : World) (h : MAt W M (.slice a len cap) at' ov) (hS : Sl W c (.slice a len cap) len g) (hO : OwnO W M ov bs) (hc : c < W.heap.size) (hat : at' < len) (hD : isD (g at') = true) (hlen : len ≤ 1099511627776) (hE : ErrG W 2) :
    Calls Tryd.prog 51 #[.pointer (some ⟨M, 0, none⟩)] W (TokO W M (.slice a len cap) ov at' (if numOk g len at' = true then some (3, sub g at' (numEnd g len at'), numEnd g len at', bs) else none)) := by
  refine (number_any M c a len cap g hg at' ov W h hS hc hat hD hlen hE).mono ?_
  rintro x W' ⟨rfl, hM, hF⟩
  have hf : Fr (fun k => k = M ∨ ov.ownBlock = some k) W W' := hF.mono fun k _ e => .inl e
  unfold numT
  unfold numAt at hM
  by_cases hk : numOk g len at' = true
  · rw [if_pos hk] at hM ⊢
    rw [hk]
    exact ⟨rfl, ⟨ov, hM, hO.fr hF, OB.refl _ _⟩, hf⟩
  · rw [if_neg hk] at hM ⊢
    have : numOk g len at' = false := by simpa using hk
    rw [this]
    exact ⟨rfl, hf⟩

attribute [local go_sem] tokV
set_option maxRecDepth 100000 in
set_option maxHeartbeats 2000000 in
theorem tokv_num (M c : Nat) (a : Option Addr) (len cap : Nat) (g : Nat → Int) (at' : Nat) (ov : Value) (bs : List Bool) (q : Option (Int × List Int × Nat × List Bool)) (W : World) (h : MAt W M (.slice a len cap) at' ov) (hS : Sl W c (.slice a len cap) len g) (hO : OwnO W M ov bs) (hcM : c < M) (hat : at' < len) (hlen : len ≤ 1099511627776) (hL : isL (g at') = false) (hD : isD (g at') = true)
    (hw : ∀ W1, MAt W1 M (.slice a len cap) at' ov → OwnO W1 M ov bs → Below W.heap.size W W1 → Calls Tryd.prog 51 #[.pointer (some ⟨M, 0, none⟩)] W1 (TokO W1 M (.slice a len cap) ov at' q)) :
    Calls Tryd.prog 35 #[.pointer (some ⟨M, 0, none⟩)] W (TokO W M (.slice a len cap) ov at' q) := by
  have hc : c < W.heap.size := Nat.lt_trans hcM h.lt
  have HW := hide hw
  have HO := hide hO
  clear hw hO
  obtain ⟨W1, hW1⟩ : ∃ W1, W.alloc (.cells #[.int .i64 0, .string ⟨#[]⟩, .int .i64 0, .int .i64 0] 33) = W1 := ⟨_, rfl⟩
  have hB1 : Below W.heap.size W W1 := by rw [← hW1]; exact (Below.refl _ W).alloc (Nat.le_refl _) _
  have hz1 : W1.heap.size = W.heap.size + 1 := by rw [← hW1]; simp
  have hr1 : W1.heap[W.heap.size]? = some (.cells #[.int .i64 0, .string ⟨#[]⟩, .int .i64 0, .int .i64 0] 33) := by rw [← hW1]; exact World.alloc_heap_new W _
  have hM1 := h.below hB1 h.lt
  have hml := h.lt
  have c0 := hM1.c0
  have c1 := hM1.c1
  obtain ⟨off, rfl, h1, h2, hcs⟩ := unhide (sl_cells (hS.keep (B := W1) (fun k e => by subst e; exact hB1.block k hc))) (by omega)
  unfold maxLen at h2
  have hck := hcs at' hat
  have n1 : (at' : Int) < len := by omega
  clear hcs hS h
  obtain ⟨k, S, x0, e', ok, hfm⟩ := tkR_form at' (q3 q)
  have HFM := hide hfm
  clear hfm
  go_enter Tryd.func35, Tryd.ntmps35
  go_wp2
  clear hW1
  go_quiet (fail)
  have hBd : Below W1.heap.size W1 (W1.drewN nq) := ⟨rfl, rfl, rfl, Nat.le_refl _, fun _ _ => rfl⟩
  have hB2 : Below W.heap.size W (W1.drewN nq) := hB1.trans (hBd.mono hB1.size)
  have HT := hide (unhide HW (W1.drewN nq) (hM1.below hBd hM1.lt) ((unhide HO).below hB2 (Nat.le_refl _)) hB2)
  have HZ : Hid (W.heap.size < (W1.drewN nq).heap.size) := by show W.heap.size < W1.heap.size; omega
  have HR : Hid ((W1.drewN nq).heap[W.heap.size]? = some (.cells #[.int .i64 0, .string ⟨#[]⟩, .int .i64 0, .int .i64 0] 33)) := hr1
  have HLIFT : Hid (∀ W3 x, TokO (W1.drewN nq) M (.slice (some ⟨c, off, none⟩) len cap) ov at' q x W3 → TokO (W1.drewN nq) M (.slice (some ⟨c, off, none⟩) len cap) ov at' q x W3) := fun _ _ h => h
  go_wp2_with (first | (go_at_call 48; refine (isLetter_any _ _).mono ?_; rintro x w' ⟨rfl, hw⟩; subst w') | (go_at_call 50; refine (isDigit_any _ _).mono ?_; rintro x w' ⟨rfl, hw⟩; subst w') | (go_at_call 51; refine (unhide HT).mono ?_; rintro x W3 hT3; have hv3 := hT3.val; have hxr := hv3.1; have hF3 := hv3.2; rw [unhide HFM] at hxr; subst hxr; have HT3 := hide hT3; clear hT3 hv3; have hr3 : W3.heap[W.heap.size]? = some (.cells #[.int .i64 0, .string ⟨#[]⟩, .int .i64 0, .int .i64 0] 33) := (hF3.block W.heap.size (by have := unhide HZ; omega) (by rintro (e | e) <;> first | omega | (have := ((unhide HO).lt e).2; omega))).trans (unhide HR); obtain ⟨d0, d1, d2, d3⟩ := tok_cells hr3; have d4 := Lib.frozen_of_heap hr3; have d5 : W3.shape? W.heap.size = some (33, 4) := (by simp [World.shape?, hr3])))
  have hB4 := put4_below (W := W3) (Nat.le_refl W.heap.size) (.int .i64 k) (.string S) (.int .i64 x0) (.int .i64 e')
  have hr4 := put4_heap hr3 (.int .i64 k) (.string S) (.int .i64 x0) (.int .i64 e')
  have hK4 : ∀ j, j ≠ W.heap.size → ((((W3.setCell ⟨W.heap.size, 0, none⟩ (.int .i64 k)).setCell ⟨W.heap.size, 1, none⟩ (.string S)).setCell ⟨W.heap.size, 2, none⟩ (.int .i64 x0)).setCell ⟨W.heap.size, 3, none⟩ (.int .i64 e')).heap[j]? = W3.heap[j]? := fun j hj => put4_keep hj _ _ _ _
  obtain ⟨W4, hW4⟩ : ∃ W4, ((((W3.setCell ⟨W.heap.size, 0, none⟩ (.int .i64 k)).setCell ⟨W.heap.size, 1, none⟩ (.string S)).setCell ⟨W.heap.size, 2, none⟩ (.int .i64 x0)).setCell ⟨W.heap.size, 3, none⟩ (.int .i64 e')) = W4 := ⟨_, rfl⟩
  rw [hW4] at hB4 hr4 hK4 ⊢
  clear hW4
  obtain ⟨e0, e1, e2, e3⟩ := tok_cells hr4
  refine bodyPost_ret (v := .tuple #[.agg #[.int .i64 k, .string S, .int .i64 x0, .int .i64 e'], .bool ok]) ?_ rfl (TokO.lift (W1 := W1.drewN nq) hB2 (by show W.heap.size < W1.heap.size; omega) (unhide HO) hml (unhide HLIFT W3 _ (unhide HT3)) hK4 hB4 rfl)
  clear d0 d1 d2 d3 d4 d5
  simp [results, Tryd.results35, go_sem, e0, e1, e2, e3]
set_option maxRecDepth 100000 in
set_option maxHeartbeats 2000000 in
theorem tokv_quo34 (M c : Nat) (a : Option Addr) (len cap : Nat) (g : Nat → Int) (at' : Nat) (ov : Value) (bs : List Bool) (q : Option (Int × List Int × Nat × List Bool)) (W : World) (h : MAt W M (.slice a len cap) at' ov) (hS : Sl W c (.slice a len cap) len g) (hO : OwnO W M ov bs) (hcM : c < M) (hat : at' < len) (hlen : len ≤ 1099511627776) (q1 : g at' = 34)
    (hw : ∀ W1, MAt W1 M (.slice a len cap) at' ov → OwnO W1 M ov bs → Below W.heap.size W W1 → Calls Tryd.prog 52 #[.pointer (some ⟨M, 0, none⟩), .int .i32 34] W1 (TokO W1 M (.slice a len cap) ov at' q)) :
    Calls Tryd.prog 35 #[.pointer (some ⟨M, 0, none⟩)] W (TokO W M (.slice a len cap) ov at' q) := by
  have hc : c < W.heap.size := Nat.lt_trans hcM h.lt
  have HW := hide hw
  have HO := hide hO
  clear hw hO
  obtain ⟨W1, hW1⟩ : ∃ W1, W.alloc (.cells #[.int .i64 0, .string ⟨#[]⟩, .int .i64 0, .int .i64 0] 33) = W1 := ⟨_, rfl⟩
  have hB1 : Below W.heap.size W W1 := by rw [← hW1]; exact (Below.refl _ W).alloc (Nat.le_refl _) _
  have hz1 : W1.heap.size = W.heap.size + 1 := by rw [← hW1]; simp
  have hr1 : W1.heap[W.heap.size]? = some (.cells #[.int .i64 0, .string ⟨#[]⟩, .int .i64 0, .int .i64 0] 33) := by rw [← hW1]; exact World.alloc_heap_new W _
  have hM1 := h.below hB1 h.lt
  have hml := h.lt
  have c0 := hM1.c0
  have c1 := hM1.c1
  obtain ⟨off, rfl, h1, h2, hcs⟩ := unhide (sl_cells (hS.keep (B := W1) (fun k e => by subst e; exact hB1.block k hc))) (by omega)
  unfold maxLen at h2
  have hck := hcs at' hat
  have n1 : (at' : Int) < len := by omega
  clear hcs hS h
  rw [q1] at hck
  have hL : isL 34 = false := by decide
  have hD : isD 34 = false := by decide
  obtain ⟨k, S, x0, e', ok, hfm⟩ := tkR_form at' (q3 q)
  have HFM := hide hfm
  clear hfm
  go_enter Tryd.func35, Tryd.ntmps35
  go_wp2
  clear hW1
  go_quiet (fail)
  have hBd : Below W1.heap.size W1 (W1.drewN nq) := ⟨rfl, rfl, rfl, Nat.le_refl _, fun _ _ => rfl⟩
  have hB2 : Below W.heap.size W (W1.drewN nq) := hB1.trans (hBd.mono hB1.size)
  have HT := hide (unhide HW (W1.drewN nq) (hM1.below hBd hM1.lt) ((unhide HO).below hB2 (Nat.le_refl _)) hB2)
  have HZ : Hid (W.heap.size < (W1.drewN nq).heap.size) := by show W.heap.size < W1.heap.size; omega
  have HR : Hid ((W1.drewN nq).heap[W.heap.size]? = some (.cells #[.int .i64 0, .string ⟨#[]⟩, .int .i64 0, .int .i64 0] 33)) := hr1
  have HLIFT : Hid (∀ W3 x, TokO (W1.drewN nq) M (.slice (some ⟨c, off, none⟩) len cap) ov at' q x W3 → TokO (W1.drewN nq) M (.slice (some ⟨c, off, none⟩) len cap) ov at' q x W3) := fun _ _ h => h
  go_wp2_with (first | (go_at_call 48; refine (isLetter_any _ _).mono ?_; rintro x w' ⟨rfl, hw⟩; subst w') | (go_at_call 50; refine (isDigit_any _ _).mono ?_; rintro x w' ⟨rfl, hw⟩; subst w') | (go_at_call 52; refine (unhide HT).mono ?_; rintro x W3 hT3; have hv3 := hT3.val; have hxr := hv3.1; have hF3 := hv3.2; rw [unhide HFM] at hxr; subst hxr; have HT3 := hide hT3; clear hT3 hv3; have hr3 : W3.heap[W.heap.size]? = some (.cells #[.int .i64 0, .string ⟨#[]⟩, .int .i64 0, .int .i64 0] 33) := (hF3.block W.heap.size (by have := unhide HZ; omega) (by rintro (e | e) <;> first | omega | (have := ((unhide HO).lt e).2; omega))).trans (unhide HR); obtain ⟨d0, d1, d2, d3⟩ := tok_cells hr3; have d4 := Lib.frozen_of_heap hr3; have d5 : W3.shape? W.heap.size = some (33, 4) := (by simp [World.shape?, hr3])))
  have hB4 := put4_below (W := W3) (Nat.le_refl W.heap.size) (.int .i64 k) (.string S) (.int .i64 x0) (.int .i64 e')
  have hr4 := put4_heap hr3 (.int .i64 k) (.string S) (.int .i64 x0) (.int .i64 e')
  have hK4 : ∀ j, j ≠ W.heap.size → ((((W3.setCell ⟨W.heap.size, 0, none⟩ (.int .i64 k)).setCell ⟨W.heap.size, 1, none⟩ (.string S)).setCell ⟨W.heap.size, 2, none⟩ (.int .i64 x0)).setCell ⟨W.heap.size, 3, none⟩ (.int .i64 e')).heap[j]? = W3.heap[j]? := fun j hj => put4_keep hj _ _ _ _
  obtain ⟨W4, hW4⟩ : ∃ W4, ((((W3.setCell ⟨W.heap.size, 0, none⟩ (.int .i64 k)).setCell ⟨W.heap.size, 1, none⟩ (.string S)).setCell ⟨W.heap.size, 2, none⟩ (.int .i64 x0)).setCell ⟨W.heap.size, 3, none⟩ (.int .i64 e')) = W4 := ⟨_, rfl⟩
  rw [hW4] at hB4 hr4 hK4 ⊢
  clear hW4
  obtain ⟨e0, e1, e2, e3⟩ := tok_cells hr4
  refine bodyPost_ret (v := .tuple #[.agg #[.int .i64 k, .string S, .int .i64 x0, .int .i64 e'], .bool ok]) ?_ rfl (TokO.lift (W1 := W1.drewN nq) hB2 (by show W.heap.size < W1.heap.size; omega) (unhide HO) hml (unhide HLIFT W3 _ (unhide HT3)) hK4 hB4 rfl)
  clear d0 d1 d2 d3 d4 d5
  simp [results, Tryd.results35, go_sem, e0, e1, e2, e3]
set_option maxRecDepth 100000 in
set_option maxHeartbeats 2000000 in
theorem tokv_quo39 (M c : Nat) (a : Option Addr) (len cap : Nat) (g : Nat → Int) (at' : Nat) (ov : Value) (bs : List Bool) (q : Option (Int × List Int × Nat × List Bool)) (W : World) (h : MAt W M (.slice a len cap) at' ov) (hS : Sl W c (.slice a len cap) len g) (hO : OwnO W M ov bs) (hcM : c < M) (hat : at' < len) (hlen : len ≤ 1099511627776) (q1 : g at' = 39)
    (hw : ∀ W1, MAt W1 M (.slice a len cap) at' ov → OwnO W1 M ov bs → Below W.heap.size W W1 → Calls Tryd.prog 52 #[.pointer (some ⟨M, 0, none⟩), .int .i32 39] W1 (TokO W1 M (.slice a len cap) ov at' q)) :
    Calls Tryd.prog 35 #[.pointer (some ⟨M, 0, none⟩)] W (TokO W M (.slice a len cap) ov at' q) := by
  have hc : c < W.heap.size := Nat.lt_trans hcM h.lt
  have HW := hide hw
  have HO := hide hO
  clear hw hO
  obtain ⟨W1, hW1⟩ : ∃ W1, W.alloc (.cells #[.int .i64 0, .string ⟨#[]⟩, .int .i64 0, .int .i64 0] 33) = W1 := ⟨_, rfl⟩
  have hB1 : Below W.heap.size W W1 := by rw [← hW1]; exact (Below.refl _ W).alloc (Nat.le_refl _) _
  have hz1 : W1.heap.size = W.heap.size + 1 := by rw [← hW1]; simp
  have hr1 : W1.heap[W.heap.size]? = some (.cells #[.int .i64 0, .string ⟨#[]⟩, .int .i64 0, .int .i64 0] 33) := by rw [← hW1]; exact World.alloc_heap_new W _
  have hM1 := h.below hB1 h.lt
  have hml := h.lt
  have c0 := hM1.c0
  have c1 := hM1.c1
  obtain ⟨off, rfl, h1, h2, hcs⟩ := unhide (sl_cells (hS.keep (B := W1) (fun k e => by subst e; exact hB1.block k hc))) (by omega)
  unfold maxLen at h2
  have hck := hcs at' hat
  have n1 : (at' : Int) < len := by omega
  clear hcs hS h
  rw [q1] at hck
  have hL : isL 39 = false := by decide
  have hD : isD 39 = false := by decide
  obtain ⟨k, S, x0, e', ok, hfm⟩ := tkR_form at' (q3 q)
  have HFM := hide hfm
  clear hfm
  go_enter Tryd.func35, Tryd.ntmps35
  go_wp2
  clear hW1
  go_quiet (fail)
  have hBd : Below W1.heap.size W1 (W1.drewN nq) := ⟨rfl, rfl, rfl, Nat.le_refl _, fun _ _ => rfl⟩
  have hB2 : Below W.heap.size W (W1.drewN nq) := hB1.trans (hBd.mono hB1.size)
  have HT := hide (unhide HW (W1.drewN nq) (hM1.below hBd hM1.lt) ((unhide HO).below hB2 (Nat.le_refl _)) hB2)
  have HZ : Hid (W.heap.size < (W1.drewN nq).heap.size) := by show W.heap.size < W1.heap.size; omega
  have HR : Hid ((W1.drewN nq).heap[W.heap.size]? = some (.cells #[.int .i64 0, .string ⟨#[]⟩, .int .i64 0, .int .i64 0] 33)) := hr1
  have HLIFT : Hid (∀ W3 x, TokO (W1.drewN nq) M (.slice (some ⟨c, off, none⟩) len cap) ov at' q x W3 → TokO (W1.drewN nq) M (.slice (some ⟨c, off, none⟩) len cap) ov at' q x W3) := fun _ _ h => h
  go_wp2_with (first | (go_at_call 48; refine (isLetter_any _ _).mono ?_; rintro x w' ⟨rfl, hw⟩; subst w') | (go_at_call 50; refine (isDigit_any _ _).mono ?_; rintro x w' ⟨rfl, hw⟩; subst w') | (go_at_call 52; refine (unhide HT).mono ?_; rintro x W3 hT3; have hv3 := hT3.val; have hxr := hv3.1; have hF3 := hv3.2; rw [unhide HFM] at hxr; subst hxr; have HT3 := hide hT3; clear hT3 hv3; have hr3 : W3.heap[W.heap.size]? = some (.cells #[.int .i64 0, .string ⟨#[]⟩, .int .i64 0, .int .i64 0] 33) := (hF3.block W.heap.size (by have := unhide HZ; omega) (by rintro (e | e) <;> first | omega | (have := ((unhide HO).lt e).2; omega))).trans (unhide HR); obtain ⟨d0, d1, d2, d3⟩ := tok_cells hr3; have d4 := Lib.frozen_of_heap hr3; have d5 : W3.shape? W.heap.size = some (33, 4) := (by simp [World.shape?, hr3])))
  have hB4 := put4_below (W := W3) (Nat.le_refl W.heap.size) (.int .i64 k) (.string S) (.int .i64 x0) (.int .i64 e')
  have hr4 := put4_heap hr3 (.int .i64 k) (.string S) (.int .i64 x0) (.int .i64 e')
  have hK4 : ∀ j, j ≠ W.heap.size → ((((W3.setCell ⟨W.heap.size, 0, none⟩ (.int .i64 k)).setCell ⟨W.heap.size, 1, none⟩ (.string S)).setCell ⟨W.heap.size, 2, none⟩ (.int .i64 x0)).setCell ⟨W.heap.size, 3, none⟩ (.int .i64 e')).heap[j]? = W3.heap[j]? := fun j hj => put4_keep hj _ _ _ _
  obtain ⟨W4, hW4⟩ : ∃ W4, ((((W3.setCell ⟨W.heap.size, 0, none⟩ (.int .i64 k)).setCell ⟨W.heap.size, 1, none⟩ (.string S)).setCell ⟨W.heap.size, 2, none⟩ (.int .i64 x0)).setCell ⟨W.heap.size, 3, none⟩ (.int .i64 e')) = W4 := ⟨_, rfl⟩
  rw [hW4] at hB4 hr4 hK4 ⊢
  clear hW4
  obtain ⟨e0, e1, e2, e3⟩ := tok_cells hr4
  refine bodyPost_ret (v := .tuple #[.agg #[.int .i64 k, .string S, .int .i64 x0, .int .i64 e'], .bool ok]) ?_ rfl (TokO.lift (W1 := W1.drewN nq) hB2 (by show W.heap.size < W1.heap.size; omega) (unhide HO) hml (unhide HLIFT W3 _ (unhide HT3)) hK4 hB4 rfl)
  clear d0 d1 d2 d3 d4 d5
  simp [results, Tryd.results35, go_sem, e0, e1, e2, e3]
set_option maxRecDepth 100000 in
set_option maxHeartbeats 2000000 in
theorem tokv_tpl (M c : Nat) (a : Option Addr) (len cap : Nat) (g : Nat → Int) (at' : Nat) (ov : Value) (bs : List Bool) (q : Option (Int × List Int × Nat × List Bool)) (W : World) (h : MAt W M (.slice a len cap) at' ov) (hS : Sl W c (.slice a len cap) len g) (hO : OwnO W M ov bs) (hcM : c < M) (hat : at' < len) (hlen : len ≤ 1099511627776) (q1 : g at' = 96)
    (hw : ∀ W1, MAt W1 M (.slice a len cap) at' ov → OwnO W1 M ov bs → Below W.heap.size W W1 → Calls Tryd.prog 53 #[.pointer (some ⟨M, 0, none⟩), .int .i64 5, .int .i64 6] W1 (TokO W1 M (.slice a len cap) ov at' q)) :
    Calls Tryd.prog 35 #[.pointer (some ⟨M, 0, none⟩)] W (TokO W M (.slice a len cap) ov at' q) := by
  have hc : c < W.heap.size := Nat.lt_trans hcM h.lt
  have HW := hide hw
  have HO := hide hO
  clear hw hO
  obtain ⟨W1, hW1⟩ : ∃ W1, W.alloc (.cells #[.int .i64 0, .string ⟨#[]⟩, .int .i64 0, .int .i64 0] 33) = W1 := ⟨_, rfl⟩
  have hB1 : Below W.heap.size W W1 := by rw [← hW1]; exact (Below.refl _ W).alloc (Nat.le_refl _) _
  have hz1 : W1.heap.size = W.heap.size + 1 := by rw [← hW1]; simp
  have hr1 : W1.heap[W.heap.size]? = some (.cells #[.int .i64 0, .string ⟨#[]⟩, .int .i64 0, .int .i64 0] 33) := by rw [← hW1]; exact World.alloc_heap_new W _
  have hM1 := h.below hB1 h.lt
  have hml := h.lt
  have c0 := hM1.c0
  have c1 := hM1.c1
  obtain ⟨off, rfl, h1, h2, hcs⟩ := unhide (sl_cells (hS.keep (B := W1) (fun k e => by subst e; exact hB1.block k hc))) (by omega)
  unfold maxLen at h2
  have hck := hcs at' hat
  have n1 : (at' : Int) < len := by omega
  clear hcs hS h
  rw [q1] at hck
  have hL : isL 96 = false := by decide
  have hD : isD 96 = false := by decide
  obtain ⟨k, S, x0, e', ok, hfm⟩ := tkR_form at' (q3 q)
  have HFM := hide hfm
  clear hfm
  go_enter Tryd.func35, Tryd.ntmps35
  go_wp2
  clear hW1
  go_quiet (fail)
  have hBd : Below W1.heap.size W1 (W1.drewN nq) := ⟨rfl, rfl, rfl, Nat.le_refl _, fun _ _ => rfl⟩
  have hB2 : Below W.heap.size W (W1.drewN nq) := hB1.trans (hBd.mono hB1.size)
  have HT := hide (unhide HW (W1.drewN nq) (hM1.below hBd hM1.lt) ((unhide HO).below hB2 (Nat.le_refl _)) hB2)
  have HZ : Hid (W.heap.size < (W1.drewN nq).heap.size) := by show W.heap.size < W1.heap.size; omega
  have HR : Hid ((W1.drewN nq).heap[W.heap.size]? = some (.cells #[.int .i64 0, .string ⟨#[]⟩, .int .i64 0, .int .i64 0] 33)) := hr1
  have HLIFT : Hid (∀ W3 x, TokO (W1.drewN nq) M (.slice (some ⟨c, off, none⟩) len cap) ov at' q x W3 → TokO (W1.drewN nq) M (.slice (some ⟨c, off, none⟩) len cap) ov at' q x W3) := fun _ _ h => h
  go_wp2_with (first | (go_at_call 48; refine (isLetter_any _ _).mono ?_; rintro x w' ⟨rfl, hw⟩; subst w') | (go_at_call 50; refine (isDigit_any _ _).mono ?_; rintro x w' ⟨rfl, hw⟩; subst w') | (go_at_call 53; refine (unhide HT).mono ?_; rintro x W3 hT3; have hv3 := hT3.val; have hxr := hv3.1; have hF3 := hv3.2; rw [unhide HFM] at hxr; subst hxr; have HT3 := hide hT3; clear hT3 hv3; have hr3 : W3.heap[W.heap.size]? = some (.cells #[.int .i64 0, .string ⟨#[]⟩, .int .i64 0, .int .i64 0] 33) := (hF3.block W.heap.size (by have := unhide HZ; omega) (by rintro (e | e) <;> first | omega | (have := ((unhide HO).lt e).2; omega))).trans (unhide HR); obtain ⟨d0, d1, d2, d3⟩ := tok_cells hr3; have d4 := Lib.frozen_of_heap hr3; have d5 : W3.shape? W.heap.size = some (33, 4) := (by simp [World.shape?, hr3])))
  have hB4 := put4_below (W := W3) (Nat.le_refl W.heap.size) (.int .i64 k) (.string S) (.int .i64 x0) (.int .i64 e')
  have hr4 := put4_heap hr3 (.int .i64 k) (.string S) (.int .i64 x0) (.int .i64 e')
  have hK4 : ∀ j, j ≠ W.heap.size → ((((W3.setCell ⟨W.heap.size, 0, none⟩ (.int .i64 k)).setCell ⟨W.heap.size, 1, none⟩ (.string S)).setCell ⟨W.heap.size, 2, none⟩ (.int .i64 x0)).setCell ⟨W.heap.size, 3, none⟩ (.int .i64 e')).heap[j]? = W3.heap[j]? := fun j hj => put4_keep hj _ _ _ _
  obtain ⟨W4, hW4⟩ : ∃ W4, ((((W3.setCell ⟨W.heap.size, 0, none⟩ (.int .i64 k)).setCell ⟨W.heap.size, 1, none⟩ (.string S)).setCell ⟨W.heap.size, 2, none⟩ (.int .i64 x0)).setCell ⟨W.heap.size, 3, none⟩ (.int .i64 e')) = W4 := ⟨_, rfl⟩
  rw [hW4] at hB4 hr4 hK4 ⊢
  clear hW4
  obtain ⟨e0, e1, e2, e3⟩ := tok_cells hr4
  refine bodyPost_ret (v := .tuple #[.agg #[.int .i64 k, .string S, .int .i64 x0, .int .i64 e'], .bool ok]) ?_ rfl (TokO.lift (W1 := W1.drewN nq) hB2 (by show W.heap.size < W1.heap.size; omega) (unhide HO) hml (unhide HLIFT W3 _ (unhide HT3)) hK4 hB4 rfl)
  clear d0 d1 d2 d3 d4 d5
  simp [results, Tryd.results35, go_sem, e0, e1, e2, e3]
set_option maxRecDepth 100000 in
set_option maxHeartbeats 2000000 in
theorem tokv_sgn (M c : Nat) (a : Option Addr) (len cap : Nat) (g : Nat → Int) (at' : Nat) (ov : Value) (bs : List Bool) (q : Option (Int × List Int × Nat × List Bool)) (W : World) (h : MAt W M (.slice a len cap) at' ov) (hS : Sl W c (.slice a len cap) len g) (hO : OwnO W M ov bs) (hcM : c < M) (hat : at' < len) (hlen : len ≤ 1099511627776) (hL : isL (g at') = false) (hD : isD (g at') = false) (q1 : g at' ≠ 34) (q2 : g at' ≠ 39) (q3' : g at' ≠ 96) (q4 : g at' ≠ 125)
    (hw : ∀ W1, MAt W1 M (.slice a len cap) at' ov → OwnO W1 M ov bs → Below W.heap.size W W1 → Calls Tryd.prog 56 #[.pointer (some ⟨M, 0, none⟩)] W1 (TokO W1 M (.slice a len cap) ov at' q)) :
    Calls Tryd.prog 35 #[.pointer (some ⟨M, 0, none⟩)] W (TokO W M (.slice a len cap) ov at' q) := by
  have hc : c < W.heap.size := Nat.lt_trans hcM h.lt
  have HW := hide hw
  have HO := hide hO
  clear hw hO
  obtain ⟨W1, hW1⟩ : ∃ W1, W.alloc (.cells #[.int .i64 0, .string ⟨#[]⟩, .int .i64 0, .int .i64 0] 33) = W1 := ⟨_, rfl⟩
  have hB1 : Below W.heap.size W W1 := by rw [← hW1]; exact (Below.refl _ W).alloc (Nat.le_refl _) _
  have hz1 : W1.heap.size = W.heap.size + 1 := by rw [← hW1]; simp
  have hr1 : W1.heap[W.heap.size]? = some (.cells #[.int .i64 0, .string ⟨#[]⟩, .int .i64 0, .int .i64 0] 33) := by rw [← hW1]; exact World.alloc_heap_new W _
  have hM1 := h.below hB1 h.lt
  have hml := h.lt
  have c0 := hM1.c0
  have c1 := hM1.c1
  obtain ⟨off, rfl, h1, h2, hcs⟩ := unhide (sl_cells (hS.keep (B := W1) (fun k e => by subst e; exact hB1.block k hc))) (by omega)
  unfold maxLen at h2
  have hck := hcs at' hat
  have n1 : (at' : Int) < len := by omega
  clear hcs hS h
  have b1 : (g at' == 34) = false := by simpa using q1
  have b2 : (g at' == 39) = false := by simpa using q2
  have b3 : (g at' == 96) = false := by simpa using q3'
  have b4 : (g at' == 125) = false := by simpa using q4
  obtain ⟨k, S, x0, e', ok, hfm⟩ := tkR_form at' (q3 q)
  have HFM := hide hfm
  clear hfm
  go_enter Tryd.func35, Tryd.ntmps35
  go_wp2
  clear hW1
  go_quiet (fail)
  have hBd : Below W1.heap.size W1 (W1.drewN nq) := ⟨rfl, rfl, rfl, Nat.le_refl _, fun _ _ => rfl⟩
  have hB2 : Below W.heap.size W (W1.drewN nq) := hB1.trans (hBd.mono hB1.size)
  have HT := hide (unhide HW (W1.drewN nq) (hM1.below hBd hM1.lt) ((unhide HO).below hB2 (Nat.le_refl _)) hB2)
  have HZ : Hid (W.heap.size < (W1.drewN nq).heap.size) := by show W.heap.size < W1.heap.size; omega
  have HR : Hid ((W1.drewN nq).heap[W.heap.size]? = some (.cells #[.int .i64 0, .string ⟨#[]⟩, .int .i64 0, .int .i64 0] 33)) := hr1
  have HLIFT : Hid (∀ W3 x, TokO (W1.drewN nq) M (.slice (some ⟨c, off, none⟩) len cap) ov at' q x W3 → TokO (W1.drewN nq) M (.slice (some ⟨c, off, none⟩) len cap) ov at' q x W3) := fun _ _ h => h
  go_wp2_with (first | (go_at_call 48; refine (isLetter_any _ _).mono ?_; rintro x w' ⟨rfl, hw⟩; subst w') | (go_at_call 50; refine (isDigit_any _ _).mono ?_; rintro x w' ⟨rfl, hw⟩; subst w') | (go_at_call 56; refine (unhide HT).mono ?_; rintro x W3 hT3; have hv3 := hT3.val; have hxr := hv3.1; have hF3 := hv3.2; rw [unhide HFM] at hxr; subst hxr; have HT3 := hide hT3; clear hT3 hv3; have hr3 : W3.heap[W.heap.size]? = some (.cells #[.int .i64 0, .string ⟨#[]⟩, .int .i64 0, .int .i64 0] 33) := (hF3.block W.heap.size (by have := unhide HZ; omega) (by rintro (e | e) <;> first | omega | (have := ((unhide HO).lt e).2; omega))).trans (unhide HR); obtain ⟨d0, d1, d2, d3⟩ := tok_cells hr3; have d4 := Lib.frozen_of_heap hr3; have d5 : W3.shape? W.heap.size = some (33, 4) := (by simp [World.shape?, hr3])))
  have hB4 := put4_below (W := W3) (Nat.le_refl W.heap.size) (.int .i64 k) (.string S) (.int .i64 x0) (.int .i64 e')
  have hr4 := put4_heap hr3 (.int .i64 k) (.string S) (.int .i64 x0) (.int .i64 e')
  have hK4 : ∀ j, j ≠ W.heap.size → ((((W3.setCell ⟨W.heap.size, 0, none⟩ (.int .i64 k)).setCell ⟨W.heap.size, 1, none⟩ (.string S)).setCell ⟨W.heap.size, 2, none⟩ (.int .i64 x0)).setCell ⟨W.heap.size, 3, none⟩ (.int .i64 e')).heap[j]? = W3.heap[j]? := fun j hj => put4_keep hj _ _ _ _
  obtain ⟨W4, hW4⟩ : ∃ W4, ((((W3.setCell ⟨W.heap.size, 0, none⟩ (.int .i64 k)).setCell ⟨W.heap.size, 1, none⟩ (.string S)).setCell ⟨W.heap.size, 2, none⟩ (.int .i64 x0)).setCell ⟨W.heap.size, 3, none⟩ (.int .i64 e')) = W4 := ⟨_, rfl⟩
  rw [hW4] at hB4 hr4 hK4 ⊢
  clear hW4
  obtain ⟨e0, e1, e2, e3⟩ := tok_cells hr4
  refine bodyPost_ret (v := .tuple #[.agg #[.int .i64 k, .string S, .int .i64 x0, .int .i64 e'], .bool ok]) ?_ rfl (TokO.lift (W1 := W1.drewN nq) hB2 (by show W.heap.size < W1.heap.size; omega) (unhide HO) hml (unhide HLIFT W3 _ (unhide HT3)) hK4 hB4 rfl)
  clear d0 d1 d2 d3 d4 d5
  simp [results, Tryd.results35, go_sem, e0, e1, e2, e3]
set_option maxRecDepth 100000 in
set_option maxHeartbeats 2000000 in
theorem tokv_cls (M c : Nat) (a : Option Addr) (len cap : Nat) (g : Nat → Int) (at' : Nat) (ov : Value) (bs : List Bool) (q : Option (Int × List Int × Nat × List Bool)) (W : World) (h : MAt W M (.slice a len cap) at' ov) (hS : Sl W c (.slice a len cap) len g) (hO : OwnO W M ov bs) (hcM : c < M) (hat : at' < len) (hlen : len ≤ 1099511627776) (q1 : g at' = 125) (hlb : lastB bs = false)
    (hw : ∀ W1, MAt W1 M (.slice a len cap) at' ov → OwnO W1 M ov bs → Below W.heap.size W W1 → Calls Tryd.prog 56 #[.pointer (some ⟨M, 0, none⟩)] W1 (TokO W1 M (.slice a len cap) ov at' q)) :
    Calls Tryd.prog 35 #[.pointer (some ⟨M, 0, none⟩)] W (TokO W M (.slice a len cap) ov at' q) := by
  have hc : c < W.heap.size := Nat.lt_trans hcM h.lt
  have HW := hide hw
  have HO := hide hO
  clear hw hO
  obtain ⟨W1, hW1⟩ : ∃ W1, W.alloc (.cells #[.int .i64 0, .string ⟨#[]⟩, .int .i64 0, .int .i64 0] 33) = W1 := ⟨_, rfl⟩
  have hB1 : Below W.heap.size W W1 := by rw [← hW1]; exact (Below.refl _ W).alloc (Nat.le_refl _) _
  have hz1 : W1.heap.size = W.heap.size + 1 := by rw [← hW1]; simp
  have hr1 : W1.heap[W.heap.size]? = some (.cells #[.int .i64 0, .string ⟨#[]⟩, .int .i64 0, .int .i64 0] 33) := by rw [← hW1]; exact World.alloc_heap_new W _
  have hM1 := h.below hB1 h.lt
  have hml := h.lt
  have c0 := hM1.c0
  have c1 := hM1.c1
  obtain ⟨off, rfl, h1, h2, hcs⟩ := unhide (sl_cells (hS.keep (B := W1) (fun k e => by subst e; exact hB1.block k hc))) (by omega)
  unfold maxLen at h2
  have hck := hcs at' hat
  have n1 : (at' : Int) < len := by omega
  clear hcs hS h
  rw [q1] at hck
  have hL : isL 125 = false := by decide
  have hD : isD 125 = false := by decide
  obtain ⟨k, S, x0, e', ok, hfm⟩ := tkR_form at' (q3 q)
  have HFM := hide hfm
  clear hfm
  go_enter Tryd.func35, Tryd.ntmps35
  go_wp2
  clear hW1
  go_quiet (fail)
  have hBd : Below W1.heap.size W1 (W1.drewN nq) := ⟨rfl, rfl, rfl, Nat.le_refl _, fun _ _ => rfl⟩
  have hB2 : Below W.heap.size W (W1.drewN nq) := hB1.trans (hBd.mono hB1.size)
  have HIH := hide (inHole_any M _ ov at' bs (W1.drewN nq) (hM1.below hBd hM1.lt) ((unhide HO).below hB2 (Nat.le_refl _)).opn)
  rw [hlb] at HIH
  go_wp2_with (first | (go_at_call 48; refine (isLetter_any _ _).mono ?_; rintro x w' ⟨rfl, hw⟩; subst w') | (go_at_call 50; refine (isDigit_any _ _).mono ?_; rintro x w' ⟨rfl, hw⟩; subst w') | (go_at_call 54; refine (unhide HIH).mono ?_; rintro x W2 ⟨rfl, hBh⟩; have hB2' := hB2.trans (hBh.mono hB2.size); have hM2 := (hM1.below hBd hM1.lt).below hBh (by show M < W1.heap.size; omega); have HT := hide (unhide HW W2 hM2 ((unhide HO).below hB2' (Nat.le_refl _)) hB2'); have HZ : Hid (W.heap.size < W2.heap.size) := (by have := hBh.size; show W.heap.size < W2.heap.size; have e1 : (W1.drewN nq).heap.size = W1.heap.size := rfl; omega); have HR : Hid (W2.heap[W.heap.size]? = some (.cells #[.int .i64 0, .string ⟨#[]⟩, .int .i64 0, .int .i64 0] 33)) := (hBh.block W.heap.size (by show W.heap.size < W1.heap.size; omega)).trans hr1) | (go_at_call 56; refine (unhide HT).mono ?_; rintro x W3 hT3; have hv3 := hT3.val; have hxr := hv3.1; have hF3 := hv3.2; rw [unhide HFM] at hxr; subst hxr; have HT3 := hide hT3; clear hT3 hv3; have hr3 : W3.heap[W.heap.size]? = some (.cells #[.int .i64 0, .string ⟨#[]⟩, .int .i64 0, .int .i64 0] 33) := (hF3.block W.heap.size (by have := unhide HZ; omega) (by rintro (e | e) <;> first | omega | (have := ((unhide HO).lt e).2; omega))).trans (unhide HR); obtain ⟨d0, d1, d2, d3⟩ := tok_cells hr3; have d4 := Lib.frozen_of_heap hr3; have d5 : W3.shape? W.heap.size = some (33, 4) := (by simp [World.shape?, hr3])))
  have hB4 := put4_below (W := W3) (Nat.le_refl W.heap.size) (.int .i64 k) (.string S) (.int .i64 x0) (.int .i64 e')
  have hr4 := put4_heap hr3 (.int .i64 k) (.string S) (.int .i64 x0) (.int .i64 e')
  have hK4 : ∀ j, j ≠ W.heap.size → ((((W3.setCell ⟨W.heap.size, 0, none⟩ (.int .i64 k)).setCell ⟨W.heap.size, 1, none⟩ (.string S)).setCell ⟨W.heap.size, 2, none⟩ (.int .i64 x0)).setCell ⟨W.heap.size, 3, none⟩ (.int .i64 e')).heap[j]? = W3.heap[j]? := fun j hj => put4_keep hj _ _ _ _
  obtain ⟨W4, hW4⟩ : ∃ W4, ((((W3.setCell ⟨W.heap.size, 0, none⟩ (.int .i64 k)).setCell ⟨W.heap.size, 1, none⟩ (.string S)).setCell ⟨W.heap.size, 2, none⟩ (.int .i64 x0)).setCell ⟨W.heap.size, 3, none⟩ (.int .i64 e')) = W4 := ⟨_, rfl⟩
  rw [hW4] at hB4 hr4 hK4 ⊢
  clear hW4
  obtain ⟨e0, e1, e2, e3⟩ := tok_cells hr4
  refine bodyPost_ret (v := .tuple #[.agg #[.int .i64 k, .string S, .int .i64 x0, .int .i64 e'], .bool ok]) ?_ rfl (TokO.lift (W1 := W2) hB2' (unhide HZ) (unhide HO) hml (unhide HT3) hK4 hB4 rfl)
  clear d0 d1 d2 d3 d4 d5
  simp [results, Tryd.results35, go_sem, e0, e1, e2, e3]
end Go.Proofs.YtpdkeggiokebmaaDoor

/- lex's machine: the end of a template's hole; tokens in general. -/
namespace Go.Proofs.YtpdkeggiokebmaaDoor
set_option linter.unusedSimpArgs false
set_option linter.unusedVariables false
open Go.RowKit Go.Shelf

attribute [local go_sem] tokV
set_option maxRecDepth 100000 in
set_option maxHeartbeats 2000000 in
theorem tokv_hol (M c : Nat) (a : Option Addr) (len cap : Nat) (g : Nat → Int) (at' : Nat) (ov : Value) (bs : List Bool) (q : Option (Int × List Int × Nat × List Bool)) (W : World) (h : MAt W M (.slice a len cap) at' ov) (hS : Sl W c (.slice a len cap) len g) (hO : OwnO W M ov bs) (hcM : c < M) (hat : at' < len) (hlen : len ≤ 1099511627776) (q1 : g at' = 125) (hlb : lastB bs = true)
    (hw : ∀ W1 ov', MAt W1 M (.slice a len cap) at' ov' → OwnO W1 M ov' bs.dropLast → Fr (fun k => k = M) W W1 → Calls Tryd.prog 53 #[.pointer (some ⟨M, 0, none⟩), .int .i64 8, .int .i64 7] W1 (TokO W1 M (.slice a len cap) ov' at' q)) :
    Calls Tryd.prog 35 #[.pointer (some ⟨M, 0, none⟩)] W (TokO W M (.slice a len cap) ov at' q) := by
  have hc : c < W.heap.size := Nat.lt_trans hcM h.lt
  have HW := hide hw
  have HO := hide hO
  clear hw hO
  obtain ⟨W1, hW1⟩ : ∃ W1, W.alloc (.cells #[.int .i64 0, .string ⟨#[]⟩, .int .i64 0, .int .i64 0] 33) = W1 := ⟨_, rfl⟩
  have hB1 : Below W.heap.size W W1 := by rw [← hW1]; exact (Below.refl _ W).alloc (Nat.le_refl _) _
  have hz1 : W1.heap.size = W.heap.size + 1 := by rw [← hW1]; simp
  have hr1 : W1.heap[W.heap.size]? = some (.cells #[.int .i64 0, .string ⟨#[]⟩, .int .i64 0, .int .i64 0] 33) := by rw [← hW1]; exact World.alloc_heap_new W _
  have hM1 := h.below hB1 h.lt
  have hml := h.lt
  have c0 := hM1.c0
  have c1 := hM1.c1
  obtain ⟨off, rfl, h1, h2, hcs⟩ := unhide (sl_cells (hS.keep (B := W1) (fun k e => by subst e; exact hB1.block k hc))) (by omega)
  unfold maxLen at h2
  have hck := hcs at' hat
  have n1 : (at' : Int) < len := by omega
  clear hcs hS h
  rw [q1] at hck
  have hL : isL 125 = false := by decide
  have hD : isD 125 = false := by decide
  obtain ⟨k, S, x0, e', ok, hfm⟩ := tkR_form at' (q3 q)
  have HFM := hide hfm
  clear hfm
  go_enter Tryd.func35, Tryd.ntmps35
  go_wp2
  clear hW1
  go_quiet (fail)
  have hBd : Below W1.heap.size W1 (W1.drewN nq) := ⟨rfl, rfl, rfl, Nat.le_refl _, fun _ _ => rfl⟩
  have hB2 : Below W.heap.size W (W1.drewN nq) := hB1.trans (hBd.mono hB1.size)
  have HIH := hide (inHole_any M _ ov at' bs (W1.drewN nq) (hM1.below hBd hM1.lt) ((unhide HO).below hB2 (Nat.le_refl _)).opn)
  rw [hlb] at HIH
  go_wp2_with (first | (go_at_call 48; refine (isLetter_any _ _).mono ?_; rintro x w' ⟨rfl, hw⟩; subst w') | (go_at_call 50; refine (isDigit_any _ _).mono ?_; rintro x w' ⟨rfl, hw⟩; subst w') | (go_at_call 54; refine (unhide HIH).mono ?_; rintro x W2 ⟨rfl, hBh⟩; have hB2' := hB2.trans (hBh.mono hB2.size); have hM2 := (hM1.below hBd hM1.lt).below hBh (by show M < W1.heap.size; omega); have HCL := hide (closeO M _ ov at' bs W2 hM2 ((unhide HO).below hB2' (Nat.le_refl _))); have hz2 : W.heap.size < W2.heap.size := (by have := hBh.size; have e1 : (W1.drewN nq).heap.size = W1.heap.size := rfl; omega); have hr2 : W2.heap[W.heap.size]? = some (.cells #[.int .i64 0, .string ⟨#[]⟩, .int .i64 0, .int .i64 0] 33) := (hBh.block W.heap.size (by show W.heap.size < W1.heap.size; omega)).trans hr1) | (go_at_call 55; refine (unhide HCL).mono ?_; rintro x Wc ⟨ov', rfl, hMc, hOc, hobc, hFc⟩; have HFC := hide hFc; have HT := hide (unhide HW Wc ov' hMc hOc (((Fr.refl _ W).below hB2').trans hFc)); have HZ : Hid (W.heap.size < Wc.heap.size) := (by have := hFc.size; show W.heap.size < Wc.heap.size; omega); have HR : Hid (Wc.heap[W.heap.size]? = some (.cells #[.int .i64 0, .string ⟨#[]⟩, .int .i64 0, .int .i64 0] 33)) := (hFc.block W.heap.size hz2 (by omega)).trans hr2; have HOB := hide hobc; clear hobc hFc hOc hMc) | (go_at_call 53; refine (unhide HT).mono ?_; rintro x W3 hT3; have hv3 := hT3.val; have hxr := hv3.1; have hF3 := hv3.2; rw [unhide HFM] at hxr; subst hxr; have HT3 := hide hT3; clear hT3 hv3; have hr3 : W3.heap[W.heap.size]? = some (.cells #[.int .i64 0, .string ⟨#[]⟩, .int .i64 0, .int .i64 0] 33) := (hF3.block W.heap.size (by have := unhide HZ; omega) (by rintro (e | e) <;> first | omega | (have := ((unhide HO).lt (e ▸ (unhide HOB).symm)).2; omega))).trans (unhide HR); obtain ⟨d0, d1, d2, d3⟩ := tok_cells hr3; have d4 := Lib.frozen_of_heap hr3; have d5 : W3.shape? W.heap.size = some (33, 4) := (by simp [World.shape?, hr3])))
  have hB4 := put4_below (W := W3) (Nat.le_refl W.heap.size) (.int .i64 k) (.string S) (.int .i64 x0) (.int .i64 e')
  have hr4 := put4_heap hr3 (.int .i64 k) (.string S) (.int .i64 x0) (.int .i64 e')
  have hK4 : ∀ j, j ≠ W.heap.size → ((((W3.setCell ⟨W.heap.size, 0, none⟩ (.int .i64 k)).setCell ⟨W.heap.size, 1, none⟩ (.string S)).setCell ⟨W.heap.size, 2, none⟩ (.int .i64 x0)).setCell ⟨W.heap.size, 3, none⟩ (.int .i64 e')).heap[j]? = W3.heap[j]? := fun j hj => put4_keep hj _ _ _ _
  obtain ⟨W4, hW4⟩ : ∃ W4, ((((W3.setCell ⟨W.heap.size, 0, none⟩ (.int .i64 k)).setCell ⟨W.heap.size, 1, none⟩ (.string S)).setCell ⟨W.heap.size, 2, none⟩ (.int .i64 x0)).setCell ⟨W.heap.size, 3, none⟩ (.int .i64 e')) = W4 := ⟨_, rfl⟩
  rw [hW4] at hB4 hr4 hK4 ⊢
  clear hW4
  obtain ⟨e0, e1, e2, e3⟩ := tok_cells hr4
  refine bodyPost_ret (v := .tuple #[.agg #[.int .i64 k, .string S, .int .i64 x0, .int .i64 e'], .bool ok]) ?_ rfl (TokO.lift (W1 := W2) hB2' hz2 (unhide HO) hml (TokO.pre (unhide HFC) (unhide HOB) (unhide HT3)) hK4 hB4 rfl)
  clear d0 d1 d2 d3 d4 d5
  simp [results, Tryd.results35, go_sem, e0, e1, e2, e3]
theorem stopI_Stop {p : Int → Bool} {g : Nat → Int} {len i : Nat} (hi : i ≤ len) : Stop p g len i (stopI p g len i) := stopI_spec hi
theorem fr_below {W W' : World} {M : Nat} {S : Nat → Prop} (h : Fr S W W') {c : Nat} (hc : c < W.heap.size) (hn : ¬ S c) : W'.heap[c]? = W.heap[c]? := h.block c hc hn
theorem token_any (M c : Nat) (a : Option Addr) (len cap : Nat) (g : Nat → Int) (hg : ∀ j, 0 ≤ g j ∧ g j ≤ 255) (at' : Nat) (ov : Value) (bs : List Bool) (W : World) (h : MAt W M (.slice a len cap) at' ov) (hS : Sl W c (.slice a len cap) len g) (hO : OwnO W M ov bs) (hcM : c < M) (hM2 : 2 < M) (hat : at' < len) (hlen : len ≤ 1099511627776) (hbl : bs.length ≤ 1099511627776) (hE1 : ErrG W 1) (hE2 : ErrG W 2) :
    Calls Tryd.prog 35 #[.pointer (some ⟨M, 0, none⟩)] W (TokO W M (.slice a len cap) ov at' (tokP g len at' bs)) := by
  have hc : c < W.heap.size := Nat.lt_trans hcM h.lt
  have hml := h.lt
  have hSB : ∀ W', Below W.heap.size W W' → Sl W' c (.slice a len cap) len g := fun W' hb => hS.keep (fun k e => by subst e; exact hb.block k hc)
  unfold tokP
  by_cases hL : isL (g at') = true
  · rw [if_pos hL]
    have hst := stopI_Stop (p := isLD) (g := g) (len := len) (i := at' + 1) (by omega)
    refine (tok_word M c a len cap g at' ov _ _ _ W h hS hc hat hlen hL (fun W1 hM1 hS1 hc1 => word_any M c a len cap g at' _ ov (hasT wordL (strOfNums (sub g at' (stopI isLD g len (at' + 1))))) W1 hM1 hS1 hc1 hat hlen hst (res_any _))).mono ?_
    rintro x W' ⟨rfl, hM, hF⟩
    exact ⟨rfl, ⟨ov, hM, hO.fr hF, OB.refl _ _⟩, hF.mono fun k _ e => .inl e⟩
  rw [if_neg hL]
  have hL0 : isL (g at') = false := by simpa using hL
  by_cases hD : isD (g at') = true
  · rw [if_pos hD]
    exact tokv_num M c a len cap g at' ov bs _ W h hS hO hcM hat hlen hL0 hD fun W1 hM1 hO1 hB1 => number_post M c a len cap g hg at' ov bs W1 hM1 (hSB W1 hB1) hO1 (by have := hB1.size; omega) hat hD hlen (hE2.below hB1 (by omega))
  rw [if_neg hD]
  have hD0 : isD (g at') = false := by simpa using hD
  by_cases hq : g at' = 34 ∨ g at' = 39
  · rw [if_pos hq]
    rcases hq with hq | hq
    · refine tokv_quo34 M c a len cap g at' ov bs _ W h hS hO hcM hat hlen hq fun W1 hM1 hO1 hB1 => ?_
      refine (quoted_any M c a len cap g hg at' ov 34 (.inl rfl) W1 hM1 (hSB W1 hB1) (by have := hB1.size; omega) hat hlen (hE1.below hB1 (by omega))).mono ?_
      intro x W' hp
      rw [hq]
      exact TokO.of hO1 hp
    · refine tokv_quo39 M c a len cap g at' ov bs _ W h hS hO hcM hat hlen hq fun W1 hM1 hO1 hB1 => ?_
      refine (quoted_any M c a len cap g hg at' ov 39 (.inr rfl) W1 hM1 (hSB W1 hB1) (by have := hB1.size; omega) hat hlen (hE1.below hB1 (by omega))).mono ?_
      intro x W' hp
      rw [hq]
      exact TokO.of hO1 hp
  rw [if_neg hq]
  by_cases h96 : g at' = 96
  · rw [if_pos h96]
    exact tokv_tpl M c a len cap g at' ov bs _ W h hS hO hcM hat hlen h96 fun W1 hM1 hO1 hB1 => piece_any M c a len cap g hg at' ov bs 5 6 W1 hM1 (hSB W1 hB1) hO1 hcM hat hlen hbl (hE1.below hB1 (by omega))
  rw [if_neg h96]
  by_cases h125 : g at' = 125
  · by_cases hlb : lastB bs = true
    · rw [if_pos ⟨h125, hlb⟩]
      exact tokv_hol M c a len cap g at' ov bs _ W h hS hO hcM hat hlen h125 hlb fun W1 ov' hM1 hO1 hF1 => piece_any M c a len cap g hg at' ov' bs.dropLast 8 7 W1 hM1 (hS.keep (fun k e => by subst e; exact hF1.block k hc (by omega))) hO1 hcM hat hlen (by rw [List.length_dropLast]; omega) (hE1.fr hF1 (by omega))
    · rw [if_neg (fun h => hlb h.2)]
      exact tokv_cls M c a len cap g at' ov bs _ W h hS hO hcM hat hlen h125 (by simpa using hlb) fun W1 hM1 hO1 hB1 => sign_any M c a len cap g hg at' ov bs W1 hM1 (hSB W1 hB1) hO1 hcM hat hlen hbl
  · rw [if_neg (fun h => h125 h.1)]
    exact tokv_sgn M c a len cap g at' ov bs _ W h hS hO hcM hat hlen hL0 hD0 (fun e => hq (.inl e)) (fun e => hq (.inr e)) h96 h125 fun W1 hM1 hO1 hB1 => sign_any M c a len cap g hg at' ov bs W1 hM1 (hSB W1 hB1) hO1 hcM hat hlen hbl
end Go.Proofs.YtpdkeggiokebmaaDoor
