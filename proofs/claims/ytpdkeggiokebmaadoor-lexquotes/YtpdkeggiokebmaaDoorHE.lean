/- Merged: SI. -/
import Derived.BigQuiet
import Derived.Deep.QuietTactic
import Derived.Deep.RegionWith
import Derived.Test.YtpdkeggiokebmaaDoorHD
import Derived.Test.YtpdkeggiokebmaaDoorX7
/- lex's machine: a sign, braces too. -/
namespace Go.Proofs.YtpdkeggiokebmaaDoor
set_option linter.unusedSimpArgs false
set_option linter.unusedVariables false
open Go.RowKit Go.Shelf

/-- How long the longest sign is. -/
def lsgN (g : Nat → Int) : Nat → Nat
  | 0 => 0
  | L + 1 => if hasT (sgnL (L + 1)) (strOfNums (upto g (L + 1))) then L + 1 else lsgN g L
theorem lsg_eq (g : Nat → Int) : ∀ L, lsg g L = strOfNums (upto g (lsgN g L))
  | 0 => rfl
  | L + 1 => by
    simp only [lsg, lsgN]
    split
    · rfl
    · exact lsg_eq g L
theorem lsgN_le (g : Nat → Int) : ∀ L, lsgN g L ≤ L
  | 0 => Nat.le_refl _
  | L + 1 => by
    simp only [lsgN]
    split
    · exact Nat.le_refl _
    · exact Nat.le_succ_of_le (lsgN_le g L)
/-- The sign's length at a place. -/
def sgN (g : Nat → Int) (len at' : Nat) : Nat := lsgN (fun j => g (at' + j)) (min 3 (len - at'))
theorem sgN_le (g : Nat → Int) (len at' : Nat) : sgN g len at' ≤ 3 ∧ sgN g len at' ≤ len - at' := by
  have := lsgN_le (fun j => g (at' + j)) (min 3 (len - at'))
  unfold sgN
  omega
theorem bytes_list_eq {l l' : List Int} (h : ∀ x ∈ l, 0 ≤ x ∧ x ≤ 255) (h' : ∀ x ∈ l', 0 ≤ x ∧ x ≤ 255) : Lib.bytesOf l = Lib.bytesOf l' ↔ l = l' := by
  constructor
  · intro e
    have hl : l.length = l'.length := by
      have := congrArg List.length e
      simpa [Lib.bytesOf] using this
    apply List.ext_getElem hl
    intro i h1 h2
    have e1 := congrArg (fun q : List UInt8 => q[i]?) e
    simp only [Lib.bytesOf, List.getElem?_map, List.getElem?_eq_getElem h1, List.getElem?_eq_getElem h2, Option.map_some, Option.some.injEq] at e1
    exact ofNat_inj (h _ (List.getElem_mem h1)) (h' _ (List.getElem_mem h2)) e1
  · intro e; rw [e]
theorem upto_mem {g : Nat → Int} (hg : ∀ j, 0 ≤ g j ∧ g j ≤ 255) {n : Nat} : ∀ x ∈ upto g n, 0 ≤ x ∧ x ≤ 255 := by
  intro x hx
  simp only [upto, List.mem_map, List.mem_range] at hx
  obtain ⟨j, _, rfl⟩ := hx
  exact hg j
theorem str_is {g : Nat → Int} (hg : ∀ j, 0 ≤ g j ∧ g j ≤ 255) {n : Nat} (l : List Int) (hl : ∀ x ∈ l, 0 ≤ x ∧ x ≤ 255) (l8 : List UInt8) (h8 : l8 = Lib.bytesOf l) : ((strOfNums (upto g n)).toList == l8) = decide (upto g n = l) := by
  rw [Lib.strOfNums_toList, h8]
  cases e : decide (upto g n = l) with
  | true => rw [of_decide_eq_true e]; simp
  | false =>
    rw [beq_eq_false_iff_ne]
    intro h
    exact of_decide_eq_false e ((bytes_list_eq (upto_mem hg) hl).1 h)
/-- A sign's token. -/
def sigQ (g : Nat → Int) (len at' : Nat) (bs : List Bool) : Option (Int × List Int × Nat × List Bool) :=
  if sgN g len at' = 0 then none
  else if sub g at' (at' + sgN g len at') = [123] then some (9, sub g at' (at' + sgN g len at'), at' + sgN g len at', bs ++ [false])
  else if sub g at' (at' + sgN g len at') = [125] then some (9, sub g at' (at' + sgN g len at'), at' + sgN g len at', bs.dropLast)
  else some (9, sub g at' (at' + sgN g len at'), at' + sgN g len at', bs)
theorem sub_upto (g : Nat → Int) (at' n : Nat) : sub g at' (at' + n) = upto (fun j => g (at' + j)) n := by
  unfold sub
  rw [Nat.add_sub_cancel_left]

attribute [local go_sem] tokV
set_option maxRecDepth 100000 in
set_option maxHeartbeats 2000000 in
theorem sign_none (M c : Nat) (a : Option Addr) (len cap : Nat) (g : Nat → Int) (at' : Nat) (ov : Value) (W : World) (h : MAt W M (.slice a len cap) at' ov) (hS : Sl W c (.slice a len cap) len g) (hc : c < W.heap.size) (hat : at' < len) (hlen : len ≤ 1099511627776)
    (he : lsg (fun j => g (at' + j)) (min 3 (len - at')) = ⟨#[]⟩) :
    Calls Tryd.prog 56 #[.pointer (some ⟨M, 0, none⟩)] W fun x W' => x = .returned (tkR at' none) ∧ Fr (fun k => k = M) W W' := by
  obtain ⟨W1, hW1⟩ : ∃ W1, W.alloc (.cells #[.int .i64 0, .string ⟨#[]⟩, .int .i64 0, .int .i64 0] 33) = W1 := ⟨_, rfl⟩
  have hB1 : Below W.heap.size W W1 := by rw [← hW1]; exact (Below.refl _ W).alloc (Nat.le_refl _) _
  have hz1 : W1.heap.size = W.heap.size + 1 := by rw [← hW1]; simp
  have hr1 : W1.heap[W.heap.size]? = some (.cells #[.int .i64 0, .string ⟨#[]⟩, .int .i64 0, .int .i64 0] 33) := by rw [← hW1]; exact World.alloc_heap_new W _
  have hM1 := h.below hB1 h.lt
  have hS1 := hS.keep (B := W1) (fun k e => by subst e; exact hB1.block k hc)
  have c0 := hM1.c0
  have c1 := hM1.c1
  have hml := h.lt
  obtain ⟨a', c', hsl, hk⟩ := slice_from hS1 (Nat.le_of_lt hat)
  have HLS := hide (lsign_any c a' (len - at') c' _ W1.drew (hk _ (hS1.keep (B := W1.drew) (fun _ _ => rfl))) (by show c < W1.heap.size; omega) (by omega))
  rw [he] at HLS
  clear hS hS1 hk
  go_enter Tryd.func56, Tryd.ntmps56
  go_wp2
  go_region_with (go_at_call 70; refine (unhide HLS).mono ?_; rintro x W2 ⟨rfl, hB2⟩)
  all_goals (
    have hB2' : Below W1.heap.size W1 W2 := (⟨rfl, rfl, rfl, Nat.le_refl _, fun _ _ => rfl⟩ : Below W1.heap.size W1 W1.drew).trans hB2
    have hM2 := hM1.below hB2' hM1.lt
    have hr2 := (hB2'.block W.heap.size (by omega)).trans hr1
    have hz2 := hB2'.size
    have c1 := hM2.c1
    have c0 := hM2.c0
    have c2 := hM2.c2
    have f2 := hM2.frozen 2
    clear hsl
    have hr5 := hr2
    obtain ⟨d0, d1, d2, d3⟩ := tok_cells hr5
    have d4 := Lib.frozen_of_heap hr5
    have d5 : W2.shape? W.heap.size = some (33, 4) := (by simp [World.shape?, hr5])
    go_wp2
    have hB6 := put4_below (W := W2) (Nat.le_refl W.heap.size) (.int .i64 0) (.string ⟨#[]⟩) (.int .i64 0) (.int .i64 0)
    have hr6 := put4_heap hr5 (.int .i64 0) (.string ⟨#[]⟩) (.int .i64 0) (.int .i64 0)
    obtain ⟨W6, hW6⟩ : ∃ W6, ((((W2.setCell ⟨W.heap.size, 0, none⟩ (.int .i64 0)).setCell ⟨W.heap.size, 1, none⟩ (.string ⟨#[]⟩)).setCell ⟨W.heap.size, 2, none⟩ (.int .i64 0)).setCell ⟨W.heap.size, 3, none⟩ (.int .i64 0)) = W6 := ⟨_, rfl⟩
    rw [hW6] at hB6 hr6 ⊢
    clear hW6
    obtain ⟨e0, e1, e2, e3⟩ := tok_cells hr6
    try rw [Exit.noGoto_ret]
    refine bodyPost_ret (v := .tuple #[.agg #[.int .i64 0, .string ⟨#[]⟩, .int .i64 0, .int .i64 0], .bool false]) ?_ rfl ⟨rfl, ((Fr.refl _ W).below (hB1.trans (hB2'.mono hB1.size))).below hB6⟩
    clear d0 d1 d2 d3 d4 d5
    simp [results, Tryd.results56, go_sem, e0, e1, e2, e3])
set_option maxRecDepth 100000 in
set_option maxHeartbeats 2000000 in
theorem sign_open (M c : Nat) (a : Option Addr) (len cap : Nat) (g : Nat → Int) (at' : Nat) (ov : Value) (bs : List Bool) (W : World) (h : MAt W M (.slice a len cap) at' ov) (hS : Sl W c (.slice a len cap) len g) (hO : OwnO W M ov bs) (hcM : c < M) (hat : at' < len) (hlen : len ≤ 1099511627776) (hbl : bs.length ≤ 1099511627776)
    (he : lsg (fun j => g (at' + j)) (min 3 (len - at')) = ⟨#[123]⟩) :
    Calls Tryd.prog 56 #[.pointer (some ⟨M, 0, none⟩)] W (TokO W M (.slice a len cap) ov at' (some (9, [123], at' + 1, bs ++ [false]))) := by
  have hc : c < W.heap.size := Nat.lt_trans hcM h.lt
  obtain ⟨i0, hinf, hz0, hzz1, hzz2⟩ := info_parts infoBool
  have HO := hide hO
  have HOL : Hid (∀ k, ov.ownBlock = some k → M < k ∧ k < W.heap.size) := fun k hk => hO.lt hk
  clear hO
  obtain ⟨W1, hW1⟩ : ∃ W1, W.alloc (.cells #[.int .i64 0, .string ⟨#[]⟩, .int .i64 0, .int .i64 0] 33) = W1 := ⟨_, rfl⟩
  have hB1 : Below W.heap.size W W1 := by rw [← hW1]; exact (Below.refl _ W).alloc (Nat.le_refl _) _
  have hz1 : W1.heap.size = W.heap.size + 1 := by rw [← hW1]; simp
  have hr1 : W1.heap[W.heap.size]? = some (.cells #[.int .i64 0, .string ⟨#[]⟩, .int .i64 0, .int .i64 0] 33) := by rw [← hW1]; exact World.alloc_heap_new W _
  have hM1 := h.below hB1 h.lt
  have hS1 := hS.keep (B := W1) (fun k e => by subst e; exact hB1.block k hc)
  have c0 := hM1.c0
  have c1 := hM1.c1
  have hml := h.lt
  obtain ⟨a', c', hsl, hk⟩ := slice_from hS1 (Nat.le_of_lt hat)
  have HLS := hide (lsign_any c a' (len - at') c' _ W1.drew (hk _ (hS1.keep (B := W1.drew) (fun _ _ => rfl))) (by show c < W1.heap.size; omega) (by omega))
  rw [he] at HLS
  clear hS hS1 hk
  go_enter Tryd.func56, Tryd.ntmps56
  go_wp2
  go_region_with (go_at_call 70; refine (unhide HLS).mono ?_; rintro x W2 ⟨rfl, hB2⟩)
  all_goals (
    have hB2' : Below W1.heap.size W1 W2 := (⟨rfl, rfl, rfl, Nat.le_refl _, fun _ _ => rfl⟩ : Below W1.heap.size W1 W1.drew).trans hB2
    have hM2 := hM1.below hB2' hM1.lt
    have hr2 := (hB2'.block W.heap.size (by omega)).trans hr1
    have hz2 := hB2'.size
    have c1 := hM2.c1
    have c0 := hM2.c0
    have c2 := hM2.c2
    have f2 := hM2.frozen 2
    clear hsl
    have hBW2 : Below W.heap.size W W2 := hB1.trans (hB2'.mono hB1.size)
    have HOW := hide ((unhide HO).below hBW2 (Nat.le_refl _))
    have hmw := hM2.lt
    go_wp2_with (at_builtin; refine wpList_append_lies _ rfl _ _ 47 rfl (M + 1) 4 i0 (.bool false) 1 1 Tryd.underlying47 hinf hz0 hzz1 hzz2 rfl (by decide) _ _ _ rfl (World.ownsRow.alloc (unhide HOW) _) ⟨W2.heap.size, 0, none⟩ 1 1 [.bool false] rfl rfl ?c1 ?c2 (by decide) ?c3 ?c4 ?c5 (W2.heap.size + 1) ?c6 ?_)
    case c1 =>
      intro j u hj
      match j, hj with
      | 0, hj => simp at hj; subst hj; simp [Addr.add]
      | (j + 1), hj => simp at hj
    case c2 => intro u hu; simp at hu; subst hu; rfl
    case c3 => unfold maxLen; omega
    case c4 => omega
    case c5 => simp; omega
    case c6 => simp
    intro g1 cap1 w2 hown2 hgrow hwh hlt2
    have hal : Below W2.heap.size W2 (W2.alloc (.cells #[.bool false] 4)) := (Below.refl _ W2).alloc (Nat.le_refl _) _
    have hMk : ∀ k, k < W2.heap.size → ov.ownBlock ≠ some k → w2.heap[k]? = W2.heap[k]? := fun k hk hn => (hgrow.block k (by simp; omega) (fun e => hn e.symm)).trans (hal.block k hk)
    have hM2' : MAt w2 M (.slice a len cap) at' ov := (hMk M hmw (fun e => by have := (unhide HOL M e).1; omega)).trans hM2
    have hzw := hgrow.size
    rw [World.size_alloc] at hzw
    have hg1M : M + 1 ≤ g1 := by
      rcases hwh with hwh | hwh
      · exact (unhide HOL g1 hwh).1
      · omega
    have hM3 := hM2'.set2 (.slice (some ⟨g1, 0, none⟩) (bs.length + 1) cap1)
    have hO3 : OwnO (w2.setCell ⟨M, 2, none⟩ (.slice (some ⟨g1, 0, none⟩) (bs.length + 1) cap1)) M (.slice (some ⟨g1, 0, none⟩) (bs.length + 1) cap1) (bs ++ [false]) := by
      have h0 : OwnO w2 M (.slice (some ⟨g1, 0, none⟩) (bs.length + 1) cap1) (bs ++ [false]) := by
        unfold OwnO
        rw [List.length_append, List.map_append]
        exact hown2
      exact h0.keep fun k hk => Below.heap_setCell w2 ⟨M, 2, none⟩ _ k (fun e => by cases hk; have e' : g1 = M := e; omega)
    have hFw : Fr (fun k => k = M ∨ ov.ownBlock = some k) W w2 := (((Fr.refl _ W).below hBW2).below (hal.mono hBW2.size)).grown hgrow (fun k e _ => .inr e)
    have hF3 := hFw.set M 2 (.slice (some ⟨g1, 0, none⟩) (bs.length + 1) cap1) (.inl rfl)
    have hr3 : (w2.setCell ⟨M, 2, none⟩ (.slice (some ⟨g1, 0, none⟩) (bs.length + 1) cap1)).heap[W.heap.size]? = some (.cells #[.int .i64 0, .string ⟨#[]⟩, .int .i64 0, .int .i64 0] 33) :=
      ((Below.heap_setCell w2 ⟨M, 2, none⟩ _ _ (fun e => by have e' : W.heap.size = M := e; omega)).trans (hMk _ (by omega) (fun e => by have := (unhide HOL _ e).2; omega))).trans hr2
    have hz3 : W2.heap.size + 1 ≤ (w2.setCell ⟨M, 2, none⟩ (.slice (some ⟨g1, 0, none⟩) (bs.length + 1) cap1)).heap.size := by simpa [World.setCell] using hzw
    have f2' := hM2'.frozen 2
    have c2' := hM2'.c2
    have hmw2 := hM2'.lt
    obtain ⟨W3, hW3⟩ : ∃ W3, w2.setCell ⟨M, 2, none⟩ (.slice (some ⟨g1, 0, none⟩) (bs.length + 1) cap1) = W3 := ⟨_, rfl⟩
    rw [hW3] at hM3 hO3 hF3 hr3 hz3
    have c1' := hM3.c1
    have HM3 := hide hM3
    have HO3 := hide hO3
    have HF3 := hide hF3
    have HR3 := hide hr3
    have HZ3 := hide hz3
    have HWH := hide hwh
    clear hown2 hgrow hwh hlt2 hal hMk hM2' hzw hg1M hM3 hO3 hFw hF3 hr3 hz3 hinf hz0 hzz1 hzz2 c0 c1 c2 f2 hM2
    go_wp2_with (go_at_call 66; refine (take_any M _ _ at' 9 _ _ W3 (unhide HM3)).mono ?_; rintro x W5 ⟨rfl, hM5, hF5⟩; have hr5 : W5.heap[W.heap.size]? = some (.cells #[.int .i64 0, .string ⟨#[]⟩, .int .i64 0, .int .i64 0] 33) := (hF5.block W.heap.size (by have := unhide HZ3; omega) (by omega)).trans (unhide HR3); obtain ⟨d0, d1, d2, d3⟩ := tok_cells hr5; have d4 := Lib.frozen_of_heap hr5; have d5 : W5.shape? W.heap.size = some (33, 4) := (by simp [World.shape?, hr5]))
    have hFt : Fr (fun k => k = M ∨ ov.ownBlock = some k) W W5 := (unhide HF3).trans (hF5.mono (fun k _ e => .inl e))
    have hO5 : OwnO W5 M (.slice (some ⟨g1, 0, none⟩) (bs.length + 1) cap1) (bs ++ [false]) := (unhide HO3).fr hF5
    have hgR : g1 ≠ W.heap.size := by
      rcases unhide HWH with h | h
      · have := (unhide HOL g1 h).2; omega
      · omega
    have hK6 : (((((W5.setCell ⟨W.heap.size, 0, none⟩ (.int .i64 9)).setCell ⟨W.heap.size, 1, none⟩ (.string ⟨#[123]⟩)).setCell ⟨W.heap.size, 2, none⟩ (.int .i64 (at' : Int))).setCell ⟨W.heap.size, 3, none⟩ (.int .i64 ((at' : Int) + 1)))).heap[g1]? = W5.heap[g1]? := put4_keep hgR _ _ _ _
    have hOBt : OB W ov (.slice (some ⟨g1, 0, none⟩) (bs.length + 1) cap1) := by
      rcases unhide HWH with h | h
      · exact .inl h.symm
      · exact .inr ⟨g1, rfl, by omega⟩
    have hB6 := put4_below (W := W5) (Nat.le_refl W.heap.size) (.int .i64 9) (.string ⟨#[123]⟩) ((.int .i64 (at' : Int))) ((.int .i64 ((at' : Int) + 1)))
    have hr6 := put4_heap hr5 (.int .i64 9) (.string ⟨#[123]⟩) ((.int .i64 (at' : Int))) ((.int .i64 ((at' : Int) + 1)))
    obtain ⟨W6, hW6⟩ : ∃ W6, ((((W5.setCell ⟨W.heap.size, 0, none⟩ (.int .i64 9)).setCell ⟨W.heap.size, 1, none⟩ (.string ⟨#[123]⟩)).setCell ⟨W.heap.size, 2, none⟩ ((.int .i64 (at' : Int)))).setCell ⟨W.heap.size, 3, none⟩ ((.int .i64 ((at' : Int) + 1)))) = W6 := ⟨_, rfl⟩
    rw [hW6] at hB6 hr6 hK6 ⊢
    clear hW6
    obtain ⟨e0, e1, e2, e3⟩ := tok_cells hr6
    try rw [Exit.noGoto_ret]
    refine bodyPost_ret (v := .tuple #[.agg #[.int .i64 9, .string ⟨#[123]⟩, (.int .i64 (at' : Int)), (.int .i64 ((at' : Int) + 1))], .bool true]) ?_ rfl ⟨rfl, ⟨_, hM5.below hB6 hml, hO5.keep (fun k hk => by obtain rfl : g1 = k := (by injection hk); exact hK6), hOBt⟩, hFt.below hB6⟩
    clear d0 d1 d2 d3 d4 d5
    simp [results, Tryd.results56, go_sem, e0, e1, e2, e3])
set_option maxRecDepth 100000 in
set_option maxHeartbeats 2000000 in
theorem sign_close (M c : Nat) (a : Option Addr) (len cap : Nat) (g : Nat → Int) (at' : Nat) (ov : Value) (bs : List Bool) (W : World) (h : MAt W M (.slice a len cap) at' ov) (hS : Sl W c (.slice a len cap) len g) (hO : OwnO W M ov bs) (hcM : c < M) (hat : at' < len) (hlen : len ≤ 1099511627776) (hbl : bs.length ≤ 1099511627776)
    (he : lsg (fun j => g (at' + j)) (min 3 (len - at')) = ⟨#[125]⟩) :
    Calls Tryd.prog 56 #[.pointer (some ⟨M, 0, none⟩)] W (TokO W M (.slice a len cap) ov at' (some (9, [125], at' + 1, bs.dropLast))) := by
  have hc : c < W.heap.size := Nat.lt_trans hcM h.lt
  have HO := hide hO
  have HOL : Hid (∀ k, ov.ownBlock = some k → M < k ∧ k < W.heap.size) := fun k hk => hO.lt hk
  clear hO
  obtain ⟨W1, hW1⟩ : ∃ W1, W.alloc (.cells #[.int .i64 0, .string ⟨#[]⟩, .int .i64 0, .int .i64 0] 33) = W1 := ⟨_, rfl⟩
  have hB1 : Below W.heap.size W W1 := by rw [← hW1]; exact (Below.refl _ W).alloc (Nat.le_refl _) _
  have hz1 : W1.heap.size = W.heap.size + 1 := by rw [← hW1]; simp
  have hr1 : W1.heap[W.heap.size]? = some (.cells #[.int .i64 0, .string ⟨#[]⟩, .int .i64 0, .int .i64 0] 33) := by rw [← hW1]; exact World.alloc_heap_new W _
  have hM1 := h.below hB1 h.lt
  have hS1 := hS.keep (B := W1) (fun k e => by subst e; exact hB1.block k hc)
  have c0 := hM1.c0
  have c1 := hM1.c1
  have hml := h.lt
  obtain ⟨a', c', hsl, hk⟩ := slice_from hS1 (Nat.le_of_lt hat)
  have HLS := hide (lsign_any c a' (len - at') c' _ W1.drew (hk _ (hS1.keep (B := W1.drew) (fun _ _ => rfl))) (by show c < W1.heap.size; omega) (by omega))
  rw [he] at HLS
  clear hS hS1 hk
  go_enter Tryd.func56, Tryd.ntmps56
  go_wp2
  go_region_with (go_at_call 70; refine (unhide HLS).mono ?_; rintro x W2 ⟨rfl, hB2⟩)
  all_goals (
    have hB2' : Below W1.heap.size W1 W2 := (⟨rfl, rfl, rfl, Nat.le_refl _, fun _ _ => rfl⟩ : Below W1.heap.size W1 W1.drew).trans hB2
    have hM2 := hM1.below hB2' hM1.lt
    have hr2 := (hB2'.block W.heap.size (by omega)).trans hr1
    have hz2 := hB2'.size
    have c1 := hM2.c1
    have c0 := hM2.c0
    have c2 := hM2.c2
    have f2 := hM2.frozen 2
    clear hsl
    have hBW2 : Below W.heap.size W W2 := hB1.trans (hB2'.mono hB1.size)
    have HCL := hide (closeO M _ ov at' bs W2 hM2 ((unhide HO).below hBW2 (Nat.le_refl _)))
    clear c0 c1 c2 f2
    go_wp2_with (first | (go_at_call 55; refine (unhide HCL).mono ?_; rintro x W3 ⟨ov', rfl, hM3, hO3, hob, hF3⟩; have c1 := hM3.c1; have hz3 := hF3.size; have HO3 := hide hO3; have HOB := hide hob; clear hO3 hob) | (go_at_call 66; refine (take_any M _ _ at' 9 _ _ W3 hM3).mono ?_; rintro x W5 ⟨rfl, hM5, hF5⟩; have hr5 : W5.heap[W.heap.size]? = some (.cells #[.int .i64 0, .string ⟨#[]⟩, .int .i64 0, .int .i64 0] 33) := (hF5.block W.heap.size (by omega) (by omega)).trans ((hF3.block W.heap.size (by omega) (by omega)).trans hr2); obtain ⟨d0, d1, d2, d3⟩ := tok_cells hr5; have d4 := Lib.frozen_of_heap hr5; have d5 : W5.shape? W.heap.size = some (33, 4) := (by simp [World.shape?, hr5])))
    have hFt : Fr (fun k => k = M) W W5 := (((Fr.refl _ W).below hBW2).trans hF3).trans hF5
    have hO5 : OwnO W5 M ov' bs.dropLast := (unhide HO3).fr hF5
    have HKK : Hid (∀ k, ov'.ownBlock = some k → k < W.heap.size) := fun k hk => (unhide HOL k (by rw [← unhide HOB]; exact hk)).2
    have hB6 := put4_below (W := W5) (Nat.le_refl W.heap.size) (.int .i64 9) (.string ⟨#[125]⟩) ((.int .i64 (at' : Int))) ((.int .i64 ((at' : Int) + 1)))
    have hr6 := put4_heap hr5 (.int .i64 9) (.string ⟨#[125]⟩) ((.int .i64 (at' : Int))) ((.int .i64 ((at' : Int) + 1)))
    obtain ⟨W6, hW6⟩ : ∃ W6, ((((W5.setCell ⟨W.heap.size, 0, none⟩ (.int .i64 9)).setCell ⟨W.heap.size, 1, none⟩ (.string ⟨#[125]⟩)).setCell ⟨W.heap.size, 2, none⟩ ((.int .i64 (at' : Int)))).setCell ⟨W.heap.size, 3, none⟩ ((.int .i64 ((at' : Int) + 1)))) = W6 := ⟨_, rfl⟩
    rw [hW6] at hB6 hr6 ⊢
    clear hW6
    obtain ⟨e0, e1, e2, e3⟩ := tok_cells hr6
    try rw [Exit.noGoto_ret]
    refine bodyPost_ret (v := .tuple #[.agg #[.int .i64 9, .string ⟨#[125]⟩, (.int .i64 (at' : Int)), (.int .i64 ((at' : Int) + 1))], .bool true]) ?_ rfl ⟨rfl, ⟨ov', hM5.below hB6 hml, hO5.keep (fun k hk => hB6.block k (unhide HKK k hk)), .inl (unhide HOB)⟩, (hFt.below hB6).mono (fun k _ e => .inl e)⟩
    clear d0 d1 d2 d3 d4 d5
    simp [results, Tryd.results56, go_sem, e0, e1, e2, e3])
theorem sign_any (M c : Nat) (a : Option Addr) (len cap : Nat) (g : Nat → Int) (hg : ∀ j, 0 ≤ g j ∧ g j ≤ 255) (at' : Nat) (ov : Value) (bs : List Bool) (W : World) (h : MAt W M (.slice a len cap) at' ov) (hS : Sl W c (.slice a len cap) len g) (hO : OwnO W M ov bs) (hcM : c < M) (hat : at' < len) (hlen : len ≤ 1099511627776) (hbl : bs.length ≤ 1099511627776) :
    Calls Tryd.prog 56 #[.pointer (some ⟨M, 0, none⟩)] W (TokO W M (.slice a len cap) ov at' (sigQ g len at' bs)) := by
  have hc : c < W.heap.size := Nat.lt_trans hcM h.lt
  have e0 : lsg (fun j => g (at' + j)) (min 3 (len - at')) = strOfNums (sub g at' (at' + sgN g len at')) := by rw [lsg_eq, sub_upto]; rfl
  have hg' : ∀ j, 0 ≤ (fun j => g (at' + j)) j ∧ (fun j => g (at' + j)) j ≤ 255 := fun j => hg _
  have hn := sgN_le g len at'
  unfold sigQ
  by_cases h0 : sgN g len at' = 0
  · rw [if_pos h0]
    rw [h0] at e0
    refine (sign_none M c a len cap g at' ov W h hS hc hat hlen (e0.trans (by rw [sub_upto]; rfl))).mono ?_
    rintro x W' ⟨h1, h2⟩
    exact ⟨h1, h2.mono fun k _ e => .inl e⟩
  rw [if_neg h0]
  by_cases h1 : sub g at' (at' + sgN g len at') = [123]
  · rw [if_pos h1]
    have hz : sgN g len at' = 1 := by have := congrArg List.length h1; simpa [sub_length] using this
    rw [h1] at e0
    rw [h1, hz]
    exact sign_open M c a len cap g at' ov bs W h hS hO hcM hat hlen hbl e0
  rw [if_neg h1]
  by_cases h2 : sub g at' (at' + sgN g len at') = [125]
  · rw [if_pos h2]
    have hz : sgN g len at' = 1 := by have := congrArg List.length h2; simpa [sub_length] using this
    rw [h2] at e0
    rw [h2, hz]
    exact sign_close M c a len cap g at' ov bs W h hS hO hcM hat hlen hbl e0
  rw [if_neg h2]
  have hs : (strOfNums (sub g at' (at' + sgN g len at'))).size = sgN g len at' := by
    rw [strOfNums_size, sub_length]
    omega
  have hl0 : ((strOfNums (sub g at' (at' + sgN g len at'))).toList == []) = false := by
    rw [sub_upto, str_is hg' [] (by simp) [] rfl]
    exact decide_eq_false fun e => by have := congrArg List.length e; simp [upto] at this; omega
  have hl1 : ((strOfNums (sub g at' (at' + sgN g len at'))).toList == [123]) = false := by
    rw [sub_upto, str_is hg' [123] (by simp) [123] rfl]
    exact decide_eq_false fun e => h1 (by rw [sub_upto]; exact e)
  have hl2 : ((strOfNums (sub g at' (at' + sgN g len at'))).toList == [125]) = false := by
    rw [sub_upto, str_is hg' [125] (by simp) [125] rfl]
    exact decide_eq_false fun e => h2 (by rw [sub_upto]; exact e)
  refine (sign_plain M c a len cap g at' ov (strOfNums (sub g at' (at' + sgN g len at'))) W h hS hc hat hlen e0 (by omega) hl0 hl1 hl2).mono ?_
  rintro x W' ⟨rfl, hM, hF⟩
  rw [hs] at hM
  refine ⟨by rw [hs]; rfl, ⟨ov, hM, hO.fr hF, OB.refl _ _⟩, hF.mono fun k _ e => .inl e⟩
end Go.Proofs.YtpdkeggiokebmaaDoor
