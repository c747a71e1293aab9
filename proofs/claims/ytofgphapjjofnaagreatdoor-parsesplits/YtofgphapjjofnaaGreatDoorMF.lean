/- Towards the law: SI TK TL. -/
import Derived.BigQuiet
import Derived.Deep.QuietTactic
import Derived.Deep.RegionWith
import Derived.Test.YtofgphapjjofnaaGreatDoorMB
import Derived.Test.YtofgphapjjofnaaGreatDoorMC
import Derived.Test.YtofgphapjjofnaaGreatDoorMD
import Derived.Test.YtofgphapjjofnaaGreatDoorME
set_option linter.unusedSimpArgs false
set_option linter.unusedVariables false
set_option maxRecDepth 100000
set_option maxHeartbeats 8000000
namespace Go.Proofs.YtofgphapjjofnaaGreatDoor
section
open Go.RowKit Go.Shelf
def lsgN (g : Nat → Int) : Nat → Nat
 | 0 => 0
 | L + 1 => if hasT (sgnL (L + 1)) (strOfNums (upto g (L + 1))) then L + 1 else lsgN g L
theorem lsg_eq (g : Nat → Int) : ∀ L, lsg g L = strOfNums (upto g (lsgN g L))
 | 0 => rfl
 | L + 1 => by
   simp only [lsg, lsgN];split
   · rfl
   · exact lsg_eq g L
theorem lsgN_le (g : Nat → Int) : ∀ L, lsgN g L ≤ L
 | 0 => NL
 | L + 1 => by
   simp only [lsgN];split
   · exact NL
   · exact Nat.le_succ_of_le (lsgN_le g L)
def sgN (g : Nat → Int) (len at' : Nat) : Nat := lsgN (fun j => g (at' + j)) (min 3 (len - at'))
theorem sgN_le (g : Nat → Int) (len at' : Nat) : sgN g len at' ≤ 3 ∧ sgN g len at' ≤ len - at' := by
 have := lsgN_le (fun j => g (at' + j)) (min 3 (len - at'));unfold sgN;omega
theorem bytes_list_eq {l l' : List Int} (h : ∀ x ∈ l, 0 ≤ x ∧ x ≤ 255) (h' : ∀ x ∈ l', 0 ≤ x ∧ x ≤ 255) : Lib.bytesOf l = Lib.bytesOf l' ↔ l = l' := by
 constructor
 · intro e
   have hl : l.length = l'.length := by
    have := congrArg List.length e;simpa [Lib.bytesOf] using this
   apply List.ext_getElem hl
   intro i h1 h2;have e1 := congrArg (fun q : List UInt8 => q[i]?) e;simp only [Lib.bytesOf, List.getElem?_map, List.getElem?_eq_getElem h1, List.getElem?_eq_getElem h2, Option.map_some, Option.some.injEq] at e1;exact ofNat_inj (h _ (List.getElem_mem h1)) (h' _ (List.getElem_mem h2)) e1
 · intro e; rw [e]
theorem upto_mem {g : Nat → Int} (hg : ∀ j, 0 ≤ g j ∧ g j ≤ 255) {n : Nat} : ∀ x ∈ upto g n, 0 ≤ x ∧ x ≤ 255 := by
 intro x hx;simp only [upto, List.mem_map, List.mem_range] at hx;obtain ⟨j, _, rfl⟩ := hx;exact hg j
theorem str_is {g : Nat → Int} (hg : ∀ j, 0 ≤ g j ∧ g j ≤ 255) {n : Nat} (l : List Int) (hl : ∀ x ∈ l, 0 ≤ x ∧ x ≤ 255) (l8 : List UInt8) (h8 : l8 = Lib.bytesOf l) : ((strOfNums (upto g n)).toList == l8) = decide (upto g n = l) := by
 rw [Lib.strOfNums_toList, h8];cases e : decide (upto g n = l) with
 | true => rw [of_decide_eq_true e]; simp
 | false =>
   rw [beq_eq_false_iff_ne];intro h;exact of_decide_eq_false e ((bytes_list_eq (upto_mem hg) hl).1 h)
def sigQ (g : Nat → Int) (len at' : Nat) (bs : List Bool) : Option (Int × List Int × Nat × List Bool) :=
 if sgN g len at' = 0 then none
 else if sub g at' (at' + sgN g len at') = [123] then some (9, sub g at' (at' + sgN g len at'), at' + sgN g len at', bs ++ [false])
 else if sub g at' (at' + sgN g len at') = [125] then some (9, sub g at' (at' + sgN g len at'), at' + sgN g len at', bs.dropLast)
 else some (9, sub g at' (at' + sgN g len at'), at' + sgN g len at', bs)
theorem sub_upto (g : Nat → Int) (at' n : Nat) : sub g at' (at' + n) = upto (fun j => g (at' + j)) n := by
 unfold sub;rw [Nat.add_sub_cancel_left]
attribute [local go_sem] tokV
theorem sign_none (M c : Nat) (a : Option Addr) (len cap : Nat) (g : Nat → Int) (at' : Nat) (ov : Value) (W : World) (h : MAt W M (.slice a len cap) at' ov) (hS : Sl W c (.slice a len cap) len g) (hc : c < W.heap.size) (hat : at' < len) (hlen : len ≤ 1099511627776)
 (he : lsg (fun j => g (at' + j)) (min 3 (len - at')) = ⟨#[]⟩) :
 Calls Tryz.prog 149 #[.pointer (some ⟨M, 0, none⟩)] W fun x W' => x = .returned (tkR at' none) ∧ Fr (fun k => k = M) W W' := by
 obtain ⟨W1, hW1⟩ : ∃ W1, W.alloc (.cells #[.int .i64 0, .string ⟨#[]⟩, .int .i64 0, .int .i64 0] 40) = W1 := ⟨_, rfl⟩;have hB1 : Below W.heap.size W W1 := by rw [← hW1]; exact (Below.refl _ W).alloc NL _
 have hz1 : W1.heap.size = W.heap.size + 1 := by rw [← hW1]; simp
 have hr1 : W1.heap[W.heap.size]? = some (.cells #[.int .i64 0, .string ⟨#[]⟩, .int .i64 0, .int .i64 0] 40) := by rw [← hW1]; exact World.alloc_heap_new W _
 have hM1 := h.below hB1 h.lt;have hS1 := hS.keep (B := W1) (fun k e => by subst e; exact hB1.block k hc);have c0 := hM1.c0;have c1 := hM1.c1;have hml := h.lt;obtain ⟨a', c', hsl, hk⟩ := slice_from hS1 (Nat.le_of_lt hat);have HLS := Hi (lsign_any c a' (len - at') c' _ W1.drew (hk _ (hS1.keep (B := W1.drew) (fun _ _ => rfl))) (by show c < W1.heap.size; omega) (by omega));rw [he] at HLS;clear hS hS1 hk;go_enter Tryz.func149, Tryz.ntmps149;go_wp2;go_region_with (go_at_call 199; refine (U HLS).mono ?_; rintro x W2 ⟨rfl, hB2⟩)
 all_goals (
  have hB2' : Below W1.heap.size W1 W2 := (⟨rfl, rfl, rfl, NL, fun _ _ => rfl⟩ : Below W1.heap.size W1 W1.drew).trans hB2;have hM2 := hM1.below hB2' hM1.lt;have hr2 := (hB2'.block W.heap.size (by omega)).trans hr1;have hz2 := hB2'.size;have c1 := hM2.c1;have c0 := hM2.c0;have c2 := hM2.c2;have f2 := hM2.frozen 2;clear hsl;have hr5 := hr2;obtain ⟨d0, d1, d2, d3⟩ := tok_cells hr5;have d4 := Lib.frozen_of_heap hr5;have d5 : W2.shape? W.heap.size = some (40, 4) := (by simp [World.shape?, hr5]);go_wp2;have hB6 := put4_below (W := W2) (Nat.le_refl W.heap.size) (.int .i64 0) (.string ⟨#[]⟩) (.int .i64 0) (.int .i64 0);have hr6 := put4_heap hr5 (.int .i64 0) (.string ⟨#[]⟩) (.int .i64 0) (.int .i64 0);obtain ⟨W6, hW6⟩ : ∃ W6, ((((W2.setCell ⟨W.heap.size, 0, none⟩ (.int .i64 0)).setCell ⟨W.heap.size, 1, none⟩ (.string ⟨#[]⟩)).setCell ⟨W.heap.size, 2, none⟩ (.int .i64 0)).setCell ⟨W.heap.size, 3, none⟩ (.int .i64 0)) = W6 := ⟨_, rfl⟩;rw [hW6] at hB6 hr6 ⊢;clear hW6;obtain ⟨e0, e1, e2, e3⟩ := tok_cells hr6;try rw [Exit.noGoto_ret]
  refine bodyPost_ret (v := .tuple #[.agg #[.int .i64 0, .string ⟨#[]⟩, .int .i64 0, .int .i64 0], .bool false]) ?_ rfl ⟨rfl, ((Fr.refl _ W).below (hB1.trans (hB2'.mono hB1.size))).below hB6⟩;clear d0 d1 d2 d3 d4 d5
  simp [results, Tryz.results149, go_sem, e0, e1, e2, e3])
theorem sign_open (M c : Nat) (a : Option Addr) (len cap : Nat) (g : Nat → Int) (at' : Nat) (ov : Value) (bs : List Bool) (W : World) (h : MAt W M (.slice a len cap) at' ov) (hS : Sl W c (.slice a len cap) len g) (hO : OwnO W M ov bs) (hcM : c < M) (hat : at' < len) (hlen : len ≤ 1099511627776) (hbl : bs.length ≤ 1099511627776)
 (he : lsg (fun j => g (at' + j)) (min 3 (len - at')) = ⟨#[123]⟩) :
 Calls Tryz.prog 149 #[.pointer (some ⟨M, 0, none⟩)] W (TokO W M (.slice a len cap) ov at' (some (9, [123], at' + 1, bs ++ [false]))) := by
 have hc : c < W.heap.size := Nat.lt_trans hcM h.lt;obtain ⟨i0, hinf, hz0, hzz1, hzz2⟩ := info_parts infoBool;have HO := Hi hO;have HOL : Hid (∀ k, ov.ownBlock = some k → M < k ∧ k < W.heap.size) := fun k hk => hO.lt hk
 clear hO;obtain ⟨W1, hW1⟩ : ∃ W1, W.alloc (.cells #[.int .i64 0, .string ⟨#[]⟩, .int .i64 0, .int .i64 0] 40) = W1 := ⟨_, rfl⟩;have hB1 : Below W.heap.size W W1 := by rw [← hW1]; exact (Below.refl _ W).alloc NL _
 have hz1 : W1.heap.size = W.heap.size + 1 := by rw [← hW1]; simp
 have hr1 : W1.heap[W.heap.size]? = some (.cells #[.int .i64 0, .string ⟨#[]⟩, .int .i64 0, .int .i64 0] 40) := by rw [← hW1]; exact World.alloc_heap_new W _
 have hM1 := h.below hB1 h.lt;have hS1 := hS.keep (B := W1) (fun k e => by subst e; exact hB1.block k hc);have c0 := hM1.c0;have c1 := hM1.c1;have hml := h.lt;obtain ⟨a', c', hsl, hk⟩ := slice_from hS1 (Nat.le_of_lt hat);have HLS := Hi (lsign_any c a' (len - at') c' _ W1.drew (hk _ (hS1.keep (B := W1.drew) (fun _ _ => rfl))) (by show c < W1.heap.size; omega) (by omega));rw [he] at HLS;clear hS hS1 hk;go_enter Tryz.func149, Tryz.ntmps149;go_wp2;go_region_with (go_at_call 199; refine (U HLS).mono ?_; rintro x W2 ⟨rfl, hB2⟩)
 all_goals (
  have hB2' : Below W1.heap.size W1 W2 := (⟨rfl, rfl, rfl, NL, fun _ _ => rfl⟩ : Below W1.heap.size W1 W1.drew).trans hB2;have hM2 := hM1.below hB2' hM1.lt;have hr2 := (hB2'.block W.heap.size (by omega)).trans hr1;have hz2 := hB2'.size;have c1 := hM2.c1;have c0 := hM2.c0;have c2 := hM2.c2;have f2 := hM2.frozen 2;clear hsl;have hBW2 : Below W.heap.size W W2 := hB1.trans (hB2'.mono hB1.size);have HOW := Hi ((U HO).below hBW2 NL);have hmw := hM2.lt;go_wp2_with (at_builtin; refine wpList_append_lies _ rfl _ _ 70 rfl (M + 1) 4 i0 (.bool false) 1 1 Tryz.underlying70 hinf hz0 hzz1 hzz2 rfl (by decide) _ _ _ rfl (World.ownsRow.alloc (U HOW) _) ⟨W2.heap.size, 0, none⟩ 1 1 [.bool false] rfl rfl ?c1 ?c2 (by decide) ?c3 ?c4 ?c5 (W2.heap.size + 1) ?c6 ?_)
  case c1 =>
   intro j u hj;match j, hj with
   | 0, hj => simp at hj; subst hj; simp [Addr.add]
   | (j + 1), hj => simp at hj
  case c2 => intro u hu; simp at hu; subst hu; rfl
  case c3 => unfold maxLen; omega
  case c4 => omega
  case c5 => simp; omega
  case c6 => simp
  intro g1 cap1 w2 hown2 hgrow hwh hlt2;have hal : Below W2.heap.size W2 (W2.alloc (.cells #[.bool false] 4)) := (Below.refl _ W2).alloc NL _;have hMk : ∀ k, k < W2.heap.size → ov.ownBlock ≠ some k → w2.heap[k]? = W2.heap[k]? := fun k hk hn => (hgrow.block k (by simp; omega) (fun e => hn e.symm)).trans (hal.block k hk)
  have hM2' : MAt w2 M (.slice a len cap) at' ov := (hMk M hmw (fun e => by have := (U HOL M e).1; omega)).trans hM2;have hzw := hgrow.size;rw [World.size_alloc] at hzw
  have hg1M : M + 1 ≤ g1 := by
   rcases hwh with hwh | hwh
   · exact (U HOL g1 hwh).1
   · omega
  have hM3 := hM2'.set2 (.slice (some ⟨g1, 0, none⟩) (bs.length + 1) cap1)
  have hO3 : OwnO (w2.setCell ⟨M, 2, none⟩ (.slice (some ⟨g1, 0, none⟩) (bs.length + 1) cap1)) M (.slice (some ⟨g1, 0, none⟩) (bs.length + 1) cap1) (bs ++ [false]) := by
   have h0 : OwnO w2 M (.slice (some ⟨g1, 0, none⟩) (bs.length + 1) cap1) (bs ++ [false]) := by
    unfold OwnO;rw [List.length_append, List.map_append];exact hown2
   exact h0.keep fun k hk => Below.heap_setCell w2 ⟨M, 2, none⟩ _ k (fun e => by cases hk; have e' : g1 = M := e; omega)
  have hFw : Fr (fun k => k = M ∨ ov.ownBlock = some k) W w2 := (((Fr.refl _ W).below hBW2).below (hal.mono hBW2.size)).grown hgrow (fun k e _ => .inr e);have hF3 := hFw.set M 2 (.slice (some ⟨g1, 0, none⟩) (bs.length + 1) cap1) (.inl rfl)
  have hr3 : (w2.setCell ⟨M, 2, none⟩ (.slice (some ⟨g1, 0, none⟩) (bs.length + 1) cap1)).heap[W.heap.size]? = some (.cells #[.int .i64 0, .string ⟨#[]⟩, .int .i64 0, .int .i64 0] 40) :=
   ((Below.heap_setCell w2 ⟨M, 2, none⟩ _ _ (fun e => by have e' : W.heap.size = M := e; omega)).trans (hMk _ (by omega) (fun e => by have := (U HOL _ e).2; omega))).trans hr2
  have hz3 : W2.heap.size + 1 ≤ (w2.setCell ⟨M, 2, none⟩ (.slice (some ⟨g1, 0, none⟩) (bs.length + 1) cap1)).heap.size := by simpa [World.setCell] using hzw
  have f2' := hM2'.frozen 2;have c2' := hM2'.c2;have hmw2 := hM2'.lt;obtain ⟨W3, hW3⟩ : ∃ W3, w2.setCell ⟨M, 2, none⟩ (.slice (some ⟨g1, 0, none⟩) (bs.length + 1) cap1) = W3 := ⟨_, rfl⟩;rw [hW3] at hM3 hO3 hF3 hr3 hz3;have c1' := hM3.c1;have HM3 := Hi hM3;have HO3 := Hi hO3;have HF3 := Hi hF3;have HR3 := Hi hr3;have HZ3 := Hi hz3;have HWH := Hi hwh;clear hown2 hgrow hwh hlt2 hal hMk hM2' hzw hg1M hM3 hO3 hFw hF3 hr3 hz3 hinf hz0 hzz1 hzz2 c0 c1 c2 f2 hM2;go_wp2_with (go_at_call 194; refine (take_any M _ _ at' 9 _ _ W3 (U HM3)).mono ?_; rintro x W5 ⟨rfl, hM5, hF5⟩; have hr5 : W5.heap[W.heap.size]? = some (.cells #[.int .i64 0, .string ⟨#[]⟩, .int .i64 0, .int .i64 0] 40) := (hF5.block W.heap.size (by have := U HZ3; omega) (by omega)).trans (U HR3); obtain ⟨d0, d1, d2, d3⟩ := tok_cells hr5; have d4 := Lib.frozen_of_heap hr5; have d5 : W5.shape? W.heap.size = some (40, 4) := (by simp [World.shape?, hr5]));have hFt : Fr (fun k => k = M ∨ ov.ownBlock = some k) W W5 := (U HF3).trans (hF5.mono (fun k _ e => .inl e));have hO5 : OwnO W5 M (.slice (some ⟨g1, 0, none⟩) (bs.length + 1) cap1) (bs ++ [false]) := (U HO3).fr hF5
  have hgR : g1 ≠ W.heap.size := by
   rcases U HWH with h | h
   · have := (U HOL g1 h).2; omega
   · omega
  have hK6 : (((((W5.setCell ⟨W.heap.size, 0, none⟩ (.int .i64 9)).setCell ⟨W.heap.size, 1, none⟩ (.string ⟨#[123]⟩)).setCell ⟨W.heap.size, 2, none⟩ (.int .i64 (at' : Int))).setCell ⟨W.heap.size, 3, none⟩ (.int .i64 ((at' : Int) + 1)))).heap[g1]? = W5.heap[g1]? := put4_keep hgR _ _ _ _
  have hOBt : OB W ov (.slice (some ⟨g1, 0, none⟩) (bs.length + 1) cap1) := by
   rcases U HWH with h | h
   · exact .inl h.symm
   · exact .inr ⟨g1, rfl, by omega⟩
  have hB6 := put4_below (W := W5) (Nat.le_refl W.heap.size) (.int .i64 9) (.string ⟨#[123]⟩) ((.int .i64 (at' : Int))) ((.int .i64 ((at' : Int) + 1)));have hr6 := put4_heap hr5 (.int .i64 9) (.string ⟨#[123]⟩) ((.int .i64 (at' : Int))) ((.int .i64 ((at' : Int) + 1)));obtain ⟨W6, hW6⟩ : ∃ W6, ((((W5.setCell ⟨W.heap.size, 0, none⟩ (.int .i64 9)).setCell ⟨W.heap.size, 1, none⟩ (.string ⟨#[123]⟩)).setCell ⟨W.heap.size, 2, none⟩ ((.int .i64 (at' : Int)))).setCell ⟨W.heap.size, 3, none⟩ ((.int .i64 ((at' : Int) + 1)))) = W6 := ⟨_, rfl⟩;rw [hW6] at hB6 hr6 hK6 ⊢;clear hW6;obtain ⟨e0, e1, e2, e3⟩ := tok_cells hr6;try rw [Exit.noGoto_ret]
  refine bodyPost_ret (v := .tuple #[.agg #[.int .i64 9, .string ⟨#[123]⟩, (.int .i64 (at' : Int)), (.int .i64 ((at' : Int) + 1))], .bool true]) ?_ rfl ⟨rfl, ⟨_, hM5.below hB6 hml, hO5.keep (fun k hk => by obtain rfl : g1 = k := (by injection hk); exact hK6), hOBt⟩, hFt.below hB6⟩;clear d0 d1 d2 d3 d4 d5
  simp [results, Tryz.results149, go_sem, e0, e1, e2, e3])
theorem sign_close (M c : Nat) (a : Option Addr) (len cap : Nat) (g : Nat → Int) (at' : Nat) (ov : Value) (bs : List Bool) (W : World) (h : MAt W M (.slice a len cap) at' ov) (hS : Sl W c (.slice a len cap) len g) (hO : OwnO W M ov bs) (hcM : c < M) (hat : at' < len) (hlen : len ≤ 1099511627776) (hbl : bs.length ≤ 1099511627776)
 (he : lsg (fun j => g (at' + j)) (min 3 (len - at')) = ⟨#[125]⟩) :
 Calls Tryz.prog 149 #[.pointer (some ⟨M, 0, none⟩)] W (TokO W M (.slice a len cap) ov at' (some (9, [125], at' + 1, bs.dropLast))) := by
 have hc : c < W.heap.size := Nat.lt_trans hcM h.lt;have HO := Hi hO;have HOL : Hid (∀ k, ov.ownBlock = some k → M < k ∧ k < W.heap.size) := fun k hk => hO.lt hk
 clear hO;obtain ⟨W1, hW1⟩ : ∃ W1, W.alloc (.cells #[.int .i64 0, .string ⟨#[]⟩, .int .i64 0, .int .i64 0] 40) = W1 := ⟨_, rfl⟩;have hB1 : Below W.heap.size W W1 := by rw [← hW1]; exact (Below.refl _ W).alloc NL _
 have hz1 : W1.heap.size = W.heap.size + 1 := by rw [← hW1]; simp
 have hr1 : W1.heap[W.heap.size]? = some (.cells #[.int .i64 0, .string ⟨#[]⟩, .int .i64 0, .int .i64 0] 40) := by rw [← hW1]; exact World.alloc_heap_new W _
 have hM1 := h.below hB1 h.lt;have hS1 := hS.keep (B := W1) (fun k e => by subst e; exact hB1.block k hc);have c0 := hM1.c0;have c1 := hM1.c1;have hml := h.lt;obtain ⟨a', c', hsl, hk⟩ := slice_from hS1 (Nat.le_of_lt hat);have HLS := Hi (lsign_any c a' (len - at') c' _ W1.drew (hk _ (hS1.keep (B := W1.drew) (fun _ _ => rfl))) (by show c < W1.heap.size; omega) (by omega));rw [he] at HLS;clear hS hS1 hk;go_enter Tryz.func149, Tryz.ntmps149;go_wp2;go_region_with (go_at_call 199; refine (U HLS).mono ?_; rintro x W2 ⟨rfl, hB2⟩)
 all_goals (
  have hB2' : Below W1.heap.size W1 W2 := (⟨rfl, rfl, rfl, NL, fun _ _ => rfl⟩ : Below W1.heap.size W1 W1.drew).trans hB2;have hM2 := hM1.below hB2' hM1.lt;have hr2 := (hB2'.block W.heap.size (by omega)).trans hr1;have hz2 := hB2'.size;have c1 := hM2.c1;have c0 := hM2.c0;have c2 := hM2.c2;have f2 := hM2.frozen 2;clear hsl;have hBW2 : Below W.heap.size W W2 := hB1.trans (hB2'.mono hB1.size);have HCL := Hi (closeO M _ ov at' bs W2 hM2 ((U HO).below hBW2 NL));clear c0 c1 c2 f2;go_wp2_with (first | (go_at_call 148; refine (U HCL).mono ?_; rintro x W3 ⟨ov', rfl, hM3, hO3, hob, hF3⟩; have c1 := hM3.c1; have hz3 := hF3.size; have HO3 := Hi hO3; have HOB := Hi hob; clear hO3 hob) | (go_at_call 194; refine (take_any M _ _ at' 9 _ _ W3 hM3).mono ?_; rintro x W5 ⟨rfl, hM5, hF5⟩; have hr5 : W5.heap[W.heap.size]? = some (.cells #[.int .i64 0, .string ⟨#[]⟩, .int .i64 0, .int .i64 0] 40) := (hF5.block W.heap.size (by omega) (by omega)).trans ((hF3.block W.heap.size (by omega) (by omega)).trans hr2); obtain ⟨d0, d1, d2, d3⟩ := tok_cells hr5; have d4 := Lib.frozen_of_heap hr5; have d5 : W5.shape? W.heap.size = some (40, 4) := (by simp [World.shape?, hr5])));have hFt : Fr (fun k => k = M) W W5 := (((Fr.refl _ W).below hBW2).trans hF3).trans hF5;have hO5 : OwnO W5 M ov' bs.dropLast := (U HO3).fr hF5;have HKK : Hid (∀ k, ov'.ownBlock = some k → k < W.heap.size) := fun k hk => (U HOL k (by rw [← U HOB]; exact hk)).2
  have hB6 := put4_below (W := W5) (Nat.le_refl W.heap.size) (.int .i64 9) (.string ⟨#[125]⟩) ((.int .i64 (at' : Int))) ((.int .i64 ((at' : Int) + 1)));have hr6 := put4_heap hr5 (.int .i64 9) (.string ⟨#[125]⟩) ((.int .i64 (at' : Int))) ((.int .i64 ((at' : Int) + 1)));obtain ⟨W6, hW6⟩ : ∃ W6, ((((W5.setCell ⟨W.heap.size, 0, none⟩ (.int .i64 9)).setCell ⟨W.heap.size, 1, none⟩ (.string ⟨#[125]⟩)).setCell ⟨W.heap.size, 2, none⟩ ((.int .i64 (at' : Int)))).setCell ⟨W.heap.size, 3, none⟩ ((.int .i64 ((at' : Int) + 1)))) = W6 := ⟨_, rfl⟩;rw [hW6] at hB6 hr6 ⊢;clear hW6;obtain ⟨e0, e1, e2, e3⟩ := tok_cells hr6;try rw [Exit.noGoto_ret]
  refine bodyPost_ret (v := .tuple #[.agg #[.int .i64 9, .string ⟨#[125]⟩, (.int .i64 (at' : Int)), (.int .i64 ((at' : Int) + 1))], .bool true]) ?_ rfl ⟨rfl, ⟨ov', hM5.below hB6 hml, hO5.keep (fun k hk => hB6.block k (U HKK k hk)), .inl (U HOB)⟩, (hFt.below hB6).mono (fun k _ e => .inl e)⟩;clear d0 d1 d2 d3 d4 d5
  simp [results, Tryz.results149, go_sem, e0, e1, e2, e3])
theorem sign_any (M c : Nat) (a : Option Addr) (len cap : Nat) (g : Nat → Int) (hg : ∀ j, 0 ≤ g j ∧ g j ≤ 255) (at' : Nat) (ov : Value) (bs : List Bool) (W : World) (h : MAt W M (.slice a len cap) at' ov) (hS : Sl W c (.slice a len cap) len g) (hO : OwnO W M ov bs) (hcM : c < M) (hat : at' < len) (hlen : len ≤ 1099511627776) (hbl : bs.length ≤ 1099511627776) :
 Calls Tryz.prog 149 #[.pointer (some ⟨M, 0, none⟩)] W (TokO W M (.slice a len cap) ov at' (sigQ g len at' bs)) := by
 have hc : c < W.heap.size := Nat.lt_trans hcM h.lt;have e0 : lsg (fun j => g (at' + j)) (min 3 (len - at')) = strOfNums (sub g at' (at' + sgN g len at')) := by rw [lsg_eq, sub_upto]; rfl
 have hg' : ∀ j, 0 ≤ (fun j => g (at' + j)) j ∧ (fun j => g (at' + j)) j ≤ 255 := fun j => hg _
 have hn := sgN_le g len at';unfold sigQ;by_cases h0 : sgN g len at' = 0
 · rw [if_pos h0]
   rw [h0] at e0;refine (sign_none M c a len cap g at' ov W h hS hc hat hlen (e0.trans (by rw [sub_upto]; rfl))).mono ?_;rintro x W' ⟨h1, h2⟩;exact ⟨h1, h2.mono fun k _ e => .inl e⟩
 rw [if_neg h0];by_cases h1 : sub g at' (at' + sgN g len at') = [123]
 · rw [if_pos h1]
   have hz : sgN g len at' = 1 := by have := congrArg List.length h1; simpa [sub_length] using this
   rw [h1] at e0;rw [h1, hz];exact sign_open M c a len cap g at' ov bs W h hS hO hcM hat hlen hbl e0
 rw [if_neg h1];by_cases h2 : sub g at' (at' + sgN g len at') = [125]
 · rw [if_pos h2]
   have hz : sgN g len at' = 1 := by have := congrArg List.length h2; simpa [sub_length] using this
   rw [h2] at e0;rw [h2, hz];exact sign_close M c a len cap g at' ov bs W h hS hO hcM hat hlen hbl e0
 rw [if_neg h2]
 have hs : (strOfNums (sub g at' (at' + sgN g len at'))).size = sgN g len at' := by
  rw [strOfNums_size, sub_length];omega
 have hl0 : ((strOfNums (sub g at' (at' + sgN g len at'))).toList == []) = false := by
  rw [sub_upto, str_is hg' [] (by simp) [] rfl];exact decide_eq_false fun e => by have := congrArg List.length e; simp [upto] at this; omega
 have hl1 : ((strOfNums (sub g at' (at' + sgN g len at'))).toList == [123]) = false := by
  rw [sub_upto, str_is hg' [123] (by simp) [123] rfl];exact decide_eq_false fun e => h1 (by rw [sub_upto]; exact e)
 have hl2 : ((strOfNums (sub g at' (at' + sgN g len at'))).toList == [125]) = false := by
  rw [sub_upto, str_is hg' [125] (by simp) [125] rfl];exact decide_eq_false fun e => h2 (by rw [sub_upto]; exact e)
 refine (sign_plain M c a len cap g at' ov (strOfNums (sub g at' (at' + sgN g len at'))) W h hS hc hat hlen e0 (by omega) hl0 hl1 hl2).mono ?_;rintro x W' ⟨rfl, hM, hF⟩;rw [hs] at hM;refine ⟨by rw [hs]; rfl, ⟨ov, hM, hO.fr hF, OB.refl _ _⟩, hF.mono fun k _ e => .inl e⟩
end
section
open Go.RowKit Go.Shelf
def tokP (g : Nat → Int) (len at' : Nat) (bs : List Bool) : Option (Int × List Int × Nat × List Bool) :=
 if isL (g at') = true then some (if hasT wordL (strOfNums (sub g at' (stopI isLD g len (at' + 1)))) then 2 else 1, sub g at' (stopI isLD g len (at' + 1)), stopI isLD g len (at' + 1), bs)
 else if isD (g at') = true then (if numOk g len at' = true then some (3, sub g at' (numEnd g len at'), numEnd g len at', bs) else none)
 else if g at' = 34 ∨ g at' = 39 then (quoP g len (g at') at').map fun y => (y.1, y.2.1, y.2.2, bs)
 else if g at' = 96 then pieQ 5 6 bs (pieI g len (at' + 1))
 else if g at' = 125 ∧ lastB bs = true then pieQ 8 7 bs.dropLast (pieI g len (at' + 1))
 else sigQ g len at' bs
theorem tkR_form (at' : Nat) (q : Option (Int × List Int × Nat)) : ∃ k S x e b, tkR at' q = .tuple #[tokV k S x e, .bool b] := by
 cases q with
 | none => exact ⟨_, _, _, _, _, rfl⟩
 | some y => obtain ⟨k, t, e⟩ := y; exact ⟨_, _, _, _, _, rfl⟩
def q3 (q : Option (Int × List Int × Nat × List Bool)) : Option (Int × List Int × Nat) := q.map fun y => (y.1, y.2.1, y.2.2.1)
theorem TokO.val {W : World} {M : Nat} {bv ov : Value} {at' : Nat} {q : Option (Int × List Int × Nat × List Bool)} {x : Ending} {W' : World} (h : TokO W M bv ov at' q x W') : x = .returned (tkR at' (q3 q)) ∧ Fr (fun k => k = M ∨ ov.ownBlock = some k) W W' := by
 cases q with
 | none => exact h
 | some y => obtain ⟨k, t, e, bs⟩ := y; exact ⟨h.1, h.2.2⟩
theorem TokO.lift {W W1 W' W'' : World} {M : Nat} {bv ov : Value} {at' : Nat} {bs : List Bool} {q : Option (Int × List Int × Nat × List Bool)} {x y : Ending} (hB : Below W.heap.size W W1) (hz : W.heap.size < W1.heap.size) (hO : OwnO W M ov bs) (hml : M < W.heap.size) (h : TokO W1 M bv ov at' q x W') (hK : ∀ k, k ≠ W.heap.size → W''.heap[k]? = W'.heap[k]?) (hB6 : Below W.heap.size W' W'') (hy : y = x) : TokO W M bv ov at' q y W'' := by
 subst hy;have hF : ∀ A, Fr (fun k => k = M ∨ ov.ownBlock = some k) W1 A → Fr (fun k => k = M ∨ ov.ownBlock = some k) W A := fun A hA => ⟨hA.os.trans hB.os, hA.tape.trans hB.tape, hA.output.trans hB.output, Nat.le_trans hB.size hA.size, fun k hk hn => (hA.block k (Nat.lt_of_lt_of_le hk hB.size) hn).trans (hB.block k hk)⟩
 cases q with
 | none => exact ⟨h.1, (hF _ h.2).below hB6⟩
 | some y =>
   obtain ⟨k, t, e, bs'⟩ := y;obtain ⟨h1, ⟨ov', hM, hO', hob⟩, hf⟩ := h;refine ⟨h1, ⟨ov', hM.below hB6 hml, hO'.keep fun k hk => hK k ?_, ?_⟩, (hF _ hf).below hB6⟩
   · rcases hob with hob | ⟨k', hk', hl⟩
     · have := (hO.lt (k := k) (by rw [← hob]; exact hk)).2
       omega
     · rw [hk] at hk'
       injection hk' with hk'
       omega
   · rcases hob with hob | ⟨k', hk', hl⟩
     · exact .inl hob
     · exact .inr ⟨k', hk', by omega⟩
theorem TokO.pre {W W3 W' : World} {M : Nat} {bv ov ov' : Value} {at' : Nat} {q : Option (Int × List Int × Nat × List Bool)} {x : Ending} (hF : Fr (fun k => k = M) W W3) (hob : ov'.ownBlock = ov.ownBlock) (h : TokO W3 M bv ov' at' q x W') : TokO W M bv ov at' q x W' := by
 have hF' : ∀ A, Fr (fun k => k = M ∨ ov'.ownBlock = some k) W3 A → Fr (fun k => k = M ∨ ov.ownBlock = some k) W A := fun A hA => (hF.mono (fun k _ e => .inl e)).trans (hA.mono fun k _ e => by rwa [hob] at e)
 cases q with
 | none => exact ⟨h.1, hF' _ h.2⟩
 | some y =>
   obtain ⟨k, t, e, bs'⟩ := y;obtain ⟨h1, ⟨ov2, hM, hO', ho⟩, hf⟩ := h;refine ⟨h1, ⟨ov2, hM, hO', ?_⟩, hF' _ hf⟩;rcases ho with ho | ⟨k', hk', hl⟩
   · exact .inl (ho.trans hob)
   · exact .inr ⟨k', hk', Nat.le_trans hF.size hl⟩
theorem number_post (M c : Nat) (a : Option Addr) (len cap : Nat) (g : Nat → Int) (hg : ∀ j, 0 ≤ g j ∧ g j ≤ 255) (at' : Nat) (ov : Value) (bs : List Bool) (W : World) (h : MAt W M (.slice a len cap) at' ov) (hS : Sl W c (.slice a len cap) len g) (hO : OwnO W M ov bs) (hc : c < W.heap.size) (hat : at' < len) (hD : isD (g at') = true) (hlen : len ≤ 1099511627776) (hE : ErrG W 2) :
 Calls Tryz.prog 144 #[.pointer (some ⟨M, 0, none⟩)] W (TokO W M (.slice a len cap) ov at' (if numOk g len at' = true then some (3, sub g at' (numEnd g len at'), numEnd g len at', bs) else none)) := by
 refine (number_any M c a len cap g hg at' ov W h hS hc hat hD hlen hE).mono ?_;rintro x W' ⟨rfl, hM, hF⟩;have hf : Fr (fun k => k = M ∨ ov.ownBlock = some k) W W' := hF.mono fun k _ e => .inl e
 unfold numT;unfold numAt at hM;by_cases hk : numOk g len at' = true
 · rw [if_pos hk] at hM ⊢
   rw [hk];exact ⟨rfl, ⟨ov, hM, hO.fr hF, OB.refl _ _⟩, hf⟩
 · rw [if_neg hk] at hM ⊢
   have : numOk g len at' = false := by simpa using hk
   rw [this];exact ⟨rfl, hf⟩
attribute [local go_sem] tokV
theorem tokv_num (M c : Nat) (a : Option Addr) (len cap : Nat) (g : Nat → Int) (at' : Nat) (ov : Value) (bs : List Bool) (q : Option (Int × List Int × Nat × List Bool)) (W : World) (h : MAt W M (.slice a len cap) at' ov) (hS : Sl W c (.slice a len cap) len g) (hO : OwnO W M ov bs) (hcM : c < M) (hat : at' < len) (hlen : len ≤ 1099511627776) (hL : isL (g at') = false) (hD : isD (g at') = true)
 (hw : ∀ W1, MAt W1 M (.slice a len cap) at' ov → OwnO W1 M ov bs → Below W.heap.size W W1 → Calls Tryz.prog 144 #[.pointer (some ⟨M, 0, none⟩)] W1 (TokO W1 M (.slice a len cap) ov at' q)) :
 Calls Tryz.prog 91 #[.pointer (some ⟨M, 0, none⟩)] W (TokO W M (.slice a len cap) ov at' q) := by
 have hc : c < W.heap.size := Nat.lt_trans hcM h.lt;have HW := Hi hw;have HO := Hi hO;clear hw hO;obtain ⟨W1, hW1⟩ : ∃ W1, W.alloc (.cells #[.int .i64 0, .string ⟨#[]⟩, .int .i64 0, .int .i64 0] 40) = W1 := ⟨_, rfl⟩;have hB1 : Below W.heap.size W W1 := by rw [← hW1]; exact (Below.refl _ W).alloc NL _
 have hz1 : W1.heap.size = W.heap.size + 1 := by rw [← hW1]; simp
 have hr1 : W1.heap[W.heap.size]? = some (.cells #[.int .i64 0, .string ⟨#[]⟩, .int .i64 0, .int .i64 0] 40) := by rw [← hW1]; exact World.alloc_heap_new W _
 have hM1 := h.below hB1 h.lt;have hml := h.lt;have c0 := hM1.c0;have c1 := hM1.c1;obtain ⟨off, rfl, h1, h2, hcs⟩ := U (sl_cells (hS.keep (B := W1) (fun k e => by subst e; exact hB1.block k hc))) (by omega);unfold maxLen at h2;have hck := hcs at' hat;have n1 : (at' : Int) < len := by omega
 clear hcs hS h;obtain ⟨k, S, x0, e', ok, hfm⟩ := tkR_form at' (q3 q);have HFM := Hi hfm;clear hfm;go_enter Tryz.func91, Tryz.ntmps91;go_wp2;clear hW1;go_quiet (fail)
 have hBd : Below W1.heap.size W1 (W1.drewN nq) := ⟨rfl, rfl, rfl, NL, fun _ _ => rfl⟩;have hB2 : Below W.heap.size W (W1.drewN nq) := hB1.trans (hBd.mono hB1.size);have HT := Hi (U HW (W1.drewN nq) (hM1.below hBd hM1.lt) ((U HO).below hB2 NL) hB2);have HZ : Hid (W.heap.size < (W1.drewN nq).heap.size) := by show W.heap.size < W1.heap.size; omega
 have HR : Hid ((W1.drewN nq).heap[W.heap.size]? = some (.cells #[.int .i64 0, .string ⟨#[]⟩, .int .i64 0, .int .i64 0] 40)) := hr1;have HLIFT : Hid (∀ W3 x, TokO (W1.drewN nq) M (.slice (some ⟨c, off, none⟩) len cap) ov at' q x W3 → TokO (W1.drewN nq) M (.slice (some ⟨c, off, none⟩) len cap) ov at' q x W3) := fun _ _ h => h
 go_wp2_with (first | (go_at_call 141; refine (isLetter_any _ _).mono ?_; rintro x w' ⟨rfl, hw⟩; subst w') | (go_at_call 143; refine (isDigit_any _ _).mono ?_; rintro x w' ⟨rfl, hw⟩; subst w') | (go_at_call 144; refine (U HT).mono ?_; rintro x W3 hT3; have hv3 := hT3.val; have hxr := hv3.1; have hF3 := hv3.2; rw [U HFM] at hxr; subst hxr; have HT3 := Hi hT3; clear hT3 hv3; have hr3 : W3.heap[W.heap.size]? = some (.cells #[.int .i64 0, .string ⟨#[]⟩, .int .i64 0, .int .i64 0] 40) := (hF3.block W.heap.size (by have := U HZ; omega) (by rintro (e | e) <;> first | omega | (have := ((U HO).lt e).2; omega))).trans (U HR); obtain ⟨d0, d1, d2, d3⟩ := tok_cells hr3; have d4 := Lib.frozen_of_heap hr3; have d5 : W3.shape? W.heap.size = some (40, 4) := (by simp [World.shape?, hr3])));have hB4 := put4_below (W := W3) (Nat.le_refl W.heap.size) (.int .i64 k) (.string S) (.int .i64 x0) (.int .i64 e');have hr4 := put4_heap hr3 (.int .i64 k) (.string S) (.int .i64 x0) (.int .i64 e');have hK4 : ∀ j, j ≠ W.heap.size → ((((W3.setCell ⟨W.heap.size, 0, none⟩ (.int .i64 k)).setCell ⟨W.heap.size, 1, none⟩ (.string S)).setCell ⟨W.heap.size, 2, none⟩ (.int .i64 x0)).setCell ⟨W.heap.size, 3, none⟩ (.int .i64 e')).heap[j]? = W3.heap[j]? := fun j hj => put4_keep hj _ _ _ _
 obtain ⟨W4, hW4⟩ : ∃ W4, ((((W3.setCell ⟨W.heap.size, 0, none⟩ (.int .i64 k)).setCell ⟨W.heap.size, 1, none⟩ (.string S)).setCell ⟨W.heap.size, 2, none⟩ (.int .i64 x0)).setCell ⟨W.heap.size, 3, none⟩ (.int .i64 e')) = W4 := ⟨_, rfl⟩;rw [hW4] at hB4 hr4 hK4 ⊢;clear hW4;obtain ⟨e0, e1, e2, e3⟩ := tok_cells hr4;refine bodyPost_ret (v := .tuple #[.agg #[.int .i64 k, .string S, .int .i64 x0, .int .i64 e'], .bool ok]) ?_ rfl (TokO.lift (W1 := W1.drewN nq) hB2 (by show W.heap.size < W1.heap.size; omega) (U HO) hml (U HLIFT W3 _ (U HT3)) hK4 hB4 rfl);clear d0 d1 d2 d3 d4 d5;simp [results, Tryz.results91, go_sem, e0, e1, e2, e3]
theorem tokv_quo34 (M c : Nat) (a : Option Addr) (len cap : Nat) (g : Nat → Int) (at' : Nat) (ov : Value) (bs : List Bool) (q : Option (Int × List Int × Nat × List Bool)) (W : World) (h : MAt W M (.slice a len cap) at' ov) (hS : Sl W c (.slice a len cap) len g) (hO : OwnO W M ov bs) (hcM : c < M) (hat : at' < len) (hlen : len ≤ 1099511627776) (q1 : g at' = 34)
 (hw : ∀ W1, MAt W1 M (.slice a len cap) at' ov → OwnO W1 M ov bs → Below W.heap.size W W1 → Calls Tryz.prog 145 #[.pointer (some ⟨M, 0, none⟩), .int .i32 34] W1 (TokO W1 M (.slice a len cap) ov at' q)) :
 Calls Tryz.prog 91 #[.pointer (some ⟨M, 0, none⟩)] W (TokO W M (.slice a len cap) ov at' q) := by
 have hc : c < W.heap.size := Nat.lt_trans hcM h.lt;have HW := Hi hw;have HO := Hi hO;clear hw hO;obtain ⟨W1, hW1⟩ : ∃ W1, W.alloc (.cells #[.int .i64 0, .string ⟨#[]⟩, .int .i64 0, .int .i64 0] 40) = W1 := ⟨_, rfl⟩;have hB1 : Below W.heap.size W W1 := by rw [← hW1]; exact (Below.refl _ W).alloc NL _
 have hz1 : W1.heap.size = W.heap.size + 1 := by rw [← hW1]; simp
 have hr1 : W1.heap[W.heap.size]? = some (.cells #[.int .i64 0, .string ⟨#[]⟩, .int .i64 0, .int .i64 0] 40) := by rw [← hW1]; exact World.alloc_heap_new W _
 have hM1 := h.below hB1 h.lt;have hml := h.lt;have c0 := hM1.c0;have c1 := hM1.c1;obtain ⟨off, rfl, h1, h2, hcs⟩ := U (sl_cells (hS.keep (B := W1) (fun k e => by subst e; exact hB1.block k hc))) (by omega);unfold maxLen at h2;have hck := hcs at' hat;have n1 : (at' : Int) < len := by omega
 clear hcs hS h;rw [q1] at hck;have hL : isL 34 = false := by decide
 have hD : isD 34 = false := by decide
 obtain ⟨k, S, x0, e', ok, hfm⟩ := tkR_form at' (q3 q);have HFM := Hi hfm;clear hfm;go_enter Tryz.func91, Tryz.ntmps91;go_wp2;clear hW1;go_quiet (fail)
 have hBd : Below W1.heap.size W1 (W1.drewN nq) := ⟨rfl, rfl, rfl, NL, fun _ _ => rfl⟩;have hB2 : Below W.heap.size W (W1.drewN nq) := hB1.trans (hBd.mono hB1.size);have HT := Hi (U HW (W1.drewN nq) (hM1.below hBd hM1.lt) ((U HO).below hB2 NL) hB2);have HZ : Hid (W.heap.size < (W1.drewN nq).heap.size) := by show W.heap.size < W1.heap.size; omega
 have HR : Hid ((W1.drewN nq).heap[W.heap.size]? = some (.cells #[.int .i64 0, .string ⟨#[]⟩, .int .i64 0, .int .i64 0] 40)) := hr1;have HLIFT : Hid (∀ W3 x, TokO (W1.drewN nq) M (.slice (some ⟨c, off, none⟩) len cap) ov at' q x W3 → TokO (W1.drewN nq) M (.slice (some ⟨c, off, none⟩) len cap) ov at' q x W3) := fun _ _ h => h
 go_wp2_with (first | (go_at_call 141; refine (isLetter_any _ _).mono ?_; rintro x w' ⟨rfl, hw⟩; subst w') | (go_at_call 143; refine (isDigit_any _ _).mono ?_; rintro x w' ⟨rfl, hw⟩; subst w') | (go_at_call 145; refine (U HT).mono ?_; rintro x W3 hT3; have hv3 := hT3.val; have hxr := hv3.1; have hF3 := hv3.2; rw [U HFM] at hxr; subst hxr; have HT3 := Hi hT3; clear hT3 hv3; have hr3 : W3.heap[W.heap.size]? = some (.cells #[.int .i64 0, .string ⟨#[]⟩, .int .i64 0, .int .i64 0] 40) := (hF3.block W.heap.size (by have := U HZ; omega) (by rintro (e | e) <;> first | omega | (have := ((U HO).lt e).2; omega))).trans (U HR); obtain ⟨d0, d1, d2, d3⟩ := tok_cells hr3; have d4 := Lib.frozen_of_heap hr3; have d5 : W3.shape? W.heap.size = some (40, 4) := (by simp [World.shape?, hr3])));have hB4 := put4_below (W := W3) (Nat.le_refl W.heap.size) (.int .i64 k) (.string S) (.int .i64 x0) (.int .i64 e');have hr4 := put4_heap hr3 (.int .i64 k) (.string S) (.int .i64 x0) (.int .i64 e');have hK4 : ∀ j, j ≠ W.heap.size → ((((W3.setCell ⟨W.heap.size, 0, none⟩ (.int .i64 k)).setCell ⟨W.heap.size, 1, none⟩ (.string S)).setCell ⟨W.heap.size, 2, none⟩ (.int .i64 x0)).setCell ⟨W.heap.size, 3, none⟩ (.int .i64 e')).heap[j]? = W3.heap[j]? := fun j hj => put4_keep hj _ _ _ _
 obtain ⟨W4, hW4⟩ : ∃ W4, ((((W3.setCell ⟨W.heap.size, 0, none⟩ (.int .i64 k)).setCell ⟨W.heap.size, 1, none⟩ (.string S)).setCell ⟨W.heap.size, 2, none⟩ (.int .i64 x0)).setCell ⟨W.heap.size, 3, none⟩ (.int .i64 e')) = W4 := ⟨_, rfl⟩;rw [hW4] at hB4 hr4 hK4 ⊢;clear hW4;obtain ⟨e0, e1, e2, e3⟩ := tok_cells hr4;refine bodyPost_ret (v := .tuple #[.agg #[.int .i64 k, .string S, .int .i64 x0, .int .i64 e'], .bool ok]) ?_ rfl (TokO.lift (W1 := W1.drewN nq) hB2 (by show W.heap.size < W1.heap.size; omega) (U HO) hml (U HLIFT W3 _ (U HT3)) hK4 hB4 rfl);clear d0 d1 d2 d3 d4 d5;simp [results, Tryz.results91, go_sem, e0, e1, e2, e3]
theorem tokv_quo39 (M c : Nat) (a : Option Addr) (len cap : Nat) (g : Nat → Int) (at' : Nat) (ov : Value) (bs : List Bool) (q : Option (Int × List Int × Nat × List Bool)) (W : World) (h : MAt W M (.slice a len cap) at' ov) (hS : Sl W c (.slice a len cap) len g) (hO : OwnO W M ov bs) (hcM : c < M) (hat : at' < len) (hlen : len ≤ 1099511627776) (q1 : g at' = 39)
 (hw : ∀ W1, MAt W1 M (.slice a len cap) at' ov → OwnO W1 M ov bs → Below W.heap.size W W1 → Calls Tryz.prog 145 #[.pointer (some ⟨M, 0, none⟩), .int .i32 39] W1 (TokO W1 M (.slice a len cap) ov at' q)) :
 Calls Tryz.prog 91 #[.pointer (some ⟨M, 0, none⟩)] W (TokO W M (.slice a len cap) ov at' q) := by
 have hc : c < W.heap.size := Nat.lt_trans hcM h.lt;have HW := Hi hw;have HO := Hi hO;clear hw hO;obtain ⟨W1, hW1⟩ : ∃ W1, W.alloc (.cells #[.int .i64 0, .string ⟨#[]⟩, .int .i64 0, .int .i64 0] 40) = W1 := ⟨_, rfl⟩;have hB1 : Below W.heap.size W W1 := by rw [← hW1]; exact (Below.refl _ W).alloc NL _
 have hz1 : W1.heap.size = W.heap.size + 1 := by rw [← hW1]; simp
 have hr1 : W1.heap[W.heap.size]? = some (.cells #[.int .i64 0, .string ⟨#[]⟩, .int .i64 0, .int .i64 0] 40) := by rw [← hW1]; exact World.alloc_heap_new W _
 have hM1 := h.below hB1 h.lt;have hml := h.lt;have c0 := hM1.c0;have c1 := hM1.c1;obtain ⟨off, rfl, h1, h2, hcs⟩ := U (sl_cells (hS.keep (B := W1) (fun k e => by subst e; exact hB1.block k hc))) (by omega);unfold maxLen at h2;have hck := hcs at' hat;have n1 : (at' : Int) < len := by omega
 clear hcs hS h;rw [q1] at hck;have hL : isL 39 = false := by decide
 have hD : isD 39 = false := by decide
 obtain ⟨k, S, x0, e', ok, hfm⟩ := tkR_form at' (q3 q);have HFM := Hi hfm;clear hfm;go_enter Tryz.func91, Tryz.ntmps91;go_wp2;clear hW1;go_quiet (fail)
 have hBd : Below W1.heap.size W1 (W1.drewN nq) := ⟨rfl, rfl, rfl, NL, fun _ _ => rfl⟩;have hB2 : Below W.heap.size W (W1.drewN nq) := hB1.trans (hBd.mono hB1.size);have HT := Hi (U HW (W1.drewN nq) (hM1.below hBd hM1.lt) ((U HO).below hB2 NL) hB2);have HZ : Hid (W.heap.size < (W1.drewN nq).heap.size) := by show W.heap.size < W1.heap.size; omega
 have HR : Hid ((W1.drewN nq).heap[W.heap.size]? = some (.cells #[.int .i64 0, .string ⟨#[]⟩, .int .i64 0, .int .i64 0] 40)) := hr1;have HLIFT : Hid (∀ W3 x, TokO (W1.drewN nq) M (.slice (some ⟨c, off, none⟩) len cap) ov at' q x W3 → TokO (W1.drewN nq) M (.slice (some ⟨c, off, none⟩) len cap) ov at' q x W3) := fun _ _ h => h
 go_wp2_with (first | (go_at_call 141; refine (isLetter_any _ _).mono ?_; rintro x w' ⟨rfl, hw⟩; subst w') | (go_at_call 143; refine (isDigit_any _ _).mono ?_; rintro x w' ⟨rfl, hw⟩; subst w') | (go_at_call 145; refine (U HT).mono ?_; rintro x W3 hT3; have hv3 := hT3.val; have hxr := hv3.1; have hF3 := hv3.2; rw [U HFM] at hxr; subst hxr; have HT3 := Hi hT3; clear hT3 hv3; have hr3 : W3.heap[W.heap.size]? = some (.cells #[.int .i64 0, .string ⟨#[]⟩, .int .i64 0, .int .i64 0] 40) := (hF3.block W.heap.size (by have := U HZ; omega) (by rintro (e | e) <;> first | omega | (have := ((U HO).lt e).2; omega))).trans (U HR); obtain ⟨d0, d1, d2, d3⟩ := tok_cells hr3; have d4 := Lib.frozen_of_heap hr3; have d5 : W3.shape? W.heap.size = some (40, 4) := (by simp [World.shape?, hr3])));have hB4 := put4_below (W := W3) (Nat.le_refl W.heap.size) (.int .i64 k) (.string S) (.int .i64 x0) (.int .i64 e');have hr4 := put4_heap hr3 (.int .i64 k) (.string S) (.int .i64 x0) (.int .i64 e');have hK4 : ∀ j, j ≠ W.heap.size → ((((W3.setCell ⟨W.heap.size, 0, none⟩ (.int .i64 k)).setCell ⟨W.heap.size, 1, none⟩ (.string S)).setCell ⟨W.heap.size, 2, none⟩ (.int .i64 x0)).setCell ⟨W.heap.size, 3, none⟩ (.int .i64 e')).heap[j]? = W3.heap[j]? := fun j hj => put4_keep hj _ _ _ _
 obtain ⟨W4, hW4⟩ : ∃ W4, ((((W3.setCell ⟨W.heap.size, 0, none⟩ (.int .i64 k)).setCell ⟨W.heap.size, 1, none⟩ (.string S)).setCell ⟨W.heap.size, 2, none⟩ (.int .i64 x0)).setCell ⟨W.heap.size, 3, none⟩ (.int .i64 e')) = W4 := ⟨_, rfl⟩;rw [hW4] at hB4 hr4 hK4 ⊢;clear hW4;obtain ⟨e0, e1, e2, e3⟩ := tok_cells hr4;refine bodyPost_ret (v := .tuple #[.agg #[.int .i64 k, .string S, .int .i64 x0, .int .i64 e'], .bool ok]) ?_ rfl (TokO.lift (W1 := W1.drewN nq) hB2 (by show W.heap.size < W1.heap.size; omega) (U HO) hml (U HLIFT W3 _ (U HT3)) hK4 hB4 rfl);clear d0 d1 d2 d3 d4 d5;simp [results, Tryz.results91, go_sem, e0, e1, e2, e3]
theorem tokv_tpl (M c : Nat) (a : Option Addr) (len cap : Nat) (g : Nat → Int) (at' : Nat) (ov : Value) (bs : List Bool) (q : Option (Int × List Int × Nat × List Bool)) (W : World) (h : MAt W M (.slice a len cap) at' ov) (hS : Sl W c (.slice a len cap) len g) (hO : OwnO W M ov bs) (hcM : c < M) (hat : at' < len) (hlen : len ≤ 1099511627776) (q1 : g at' = 96)
 (hw : ∀ W1, MAt W1 M (.slice a len cap) at' ov → OwnO W1 M ov bs → Below W.heap.size W W1 → Calls Tryz.prog 146 #[.pointer (some ⟨M, 0, none⟩), .int .i64 5, .int .i64 6] W1 (TokO W1 M (.slice a len cap) ov at' q)) :
 Calls Tryz.prog 91 #[.pointer (some ⟨M, 0, none⟩)] W (TokO W M (.slice a len cap) ov at' q) := by
 have hc : c < W.heap.size := Nat.lt_trans hcM h.lt;have HW := Hi hw;have HO := Hi hO;clear hw hO;obtain ⟨W1, hW1⟩ : ∃ W1, W.alloc (.cells #[.int .i64 0, .string ⟨#[]⟩, .int .i64 0, .int .i64 0] 40) = W1 := ⟨_, rfl⟩;have hB1 : Below W.heap.size W W1 := by rw [← hW1]; exact (Below.refl _ W).alloc NL _
 have hz1 : W1.heap.size = W.heap.size + 1 := by rw [← hW1]; simp
 have hr1 : W1.heap[W.heap.size]? = some (.cells #[.int .i64 0, .string ⟨#[]⟩, .int .i64 0, .int .i64 0] 40) := by rw [← hW1]; exact World.alloc_heap_new W _
 have hM1 := h.below hB1 h.lt;have hml := h.lt;have c0 := hM1.c0;have c1 := hM1.c1;obtain ⟨off, rfl, h1, h2, hcs⟩ := U (sl_cells (hS.keep (B := W1) (fun k e => by subst e; exact hB1.block k hc))) (by omega);unfold maxLen at h2;have hck := hcs at' hat;have n1 : (at' : Int) < len := by omega
 clear hcs hS h;rw [q1] at hck;have hL : isL 96 = false := by decide
 have hD : isD 96 = false := by decide
 obtain ⟨k, S, x0, e', ok, hfm⟩ := tkR_form at' (q3 q);have HFM := Hi hfm;clear hfm;go_enter Tryz.func91, Tryz.ntmps91;go_wp2;clear hW1;go_quiet (fail)
 have hBd : Below W1.heap.size W1 (W1.drewN nq) := ⟨rfl, rfl, rfl, NL, fun _ _ => rfl⟩;have hB2 : Below W.heap.size W (W1.drewN nq) := hB1.trans (hBd.mono hB1.size);have HT := Hi (U HW (W1.drewN nq) (hM1.below hBd hM1.lt) ((U HO).below hB2 NL) hB2);have HZ : Hid (W.heap.size < (W1.drewN nq).heap.size) := by show W.heap.size < W1.heap.size; omega
 have HR : Hid ((W1.drewN nq).heap[W.heap.size]? = some (.cells #[.int .i64 0, .string ⟨#[]⟩, .int .i64 0, .int .i64 0] 40)) := hr1;have HLIFT : Hid (∀ W3 x, TokO (W1.drewN nq) M (.slice (some ⟨c, off, none⟩) len cap) ov at' q x W3 → TokO (W1.drewN nq) M (.slice (some ⟨c, off, none⟩) len cap) ov at' q x W3) := fun _ _ h => h
 go_wp2_with (first | (go_at_call 141; refine (isLetter_any _ _).mono ?_; rintro x w' ⟨rfl, hw⟩; subst w') | (go_at_call 143; refine (isDigit_any _ _).mono ?_; rintro x w' ⟨rfl, hw⟩; subst w') | (go_at_call 146; refine (U HT).mono ?_; rintro x W3 hT3; have hv3 := hT3.val; have hxr := hv3.1; have hF3 := hv3.2; rw [U HFM] at hxr; subst hxr; have HT3 := Hi hT3; clear hT3 hv3; have hr3 : W3.heap[W.heap.size]? = some (.cells #[.int .i64 0, .string ⟨#[]⟩, .int .i64 0, .int .i64 0] 40) := (hF3.block W.heap.size (by have := U HZ; omega) (by rintro (e | e) <;> first | omega | (have := ((U HO).lt e).2; omega))).trans (U HR); obtain ⟨d0, d1, d2, d3⟩ := tok_cells hr3; have d4 := Lib.frozen_of_heap hr3; have d5 : W3.shape? W.heap.size = some (40, 4) := (by simp [World.shape?, hr3])));have hB4 := put4_below (W := W3) (Nat.le_refl W.heap.size) (.int .i64 k) (.string S) (.int .i64 x0) (.int .i64 e');have hr4 := put4_heap hr3 (.int .i64 k) (.string S) (.int .i64 x0) (.int .i64 e');have hK4 : ∀ j, j ≠ W.heap.size → ((((W3.setCell ⟨W.heap.size, 0, none⟩ (.int .i64 k)).setCell ⟨W.heap.size, 1, none⟩ (.string S)).setCell ⟨W.heap.size, 2, none⟩ (.int .i64 x0)).setCell ⟨W.heap.size, 3, none⟩ (.int .i64 e')).heap[j]? = W3.heap[j]? := fun j hj => put4_keep hj _ _ _ _
 obtain ⟨W4, hW4⟩ : ∃ W4, ((((W3.setCell ⟨W.heap.size, 0, none⟩ (.int .i64 k)).setCell ⟨W.heap.size, 1, none⟩ (.string S)).setCell ⟨W.heap.size, 2, none⟩ (.int .i64 x0)).setCell ⟨W.heap.size, 3, none⟩ (.int .i64 e')) = W4 := ⟨_, rfl⟩;rw [hW4] at hB4 hr4 hK4 ⊢;clear hW4;obtain ⟨e0, e1, e2, e3⟩ := tok_cells hr4;refine bodyPost_ret (v := .tuple #[.agg #[.int .i64 k, .string S, .int .i64 x0, .int .i64 e'], .bool ok]) ?_ rfl (TokO.lift (W1 := W1.drewN nq) hB2 (by show W.heap.size < W1.heap.size; omega) (U HO) hml (U HLIFT W3 _ (U HT3)) hK4 hB4 rfl);clear d0 d1 d2 d3 d4 d5;simp [results, Tryz.results91, go_sem, e0, e1, e2, e3]
theorem tokv_sgn (M c : Nat) (a : Option Addr) (len cap : Nat) (g : Nat → Int) (at' : Nat) (ov : Value) (bs : List Bool) (q : Option (Int × List Int × Nat × List Bool)) (W : World) (h : MAt W M (.slice a len cap) at' ov) (hS : Sl W c (.slice a len cap) len g) (hO : OwnO W M ov bs) (hcM : c < M) (hat : at' < len) (hlen : len ≤ 1099511627776) (hL : isL (g at') = false) (hD : isD (g at') = false) (q1 : g at' ≠ 34) (q2 : g at' ≠ 39) (q3' : g at' ≠ 96) (q4 : g at' ≠ 125)
 (hw : ∀ W1, MAt W1 M (.slice a len cap) at' ov → OwnO W1 M ov bs → Below W.heap.size W W1 → Calls Tryz.prog 149 #[.pointer (some ⟨M, 0, none⟩)] W1 (TokO W1 M (.slice a len cap) ov at' q)) :
 Calls Tryz.prog 91 #[.pointer (some ⟨M, 0, none⟩)] W (TokO W M (.slice a len cap) ov at' q) := by
 have hc : c < W.heap.size := Nat.lt_trans hcM h.lt;have HW := Hi hw;have HO := Hi hO;clear hw hO;obtain ⟨W1, hW1⟩ : ∃ W1, W.alloc (.cells #[.int .i64 0, .string ⟨#[]⟩, .int .i64 0, .int .i64 0] 40) = W1 := ⟨_, rfl⟩;have hB1 : Below W.heap.size W W1 := by rw [← hW1]; exact (Below.refl _ W).alloc NL _
 have hz1 : W1.heap.size = W.heap.size + 1 := by rw [← hW1]; simp
 have hr1 : W1.heap[W.heap.size]? = some (.cells #[.int .i64 0, .string ⟨#[]⟩, .int .i64 0, .int .i64 0] 40) := by rw [← hW1]; exact World.alloc_heap_new W _
 have hM1 := h.below hB1 h.lt;have hml := h.lt;have c0 := hM1.c0;have c1 := hM1.c1;obtain ⟨off, rfl, h1, h2, hcs⟩ := U (sl_cells (hS.keep (B := W1) (fun k e => by subst e; exact hB1.block k hc))) (by omega);unfold maxLen at h2;have hck := hcs at' hat;have n1 : (at' : Int) < len := by omega
 clear hcs hS h;have b1 : (g at' == 34) = false := by simpa using q1
 have b2 : (g at' == 39) = false := by simpa using q2
 have b3 : (g at' == 96) = false := by simpa using q3'
 have b4 : (g at' == 125) = false := by simpa using q4
 obtain ⟨k, S, x0, e', ok, hfm⟩ := tkR_form at' (q3 q);have HFM := Hi hfm;clear hfm;go_enter Tryz.func91, Tryz.ntmps91;go_wp2;clear hW1;go_quiet (fail)
 have hBd : Below W1.heap.size W1 (W1.drewN nq) := ⟨rfl, rfl, rfl, NL, fun _ _ => rfl⟩;have hB2 : Below W.heap.size W (W1.drewN nq) := hB1.trans (hBd.mono hB1.size);have HT := Hi (U HW (W1.drewN nq) (hM1.below hBd hM1.lt) ((U HO).below hB2 NL) hB2);have HZ : Hid (W.heap.size < (W1.drewN nq).heap.size) := by show W.heap.size < W1.heap.size; omega
 have HR : Hid ((W1.drewN nq).heap[W.heap.size]? = some (.cells #[.int .i64 0, .string ⟨#[]⟩, .int .i64 0, .int .i64 0] 40)) := hr1;have HLIFT : Hid (∀ W3 x, TokO (W1.drewN nq) M (.slice (some ⟨c, off, none⟩) len cap) ov at' q x W3 → TokO (W1.drewN nq) M (.slice (some ⟨c, off, none⟩) len cap) ov at' q x W3) := fun _ _ h => h
 go_wp2_with (first | (go_at_call 141; refine (isLetter_any _ _).mono ?_; rintro x w' ⟨rfl, hw⟩; subst w') | (go_at_call 143; refine (isDigit_any _ _).mono ?_; rintro x w' ⟨rfl, hw⟩; subst w') | (go_at_call 149; refine (U HT).mono ?_; rintro x W3 hT3; have hv3 := hT3.val; have hxr := hv3.1; have hF3 := hv3.2; rw [U HFM] at hxr; subst hxr; have HT3 := Hi hT3; clear hT3 hv3; have hr3 : W3.heap[W.heap.size]? = some (.cells #[.int .i64 0, .string ⟨#[]⟩, .int .i64 0, .int .i64 0] 40) := (hF3.block W.heap.size (by have := U HZ; omega) (by rintro (e | e) <;> first | omega | (have := ((U HO).lt e).2; omega))).trans (U HR); obtain ⟨d0, d1, d2, d3⟩ := tok_cells hr3; have d4 := Lib.frozen_of_heap hr3; have d5 : W3.shape? W.heap.size = some (40, 4) := (by simp [World.shape?, hr3])));have hB4 := put4_below (W := W3) (Nat.le_refl W.heap.size) (.int .i64 k) (.string S) (.int .i64 x0) (.int .i64 e');have hr4 := put4_heap hr3 (.int .i64 k) (.string S) (.int .i64 x0) (.int .i64 e');have hK4 : ∀ j, j ≠ W.heap.size → ((((W3.setCell ⟨W.heap.size, 0, none⟩ (.int .i64 k)).setCell ⟨W.heap.size, 1, none⟩ (.string S)).setCell ⟨W.heap.size, 2, none⟩ (.int .i64 x0)).setCell ⟨W.heap.size, 3, none⟩ (.int .i64 e')).heap[j]? = W3.heap[j]? := fun j hj => put4_keep hj _ _ _ _
 obtain ⟨W4, hW4⟩ : ∃ W4, ((((W3.setCell ⟨W.heap.size, 0, none⟩ (.int .i64 k)).setCell ⟨W.heap.size, 1, none⟩ (.string S)).setCell ⟨W.heap.size, 2, none⟩ (.int .i64 x0)).setCell ⟨W.heap.size, 3, none⟩ (.int .i64 e')) = W4 := ⟨_, rfl⟩;rw [hW4] at hB4 hr4 hK4 ⊢;clear hW4;obtain ⟨e0, e1, e2, e3⟩ := tok_cells hr4;refine bodyPost_ret (v := .tuple #[.agg #[.int .i64 k, .string S, .int .i64 x0, .int .i64 e'], .bool ok]) ?_ rfl (TokO.lift (W1 := W1.drewN nq) hB2 (by show W.heap.size < W1.heap.size; omega) (U HO) hml (U HLIFT W3 _ (U HT3)) hK4 hB4 rfl);clear d0 d1 d2 d3 d4 d5;simp [results, Tryz.results91, go_sem, e0, e1, e2, e3]
theorem tokv_cls (M c : Nat) (a : Option Addr) (len cap : Nat) (g : Nat → Int) (at' : Nat) (ov : Value) (bs : List Bool) (q : Option (Int × List Int × Nat × List Bool)) (W : World) (h : MAt W M (.slice a len cap) at' ov) (hS : Sl W c (.slice a len cap) len g) (hO : OwnO W M ov bs) (hcM : c < M) (hat : at' < len) (hlen : len ≤ 1099511627776) (q1 : g at' = 125) (hlb : lastB bs = false)
 (hw : ∀ W1, MAt W1 M (.slice a len cap) at' ov → OwnO W1 M ov bs → Below W.heap.size W W1 → Calls Tryz.prog 149 #[.pointer (some ⟨M, 0, none⟩)] W1 (TokO W1 M (.slice a len cap) ov at' q)) :
 Calls Tryz.prog 91 #[.pointer (some ⟨M, 0, none⟩)] W (TokO W M (.slice a len cap) ov at' q) := by
 have hc : c < W.heap.size := Nat.lt_trans hcM h.lt;have HW := Hi hw;have HO := Hi hO;clear hw hO;obtain ⟨W1, hW1⟩ : ∃ W1, W.alloc (.cells #[.int .i64 0, .string ⟨#[]⟩, .int .i64 0, .int .i64 0] 40) = W1 := ⟨_, rfl⟩;have hB1 : Below W.heap.size W W1 := by rw [← hW1]; exact (Below.refl _ W).alloc NL _
 have hz1 : W1.heap.size = W.heap.size + 1 := by rw [← hW1]; simp
 have hr1 : W1.heap[W.heap.size]? = some (.cells #[.int .i64 0, .string ⟨#[]⟩, .int .i64 0, .int .i64 0] 40) := by rw [← hW1]; exact World.alloc_heap_new W _
 have hM1 := h.below hB1 h.lt;have hml := h.lt;have c0 := hM1.c0;have c1 := hM1.c1;obtain ⟨off, rfl, h1, h2, hcs⟩ := U (sl_cells (hS.keep (B := W1) (fun k e => by subst e; exact hB1.block k hc))) (by omega);unfold maxLen at h2;have hck := hcs at' hat;have n1 : (at' : Int) < len := by omega
 clear hcs hS h;rw [q1] at hck;have hL : isL 125 = false := by decide
 have hD : isD 125 = false := by decide
 obtain ⟨k, S, x0, e', ok, hfm⟩ := tkR_form at' (q3 q);have HFM := Hi hfm;clear hfm;go_enter Tryz.func91, Tryz.ntmps91;go_wp2;clear hW1;go_quiet (fail)
 have hBd : Below W1.heap.size W1 (W1.drewN nq) := ⟨rfl, rfl, rfl, NL, fun _ _ => rfl⟩;have hB2 : Below W.heap.size W (W1.drewN nq) := hB1.trans (hBd.mono hB1.size);have HIH := Hi (inHole_any M _ ov at' bs (W1.drewN nq) (hM1.below hBd hM1.lt) ((U HO).below hB2 NL).opn);rw [hlb] at HIH;go_wp2_with (first | (go_at_call 141; refine (isLetter_any _ _).mono ?_; rintro x w' ⟨rfl, hw⟩; subst w') | (go_at_call 143; refine (isDigit_any _ _).mono ?_; rintro x w' ⟨rfl, hw⟩; subst w') | (go_at_call 147; refine (U HIH).mono ?_; rintro x W2 ⟨rfl, hBh⟩; have hB2' := hB2.trans (hBh.mono hB2.size); have hM2 := (hM1.below hBd hM1.lt).below hBh (by show M < W1.heap.size; omega); have HT := Hi (U HW W2 hM2 ((U HO).below hB2' NL) hB2'); have HZ : Hid (W.heap.size < W2.heap.size) := (by have := hBh.size; show W.heap.size < W2.heap.size; have e1 : (W1.drewN nq).heap.size = W1.heap.size := rfl; omega); have HR : Hid (W2.heap[W.heap.size]? = some (.cells #[.int .i64 0, .string ⟨#[]⟩, .int .i64 0, .int .i64 0] 40)) := (hBh.block W.heap.size (by show W.heap.size < W1.heap.size; omega)).trans hr1) | (go_at_call 149; refine (U HT).mono ?_; rintro x W3 hT3; have hv3 := hT3.val; have hxr := hv3.1; have hF3 := hv3.2; rw [U HFM] at hxr; subst hxr; have HT3 := Hi hT3; clear hT3 hv3; have hr3 : W3.heap[W.heap.size]? = some (.cells #[.int .i64 0, .string ⟨#[]⟩, .int .i64 0, .int .i64 0] 40) := (hF3.block W.heap.size (by have := U HZ; omega) (by rintro (e | e) <;> first | omega | (have := ((U HO).lt e).2; omega))).trans (U HR); obtain ⟨d0, d1, d2, d3⟩ := tok_cells hr3; have d4 := Lib.frozen_of_heap hr3; have d5 : W3.shape? W.heap.size = some (40, 4) := (by simp [World.shape?, hr3])))
 have hB4 := put4_below (W := W3) (Nat.le_refl W.heap.size) (.int .i64 k) (.string S) (.int .i64 x0) (.int .i64 e');have hr4 := put4_heap hr3 (.int .i64 k) (.string S) (.int .i64 x0) (.int .i64 e');have hK4 : ∀ j, j ≠ W.heap.size → ((((W3.setCell ⟨W.heap.size, 0, none⟩ (.int .i64 k)).setCell ⟨W.heap.size, 1, none⟩ (.string S)).setCell ⟨W.heap.size, 2, none⟩ (.int .i64 x0)).setCell ⟨W.heap.size, 3, none⟩ (.int .i64 e')).heap[j]? = W3.heap[j]? := fun j hj => put4_keep hj _ _ _ _
 obtain ⟨W4, hW4⟩ : ∃ W4, ((((W3.setCell ⟨W.heap.size, 0, none⟩ (.int .i64 k)).setCell ⟨W.heap.size, 1, none⟩ (.string S)).setCell ⟨W.heap.size, 2, none⟩ (.int .i64 x0)).setCell ⟨W.heap.size, 3, none⟩ (.int .i64 e')) = W4 := ⟨_, rfl⟩;rw [hW4] at hB4 hr4 hK4 ⊢;clear hW4;obtain ⟨e0, e1, e2, e3⟩ := tok_cells hr4;refine bodyPost_ret (v := .tuple #[.agg #[.int .i64 k, .string S, .int .i64 x0, .int .i64 e'], .bool ok]) ?_ rfl (TokO.lift (W1 := W2) hB2' (U HZ) (U HO) hml (U HT3) hK4 hB4 rfl);clear d0 d1 d2 d3 d4 d5;simp [results, Tryz.results91, go_sem, e0, e1, e2, e3]
end
section
open Go.RowKit Go.Shelf
attribute [local go_sem] tokV
theorem tokv_hol (M c : Nat) (a : Option Addr) (len cap : Nat) (g : Nat → Int) (at' : Nat) (ov : Value) (bs : List Bool) (q : Option (Int × List Int × Nat × List Bool)) (W : World) (h : MAt W M (.slice a len cap) at' ov) (hS : Sl W c (.slice a len cap) len g) (hO : OwnO W M ov bs) (hcM : c < M) (hat : at' < len) (hlen : len ≤ 1099511627776) (q1 : g at' = 125) (hlb : lastB bs = true)
 (hw : ∀ W1 ov', MAt W1 M (.slice a len cap) at' ov' → OwnO W1 M ov' bs.dropLast → Fr (fun k => k = M) W W1 → Calls Tryz.prog 146 #[.pointer (some ⟨M, 0, none⟩), .int .i64 8, .int .i64 7] W1 (TokO W1 M (.slice a len cap) ov' at' q)) :
 Calls Tryz.prog 91 #[.pointer (some ⟨M, 0, none⟩)] W (TokO W M (.slice a len cap) ov at' q) := by
 have hc : c < W.heap.size := Nat.lt_trans hcM h.lt;have HW := Hi hw;have HO := Hi hO;clear hw hO;obtain ⟨W1, hW1⟩ : ∃ W1, W.alloc (.cells #[.int .i64 0, .string ⟨#[]⟩, .int .i64 0, .int .i64 0] 40) = W1 := ⟨_, rfl⟩;have hB1 : Below W.heap.size W W1 := by rw [← hW1]; exact (Below.refl _ W).alloc NL _
 have hz1 : W1.heap.size = W.heap.size + 1 := by rw [← hW1]; simp
 have hr1 : W1.heap[W.heap.size]? = some (.cells #[.int .i64 0, .string ⟨#[]⟩, .int .i64 0, .int .i64 0] 40) := by rw [← hW1]; exact World.alloc_heap_new W _
 have hM1 := h.below hB1 h.lt;have hml := h.lt;have c0 := hM1.c0;have c1 := hM1.c1;obtain ⟨off, rfl, h1, h2, hcs⟩ := U (sl_cells (hS.keep (B := W1) (fun k e => by subst e; exact hB1.block k hc))) (by omega);unfold maxLen at h2;have hck := hcs at' hat;have n1 : (at' : Int) < len := by omega
 clear hcs hS h;rw [q1] at hck;have hL : isL 125 = false := by decide
 have hD : isD 125 = false := by decide
 obtain ⟨k, S, x0, e', ok, hfm⟩ := tkR_form at' (q3 q);have HFM := Hi hfm;clear hfm;go_enter Tryz.func91, Tryz.ntmps91;go_wp2;clear hW1;go_quiet (fail)
 have hBd : Below W1.heap.size W1 (W1.drewN nq) := ⟨rfl, rfl, rfl, NL, fun _ _ => rfl⟩;have hB2 : Below W.heap.size W (W1.drewN nq) := hB1.trans (hBd.mono hB1.size);have HIH := Hi (inHole_any M _ ov at' bs (W1.drewN nq) (hM1.below hBd hM1.lt) ((U HO).below hB2 NL).opn);rw [hlb] at HIH;go_wp2_with (first | (go_at_call 141; refine (isLetter_any _ _).mono ?_; rintro x w' ⟨rfl, hw⟩; subst w') | (go_at_call 143; refine (isDigit_any _ _).mono ?_; rintro x w' ⟨rfl, hw⟩; subst w') | (go_at_call 147; refine (U HIH).mono ?_; rintro x W2 ⟨rfl, hBh⟩; have hB2' := hB2.trans (hBh.mono hB2.size); have hM2 := (hM1.below hBd hM1.lt).below hBh (by show M < W1.heap.size; omega); have HCL := Hi (closeO M _ ov at' bs W2 hM2 ((U HO).below hB2' NL)); have hz2 : W.heap.size < W2.heap.size := (by have := hBh.size; have e1 : (W1.drewN nq).heap.size = W1.heap.size := rfl; omega); have hr2 : W2.heap[W.heap.size]? = some (.cells #[.int .i64 0, .string ⟨#[]⟩, .int .i64 0, .int .i64 0] 40) := (hBh.block W.heap.size (by show W.heap.size < W1.heap.size; omega)).trans hr1) | (go_at_call 148; refine (U HCL).mono ?_; rintro x Wc ⟨ov', rfl, hMc, hOc, hobc, hFc⟩; have HFC := Hi hFc; have HT := Hi (U HW Wc ov' hMc hOc (((Fr.refl _ W).below hB2').trans hFc)); have HZ : Hid (W.heap.size < Wc.heap.size) := (by have := hFc.size; show W.heap.size < Wc.heap.size; omega); have HR : Hid (Wc.heap[W.heap.size]? = some (.cells #[.int .i64 0, .string ⟨#[]⟩, .int .i64 0, .int .i64 0] 40)) := (hFc.block W.heap.size hz2 (by omega)).trans hr2; have HOB := Hi hobc; clear hobc hFc hOc hMc) | (go_at_call 146; refine (U HT).mono ?_; rintro x W3 hT3; have hv3 := hT3.val; have hxr := hv3.1; have hF3 := hv3.2; rw [U HFM] at hxr; subst hxr; have HT3 := Hi hT3; clear hT3 hv3; have hr3 : W3.heap[W.heap.size]? = some (.cells #[.int .i64 0, .string ⟨#[]⟩, .int .i64 0, .int .i64 0] 40) := (hF3.block W.heap.size (by have := U HZ; omega) (by rintro (e | e) <;> first | omega | (have := ((U HO).lt (e ▸ (U HOB).symm)).2; omega))).trans (U HR); obtain ⟨d0, d1, d2, d3⟩ := tok_cells hr3; have d4 := Lib.frozen_of_heap hr3; have d5 : W3.shape? W.heap.size = some (40, 4) := (by simp [World.shape?, hr3])))
 have hB4 := put4_below (W := W3) (Nat.le_refl W.heap.size) (.int .i64 k) (.string S) (.int .i64 x0) (.int .i64 e');have hr4 := put4_heap hr3 (.int .i64 k) (.string S) (.int .i64 x0) (.int .i64 e');have hK4 : ∀ j, j ≠ W.heap.size → ((((W3.setCell ⟨W.heap.size, 0, none⟩ (.int .i64 k)).setCell ⟨W.heap.size, 1, none⟩ (.string S)).setCell ⟨W.heap.size, 2, none⟩ (.int .i64 x0)).setCell ⟨W.heap.size, 3, none⟩ (.int .i64 e')).heap[j]? = W3.heap[j]? := fun j hj => put4_keep hj _ _ _ _
 obtain ⟨W4, hW4⟩ : ∃ W4, ((((W3.setCell ⟨W.heap.size, 0, none⟩ (.int .i64 k)).setCell ⟨W.heap.size, 1, none⟩ (.string S)).setCell ⟨W.heap.size, 2, none⟩ (.int .i64 x0)).setCell ⟨W.heap.size, 3, none⟩ (.int .i64 e')) = W4 := ⟨_, rfl⟩;rw [hW4] at hB4 hr4 hK4 ⊢;clear hW4;obtain ⟨e0, e1, e2, e3⟩ := tok_cells hr4;refine bodyPost_ret (v := .tuple #[.agg #[.int .i64 k, .string S, .int .i64 x0, .int .i64 e'], .bool ok]) ?_ rfl (TokO.lift (W1 := W2) hB2' hz2 (U HO) hml (TokO.pre (U HFC) (U HOB) (U HT3)) hK4 hB4 rfl);clear d0 d1 d2 d3 d4 d5;simp [results, Tryz.results91, go_sem, e0, e1, e2, e3]
theorem stopI_Stop {p : Int → Bool} {g : Nat → Int} {len i : Nat} (hi : i ≤ len) : Stop p g len i (stopI p g len i) := stopI_spec hi
theorem token_any (M c : Nat) (a : Option Addr) (len cap : Nat) (g : Nat → Int) (hg : ∀ j, 0 ≤ g j ∧ g j ≤ 255) (at' : Nat) (ov : Value) (bs : List Bool) (W : World) (h : MAt W M (.slice a len cap) at' ov) (hS : Sl W c (.slice a len cap) len g) (hO : OwnO W M ov bs) (hcM : c < M) (hM2 : 2 < M) (hat : at' < len) (hlen : len ≤ 1099511627776) (hbl : bs.length ≤ 1099511627776) (hE1 : ErrG W 1) (hE2 : ErrG W 2) :
 Calls Tryz.prog 91 #[.pointer (some ⟨M, 0, none⟩)] W (TokO W M (.slice a len cap) ov at' (tokP g len at' bs)) := by
 have hc : c < W.heap.size := Nat.lt_trans hcM h.lt;have hml := h.lt;have hSB : ∀ W', Below W.heap.size W W' → Sl W' c (.slice a len cap) len g := fun W' hb => hS.keep (fun k e => by subst e; exact hb.block k hc)
 unfold tokP;by_cases hL : isL (g at') = true
 · rw [if_pos hL]
   have hst := stopI_Stop (p := isLD) (g := g) (len := len) (i := at' + 1) (by omega);refine (tok_word M c a len cap g at' ov _ _ _ W h hS hc hat hlen hL (fun W1 hM1 hS1 hc1 => word_any M c a len cap g at' _ ov (hasT wordL (strOfNums (sub g at' (stopI isLD g len (at' + 1))))) W1 hM1 hS1 hc1 hat hlen hst (res_any _))).mono ?_;rintro x W' ⟨rfl, hM, hF⟩;exact ⟨rfl, ⟨ov, hM, hO.fr hF, OB.refl _ _⟩, hF.mono fun k _ e => .inl e⟩
 rw [if_neg hL];have hL0 : isL (g at') = false := by simpa using hL
 by_cases hD : isD (g at') = true
 · rw [if_pos hD]
   exact tokv_num M c a len cap g at' ov bs _ W h hS hO hcM hat hlen hL0 hD fun W1 hM1 hO1 hB1 => number_post M c a len cap g hg at' ov bs W1 hM1 (hSB W1 hB1) hO1 (by have := hB1.size; omega) hat hD hlen (hE2.below hB1 (by omega))
 rw [if_neg hD];have hD0 : isD (g at') = false := by simpa using hD
 by_cases hq : g at' = 34 ∨ g at' = 39
 · rw [if_pos hq]
   rcases hq with hq | hq
   · refine tokv_quo34 M c a len cap g at' ov bs _ W h hS hO hcM hat hlen hq fun W1 hM1 hO1 hB1 => ?_
     refine (quoted_any M c a len cap g hg at' ov 34 (.inl rfl) W1 hM1 (hSB W1 hB1) (by have := hB1.size; omega) hat hlen (hE1.below hB1 (by omega))).mono ?_;intro x W' hp;rw [hq];exact TokO.of hO1 hp
   · refine tokv_quo39 M c a len cap g at' ov bs _ W h hS hO hcM hat hlen hq fun W1 hM1 hO1 hB1 => ?_
     refine (quoted_any M c a len cap g hg at' ov 39 (.inr rfl) W1 hM1 (hSB W1 hB1) (by have := hB1.size; omega) hat hlen (hE1.below hB1 (by omega))).mono ?_;intro x W' hp;rw [hq];exact TokO.of hO1 hp
 rw [if_neg hq];by_cases h96 : g at' = 96
 · rw [if_pos h96]
   exact tokv_tpl M c a len cap g at' ov bs _ W h hS hO hcM hat hlen h96 fun W1 hM1 hO1 hB1 => piece_any M c a len cap g hg at' ov bs 5 6 W1 hM1 (hSB W1 hB1) hO1 hcM hat hlen hbl (hE1.below hB1 (by omega))
 rw [if_neg h96];by_cases h125 : g at' = 125
 · by_cases hlb : lastB bs = true
   · rw [if_pos ⟨h125, hlb⟩]
     exact tokv_hol M c a len cap g at' ov bs _ W h hS hO hcM hat hlen h125 hlb fun W1 ov' hM1 hO1 hF1 => piece_any M c a len cap g hg at' ov' bs.dropLast 8 7 W1 hM1 (hS.keep (fun k e => by subst e; exact hF1.block k hc (by omega))) hO1 hcM hat hlen (by rw [List.length_dropLast]; omega) (hE1.fr hF1 (by omega))
   · rw [if_neg (fun h => hlb h.2)]
     exact tokv_cls M c a len cap g at' ov bs _ W h hS hO hcM hat hlen h125 (by simpa using hlb) fun W1 hM1 hO1 hB1 => sign_any M c a len cap g hg at' ov bs W1 hM1 (hSB W1 hB1) hO1 hcM hat hlen hbl
 · rw [if_neg (fun h => h125 h.1)]
   exact tokv_sgn M c a len cap g at' ov bs _ W h hS hO hcM hat hlen hL0 hD0 (fun e => hq (.inl e)) (fun e => hq (.inr e)) h96 h125 fun W1 hM1 hO1 hB1 => sign_any M c a len cap g hg at' ov bs W1 hM1 (hSB W1 hB1) hO1 hcM hat hlen hbl
end
end Go.Proofs.YtofgphapjjofnaaGreatDoor
