/- Towards the law: RA RB RC. -/
import Derived.Deep.OwnRows
import Derived.Deep.RegionHeld3
import Derived.Lib.Agree
import Derived.WalkSmall
import Derived.Test.YtofgphapjjofnaaGreatDoorVI
set_option linter.unusedSimpArgs false
set_option linter.unusedVariables false
set_option maxRecDepth 100000
set_option maxHeartbeats 8000000
namespace Go.Proofs.YtofgphapjjofnaaGreatDoor
section
open Go.RowKit Go.Shelf
def allocL (W : World) (os : List Obj) : World := os.foldl World.alloc W
theorem allocL_heap : ∀ (os : List Obj) (W : World), (allocL W os).heap.toList = W.heap.toList ++ os
 | [], W => by simp [allocL]
 | o :: os, W => by
   have := allocL_heap os (W.alloc o);show (allocL (W.alloc o) os).heap.toList = _
   rw [this];show (W.heap.push o).toList ++ os = _
   simp
theorem allocL_at (W : World) (os : List Obj) (i : Nat) : (allocL W os).heap[W.heap.size + i]? = os[i]? := by
 rw [← Array.getElem?_toList, allocL_heap, List.getElem?_append_right (by simp)];simp
theorem allocL_below : ∀ (os : List Obj) (W : World), Below W.heap.size W (allocL W os)
 | [], W => Below.refl _ W
 | o :: os, W => ((Below.refl _ W).alloc NL o).trans ((allocL_below os (W.alloc o)).mono (by simp))
def rowS (r : List (List Int)) : Obj := .cells (r.map fun x => Value.string (strOfNums x)).toArray 9
def lvO (N : Nat) : Obj := .cells #[.slice (some ⟨N, 0, none⟩) 1 1, .slice (some ⟨N + 1, 0, none⟩) 1 1, .slice (some ⟨N + 2, 0, none⟩) 1 1, .slice (some ⟨N + 3, 0, none⟩) 1 1, .slice (some ⟨N + 4, 0, none⟩) 1 1, .slice (some ⟨N + 5, 0, none⟩) 2 2, .slice (some ⟨N + 6, 0, none⟩) 6 6, .slice (some ⟨N + 7, 0, none⟩) 3 3, .slice (some ⟨N + 8, 0, none⟩) 2 2, .slice (some ⟨N + 9, 0, none⟩) 2 2] 45
theorem lv_row {A : World} {N : Nat} (h : ∀ i r, levelsL[i]? = some r → A.heap[N + i]? = some (rowS r)) (hl : A.heap[N + 10]? = some (lvO N)) : LvRow A (.slice (some ⟨N + 10, 0, none⟩) 10 10) := by
 refine ⟨N + 10, 10, _, 45, (0, 0), by decide, by decide, by decide, rfl, NL, by simp [maxLen], hl, fun i r hr => ?_⟩;have hi : i < 10 := (List.getElem?_eq_some_iff.1 hr).1;have hA := h i r hr;refine ⟨N + i, r.length, (r.map fun x => Value.string (strOfNums x)).toArray, (0, 0), ?_, NL, ?_, hA, fun j x hx => by simp [hx]⟩
 · match i, hi, hr with
   | 0, _, hr => cases hr; rfl
   | 1, _, hr => cases hr; rfl
   | 2, _, hr => cases hr; rfl
   | 3, _, hr => cases hr; rfl
   | 4, _, hr => cases hr; rfl
   | 5, _, hr => cases hr; rfl
   | 6, _, hr => cases hr; rfl
   | 7, _, hr => cases hr; rfl
   | 8, _, hr => cases hr; rfl
   | 9, _, hr => cases hr; rfl
   | n + 10, hn, _ => omega
 · match i, hi, hr with
   | 0, _, hr => cases hr; simp [maxLen]
   | 1, _, hr => cases hr; simp [maxLen]
   | 2, _, hr => cases hr; simp [maxLen]
   | 3, _, hr => cases hr; simp [maxLen]
   | 4, _, hr => cases hr; simp [maxLen]
   | 5, _, hr => cases hr; simp [maxLen]
   | 6, _, hr => cases hr; simp [maxLen]
   | 7, _, hr => cases hr; simp [maxLen]
   | 8, _, hr => cases hr; simp [maxLen]
   | 9, _, hr => cases hr; simp [maxLen]
   | n + 10, hn, _ => omega
theorem levels_any (W : World) : Calls Tryz.prog 55 #[] W fun e w' => e = .returned (.slice (some ⟨W.heap.size + 10, 0, none⟩) 10 10) ∧ LvRow w' (.slice (some ⟨W.heap.size + 10, 0, none⟩) 10 10) ∧ Below W.heap.size W w' := by
 go_enter Tryz.func55, Tryz.ntmps55;go_wp2;go_ret
 suffices hh : ∀ A, A = allocL W (levelsL.map rowS ++ [lvO W.heap.size]) → LvRow A (.slice (some ⟨W.heap.size + 10, 0, none⟩) 10 10) ∧ Below W.heap.size W A by
  exact ⟨by simp, hh _ (by rfl)⟩
 rintro A rfl;refine ⟨lv_row (fun i r hr => ?_) ?_, allocL_below _ _⟩
 · rw [allocL_at, List.getElem?_append_left (by have := (List.getElem?_eq_some_iff.1 hr).1; simpa using this), List.getElem?_map, hr]
   rfl
 · rw [allocL_at]
   rfl
theorem cl_open {t : Tok} {l : List Tok} {i : Nat} {op cl : List Nat} (h : t.1 = 6 ∨ isT t [40] = true ∨ isT t [91] = true ∨ isT t [123] = true) : clF (t :: l) i op cl = clF l (i + 1) (i :: op) cl := if_pos h
theorem cl_none {t : Tok} {l : List Tok} {i : Nat} {cl : List Nat} (h : ¬ (t.1 = 6 ∨ isT t [40] = true ∨ isT t [91] = true ∨ isT t [123] = true)) : clF (t :: l) i [] cl = clF l (i + 1) [] cl := by
 rw [clF, if_neg h]
theorem cl_close {t : Tok} {l : List Tok} {i o : Nat} {op cl : List Nat} (h : ¬ (t.1 = 6 ∨ isT t [40] = true ∨ isT t [91] = true ∨ isT t [123] = true)) (h2 : t.1 = 8 ∨ isT t [41] = true ∨ isT t [93] = true ∨ isT t [125] = true) : clF (t :: l) i (o :: op) cl = clF l (i + 1) op (cl.set o i) := by
 rw [clF, if_neg h];show (if t.1 = 8 ∨ isT t [41] = true ∨ isT t [93] = true ∨ isT t [125] = true then _ else _) = _
 rw [if_pos h2]
theorem cl_pass {t : Tok} {l : List Tok} {i o : Nat} {op cl : List Nat} (h : ¬ (t.1 = 6 ∨ isT t [40] = true ∨ isT t [91] = true ∨ isT t [123] = true)) (h2 : ¬ (t.1 = 8 ∨ isT t [41] = true ∨ isT t [93] = true ∨ isT t [125] = true)) : clF (t :: l) i (o :: op) cl = clF l (i + 1) (o :: op) cl := by
 rw [clF, if_neg h];show (if t.1 = 8 ∨ isT t [41] = true ∨ isT t [93] = true ∨ isT t [125] = true then _ else _) = _
 rw [if_neg h2]
def opC (op : List Nat) : List Value := op.reverse.map fun k : Nat => .int .i64 (k : Int)
theorem opC_cons (o : Nat) (op : List Nat) : opC (o :: op) = opC op ++ [.int .i64 (o : Int)] := by simp [opC]
theorem opC_len (op : List Nat) : (opC op).length = op.length := by simp [opC]
theorem cl_cap {w : World} {B n sc : Nat} {sa : Option Addr} {xs : List Value} (h : w.ownsRow B 3 1 (.slice sa (n + 1) sc) (n + 1) xs) : n + 1 ≤ sc ∧ sc ≤ 9223372036854775807 := by
 rcases h.2 with ⟨e, _⟩ | ⟨g, cap, cur, e, hb, hh, q1, q2, _⟩
 · cases e
 · cases e
   unfold maxLen at q2;exact ⟨q1, by omega⟩
def ClI (l : List Tok) (W : World) (ov iv : Value) (wr : World) : Prop := ∃ (i : Nat) (op cl : List Nat), i ≤ l.length ∧ iv = .int .i64 (i : Int) ∧ clF (l.drop i) i op cl = clL l ∧ cl.length = l.length ∧ (∀ x ∈ op, x < i) ∧ op.length ≤ i ∧ wr.heap[W.heap.size]? = some (.cells (cl.map fun k : Nat => Value.int .i64 (k : Int)).toArray 3) ∧ (∃ a c, ov = .slice a op.length c) ∧ wr.ownsRow (W.heap.size + 1) 3 1 ov op.length (opC op) ∧ Below W.heap.size W wr ∧ W.heap.size + 1 ≤ wr.heap.size
theorem cl_grow {W wr w w9 : World} {ov : Value} {n : Nat} {xs : List Value} {o : Obj} (ho : wr.ownsRow (W.heap.size + 1) 3 1 ov n xs) (hW : Below W.heap.size W wr) (hb : Below wr.heap.size wr w) (hg : (w.alloc o).grownBy w9 ov.ownBlock) (h1 : W.heap.size + 1 ≤ wr.heap.size) : (∀ k, k ≤ W.heap.size → w9.heap[k]? = wr.heap[k]?) ∧ Below W.heap.size W w9 ∧ W.heap.size + 1 ≤ w9.heap.size := by
 have hb2 := (Below.refl w.heap.size w).alloc NL o;have hs := hb.size;have hs2 := hb2.size;have hs3 := hg.size
 have hk : ∀ k, k ≤ W.heap.size → w9.heap[k]? = wr.heap[k]? := fun k hk => by
  refine (hg.block k (by omega) fun e => ?_).trans ((hb2.block k (by omega)).trans (hb.block k (by omega)));have := (ho.lt k e.symm).1;omega
 exact ⟨hk, ⟨hg.os.trans (hb2.os.trans (hb.os.trans hW.os)), hg.tape.trans (hb2.tape.trans (hb.tape.trans hW.tape)), hg.output.trans (hb2.output.trans (hb.output.trans hW.output)), by omega, fun k h => (hk k (by omega)).trans (hW.block k h)⟩, by omega⟩
theorem cl_cell {w : World} {B o : Nat} {cl : List Nat} (h : w.heap[B]? = some (.cells (cl.map fun k : Nat => Value.int .i64 (k : Int)).toArray 3)) (ho : o < cl.length) : w.cell? ⟨B, o, none⟩ = some (.int .i64 ((cl.getD o 0 : Nat) : Int)) := by
 simp [World.cell?, h, List.getD_eq_getElem?_getD, List.getElem?_eq_getElem ho]
theorem cl_set {w : World} {B o i : Nat} {cl : List Nat} (h : w.heap[B]? = some (.cells (cl.map fun k : Nat => Value.int .i64 (k : Int)).toArray 3)) : (w.setCell ⟨B, o, none⟩ (.int .i64 (i : Int))).heap[B]? = some (.cells ((cl.set o i).map fun k : Nat => Value.int .i64 (k : Int)).toArray 3) := by
 simp [World.setCell, Array.getElem?_modify, h, List.map_set]
theorem cl_last {w : World} {B n sc o : Nat} {sa : Option Addr} {op : List Nat} (h : w.ownsRow B 3 1 (.slice sa (n + 1) sc) (n + 1) (opC (o :: op))) : ∃ g, sa = some ⟨g, 0, none⟩ ∧ B ≤ g ∧ w.cell? ⟨g, n, none⟩ = some (.int .i64 (o : Int)) := by
 have hx := h.1;rcases h.2 with ⟨e, _⟩ | ⟨g, cap, cur, e, hb, hh, _⟩
 · cases e
 · have hc := h.cells (g := g) (by rw [e]; rfl) n (.int .i64 (o : Int)) (by
    have hl : op.length = n := by rw [opC_cons, List.length_append, opC_len] at hx; simpa using hx
    rw [opC_cons, List.getElem?_append_right (by rw [opC_len]; omega), opC_len, hl, Nat.sub_self]
    rfl)
   injection e with e1 e2 e3
   refine ⟨g, e1, hb, ?_⟩;rw [show (⟨g, n, none⟩ : Addr) = (⟨g, 0, none⟩ : Addr).add n by unfold Addr.add; split <;> simp_all];exact hc
theorem made_ints (n : Nat) : madeCells #[Value.int .i64 0] n = Array.replicate n (Value.int .i64 0) := by
 apply Array.ext'
 apply List.ext_getElem?
 intro i;simp [madeCells, List.getElem?_replicate, Array.getElem?_replicate];by_cases h : i < n
 · simp [h, Nat.mod_one]
 · simp [h]
theorem closers_any {W : World} {tv : Value} {l : List Tok} (hT : TkRow W tv l) (hok : TksOk l) : Calls Tryz.prog 56 #[tv] W fun e w' => ∃ cv, e = .returned cv ∧ cv = .slice (some ⟨W.heap.size, 0, none⟩) l.length l.length ∧ w'.heap[W.heap.size]? = some (.cells ((clL l).map fun k : Nat => Value.int .i64 (k : Int)).toArray 3) ∧ Below W.heap.size W w' := by
 obtain ⟨j0, hj, hy0, hy1, hy2⟩ := info_parts infoInt;have HJ := Hi (And.intro hj (And.intro hy0 (And.intro hy1 hy2)));have HTK := Hi hT;obtain ⟨tb, cap, rfl, q1, q2, hpos, hl, hc⟩ := hT;have hmk := fun w => run_make_row' (P := Tryz.prog) 32 3 (.int .i64 0) 8 Tryz.underlying32 infoInt rfl .i64 .i64 l.length (by omega) (by omega) w
 have hmi := made_ints l.length;obtain ⟨L, hL⟩ : ∃ n, l.length = n := ⟨_, rfl⟩;have HL := Hi hL;have HOK := Hi hok;rw [hL] at hmk q1 hpos hl hmi ⊢;unfold maxLen at q2;rw [hmi] at hmk;clear hj hy0 hy1 hy2 hc hL hok hmi;go_enter Tryz.func56, Tryz.ntmps56;go_wp2;go_loopw [4, 13] (fun ov iv wr => Hid (ClI l W ov iv wr)) (fun ov iv wr => L - (Lib.intOf iv).toNat)
 case atStart =>
  have hb := (Below.refl W.heap.size W).alloc NL (.cells (Array.replicate L (Value.int .i64 0)) 3);exact ⟨0, [], List.replicate L 0, Nat.zero_le _, rfl, by rw [List.drop_zero, clL, U HL], by simp [U HL], fun x hx => by (cases hx), Nat.zero_le _, (World.alloc_heap_new W _).trans (by simp), ⟨_, _, rfl⟩, ⟨rfl, .inl ⟨rfl, rfl⟩⟩, hb, by simp⟩
 case round =>
  obtain ⟨i, op, cl, hil, rfl, hCF, hcl, hop, hopl, hCB, ⟨sa, sc, rfl⟩, hO, hBW, h1w⟩ := U hrel;clear hrel;rw [U HL] at hil hcl;obtain ⟨n, hn⟩ : ∃ n, op.length = n := ⟨_, rfl⟩;have HN := Hi hn;rw [hn] at hopl hO ⊢;have HO := Hi hO;have HCB := Hi hCB;have HBW := Hi hBW;clear hn hO hCB hBW;by_cases hiL : i < L
  · have hill : i < l.length := by rw [U HL]; exact hiL
    obtain ⟨tb', cap', etv, _, _, _, _, hc'⟩ := TkRow.keep (S0 := fun _ => False) (U HTK) (below_fr (U HBW)) (fun _ _ h => h);cases etv;obtain ⟨⟨tk, tx, ta, te⟩, ht⟩ : ∃ t, l[i]? = some t := ⟨_, List.getElem?_eq_getElem hill⟩;have hbt : Bys tx := U HOK _ (List.mem_of_getElem? ht);obtain ⟨d0, d1, d2, d3⟩ := hc' i _ ht;have hdr : l.drop i = (tk, tx, ta, te) :: l.drop (i + 1) := by rw [List.drop_eq_getElem_cons hill]; congr 1; exact (List.getElem?_eq_some_iff.1 ht).2
    rw [hdr] at hCF;have hdl := World.block_lt_of_cell? _ _ d0;have hiI : (i : Int) < (L : Int) := by omega
    simp only at d0 d1 d2 d3;clear hc' ht hdr hill;by_cases hk6 : tk = 6
    · subst hk6
      have HCF := Hi hCF;clear hCF;have HCO := Hi (cl_open (t := (6, tx, ta, te)) (op := op) (cl := cl) (i := i) (l := l.drop (i + 1)) (show (6 : Int) = 6 ∨ isT (6, tx, ta, te) [40] = true ∨ isT (6, tx, ta, te) [91] = true ∨ isT (6, tx, ta, te) [123] = true from .inl rfl));have HT0 := Hi (World.alloc_heap_new wr (.cells #[.int .i64 6, .string (strOfNums tx), .int .i64 (ta : Int), .int .i64 (te : Int)] 40));have HB0 := Hi ((Below.refl _ wr).alloc NL (.cells #[.int .i64 6, .string (strOfNums tx), .int .i64 (ta : Int), .int .i64 (te : Int)] 40));have hyl0 : wr.heap.size < (wr.alloc (.cells #[.int .i64 6, .string (strOfNums tx), .int .i64 (ta : Int), .int .i64 (te : Int)] 40)).heap.size := by simp
      have HOi := Hi (row_keep (W' := (wr.alloc (.cells #[.int .i64 6, .string (strOfNums tx), .int .i64 (ta : Int), .int .i64 (te : Int)] 40))) (U HO) fun b e => (U HB0).block b ((U HO).lt b e).2);have hszi := (U HB0).size;obtain ⟨hj, hy0, hy1, hy2⟩ := U HJ;go_wp2_with (at_builtin; (refine wpList_append_lies _ rfl _ _ 32 rfl (W.heap.size + 1) 3 j0 _ 1 8 Tryz.underlying32 hj hy0 hy1 hy2 rfl (by decide) _ n (opC op) rfl ?own0 ⟨wr.heap.size + 1, 0, none⟩ 1 1 [.int .i64 (i : Int)] rfl rfl ?c10 ?c20 (by decide) ?c30 ?c40 ?c50 _ rfl ?_))
      case own0 => exact (U HOi).alloc _
      try case c10 => exact World.news_of_block (cs := #[.int .i64 (i : Int)]) (t := 3) (fr := (0, 0)) (by simpa using World.alloc_heap_new (wr.alloc (.cells #[.int .i64 6, .string (strOfNums tx), .int .i64 (ta : Int), .int .i64 (te : Int)] 40)) (.cells #[.int .i64 (i : Int)] 3))
      case c20 => first | (intro u hu; simp at hu; subst hu; rfl) | rfl | simp
      case c30 => unfold maxLen; omega
      case c40 => omega
      case c50 => first | omega | (simp; omega)
      intro g5 cap5 w9 hown5 hgrow5 hat5 hlt5;have HG5 := Hi (cl_grow (U HO) (U HBW) (U HB0) hgrow5 h1w);have HO5 := Hi hown5;clear hown5 hgrow5 hat5 hlt5 hj hy0 hy1 hy2;go_wp2
      have hI : ClI l W (.slice (some ⟨g5, 0, none⟩) (n + 1) cap5) (.int .i64 ((i : Int) + 1)) w9 := by
       obtain ⟨gk, gb, gs⟩ := U HG5;refine ⟨i + 1, i :: op, cl, by rw [U HL]; omega, by simp, (U HCO).symm.trans (U HCF), hcl.trans (U HL).symm, ?_, by simp [U HN]; omega, (gk _ NL).trans (U HCB), ⟨_, _, by rw [List.length_cons, U HN]⟩, ?_, gb, gs⟩
       · intro x hx
         rcases List.mem_cons.1 hx with rfl | hx
         · omega
         · have := hop x hx; omega
       · rw [List.length_cons, U HN, opC_cons]
         exact U HO5
      exact ⟨hI, by simp [Lib.intOf]; omega⟩
    have hb6 : (tk == 6) = false := beq_eq_false_iff_ne.2 hk6;cases b40 : isT (tk, tx, ta, te) [40] with
    | true =>
      have HCF := Hi hCF;clear hCF;have HCO := Hi (cl_open (t := (tk, tx, ta, te)) (op := op) (cl := cl) (i := i) (l := l.drop (i + 1)) (show (tk : Int) = 6 ∨ isT (tk, tx, ta, te) [40] = true ∨ isT (tk, tx, ta, te) [91] = true ∨ isT (tk, tx, ta, te) [123] = true from .inr (.inl b40)));have HT0 := Hi (World.alloc_heap_new wr (.cells #[.int .i64 tk, .string (strOfNums tx), .int .i64 (ta : Int), .int .i64 (te : Int)] 40));have HB0 := Hi ((Below.refl _ wr).alloc NL (.cells #[.int .i64 tk, .string (strOfNums tx), .int .i64 (ta : Int), .int .i64 (te : Int)] 40));have hyl0 : wr.heap.size < (wr.alloc (.cells #[.int .i64 tk, .string (strOfNums tx), .int .i64 (ta : Int), .int .i64 (te : Int)] 40)).heap.size := by simp
      have HX1 := Hi (is_any ((tk, tx, ta, te) : Tok) hbt ⟨#[40]⟩ [40] ⟨rfl, by intro z hz; simp at hz; omega⟩ (wr.alloc (.cells #[.int .i64 tk, .string (strOfNums tx), .int .i64 (ta : Int), .int .i64 (te : Int)] 40)));rw [b40] at HX1;unfold tkV at HX1;go_wp2_with (go_at_call 62; refine (U HX1).mono ?_)
      first | rintro e w1 rfl hx1 | rintro e w1 ⟨rfl, hx1⟩
      have HB1 := Hi ((U HB0).trans (hx1.mono (Nat.le_succ _)));have HT1 := Hi ((hx1.block _ (Nat.lt_succ_self _)).trans (U HT0));obtain ⟨y0_1, y1_1, y2_1, y3_1⟩ := cells4 (U HT1);have hyl1 := World.block_lt_of_cell? _ _ y0_1;clear hx1;have HOi := Hi (row_keep (W' := w1) (U HO) fun b e => (U HB1).block b ((U HO).lt b e).2);have hszi := (U HB1).size;obtain ⟨hj, hy0, hy1, hy2⟩ := U HJ;go_wp2_with (at_builtin; (refine wpList_append_lies _ rfl _ _ 32 rfl (W.heap.size + 1) 3 j0 _ 1 8 Tryz.underlying32 hj hy0 hy1 hy2 rfl (by decide) _ n (opC op) rfl ?own1 ⟨w1.heap.size, 0, none⟩ 1 1 [.int .i64 (i : Int)] rfl rfl ?c11 ?c21 (by decide) ?c31 ?c41 ?c51 _ rfl ?_))
      case own1 => exact (U HOi).alloc _
      try case c11 => exact World.news_of_block (cs := #[.int .i64 (i : Int)]) (t := 3) (fr := (0, 0)) (World.alloc_heap_new _ _)
      case c21 => first | (intro u hu; simp at hu; subst hu; rfl) | rfl | simp
      case c31 => unfold maxLen; omega
      case c41 => omega
      case c51 => first | omega | (simp; omega)
      intro g5 cap5 w9 hown5 hgrow5 hat5 hlt5;have HG5 := Hi (cl_grow (U HO) (U HBW) (U HB1) hgrow5 h1w);have HO5 := Hi hown5;clear hown5 hgrow5 hat5 hlt5 hj hy0 hy1 hy2;go_wp2
      have hI : ClI l W (.slice (some ⟨g5, 0, none⟩) (n + 1) cap5) (.int .i64 ((i : Int) + 1)) w9 := by
       obtain ⟨gk, gb, gs⟩ := U HG5;refine ⟨i + 1, i :: op, cl, by rw [U HL]; omega, by simp, (U HCO).symm.trans (U HCF), hcl.trans (U HL).symm, ?_, by simp [U HN]; omega, (gk _ NL).trans (U HCB), ⟨_, _, by rw [List.length_cons, U HN]⟩, ?_, gb, gs⟩
       · intro x hx
         rcases List.mem_cons.1 hx with rfl | hx
         · omega
         · have := hop x hx; omega
       · rw [List.length_cons, U HN, opC_cons]
         exact U HO5
      exact ⟨hI, by simp [Lib.intOf]; omega⟩
    | false =>
      cases b91 : isT (tk, tx, ta, te) [91] with
      | true =>
        have HCF := Hi hCF;clear hCF;have HCO := Hi (cl_open (t := (tk, tx, ta, te)) (op := op) (cl := cl) (i := i) (l := l.drop (i + 1)) (show (tk : Int) = 6 ∨ isT (tk, tx, ta, te) [40] = true ∨ isT (tk, tx, ta, te) [91] = true ∨ isT (tk, tx, ta, te) [123] = true from .inr (.inr (.inl b91))));have HT0 := Hi (World.alloc_heap_new wr (.cells #[.int .i64 tk, .string (strOfNums tx), .int .i64 (ta : Int), .int .i64 (te : Int)] 40));have HB0 := Hi ((Below.refl _ wr).alloc NL (.cells #[.int .i64 tk, .string (strOfNums tx), .int .i64 (ta : Int), .int .i64 (te : Int)] 40));have hyl0 : wr.heap.size < (wr.alloc (.cells #[.int .i64 tk, .string (strOfNums tx), .int .i64 (ta : Int), .int .i64 (te : Int)] 40)).heap.size := by simp
        have HX1 := Hi (is_any ((tk, tx, ta, te) : Tok) hbt ⟨#[40]⟩ [40] ⟨rfl, by intro z hz; simp at hz; omega⟩ (wr.alloc (.cells #[.int .i64 tk, .string (strOfNums tx), .int .i64 (ta : Int), .int .i64 (te : Int)] 40)));rw [b40] at HX1;unfold tkV at HX1;go_wp2_with (go_at_call 62; refine (U HX1).mono ?_)
        first | rintro e w1 rfl hx1 | rintro e w1 ⟨rfl, hx1⟩
        have HB1 := Hi ((U HB0).trans (hx1.mono (Nat.le_succ _)));have HT1 := Hi ((hx1.block _ (Nat.lt_succ_self _)).trans (U HT0));obtain ⟨y0_1, y1_1, y2_1, y3_1⟩ := cells4 (U HT1);have hyl1 := World.block_lt_of_cell? _ _ y0_1;clear hx1;have HX2 := Hi (is_any ((tk, tx, ta, te) : Tok) hbt ⟨#[91]⟩ [91] ⟨rfl, by intro z hz; simp at hz; omega⟩ w1);rw [b91] at HX2;unfold tkV at HX2;go_wp2_with (go_at_call 62; refine (U HX2).mono ?_)
        first | rintro e w2 rfl hx2 | rintro e w2 ⟨rfl, hx2⟩
        have HB2 := Hi ((U HB1).trans (hx2.mono (U HB1).size));have HT2 := Hi ((hx2.block _ hyl1).trans (U HT1));obtain ⟨y0_2, y1_2, y2_2, y3_2⟩ := cells4 (U HT2);have hyl2 := World.block_lt_of_cell? _ _ y0_2;clear hx2;have HOi := Hi (row_keep (W' := w2) (U HO) fun b e => (U HB2).block b ((U HO).lt b e).2);have hszi := (U HB2).size;obtain ⟨hj, hy0, hy1, hy2⟩ := U HJ;go_wp2_with (at_builtin; (refine wpList_append_lies _ rfl _ _ 32 rfl (W.heap.size + 1) 3 j0 _ 1 8 Tryz.underlying32 hj hy0 hy1 hy2 rfl (by decide) _ n (opC op) rfl ?own2 ⟨w2.heap.size, 0, none⟩ 1 1 [.int .i64 (i : Int)] rfl rfl ?c12 ?c22 (by decide) ?c32 ?c42 ?c52 _ rfl ?_))
        case own2 => exact (U HOi).alloc _
        try case c12 => exact World.news_of_block (cs := #[.int .i64 (i : Int)]) (t := 3) (fr := (0, 0)) (World.alloc_heap_new _ _)
        case c22 => first | (intro u hu; simp at hu; subst hu; rfl) | rfl | simp
        case c32 => unfold maxLen; omega
        case c42 => omega
        case c52 => first | omega | (simp; omega)
        intro g5 cap5 w9 hown5 hgrow5 hat5 hlt5;have HG5 := Hi (cl_grow (U HO) (U HBW) (U HB2) hgrow5 h1w);have HO5 := Hi hown5;clear hown5 hgrow5 hat5 hlt5 hj hy0 hy1 hy2;go_wp2
        have hI : ClI l W (.slice (some ⟨g5, 0, none⟩) (n + 1) cap5) (.int .i64 ((i : Int) + 1)) w9 := by
         obtain ⟨gk, gb, gs⟩ := U HG5;refine ⟨i + 1, i :: op, cl, by rw [U HL]; omega, by simp, (U HCO).symm.trans (U HCF), hcl.trans (U HL).symm, ?_, by simp [U HN]; omega, (gk _ NL).trans (U HCB), ⟨_, _, by rw [List.length_cons, U HN]⟩, ?_, gb, gs⟩
         · intro x hx
           rcases List.mem_cons.1 hx with rfl | hx
           · omega
           · have := hop x hx; omega
         · rw [List.length_cons, U HN, opC_cons]
           exact U HO5
        exact ⟨hI, by simp [Lib.intOf]; omega⟩
      | false =>
        cases b123 : isT (tk, tx, ta, te) [123] with
        | true =>
          have HCF := Hi hCF;clear hCF;have HCO := Hi (cl_open (t := (tk, tx, ta, te)) (op := op) (cl := cl) (i := i) (l := l.drop (i + 1)) (show (tk : Int) = 6 ∨ isT (tk, tx, ta, te) [40] = true ∨ isT (tk, tx, ta, te) [91] = true ∨ isT (tk, tx, ta, te) [123] = true from .inr (.inr (.inr b123))));have HT0 := Hi (World.alloc_heap_new wr (.cells #[.int .i64 tk, .string (strOfNums tx), .int .i64 (ta : Int), .int .i64 (te : Int)] 40));have HB0 := Hi ((Below.refl _ wr).alloc NL (.cells #[.int .i64 tk, .string (strOfNums tx), .int .i64 (ta : Int), .int .i64 (te : Int)] 40));have hyl0 : wr.heap.size < (wr.alloc (.cells #[.int .i64 tk, .string (strOfNums tx), .int .i64 (ta : Int), .int .i64 (te : Int)] 40)).heap.size := by simp
          have HX1 := Hi (is_any ((tk, tx, ta, te) : Tok) hbt ⟨#[40]⟩ [40] ⟨rfl, by intro z hz; simp at hz; omega⟩ (wr.alloc (.cells #[.int .i64 tk, .string (strOfNums tx), .int .i64 (ta : Int), .int .i64 (te : Int)] 40)));rw [b40] at HX1;unfold tkV at HX1;go_wp2_with (go_at_call 62; refine (U HX1).mono ?_)
          first | rintro e w1 rfl hx1 | rintro e w1 ⟨rfl, hx1⟩
          have HB1 := Hi ((U HB0).trans (hx1.mono (Nat.le_succ _)));have HT1 := Hi ((hx1.block _ (Nat.lt_succ_self _)).trans (U HT0));obtain ⟨y0_1, y1_1, y2_1, y3_1⟩ := cells4 (U HT1);have hyl1 := World.block_lt_of_cell? _ _ y0_1;clear hx1;have HX2 := Hi (is_any ((tk, tx, ta, te) : Tok) hbt ⟨#[91]⟩ [91] ⟨rfl, by intro z hz; simp at hz; omega⟩ w1);rw [b91] at HX2;unfold tkV at HX2;go_wp2_with (go_at_call 62; refine (U HX2).mono ?_)
          first | rintro e w2 rfl hx2 | rintro e w2 ⟨rfl, hx2⟩
          have HB2 := Hi ((U HB1).trans (hx2.mono (U HB1).size));have HT2 := Hi ((hx2.block _ hyl1).trans (U HT1));obtain ⟨y0_2, y1_2, y2_2, y3_2⟩ := cells4 (U HT2);have hyl2 := World.block_lt_of_cell? _ _ y0_2;clear hx2;have HX3 := Hi (is_any ((tk, tx, ta, te) : Tok) hbt ⟨#[123]⟩ [123] ⟨rfl, by intro z hz; simp at hz; omega⟩ w2);rw [b123] at HX3;unfold tkV at HX3;go_wp2_with (go_at_call 62; refine (U HX3).mono ?_)
          first | rintro e w3 rfl hx3 | rintro e w3 ⟨rfl, hx3⟩
          have HB3 := Hi ((U HB2).trans (hx3.mono (U HB2).size));have HT3 := Hi ((hx3.block _ hyl2).trans (U HT2));obtain ⟨y0_3, y1_3, y2_3, y3_3⟩ := cells4 (U HT3);have hyl3 := World.block_lt_of_cell? _ _ y0_3;clear hx3;have HOi := Hi (row_keep (W' := w3) (U HO) fun b e => (U HB3).block b ((U HO).lt b e).2);have hszi := (U HB3).size;obtain ⟨hj, hy0, hy1, hy2⟩ := U HJ;go_wp2_with (at_builtin; (refine wpList_append_lies _ rfl _ _ 32 rfl (W.heap.size + 1) 3 j0 _ 1 8 Tryz.underlying32 hj hy0 hy1 hy2 rfl (by decide) _ n (opC op) rfl ?own3 ⟨w3.heap.size, 0, none⟩ 1 1 [.int .i64 (i : Int)] rfl rfl ?c13 ?c23 (by decide) ?c33 ?c43 ?c53 _ rfl ?_))
          case own3 => exact (U HOi).alloc _
          try case c13 => exact World.news_of_block (cs := #[.int .i64 (i : Int)]) (t := 3) (fr := (0, 0)) (World.alloc_heap_new _ _)
          case c23 => first | (intro u hu; simp at hu; subst hu; rfl) | rfl | simp
          case c33 => unfold maxLen; omega
          case c43 => omega
          case c53 => first | omega | (simp; omega)
          intro g5 cap5 w9 hown5 hgrow5 hat5 hlt5;have HG5 := Hi (cl_grow (U HO) (U HBW) (U HB3) hgrow5 h1w);have HO5 := Hi hown5;clear hown5 hgrow5 hat5 hlt5 hj hy0 hy1 hy2;go_wp2
          have hI : ClI l W (.slice (some ⟨g5, 0, none⟩) (n + 1) cap5) (.int .i64 ((i : Int) + 1)) w9 := by
           obtain ⟨gk, gb, gs⟩ := U HG5;refine ⟨i + 1, i :: op, cl, by rw [U HL]; omega, by simp, (U HCO).symm.trans (U HCF), hcl.trans (U HL).symm, ?_, by simp [U HN]; omega, (gk _ NL).trans (U HCB), ⟨_, _, by rw [List.length_cons, U HN]⟩, ?_, gb, gs⟩
           · intro x hx
             rcases List.mem_cons.1 hx with rfl | hx
             · omega
             · have := hop x hx; omega
           · rw [List.length_cons, U HN, opC_cons]
             exact U HO5
          exact ⟨hI, by simp [Lib.intOf]; omega⟩
        | false =>
          cases op with
          | nil =>
            have hn0 : n = 0 := by rw [← U HN]; rfl
            subst hn0;have HCN := Hi (cl_none (t := (tk, tx, ta, te)) (cl := cl) (i := i) (l := l.drop (i + 1)) (show ¬ (tk = 6 ∨ isT (tk, tx, ta, te) [40] = true ∨ isT (tk, tx, ta, te) [91] = true ∨ isT (tk, tx, ta, te) [123] = true) by rw [b40, b91, b123]; simp; exact hk6));have HCF := Hi hCF;clear hCF;have HT0 := Hi (World.alloc_heap_new wr (.cells #[.int .i64 tk, .string (strOfNums tx), .int .i64 (ta : Int), .int .i64 (te : Int)] 40));have HB0 := Hi ((Below.refl _ wr).alloc NL (.cells #[.int .i64 tk, .string (strOfNums tx), .int .i64 (ta : Int), .int .i64 (te : Int)] 40));have hyl0 : wr.heap.size < (wr.alloc (.cells #[.int .i64 tk, .string (strOfNums tx), .int .i64 (ta : Int), .int .i64 (te : Int)] 40)).heap.size := by simp
            have HX1 := Hi (is_any ((tk, tx, ta, te) : Tok) hbt ⟨#[40]⟩ [40] ⟨rfl, by intro z hz; simp at hz; omega⟩ (wr.alloc (.cells #[.int .i64 tk, .string (strOfNums tx), .int .i64 (ta : Int), .int .i64 (te : Int)] 40)));rw [b40] at HX1;unfold tkV at HX1;go_wp2_with (go_at_call 62; refine (U HX1).mono ?_)
            first | rintro e w1 rfl hx1 | rintro e w1 ⟨rfl, hx1⟩
            have HB1 := Hi ((U HB0).trans (hx1.mono (Nat.le_succ _)));have HT1 := Hi ((hx1.block _ (Nat.lt_succ_self _)).trans (U HT0));obtain ⟨y0_1, y1_1, y2_1, y3_1⟩ := cells4 (U HT1);have hyl1 := World.block_lt_of_cell? _ _ y0_1;clear hx1;have HX2 := Hi (is_any ((tk, tx, ta, te) : Tok) hbt ⟨#[91]⟩ [91] ⟨rfl, by intro z hz; simp at hz; omega⟩ w1);rw [b91] at HX2;unfold tkV at HX2;go_wp2_with (go_at_call 62; refine (U HX2).mono ?_)
            first | rintro e w2 rfl hx2 | rintro e w2 ⟨rfl, hx2⟩
            have HB2 := Hi ((U HB1).trans (hx2.mono (U HB1).size));have HT2 := Hi ((hx2.block _ hyl1).trans (U HT1));obtain ⟨y0_2, y1_2, y2_2, y3_2⟩ := cells4 (U HT2);have hyl2 := World.block_lt_of_cell? _ _ y0_2;clear hx2;have HX3 := Hi (is_any ((tk, tx, ta, te) : Tok) hbt ⟨#[123]⟩ [123] ⟨rfl, by intro z hz; simp at hz; omega⟩ w2);rw [b123] at HX3;unfold tkV at HX3;go_wp2_with (go_at_call 62; refine (U HX3).mono ?_)
            first | rintro e w3 rfl hx3 | rintro e w3 ⟨rfl, hx3⟩
            have HB3 := Hi ((U HB2).trans (hx3.mono (U HB2).size));have HT3 := Hi ((hx3.block _ hyl2).trans (U HT2));obtain ⟨y0_3, y1_3, y2_3, y3_3⟩ := cells4 (U HT3);have hyl3 := World.block_lt_of_cell? _ _ y0_3;clear hx3;go_wp2
            have hI : ClI l W (.slice sa 0 sc) (.int .i64 ((i : Int) + 1)) w3 := by
             have hb := U HB3;refine ⟨i + 1, [], cl, by rw [U HL]; omega, by simp, (U HCN).symm.trans (U HCF), hcl.trans (U HL).symm, fun x hx => by have := hop x hx; omega, by rw [U HN]; omega, (hb.block _ (by omega)).trans (U HCB), ⟨_, _, by rw [U HN]⟩, row_keep (by rw [U HN]; exact U HO) fun b e => hb.block b ((U HO).lt b e).2, (U HBW).trans (hb.mono (U HBW).size), by have := hb.size; omega⟩
            exact ⟨hI, by simp [Lib.intOf]; omega⟩
          | cons o op' =>
            obtain ⟨n', hn'⟩ : ∃ x, op'.length = x := ⟨_, rfl⟩;have HN' := Hi hn';have hnn : n = n' + 1 := by rw [← U HN, ← hn']; rfl
            subst hnn;have hws : IntKind.i64.wrap (((n' + 1 : Nat) : Int) - 1) = (n' : Int) := by rw [IntKind.wrap_i64]; omega
            have hws2 : IntKind.i64.wrap ((n' : Int) + 1 - 1) = (n' : Int) := by rw [IntKind.wrap_i64]; omega
            clear hn';have hscc := (cl_cap (U HO));have HCF := Hi hCF;clear hCF;by_cases hk8 : tk = 8
            · subst hk8
              clear hb6;have HCO := Hi (cl_close (t := (8, tx, ta, te)) (op := op') (o := o) (cl := cl) (i := i) (l := l.drop (i + 1)) (show ¬ ((8 : Int) = 6 ∨ isT (8, tx, ta, te) [40] = true ∨ isT (8, tx, ta, te) [91] = true ∨ isT (8, tx, ta, te) [123] = true) by rw [b40, b91, b123]; simp) (show (8 : Int) = 8 ∨ isT (8, tx, ta, te) [41] = true ∨ isT (8, tx, ta, te) [93] = true ∨ isT (8, tx, ta, te) [125] = true from .inl rfl));have HT0 := Hi (World.alloc_heap_new wr (.cells #[.int .i64 8, .string (strOfNums tx), .int .i64 (ta : Int), .int .i64 (te : Int)] 40));have HB0 := Hi ((Below.refl _ wr).alloc NL (.cells #[.int .i64 8, .string (strOfNums tx), .int .i64 (ta : Int), .int .i64 (te : Int)] 40));have hyl0 : wr.heap.size < (wr.alloc (.cells #[.int .i64 8, .string (strOfNums tx), .int .i64 (ta : Int), .int .i64 (te : Int)] 40)).heap.size := by simp
              have HX1 := Hi (is_any ((8, tx, ta, te) : Tok) hbt ⟨#[40]⟩ [40] ⟨rfl, by intro z hz; simp at hz; omega⟩ (wr.alloc (.cells #[.int .i64 8, .string (strOfNums tx), .int .i64 (ta : Int), .int .i64 (te : Int)] 40)));rw [b40] at HX1;unfold tkV at HX1;go_wp2_with (go_at_call 62; refine (U HX1).mono ?_)
              first | rintro e w1 rfl hx1 | rintro e w1 ⟨rfl, hx1⟩
              have HB1 := Hi ((U HB0).trans (hx1.mono (Nat.le_succ _)));have HT1 := Hi ((hx1.block _ (Nat.lt_succ_self _)).trans (U HT0));obtain ⟨y0_1, y1_1, y2_1, y3_1⟩ := cells4 (U HT1);have hyl1 := World.block_lt_of_cell? _ _ y0_1;clear hx1;have HX2 := Hi (is_any ((8, tx, ta, te) : Tok) hbt ⟨#[91]⟩ [91] ⟨rfl, by intro z hz; simp at hz; omega⟩ w1);rw [b91] at HX2;unfold tkV at HX2;go_wp2_with (go_at_call 62; refine (U HX2).mono ?_)
              first | rintro e w2 rfl hx2 | rintro e w2 ⟨rfl, hx2⟩
              have HB2 := Hi ((U HB1).trans (hx2.mono (U HB1).size));have HT2 := Hi ((hx2.block _ hyl1).trans (U HT1));obtain ⟨y0_2, y1_2, y2_2, y3_2⟩ := cells4 (U HT2);have hyl2 := World.block_lt_of_cell? _ _ y0_2;clear hx2;have HX3 := Hi (is_any ((8, tx, ta, te) : Tok) hbt ⟨#[123]⟩ [123] ⟨rfl, by intro z hz; simp at hz; omega⟩ w2);rw [b123] at HX3;unfold tkV at HX3;go_wp2_with (go_at_call 62; refine (U HX3).mono ?_)
              first | rintro e w3 rfl hx3 | rintro e w3 ⟨rfl, hx3⟩
              have HB3 := Hi ((U HB2).trans (hx3.mono (U HB2).size));have HT3 := Hi ((hx3.block _ hyl2).trans (U HT2));obtain ⟨y0_3, y1_3, y2_3, y3_3⟩ := cells4 (U HT3);have hyl3 := World.block_lt_of_cell? _ _ y0_3;clear hx3;have hbi := U HB3;have hcb := (hbi.block W.heap.size (by omega)).trans (U HCB);have hoi : o < i := hop o (List.mem_cons_self ..);have c7 : w3.cell? ⟨W.heap.size, o, none⟩ = some (.int .i64 ((cl.getD o 0 : Nat) : Int)) := cl_cell hcb (by omega);have f7 : w3.frozen? ⟨W.heap.size, o, none⟩ = false := by simp [World.frozen?, hcb]
              have hl7 := World.block_lt_of_cell? _ _ c7;have hrow := row_keep (W' := w3) (U HO) fun b e => hbi.block b ((U HO).lt b e).2
              obtain ⟨g8, hg8, hgb8, hc8⟩ := cl_last hrow;subst hg8;have c8 := hc8;have hl8 := World.block_lt_of_cell? _ _ c8;have HRW := Hi hrow;have HCB7 := Hi hcb;have HBI := Hi hbi;clear hbi hcb hrow hc8;go_wp2;obtain ⟨w9, hw9⟩ : ∃ x, w3.setCell ⟨W.heap.size, o, none⟩ (.int .i64 (i : Int)) = x := ⟨_, rfl⟩
              have hI : ClI l W (.slice (some ⟨g8, 0, none⟩) n' sc) (.int .i64 ((i : Int) + 1)) (w3.setCell ⟨W.heap.size, o, none⟩ (.int .i64 (i : Int))) := by
               have hb := U HBI;have hol : o < i := hop o (List.mem_cons_self ..);refine ⟨i + 1, op', cl.set o i, by rw [U HL]; omega, by simp, (U HCO).symm.trans (U HCF), by rw [List.length_set]; exact hcl.trans (U HL).symm, fun x hx => by have := hop x (List.mem_cons_of_mem _ hx); omega, by rw [U HN']; omega, cl_set (U HCB7), ⟨_, _, by rw [U HN']⟩, ?_, ?_, by simp [World.setCell]; have := hb.size; omega⟩
               · have hpop := ownsRow_pop (xs := opC op') (last := [.int .i64 (o : Int)]) (n := n') (by rw [opC_len, U HN', Nat.mul_one]) (by rw [← opC_cons]; exact U HRW)
                 refine row_keep (by rw [U HN']; exact hpop) fun b e => keep_set fun e' => ?_
                 have e2 : g8 = b := by simpa [Value.ownBlock] using e
                 omega
               · have h1 : Below W.heap.size W w3 := (U HBW).trans (hb.mono (U HBW).size)
                 exact h1.setCell (p := ⟨W.heap.size, o, none⟩) NL _
              exact ⟨hI, by simp [Lib.intOf]; omega⟩
            have hb8 : (tk == 8) = false := beq_eq_false_iff_ne.2 hk8;cases b41 : isT (tk, tx, ta, te) [41] with
            | true =>
              have HCO := Hi (cl_close (t := (tk, tx, ta, te)) (op := op') (o := o) (cl := cl) (i := i) (l := l.drop (i + 1)) (show ¬ ((tk : Int) = 6 ∨ isT (tk, tx, ta, te) [40] = true ∨ isT (tk, tx, ta, te) [91] = true ∨ isT (tk, tx, ta, te) [123] = true) by rw [b40, b91, b123]; simp; exact hk6) (show (tk : Int) = 8 ∨ isT (tk, tx, ta, te) [41] = true ∨ isT (tk, tx, ta, te) [93] = true ∨ isT (tk, tx, ta, te) [125] = true from .inr (.inl b41)));have HT0 := Hi (World.alloc_heap_new wr (.cells #[.int .i64 tk, .string (strOfNums tx), .int .i64 (ta : Int), .int .i64 (te : Int)] 40));have HB0 := Hi ((Below.refl _ wr).alloc NL (.cells #[.int .i64 tk, .string (strOfNums tx), .int .i64 (ta : Int), .int .i64 (te : Int)] 40));have hyl0 : wr.heap.size < (wr.alloc (.cells #[.int .i64 tk, .string (strOfNums tx), .int .i64 (ta : Int), .int .i64 (te : Int)] 40)).heap.size := by simp
              have HX1 := Hi (is_any ((tk, tx, ta, te) : Tok) hbt ⟨#[40]⟩ [40] ⟨rfl, by intro z hz; simp at hz; omega⟩ (wr.alloc (.cells #[.int .i64 tk, .string (strOfNums tx), .int .i64 (ta : Int), .int .i64 (te : Int)] 40)));rw [b40] at HX1;unfold tkV at HX1;go_wp2_with (go_at_call 62; refine (U HX1).mono ?_)
              first | rintro e w1 rfl hx1 | rintro e w1 ⟨rfl, hx1⟩
              have HB1 := Hi ((U HB0).trans (hx1.mono (Nat.le_succ _)));have HT1 := Hi ((hx1.block _ (Nat.lt_succ_self _)).trans (U HT0));obtain ⟨y0_1, y1_1, y2_1, y3_1⟩ := cells4 (U HT1);have hyl1 := World.block_lt_of_cell? _ _ y0_1;clear hx1;have HX2 := Hi (is_any ((tk, tx, ta, te) : Tok) hbt ⟨#[91]⟩ [91] ⟨rfl, by intro z hz; simp at hz; omega⟩ w1);rw [b91] at HX2;unfold tkV at HX2;go_wp2_with (go_at_call 62; refine (U HX2).mono ?_)
              first | rintro e w2 rfl hx2 | rintro e w2 ⟨rfl, hx2⟩
              have HB2 := Hi ((U HB1).trans (hx2.mono (U HB1).size));have HT2 := Hi ((hx2.block _ hyl1).trans (U HT1));obtain ⟨y0_2, y1_2, y2_2, y3_2⟩ := cells4 (U HT2);have hyl2 := World.block_lt_of_cell? _ _ y0_2;clear hx2;have HX3 := Hi (is_any ((tk, tx, ta, te) : Tok) hbt ⟨#[123]⟩ [123] ⟨rfl, by intro z hz; simp at hz; omega⟩ w2);rw [b123] at HX3;unfold tkV at HX3;go_wp2_with (go_at_call 62; refine (U HX3).mono ?_)
              first | rintro e w3 rfl hx3 | rintro e w3 ⟨rfl, hx3⟩
              have HB3 := Hi ((U HB2).trans (hx3.mono (U HB2).size));have HT3 := Hi ((hx3.block _ hyl2).trans (U HT2));obtain ⟨y0_3, y1_3, y2_3, y3_3⟩ := cells4 (U HT3);have hyl3 := World.block_lt_of_cell? _ _ y0_3;clear hx3;have HX4 := Hi (is_any ((tk, tx, ta, te) : Tok) hbt ⟨#[41]⟩ [41] ⟨rfl, by intro z hz; simp at hz; omega⟩ w3);rw [b41] at HX4;unfold tkV at HX4;go_wp2_with (go_at_call 62; refine (U HX4).mono ?_)
              first | rintro e w4 rfl hx4 | rintro e w4 ⟨rfl, hx4⟩
              have HB4 := Hi ((U HB3).trans (hx4.mono (U HB3).size));have HT4 := Hi ((hx4.block _ hyl3).trans (U HT3));obtain ⟨y0_4, y1_4, y2_4, y3_4⟩ := cells4 (U HT4);have hyl4 := World.block_lt_of_cell? _ _ y0_4;clear hx4;have hbi := U HB4;have hcb := (hbi.block W.heap.size (by omega)).trans (U HCB);have hoi : o < i := hop o (List.mem_cons_self ..);have c7 : w4.cell? ⟨W.heap.size, o, none⟩ = some (.int .i64 ((cl.getD o 0 : Nat) : Int)) := cl_cell hcb (by omega);have f7 : w4.frozen? ⟨W.heap.size, o, none⟩ = false := by simp [World.frozen?, hcb]
              have hl7 := World.block_lt_of_cell? _ _ c7;have hrow := row_keep (W' := w4) (U HO) fun b e => hbi.block b ((U HO).lt b e).2
              obtain ⟨g8, hg8, hgb8, hc8⟩ := cl_last hrow;subst hg8;have c8 := hc8;have hl8 := World.block_lt_of_cell? _ _ c8;have HRW := Hi hrow;have HCB7 := Hi hcb;have HBI := Hi hbi;clear hbi hcb hrow hc8;go_wp2;obtain ⟨w9, hw9⟩ : ∃ x, w4.setCell ⟨W.heap.size, o, none⟩ (.int .i64 (i : Int)) = x := ⟨_, rfl⟩
              have hI : ClI l W (.slice (some ⟨g8, 0, none⟩) n' sc) (.int .i64 ((i : Int) + 1)) (w4.setCell ⟨W.heap.size, o, none⟩ (.int .i64 (i : Int))) := by
               have hb := U HBI;have hol : o < i := hop o (List.mem_cons_self ..);refine ⟨i + 1, op', cl.set o i, by rw [U HL]; omega, by simp, (U HCO).symm.trans (U HCF), by rw [List.length_set]; exact hcl.trans (U HL).symm, fun x hx => by have := hop x (List.mem_cons_of_mem _ hx); omega, by rw [U HN']; omega, cl_set (U HCB7), ⟨_, _, by rw [U HN']⟩, ?_, ?_, by simp [World.setCell]; have := hb.size; omega⟩
               · have hpop := ownsRow_pop (xs := opC op') (last := [.int .i64 (o : Int)]) (n := n') (by rw [opC_len, U HN', Nat.mul_one]) (by rw [← opC_cons]; exact U HRW)
                 refine row_keep (by rw [U HN']; exact hpop) fun b e => keep_set fun e' => ?_
                 have e2 : g8 = b := by simpa [Value.ownBlock] using e
                 omega
               · have h1 : Below W.heap.size W w4 := (U HBW).trans (hb.mono (U HBW).size)
                 exact h1.setCell (p := ⟨W.heap.size, o, none⟩) NL _
              exact ⟨hI, by simp [Lib.intOf]; omega⟩
            | false =>
              cases b93 : isT (tk, tx, ta, te) [93] with
              | true =>
                have HCO := Hi (cl_close (t := (tk, tx, ta, te)) (op := op') (o := o) (cl := cl) (i := i) (l := l.drop (i + 1)) (show ¬ ((tk : Int) = 6 ∨ isT (tk, tx, ta, te) [40] = true ∨ isT (tk, tx, ta, te) [91] = true ∨ isT (tk, tx, ta, te) [123] = true) by rw [b40, b91, b123]; simp; exact hk6) (show (tk : Int) = 8 ∨ isT (tk, tx, ta, te) [41] = true ∨ isT (tk, tx, ta, te) [93] = true ∨ isT (tk, tx, ta, te) [125] = true from .inr (.inr (.inl b93))));have HT0 := Hi (World.alloc_heap_new wr (.cells #[.int .i64 tk, .string (strOfNums tx), .int .i64 (ta : Int), .int .i64 (te : Int)] 40));have HB0 := Hi ((Below.refl _ wr).alloc NL (.cells #[.int .i64 tk, .string (strOfNums tx), .int .i64 (ta : Int), .int .i64 (te : Int)] 40));have hyl0 : wr.heap.size < (wr.alloc (.cells #[.int .i64 tk, .string (strOfNums tx), .int .i64 (ta : Int), .int .i64 (te : Int)] 40)).heap.size := by simp
                have HX1 := Hi (is_any ((tk, tx, ta, te) : Tok) hbt ⟨#[40]⟩ [40] ⟨rfl, by intro z hz; simp at hz; omega⟩ (wr.alloc (.cells #[.int .i64 tk, .string (strOfNums tx), .int .i64 (ta : Int), .int .i64 (te : Int)] 40)));rw [b40] at HX1;unfold tkV at HX1;go_wp2_with (go_at_call 62; refine (U HX1).mono ?_)
                first | rintro e w1 rfl hx1 | rintro e w1 ⟨rfl, hx1⟩
                have HB1 := Hi ((U HB0).trans (hx1.mono (Nat.le_succ _)));have HT1 := Hi ((hx1.block _ (Nat.lt_succ_self _)).trans (U HT0));obtain ⟨y0_1, y1_1, y2_1, y3_1⟩ := cells4 (U HT1);have hyl1 := World.block_lt_of_cell? _ _ y0_1;clear hx1;have HX2 := Hi (is_any ((tk, tx, ta, te) : Tok) hbt ⟨#[91]⟩ [91] ⟨rfl, by intro z hz; simp at hz; omega⟩ w1);rw [b91] at HX2;unfold tkV at HX2;go_wp2_with (go_at_call 62; refine (U HX2).mono ?_)
                first | rintro e w2 rfl hx2 | rintro e w2 ⟨rfl, hx2⟩
                have HB2 := Hi ((U HB1).trans (hx2.mono (U HB1).size));have HT2 := Hi ((hx2.block _ hyl1).trans (U HT1));obtain ⟨y0_2, y1_2, y2_2, y3_2⟩ := cells4 (U HT2);have hyl2 := World.block_lt_of_cell? _ _ y0_2;clear hx2;have HX3 := Hi (is_any ((tk, tx, ta, te) : Tok) hbt ⟨#[123]⟩ [123] ⟨rfl, by intro z hz; simp at hz; omega⟩ w2);rw [b123] at HX3;unfold tkV at HX3;go_wp2_with (go_at_call 62; refine (U HX3).mono ?_)
                first | rintro e w3 rfl hx3 | rintro e w3 ⟨rfl, hx3⟩
                have HB3 := Hi ((U HB2).trans (hx3.mono (U HB2).size));have HT3 := Hi ((hx3.block _ hyl2).trans (U HT2));obtain ⟨y0_3, y1_3, y2_3, y3_3⟩ := cells4 (U HT3);have hyl3 := World.block_lt_of_cell? _ _ y0_3;clear hx3;have HX4 := Hi (is_any ((tk, tx, ta, te) : Tok) hbt ⟨#[41]⟩ [41] ⟨rfl, by intro z hz; simp at hz; omega⟩ w3);rw [b41] at HX4;unfold tkV at HX4;go_wp2_with (go_at_call 62; refine (U HX4).mono ?_)
                first | rintro e w4 rfl hx4 | rintro e w4 ⟨rfl, hx4⟩
                have HB4 := Hi ((U HB3).trans (hx4.mono (U HB3).size));have HT4 := Hi ((hx4.block _ hyl3).trans (U HT3));obtain ⟨y0_4, y1_4, y2_4, y3_4⟩ := cells4 (U HT4);have hyl4 := World.block_lt_of_cell? _ _ y0_4;clear hx4;have HX5 := Hi (is_any ((tk, tx, ta, te) : Tok) hbt ⟨#[93]⟩ [93] ⟨rfl, by intro z hz; simp at hz; omega⟩ w4);rw [b93] at HX5;unfold tkV at HX5;go_wp2_with (go_at_call 62; refine (U HX5).mono ?_)
                first | rintro e w5 rfl hx5 | rintro e w5 ⟨rfl, hx5⟩
                have HB5 := Hi ((U HB4).trans (hx5.mono (U HB4).size));have HT5 := Hi ((hx5.block _ hyl4).trans (U HT4));obtain ⟨y0_5, y1_5, y2_5, y3_5⟩ := cells4 (U HT5);have hyl5 := World.block_lt_of_cell? _ _ y0_5;clear hx5;have hbi := U HB5;have hcb := (hbi.block W.heap.size (by omega)).trans (U HCB);have hoi : o < i := hop o (List.mem_cons_self ..);have c7 : w5.cell? ⟨W.heap.size, o, none⟩ = some (.int .i64 ((cl.getD o 0 : Nat) : Int)) := cl_cell hcb (by omega);have f7 : w5.frozen? ⟨W.heap.size, o, none⟩ = false := by simp [World.frozen?, hcb]
                have hl7 := World.block_lt_of_cell? _ _ c7;have hrow := row_keep (W' := w5) (U HO) fun b e => hbi.block b ((U HO).lt b e).2
                obtain ⟨g8, hg8, hgb8, hc8⟩ := cl_last hrow;subst hg8;have c8 := hc8;have hl8 := World.block_lt_of_cell? _ _ c8;have HRW := Hi hrow;have HCB7 := Hi hcb;have HBI := Hi hbi;clear hbi hcb hrow hc8;go_wp2;obtain ⟨w9, hw9⟩ : ∃ x, w5.setCell ⟨W.heap.size, o, none⟩ (.int .i64 (i : Int)) = x := ⟨_, rfl⟩
                have hI : ClI l W (.slice (some ⟨g8, 0, none⟩) n' sc) (.int .i64 ((i : Int) + 1)) (w5.setCell ⟨W.heap.size, o, none⟩ (.int .i64 (i : Int))) := by
                 have hb := U HBI;have hol : o < i := hop o (List.mem_cons_self ..);refine ⟨i + 1, op', cl.set o i, by rw [U HL]; omega, by simp, (U HCO).symm.trans (U HCF), by rw [List.length_set]; exact hcl.trans (U HL).symm, fun x hx => by have := hop x (List.mem_cons_of_mem _ hx); omega, by rw [U HN']; omega, cl_set (U HCB7), ⟨_, _, by rw [U HN']⟩, ?_, ?_, by simp [World.setCell]; have := hb.size; omega⟩
                 · have hpop := ownsRow_pop (xs := opC op') (last := [.int .i64 (o : Int)]) (n := n') (by rw [opC_len, U HN', Nat.mul_one]) (by rw [← opC_cons]; exact U HRW)
                   refine row_keep (by rw [U HN']; exact hpop) fun b e => keep_set fun e' => ?_
                   have e2 : g8 = b := by simpa [Value.ownBlock] using e
                   omega
                 · have h1 : Below W.heap.size W w5 := (U HBW).trans (hb.mono (U HBW).size)
                   exact h1.setCell (p := ⟨W.heap.size, o, none⟩) NL _
                exact ⟨hI, by simp [Lib.intOf]; omega⟩
              | false =>
                cases b125 : isT (tk, tx, ta, te) [125] with
                | true =>
                  have HCO := Hi (cl_close (t := (tk, tx, ta, te)) (op := op') (o := o) (cl := cl) (i := i) (l := l.drop (i + 1)) (show ¬ ((tk : Int) = 6 ∨ isT (tk, tx, ta, te) [40] = true ∨ isT (tk, tx, ta, te) [91] = true ∨ isT (tk, tx, ta, te) [123] = true) by rw [b40, b91, b123]; simp; exact hk6) (show (tk : Int) = 8 ∨ isT (tk, tx, ta, te) [41] = true ∨ isT (tk, tx, ta, te) [93] = true ∨ isT (tk, tx, ta, te) [125] = true from .inr (.inr (.inr b125))));have HT0 := Hi (World.alloc_heap_new wr (.cells #[.int .i64 tk, .string (strOfNums tx), .int .i64 (ta : Int), .int .i64 (te : Int)] 40));have HB0 := Hi ((Below.refl _ wr).alloc NL (.cells #[.int .i64 tk, .string (strOfNums tx), .int .i64 (ta : Int), .int .i64 (te : Int)] 40));have hyl0 : wr.heap.size < (wr.alloc (.cells #[.int .i64 tk, .string (strOfNums tx), .int .i64 (ta : Int), .int .i64 (te : Int)] 40)).heap.size := by simp
                  have HX1 := Hi (is_any ((tk, tx, ta, te) : Tok) hbt ⟨#[40]⟩ [40] ⟨rfl, by intro z hz; simp at hz; omega⟩ (wr.alloc (.cells #[.int .i64 tk, .string (strOfNums tx), .int .i64 (ta : Int), .int .i64 (te : Int)] 40)));rw [b40] at HX1;unfold tkV at HX1;go_wp2_with (go_at_call 62; refine (U HX1).mono ?_)
                  first | rintro e w1 rfl hx1 | rintro e w1 ⟨rfl, hx1⟩
                  have HB1 := Hi ((U HB0).trans (hx1.mono (Nat.le_succ _)));have HT1 := Hi ((hx1.block _ (Nat.lt_succ_self _)).trans (U HT0));obtain ⟨y0_1, y1_1, y2_1, y3_1⟩ := cells4 (U HT1);have hyl1 := World.block_lt_of_cell? _ _ y0_1;clear hx1;have HX2 := Hi (is_any ((tk, tx, ta, te) : Tok) hbt ⟨#[91]⟩ [91] ⟨rfl, by intro z hz; simp at hz; omega⟩ w1);rw [b91] at HX2;unfold tkV at HX2;go_wp2_with (go_at_call 62; refine (U HX2).mono ?_)
                  first | rintro e w2 rfl hx2 | rintro e w2 ⟨rfl, hx2⟩
                  have HB2 := Hi ((U HB1).trans (hx2.mono (U HB1).size));have HT2 := Hi ((hx2.block _ hyl1).trans (U HT1));obtain ⟨y0_2, y1_2, y2_2, y3_2⟩ := cells4 (U HT2);have hyl2 := World.block_lt_of_cell? _ _ y0_2;clear hx2;have HX3 := Hi (is_any ((tk, tx, ta, te) : Tok) hbt ⟨#[123]⟩ [123] ⟨rfl, by intro z hz; simp at hz; omega⟩ w2);rw [b123] at HX3;unfold tkV at HX3;go_wp2_with (go_at_call 62; refine (U HX3).mono ?_)
                  first | rintro e w3 rfl hx3 | rintro e w3 ⟨rfl, hx3⟩
                  have HB3 := Hi ((U HB2).trans (hx3.mono (U HB2).size));have HT3 := Hi ((hx3.block _ hyl2).trans (U HT2));obtain ⟨y0_3, y1_3, y2_3, y3_3⟩ := cells4 (U HT3);have hyl3 := World.block_lt_of_cell? _ _ y0_3;clear hx3;have HX4 := Hi (is_any ((tk, tx, ta, te) : Tok) hbt ⟨#[41]⟩ [41] ⟨rfl, by intro z hz; simp at hz; omega⟩ w3);rw [b41] at HX4;unfold tkV at HX4;go_wp2_with (go_at_call 62; refine (U HX4).mono ?_)
                  first | rintro e w4 rfl hx4 | rintro e w4 ⟨rfl, hx4⟩
                  have HB4 := Hi ((U HB3).trans (hx4.mono (U HB3).size));have HT4 := Hi ((hx4.block _ hyl3).trans (U HT3));obtain ⟨y0_4, y1_4, y2_4, y3_4⟩ := cells4 (U HT4);have hyl4 := World.block_lt_of_cell? _ _ y0_4;clear hx4;have HX5 := Hi (is_any ((tk, tx, ta, te) : Tok) hbt ⟨#[93]⟩ [93] ⟨rfl, by intro z hz; simp at hz; omega⟩ w4);rw [b93] at HX5;unfold tkV at HX5;go_wp2_with (go_at_call 62; refine (U HX5).mono ?_)
                  first | rintro e w5 rfl hx5 | rintro e w5 ⟨rfl, hx5⟩
                  have HB5 := Hi ((U HB4).trans (hx5.mono (U HB4).size));have HT5 := Hi ((hx5.block _ hyl4).trans (U HT4));obtain ⟨y0_5, y1_5, y2_5, y3_5⟩ := cells4 (U HT5);have hyl5 := World.block_lt_of_cell? _ _ y0_5;clear hx5;have HX6 := Hi (is_any ((tk, tx, ta, te) : Tok) hbt ⟨#[125]⟩ [125] ⟨rfl, by intro z hz; simp at hz; omega⟩ w5);rw [b125] at HX6;unfold tkV at HX6;go_wp2_with (go_at_call 62; refine (U HX6).mono ?_)
                  first | rintro e w6 rfl hx6 | rintro e w6 ⟨rfl, hx6⟩
                  have HB6 := Hi ((U HB5).trans (hx6.mono (U HB5).size));have HT6 := Hi ((hx6.block _ hyl5).trans (U HT5));obtain ⟨y0_6, y1_6, y2_6, y3_6⟩ := cells4 (U HT6);have hyl6 := World.block_lt_of_cell? _ _ y0_6;clear hx6;have hbi := U HB6;have hcb := (hbi.block W.heap.size (by omega)).trans (U HCB);have hoi : o < i := hop o (List.mem_cons_self ..);have c7 : w6.cell? ⟨W.heap.size, o, none⟩ = some (.int .i64 ((cl.getD o 0 : Nat) : Int)) := cl_cell hcb (by omega);have f7 : w6.frozen? ⟨W.heap.size, o, none⟩ = false := by simp [World.frozen?, hcb]
                  have hl7 := World.block_lt_of_cell? _ _ c7;have hrow := row_keep (W' := w6) (U HO) fun b e => hbi.block b ((U HO).lt b e).2
                  obtain ⟨g8, hg8, hgb8, hc8⟩ := cl_last hrow;subst hg8;have c8 := hc8;have hl8 := World.block_lt_of_cell? _ _ c8;have HRW := Hi hrow;have HCB7 := Hi hcb;have HBI := Hi hbi;clear hbi hcb hrow hc8;go_wp2;obtain ⟨w9, hw9⟩ : ∃ x, w6.setCell ⟨W.heap.size, o, none⟩ (.int .i64 (i : Int)) = x := ⟨_, rfl⟩
                  have hI : ClI l W (.slice (some ⟨g8, 0, none⟩) n' sc) (.int .i64 ((i : Int) + 1)) (w6.setCell ⟨W.heap.size, o, none⟩ (.int .i64 (i : Int))) := by
                   have hb := U HBI;have hol : o < i := hop o (List.mem_cons_self ..);refine ⟨i + 1, op', cl.set o i, by rw [U HL]; omega, by simp, (U HCO).symm.trans (U HCF), by rw [List.length_set]; exact hcl.trans (U HL).symm, fun x hx => by have := hop x (List.mem_cons_of_mem _ hx); omega, by rw [U HN']; omega, cl_set (U HCB7), ⟨_, _, by rw [U HN']⟩, ?_, ?_, by simp [World.setCell]; have := hb.size; omega⟩
                   · have hpop := ownsRow_pop (xs := opC op') (last := [.int .i64 (o : Int)]) (n := n') (by rw [opC_len, U HN', Nat.mul_one]) (by rw [← opC_cons]; exact U HRW)
                     refine row_keep (by rw [U HN']; exact hpop) fun b e => keep_set fun e' => ?_
                     have e2 : g8 = b := by simpa [Value.ownBlock] using e
                     omega
                   · have h1 : Below W.heap.size W w6 := (U HBW).trans (hb.mono (U HBW).size)
                     exact h1.setCell (p := ⟨W.heap.size, o, none⟩) NL _
                  exact ⟨hI, by simp [Lib.intOf]; omega⟩
                | false =>
                  have HCN := Hi (cl_pass (t := (tk, tx, ta, te)) (op := op') (o := o) (cl := cl) (i := i) (l := l.drop (i + 1)) (show ¬ (tk = 6 ∨ isT (tk, tx, ta, te) [40] = true ∨ isT (tk, tx, ta, te) [91] = true ∨ isT (tk, tx, ta, te) [123] = true) by rw [b40, b91, b123]; simp; exact hk6) (show ¬ (tk = 8 ∨ isT (tk, tx, ta, te) [41] = true ∨ isT (tk, tx, ta, te) [93] = true ∨ isT (tk, tx, ta, te) [125] = true) by rw [b41, b93, b125]; simp; exact hk8));have HT0 := Hi (World.alloc_heap_new wr (.cells #[.int .i64 tk, .string (strOfNums tx), .int .i64 (ta : Int), .int .i64 (te : Int)] 40));have HB0 := Hi ((Below.refl _ wr).alloc NL (.cells #[.int .i64 tk, .string (strOfNums tx), .int .i64 (ta : Int), .int .i64 (te : Int)] 40));have hyl0 : wr.heap.size < (wr.alloc (.cells #[.int .i64 tk, .string (strOfNums tx), .int .i64 (ta : Int), .int .i64 (te : Int)] 40)).heap.size := by simp
                  have HX1 := Hi (is_any ((tk, tx, ta, te) : Tok) hbt ⟨#[40]⟩ [40] ⟨rfl, by intro z hz; simp at hz; omega⟩ (wr.alloc (.cells #[.int .i64 tk, .string (strOfNums tx), .int .i64 (ta : Int), .int .i64 (te : Int)] 40)));rw [b40] at HX1;unfold tkV at HX1;go_wp2_with (go_at_call 62; refine (U HX1).mono ?_)
                  first | rintro e w1 rfl hx1 | rintro e w1 ⟨rfl, hx1⟩
                  have HB1 := Hi ((U HB0).trans (hx1.mono (Nat.le_succ _)));have HT1 := Hi ((hx1.block _ (Nat.lt_succ_self _)).trans (U HT0));obtain ⟨y0_1, y1_1, y2_1, y3_1⟩ := cells4 (U HT1);have hyl1 := World.block_lt_of_cell? _ _ y0_1;clear hx1;have HX2 := Hi (is_any ((tk, tx, ta, te) : Tok) hbt ⟨#[91]⟩ [91] ⟨rfl, by intro z hz; simp at hz; omega⟩ w1);rw [b91] at HX2;unfold tkV at HX2;go_wp2_with (go_at_call 62; refine (U HX2).mono ?_)
                  first | rintro e w2 rfl hx2 | rintro e w2 ⟨rfl, hx2⟩
                  have HB2 := Hi ((U HB1).trans (hx2.mono (U HB1).size));have HT2 := Hi ((hx2.block _ hyl1).trans (U HT1));obtain ⟨y0_2, y1_2, y2_2, y3_2⟩ := cells4 (U HT2);have hyl2 := World.block_lt_of_cell? _ _ y0_2;clear hx2;have HX3 := Hi (is_any ((tk, tx, ta, te) : Tok) hbt ⟨#[123]⟩ [123] ⟨rfl, by intro z hz; simp at hz; omega⟩ w2);rw [b123] at HX3;unfold tkV at HX3;go_wp2_with (go_at_call 62; refine (U HX3).mono ?_)
                  first | rintro e w3 rfl hx3 | rintro e w3 ⟨rfl, hx3⟩
                  have HB3 := Hi ((U HB2).trans (hx3.mono (U HB2).size));have HT3 := Hi ((hx3.block _ hyl2).trans (U HT2));obtain ⟨y0_3, y1_3, y2_3, y3_3⟩ := cells4 (U HT3);have hyl3 := World.block_lt_of_cell? _ _ y0_3;clear hx3;have HX4 := Hi (is_any ((tk, tx, ta, te) : Tok) hbt ⟨#[41]⟩ [41] ⟨rfl, by intro z hz; simp at hz; omega⟩ w3);rw [b41] at HX4;unfold tkV at HX4;go_wp2_with (go_at_call 62; refine (U HX4).mono ?_)
                  first | rintro e w4 rfl hx4 | rintro e w4 ⟨rfl, hx4⟩
                  have HB4 := Hi ((U HB3).trans (hx4.mono (U HB3).size));have HT4 := Hi ((hx4.block _ hyl3).trans (U HT3));obtain ⟨y0_4, y1_4, y2_4, y3_4⟩ := cells4 (U HT4);have hyl4 := World.block_lt_of_cell? _ _ y0_4;clear hx4;have HX5 := Hi (is_any ((tk, tx, ta, te) : Tok) hbt ⟨#[93]⟩ [93] ⟨rfl, by intro z hz; simp at hz; omega⟩ w4);rw [b93] at HX5;unfold tkV at HX5;go_wp2_with (go_at_call 62; refine (U HX5).mono ?_)
                  first | rintro e w5 rfl hx5 | rintro e w5 ⟨rfl, hx5⟩
                  have HB5 := Hi ((U HB4).trans (hx5.mono (U HB4).size));have HT5 := Hi ((hx5.block _ hyl4).trans (U HT4));obtain ⟨y0_5, y1_5, y2_5, y3_5⟩ := cells4 (U HT5);have hyl5 := World.block_lt_of_cell? _ _ y0_5;clear hx5;have HX6 := Hi (is_any ((tk, tx, ta, te) : Tok) hbt ⟨#[125]⟩ [125] ⟨rfl, by intro z hz; simp at hz; omega⟩ w5);rw [b125] at HX6;unfold tkV at HX6;go_wp2_with (go_at_call 62; refine (U HX6).mono ?_)
                  first | rintro e w6 rfl hx6 | rintro e w6 ⟨rfl, hx6⟩
                  have HB6 := Hi ((U HB5).trans (hx6.mono (U HB5).size));have HT6 := Hi ((hx6.block _ hyl5).trans (U HT5));obtain ⟨y0_6, y1_6, y2_6, y3_6⟩ := cells4 (U HT6);have hyl6 := World.block_lt_of_cell? _ _ y0_6;clear hx6;go_wp2
                  have hI : ClI l W (.slice sa (n' + 1) sc) (.int .i64 ((i : Int) + 1)) w6 := by
                   have hb := U HB6;refine ⟨i + 1, o :: op', cl, by rw [U HL]; omega, by simp, (U HCN).symm.trans (U HCF), hcl.trans (U HL).symm, fun x hx => by have := hop x hx; omega, by rw [U HN]; omega, (hb.block _ (by omega)).trans (U HCB), ⟨_, _, by rw [U HN]⟩, row_keep (by rw [U HN]; exact U HO) fun b e => hb.block b ((U HO).lt b e).2, (U HBW).trans (hb.mono (U HBW).size), by have := hb.size; omega⟩
                  exact ⟨hI, by simp [Lib.intOf]; omega⟩
  · have hie : i = L := by omega
    subst hie;have hdl : l.drop i = [] := List.drop_of_length_le (by rw [U HL]; exact NL);rw [hdl] at hCF;have hcc : cl = clL l := hCF;subst hcc;clear hCF hdl;go_wp2;go_ret;exact ⟨_, rfl, rfl, U HCB, U HBW⟩
theorem infoBool : (Tryz.prog.info? 4).map (fun i => (i.zero, i.size, i.bytes)) = some (some (.bool false), 1, 1) := by kernel_rfl
theorem made_bools (n : Nat) : madeCells #[Value.bool false] n = Array.replicate n (Value.bool false) := by
 apply Array.ext'
 apply List.ext_getElem?
 intro i;simp [madeCells, List.getElem?_replicate, Array.getElem?_replicate];by_cases h : i < n
 · simp [h, Nat.mod_one]
 · simp [h]
def NewQ (tv : Value) (l : List Tok) (W : World) (e : Ending) (A : World) : Prop := ∃ E : En, e = .returned (.pointer (some ⟨E.M, 0, none⟩)) ∧ E.c = ⟨l, clL l⟩ ∧ E.tv = tv ∧ (∀ k, ¬ E.Z k) ∧ W.heap.size ≤ E.lo ∧ RAt E (.slice none 0 0) ⟨0, l.getD 0 tok0, [], List.replicate l.length false⟩ A ∧ Below W.heap.size W A
theorem new_made {W A : World} {tv lv : Value} {l : List Tok} {M cb nb : Nat} (hT : TkRow W tv l) (hty : TyAt W tv 40) (hok : TksOk l) (hfine : TkFine (l.getD 0 tok0)) (hb : Below W.heap.size W A) (hM : W.heap.size ≤ M)
 (hrd : A.heap[M]? = some (.cells (rdC tv 0 (l.getD 0 tok0) (.slice none 0 0) lv (.slice (some ⟨cb, 0, none⟩) l.length l.length) (.slice (some ⟨nb, 0, none⟩) l.length l.length)) 72))
 (hlv : LvRow A lv) (hcl : A.heap[cb]? = some (.cells ((clL l).map fun k : Nat => Value.int .i64 (k : Int)).toArray 3)) (hcll : (clL l).length = l.length) (hnb : A.heap[nb]? = some (.cells (Array.replicate l.length (Value.bool false)) 4)) (hnl : W.heap.size ≤ nb) : NewQ tv l W (.returned (.pointer (some ⟨M, 0, none⟩))) A := by
 have hT' := hT;obtain ⟨tb, cap, e, q1, q2, hpos, hl, hc⟩ := hT';refine ⟨⟨⟨l, clL l⟩, M, tv, lv, .slice (some ⟨cb, 0, none⟩) l.length l.length, .slice (some ⟨nb, 0, none⟩) l.length l.length, fun _ => False, W.heap.size⟩, rfl, rfl, rfl, fun k h => h, NL, ?_, hb⟩;have hml : l.length ≤ maxLen := by unfold maxLen; omega
 refine ⟨hrd, hT.keep (S0 := fun _ => False) (below_fr hb) (fun _ _ h => h), fun k hk => ?_, ⟨cb, l.length, _, (0, 0), by rw [hcll], by rw [hcll]; exact NL, hml, hcl, fun j k hj => ?_⟩, hlv, ⟨nb, l.length, _, by rw [List.length_replicate], by rw [List.length_replicate]; exact NL, hml, hnb, fun j b hj => ?_⟩, ⟨[], rfl, ⟨rfl, .inl ⟨rfl, rfl⟩⟩, fun j x kv hx _ => by simp at hx⟩, fun k hk => hk.elim, ?_, ⟨hpos, by simp, hfine⟩, hM, fun g e => (by cases e), fun g e => (by
  have : nb = g := by simpa [Value.ownBlock] using e
  subst this
  exact hnl)⟩
 · have := hty k hk
   rw [tyOf_eq (hb.block k (ty_lt this (by omega)))];exact this
 · have hj' : (clL l)[j]? = some k := hj
   simp [hj']
 · simp only [List.getElem?_replicate] at hj
   split at hj
   · cases hj
     simp [Array.getElem?_replicate, *]
   · cases hj
 · show Bys (l.getD 0 tok0).2.1
   rw [List.getD_eq_getElem?_getD, List.getElem?_eq_getElem hpos];exact hok _ (List.getElem_mem hpos)
theorem al_at (w : World) (b : Obj) : (w.alloc b).heap[w.heap.size]? = some b := by show (w.heap.push b)[_]? = _; simp
theorem al_at' (w : World) (b b' : Obj) : ((w.alloc b').alloc b).heap[w.heap.size + 1]? = some b := by have := al_at (w.alloc b') b; simpa using this
theorem al_lt {w : World} {b c : Obj} {k : Nat} (h : w.heap[k]? = some c) : (w.alloc b).heap[k]? = some c := by
 have := (Array.getElem?_eq_some_iff.1 h).1;rw [← h];show (w.heap.push b)[_]? = _
 simp [Array.getElem?_push, Nat.ne_of_lt this]
theorem Below.at {n : Nat} {A B : World} {k : Nat} {c : Obj} (h : Below n A B) (hk : k < n) (e : A.heap[k]? = some c) : B.heap[k]? = some c := (h.block k hk).trans e
theorem LvRow.bel {A B : World} {lv : Value} (h : LvRow A lv) (hb : Below A.heap.size A B) : LvRow B lv := h.keep fun k _ _ _ hk => hb.block k hk
theorem newReader_any {W : World} {tv : Value} {l : List Tok} (hT : TkRow W tv l) (hty : TyAt W tv 40) (hok : TksOk l) (hfine : TkFine (l.getD 0 tok0)) (hcll : (clL l).length = l.length) : Calls Tryz.prog 26 #[tv] W (NewQ tv l W) := by
  have HT := Hi hT;have HTY := Hi hty;have HOK := Hi hok;have HF := Hi hfine;have HCL := Hi hcll;have HCLO : Hid (∀ w, Below W.heap.size W w → Calls Tryz.prog 56 #[tv] w fun e w' => ∃ cv, e = .returned cv ∧ cv = .slice (some ⟨w.heap.size, 0, none⟩) l.length l.length ∧ w'.heap[w.heap.size]? = some (.cells ((clL l).map fun k : Nat => Value.int .i64 (k : Int)).toArray 3) ∧ Below w.heap.size w w') := fun w hw => closers_any (hT.keep (S0 := fun _ => False) (below_fr hw) (fun _ _ h => h)) hok
  obtain ⟨tb, cap, rfl, q1, q2, hpos, hl, hc⟩ := hT;obtain ⟨t, ht⟩ : ∃ t, l.getD 0 tok0 = t := ⟨_, rfl⟩;have hg : l[0]? = some t := by rw [← ht, List.getD_eq_getElem?_getD, List.getElem?_eq_getElem hpos]; rfl
  obtain ⟨d0, d1, d2, d3⟩ := hc 0 t hg;simp only [Nat.zero_mul, Nat.zero_add] at d0 d1 d2 d3;have hdl := World.block_lt_of_cell? _ _ d0;have HSS : Hid (∀ w', Below W.heap.size W w' → w'.cell? ⟨tb, 0, none⟩ = some (.int .i64 t.1) ∧ w'.cell? ⟨tb, 1, none⟩ = some (.string (strOfNums t.2.1)) ∧ w'.cell? ⟨tb, 2, none⟩ = some (.int .i64 (t.2.2.1 : Int)) ∧ w'.cell? ⟨tb, 3, none⟩ = some (.int .i64 (t.2.2.2 : Int))) := fun w' hw => ⟨(hw.cell (p := ⟨tb, 0, none⟩) hdl).trans d0, (hw.cell (p := ⟨tb, 1, none⟩) hdl).trans d1, (hw.cell (p := ⟨tb, 2, none⟩) hdl).trans d2, (hw.cell (p := ⟨tb, 3, none⟩) hdl).trans d3⟩
  have hmk := fun w => run_make_row' (P := Tryz.prog) 70 4 (.bool false) 1 Tryz.underlying70 infoBool rfl .i64 .i64 l.length (by omega) (by omega) w
  have hmi := made_bools l.length;rw [hmi] at hmk;have HLV : Hid (∀ w, Calls Tryz.prog 55 #[] w fun e w' => e = .returned (.slice (some ⟨w.heap.size + 10, 0, none⟩) 10 10) ∧ LvRow w' (.slice (some ⟨w.heap.size + 10, 0, none⟩) 10 10) ∧ Below w.heap.size w w') := fun w => levels_any w
  unfold maxLen at q2;have HTE := Hi ht;clear hmi hty hok hfine hcll hc hg ht;go_enter Tryz.func26, Tryz.ntmps26;go_wp2
  go_region_held3 (fun w' => w'.cell? ⟨tb, 0, none⟩ = some (.int .i64 t.1) ∧ w'.cell? ⟨tb, 1, none⟩ = some (.string (strOfNums t.2.1)) ∧ w'.cell? ⟨tb, 2, none⟩ = some (.int .i64 (t.2.2.1 : Int)) ∧ w'.cell? ⟨tb, 3, none⟩ = some (.int .i64 (t.2.2.2 : Int)))
    (with_reducible first
      | exact U HSS _ (Below.refl _ _)
      | exact U HSS _ (Below.refl _ _).drew
      | exact U HSS _ ((Below.refl _ W).alloc NL _).drew
      | exact U HSS _ hWC
      | exact U HSS _ hWL
      | exact U HSS _ (hWC.alloc hWC.size _)
      | exact U HSS _ (hWL.alloc hWL.size _)
      | exact U HSS _ ((hWC.alloc hWC.size _).alloc (Nat.le_trans hWC.size (by simp)) _)
      | exact U HSS _ ((hWL.alloc hWL.size _).alloc (Nat.le_trans hWL.size (by simp)) _)
      | assumption)
    ((first
      | (go_at_call 55; refine (U HLV _).mono ?_; rintro e wL ⟨rfl, hLv, hbL⟩; first
          | (have hWL : Below W.heap.size W wL := hWC.trans (hbL.mono hWC.size); have hCL := hbL)
          | (have hWL : Below W.heap.size W wL := (hWC.alloc hWC.size _).trans (hbL.mono (Nat.le_trans hWC.size (by simp))))
          | (have hWL : Below W.heap.size W wL := (Below.refl _ W).drew.trans hbL)
          | (have hWL : Below W.heap.size W wL := ((Below.refl _ W).alloc NL _).drew.trans (hbL.mono (by simp))))
      | (go_at_call 56; first
          | refine (U HCLO _ hWL).mono ?_
          | refine (U HCLO _ (hWL.alloc hWL.size _)).mono ?_
          | refine (U HCLO _ (Below.refl _ W).drew).mono ?_
          | refine (U HCLO _ ((Below.refl _ W).alloc NL _).drew).mono ?_
         rintro e wC ⟨cv, rfl, rfl, hCl, hbC⟩
         first
          | (have hWC : Below W.heap.size W wC := hWL.trans (hbC.mono hWL.size))
          | (have hWC : Below W.heap.size W wC := (hWL.alloc hWL.size _).trans (hbC.mono (Nat.le_trans hWL.size (by simp))))
          | (have hWC : Below W.heap.size W wC := (Below.refl _ W).drew.trans hbC)
          | (have hWC : Below W.heap.size W wC := ((Below.refl _ W).alloc NL _).drew.trans (hbC.mono (by simp))))))
  all_goals go_wp2
  all_goals go_ret
  · have e := U HTE
    subst e;exact new_made (U HT) (U HTY) (U HOK) (U HF) ((hWC.alloc hWC.size _).alloc (Nat.le_trans hWC.size (by simp)) _) (Nat.le_trans hWC.size (Nat.le_succ _)) (al_at' _ _ _) ((hLv.bel hbC).bel (((Below.refl _ _).alloc NL _).alloc (by simp) _)) (al_lt (al_lt hCl)) (U HCL) (al_lt (al_at _ _)) hWC.size
  · have e := U HTE
    subst e;exact new_made (U HT) (U HTY) (U HOK) (U HF) (hWC.alloc hWC.size _) hWC.size (al_at _ _) (((hLv.bel ((Below.refl _ _).alloc NL _)).bel hbC).bel ((Below.refl _ _).alloc NL _)) (al_lt (by simpa using hCl)) (U HCL) (al_lt (Below.at hbC (by simp) (al_at _ _))) (by first | exact hWL.size | exact NL)
  · have e := U HTE
    subst e;have ew : (W.alloc (Obj.cells (Array.replicate l.length (Value.bool false)) 4)).drew.heap.size = W.heap.size + 1 := by show (W.alloc _).heap.size = _; simp
    rw [ew] at hLv;exact new_made (U HT) (U HTY) (U HOK) (U HF) (hWC.alloc hWC.size _) hWC.size (al_at _ _) (((hLv.bel hbC)).bel ((Below.refl _ _).alloc NL _)) (al_lt hCl) (U HCL) (al_lt (Below.at hbC (Nat.lt_of_lt_of_le (by simp) hbL.size) (Below.at hbL (by simp) (al_at _ _)))) NL
end
end Go.Proofs.YtofgphapjjofnaaGreatDoor
