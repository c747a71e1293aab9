/- Towards the law: X3t XR XB E1 XC XD XO. -/
import Derived.BigQuiet
import Derived.Deep.QuietTactic
import Derived.Deep.RegionWith
import Derived.OwnWalkIn
import Derived.RangeFuncFrom
import Derived.RangeFuncLeaves
import Derived.StillTailTactics
import Derived.Stop.RegionWithIn
import Derived.WalkSmall
import Derived.Test.YtofgphapjjofnaaGreatDoorMA
import Derived.Test.YtofgphapjjofnaaGreatDoorMB
set_option linter.unusedSimpArgs false
set_option linter.unusedVariables false
set_option maxRecDepth 100000
set_option maxHeartbeats 8000000
namespace Go.Proofs.YtofgphapjjofnaaGreatDoor
section
open Go.RowKit Go.Shelf
theorem stands_any (M c : Nat) (a : Option Addr) (len cap : Nat) (g : Nat → Int) (at' : Nat) (ov : Value) (s : ByteArray) (W : World) (h : MAt W M (.slice a len cap) at' ov) (hS : Sl W c (.slice a len cap) len g) (hc : c < W.heap.size) (hat : at' ≤ len) (hlen : len ≤ 1099511627776) (hs : s.size ≤ 4294967296) :
 Calls Tryz.prog 90 #[.pointer (some ⟨M, 0, none⟩), .string s] W fun e W' => e = .returned (.bool (hpB (fun j => g (at' + j)) (len - at') (gS s) s.size)) ∧ Below W.heap.size W W' := by
 have c0 := h.c0;have c1 := h.c1;obtain ⟨a', c3, hsl, hk⟩ := slice_from hS hat;obtain ⟨cap', C, fr, hcv0, hcap, hcm, hC⟩ := conv_str s W.drew hs;have hcv : (convert 9 22 (.string s)).run Tryz.prog W.drew = .ok (.slice (some ⟨W.heap.size, 0, none⟩) s.size cap') (W.alloc (.cells C 5 fr)).drew.drew := hcv0;clear hcv0
 have hSp : Sl (W.alloc (.cells C 5 fr)).drew.drew W.heap.size (.slice (some ⟨W.heap.size, 0, none⟩) s.size cap') s.size (gS s) := by
  by_cases h0 : s.size = 0
  · exact .inl ⟨_, _, by rw [h0], h0⟩
  · refine .inr ⟨0, cap', rfl, by omega, hcap, hcm, fun j hj => ?_⟩
    have h1 : (W.alloc (.cells C 5 fr)).drew.drew.heap[W.heap.size]? = some (.cells C 5 fr) := World.alloc_heap_new W _;rw [Lib.cell_of_heap h1, Nat.zero_add]; exact hC j hj
 have hBd : Below W.heap.size W (W.alloc (.cells C 5 fr)).drew.drew := (((Below.refl _ W).alloc NL _).drew).drew;have hm2 : MAt (W.alloc (.cells C 5 fr)) M (.slice a len cap) at' ov := h.below ((Below.refl _ W).alloc NL _) h.lt;have c0' := hm2.c0;have c1' := hm2.c1;have hSa := hk _ (hS.keep (B := (W.alloc (.cells C 5 fr)).drew.drew) (fun k e => by subst e; exact hBd.block k hc));have HH := Hi (hasPrefix_any hSa hSp (by omega) (by omega));clear hS hk hSp hSa hC h hm2;go_enter Tryz.func90, Tryz.ntmps90;go_wp2;go_region_with (go_at_call 140; refine (U HH).mono ?_; rintro e w' ⟨rfl, rfl⟩)
 all_goals (go_wp2; go_ret; exact ⟨rfl, hBd⟩)
end
section
open Go.RowKit
section
variable {F : Fence} {n : Nat} {P : Program}
def recOf (fn : FuncId) (tmps : Array Value) (ps : Array Tmp) (assign body : Code) (D : Nat) (st : LoopState) (pe : Option Code) : Loop :=
 { state := st, pending := pe, fn := fn, tmps := tmps, params := ps, assign := assign, body := body, defers := D }
def ranged (w : World) (r : Loop) : World := (w.alloc (.deferred (some []))).alloc (.loop r)
theorem range_enter {g : Operand} {ps : Array Tmp} {assign body : Code} {Q : Exit → Act → World → Prop} {a : Act} {w : World} (hro : F.round = none) (h1 : 1 ≤ n) {gf : Nat} {lb : Array Value} (hg : a.eval g = .func (.func gf) #[] lb) (hFg : F.fn gf)
 (eg : ∀ args w, (callFunc gf args).run P w = .ok (.enter gf args) w)
 (h : ∀ fn, F.fn fn → CallsIn F (n - 1) P gf (#[.func (.yield (w.heap.size + 1)) #[] #[]] ++ lb) (ranged w (recOf fn a.tmps ps assign body w.heap.size .ready none)) (rangePost F n P (w.heap.size + 1) Q { a with defers := [{ target := .collected w.heap.size, args := #[] }] ++ a.defers })) :
 (Code.rangeFunc g ps assign body).wpIn F n P Q a w := by
 refine wpIn_rangeFunc ?_;intro fn hfn;rw [hro];have h2 := h fn hfn;obtain ⟨W1, hW1⟩ : ∃ W1, ranged w (recOf fn a.tmps ps assign body w.heap.size .ready none) = W1 := ⟨_, rfl⟩
 have hen : (Instr.enterLoop fn a.tmps ps assign body none).run P w = .ok (w.heap.size + 1, [{ target := .collected w.heap.size, args := #[] }]) W1 := by
  rw [← hW1]; exact run_enterLoop_outer fn a.tmps ps assign body
 rw [hW1] at h2;clear hW1 h;refine ⟨w.heap.size + 1, [{ target := .collected w.heap.size, args := #[] }], W1, { target := .fn (.func gf) lb, args := #[.func (.yield (w.heap.size + 1)) #[] #[]] }, W1, gf, #[.func (.yield (w.heap.size + 1)) #[] #[]] ++ lb, W1, hen, ?_, ?_, ?_, fun _ => h1, ?_⟩
 · simp only [resolve, hg]
   simp [go_sem]
 · intro f' hf'
   simp [Target.leads] at hf';subst hf';exact hFg
 · simp [invoke, go_sem, eg]
 · exact h2
theorem yield_round {m l D : Nat} {W W₁ : World} {fn : FuncId} {tmps : Array Value} {ps : Array Tmp} {assign body : Code} {args : Array Value} {R : Ending → World → Prop} (hfn : F.fn fn) (hl : W.heap[l]? = some (.loop (recOf fn tmps ps assign body D .ready none))) (hs : args.size = ps.size) (a₁ : Act)
 (hl1 : W₁.heap[l]? = some (.loop (recOf fn tmps ps assign body D .ready none)))
 (hassign : ∀ K : Act → World → Prop, K a₁ W₁ → assign.wpIn (F.inRound l) m P (Exit.then K (fun _ _ _ => False)) { tmps := (ps.zip args).foldl (fun t (p, v) => t.setIfInBounds p v) tmps, defers := [] } W)
 (hbody : body.wpIn (F.inRound l) m P (roundPost P l R) a₁ (W₁.putObj l (.loop (recOf fn tmps ps assign body D .busy none)))) :
 YieldAt F m P l args W R :=
 ⟨fn, _, assign, body, run_yield hl hs, roundIn_of_wpIn hfn (hassign _ ⟨_, run_beginRound hl1 rfl, hbody⟩)⟩
end
end
section
open Go.RowKit Go.Shelf
attribute [local go_sem] Oper.semAt_some
attribute [local go_sem] tokV
theorem ba_loop (s : ByteArray) : ∀ (k i : Nat) (acc : List UInt8), k = s.size - i → ByteArray.toList.loop s i acc = acc.reverse ++ (s.data.toList.drop i)
 | 0, i, acc, h => by
   rw [ByteArray.toList.loop];have hi : ¬ i < s.size := by omega
   rw [if_neg hi, List.drop_eq_nil_of_le (by show s.data.toList.length ≤ i; have : s.data.toList.length = s.size := rfl; omega)];simp
 | k + 1, i, acc, h => by
   rw [ByteArray.toList.loop];have hi : i < s.size := by omega
   rw [if_pos hi, ba_loop s k (i + 1) _ (by omega)];have hl : i < s.data.toList.length := hi;rw [List.drop_eq_getElem_cons hl]
   have : s.get! i = s.data.toList[i] := by
    show s.data[i]! = _
    rw [getElem!_pos s.data i hi];simp
   simp [this]
theorem ba_toList (s : ByteArray) : s.toList = s.data.toList := by
 rw [ByteArray.toList, ba_loop s s.size 0 [] (by omega)];simp
def atOf (M : Nat) (W : World) : Nat := match W.heap[M]? with
 | some (.cells cs _ _) => (intOf (cs.getD 1 undef)).toNat
 | _ => 0
theorem atOf_eq {W : World} {M : Nat} {bv ov : Value} {at' : Nat} (h : MAt W M bv at' ov) : atOf M W = at' := by
 unfold MAt at h;simp [atOf, h, intOf]
end
section
open Go.RowKit Go.Shelf
theorem conv_mark (w : World) (C : Array Value) (n c : Nat) : (convert 22 22 (.slice (some ⟨w.heap.size, 0, none⟩) n c)).run Tryz.prog (w.alloc (.cells C 5)) = .ok (.slice (some ⟨w.heap.size, 0, none⟩) n c) (w.alloc (.cells C 5 (C.size, C.size + 1))) := by
 have hsh : (w.alloc (.cells C 5)).shape? w.heap.size = some (5, C.size) := by
  have : (w.alloc (.cells C 5)).heap[w.heap.size]? = some (.cells C 5) := World.alloc_heap_new w _;unfold World.shape?;rw [this]
 have hfr : (w.alloc (.cells C 5)).freeze ⟨w.heap.size, C.size, none⟩ 1 = w.alloc (.cells C 5 (C.size, C.size + 1)) := by
  have hm : ∀ (a : Array Obj) (x : Obj) (f : Obj → Obj), (a.push x).modify a.size f = a.push (f x) := by
   intro a x f;apply Array.ext
   · simp
   · intro i h1 h2
     simp only [Array.getElem_modify, Array.getElem_push];by_cases h : a.size = i
     · subst h
       simp
     · have hi : i < a.size := by simp at h1; omega
       simp [h, hi]
  unfold World.freeze;rw [if_neg (by decide)];show ({ w.alloc (.cells C 5) with heap := (w.heap.push (.cells C 5)).modify w.heap.size _ } : World) = _
  rw [hm];rfl
 simp [convert, run_underlying Tryz.underlying22, run_underlying Tryz.underlying5, markStringish, hsh];exact hfr
end
section
open Go.RowKit Go.Shelf
def Cloned (w : World) (len : Nat) (g : Nat → Int) (e : Ending) (w' : World) : Prop :=
 ∃ c a' cap', e = .returned (.slice a' len cap') ∧ Sl w' c (.slice a' len cap') len g ∧ w.heap.size ≤ c ∧ c < w'.heap.size ∧ Below w.heap.size w w' ∧ ∃ cur fr, w'.heap[c]? = some (.cells cur 5 fr)
theorem clone_some (ad : Addr) (len cap : Nat) (g : Nat → Int) (w : World) (hlen : len ≤ 4294967296) (hsrc : ∀ j, j < len → w.cell? (ad.add j) = some (.int .u8 (g j))) :
 Calls Tryz.prog 38 #[.slice (some ad) len cap] w (Cloned w len g) := by
 obtain ⟨i0, hi, hz0, hz1, hz2⟩ := info_parts infoByte;have h0 := empty_owns w;have hnl : (binOp .eql 22 (.slice (some ad) len cap) (.slice none 0 0)).run Tryz.prog w = .ok (.bool false) w := Lib.run_eql_slice_nil w 22 5 (some ad) len cap 0 0 Tryz.underlying22;go_enter Tryz.func38, Tryz.ntmps38;go_wp2_with (at_builtin; refine wpList_append_own _ rfl _ _ 22 rfl w.heap.size 5 i0 (.int .u8 0) 1 1 Tryz.underlying22 hi hz0 hz1 hz2 rfl (by decide) _ _ _ rfl h0 ad len cap (bcells g len) rfl ?c1 ?c2 ?c3 ?c4 ?c5 ?c6 ?_)
 case c1 => simp [bcells_length]
 case c2 =>
  intro j u hj;have hj' : j < len := by have := (List.getElem?_eq_some_iff.1 hj).1; rw [bcells_length] at this; exact this
  rw [bcells_get hj'] at hj;cases hj;rw [World.cell?_alloc_lt _ _ _ (World.block_lt_of_cell? w _ (hsrc j hj'))];exact hsrc j hj'
 case c3 => intro u hu; obtain ⟨j, _, rfl⟩ := List.mem_map.1 hu; rfl
 case c4 => unfold maxLen; omega
 case c5 => omega
 case c6 => simp
 intro v1 w1 hown1 hg1 hne;have hs1 : w.heap.size + 1 ≤ w1.heap.size := by have := hg1.size; simp at this; omega
 have hB1 : Below w.heap.size w w1 := ((Below.refl _ w).alloc NL _).grown hg1 (by simp) (fun k e => by simp [Value.ownBlock] at e; omega);clear hnl h0;rcases hown1.2 with ⟨hv, _⟩ | ⟨g1, cap1, cur, rfl, hgb, hgh, hc1, hc2, _, _⟩
 · simp [hv] at hne
 · have hcc := Hi (hown1.cells (g := g1) rfl)
   clear hown1 hg1 hne;go_wp2;go_ret;have hlt : g1 < w1.heap.size := (Array.getElem?_eq_some_iff.1 hgh).1;refine ⟨g1, some ⟨g1, 0, none⟩, cap1, by simp, ?_, hgb, hlt, hB1, _, _, hgh⟩;by_cases hz : len = 0
   · exact .inl ⟨_, cap1, by rw [hz], hz⟩
   · refine .inr ⟨0, cap1, rfl, by omega, by simpa using hc1, hc2, fun j hj => ?_⟩
     have := U hcc j _ (bcells_get hj);rw [Addr.add_lit] at this;exact this
theorem clone_none (g : Nat → Int) (w : World) (hp : 0 < w.heap.size) : Calls Tryz.prog 38 #[.slice none 0 0] w fun e w' => e = .returned (.slice none 0 0) ∧ w' = w := by
 have hnl : (binOp .eql 22 (.slice none 0 0) (.slice none 0 0)).run Tryz.prog w = .ok (.bool true) w := Lib.run_eql_slice_nil w 22 5 none 0 0 0 0 Tryz.underlying22;go_enter Tryz.func38, Tryz.ntmps38;go_wp2;go_ret;exact ⟨rfl, rfl⟩
def ScanMade (w : World) (len : Nat) (g : Nat → Int) (e : Ending) (w' : World) : Prop :=
 ∃ Bk c a' cap', e = .returned (.func (.func 39) #[] #[.pointer (some ⟨Bk, 0, none⟩)]) ∧ Boxed w' Bk 22 (.slice a' len cap') ∧ Sl w' c (.slice a' len cap') len g ∧ w.heap.size ≤ Bk ∧ c < w'.heap.size ∧ w.heap.size ≤ c ∧ Below w.heap.size w w' ∧ ∃ cur fr, w'.heap[c]? = some (.cells cur 5 fr)
theorem scan_some (ad : Addr) (len cap : Nat) (g : Nat → Int) (w : World) (hlen : len ≤ 65536) (hsrc : ∀ j, j < len → w.cell? (ad.add j) = some (.int .u8 (g j))) :
 Calls Tryz.prog 19 #[.slice (some ad) len cap] w (ScanMade w len g) := by
 have H := Hi (clone_some ad len cap g w (by omega) hsrc);have hl : ¬ (65536 : Int) < len := by omega
 have hlb : decide ((65536 : Int) < len) = false := by simpa using hl
 clear hsrc;go_enter Tryz.func19, Tryz.ntmps19;go_wp2_with (go_at_call 38; refine (U H).mono ?_; rintro e w1 ⟨c, a', cap', rfl, hS, hc1, hc2, hB, cur, fr, hcur⟩; have HS := Hi hS; have HCU := Hi hcur; clear hS hcur);go_ret;refine ⟨w1.heap.size, c, a', cap', rfl, Boxed.new w1 22 _, (U HS).keep (fun k e => by subst e; exact Below.heap_alloc w1 _ k hc2), hB.size, by simp; omega, hc1, hB.alloc hB.size _, cur, fr, (Below.heap_alloc w1 _ c hc2).trans (U HCU)⟩
theorem enter34 : ∀ args w, (callFunc 39 args).run Tryz.prog w = .ok (.enter 39 args) w := enters_of Tryz.func39 (by kernel_rfl) rfl
attribute [local go_sem] Oper.semAt_some
end
section
open Go.RowKit Go.Shelf
attribute [local go_sem] Oper.semAt_some
attribute [local go_sem] tokV
theorem infoTok : (Tryz.prog.info? 40).map (fun i => (i.zero, i.size, i.bytes)) = some (some (.agg #[.int .i64 0, .string ⟨#[]⟩, .int .i64 0, .int .i64 0]), 4, 40) := by kernel_rfl
def cellsOf' : Value → List Value
 | .agg cs => cs.toList
 | _ => []
def rowT (l : List Value) : List Value := l.flatMap cellsOf'
def TJ (w : World) (l D L M c : Nat) (rc : Loop) (cur : Array Value) (fr : Nat × Nat) (pre : List Value) (A : World) : Prop :=
 A.heap[l]? = some (.loop rc) ∧ A.heap[D]? = some (.deferred (some [])) ∧ A.heap[c]? = some (.cells cur 5 fr) ∧ M ≤ A.heap.size ∧ Below w.heap.size w A ∧ (Boxed A w.heap.size 36 (.slice none 0 0) ∧ Boxed A (w.heap.size + 1) 3 (.int .i64 0) ∧ Boxed A (w.heap.size + 1 + 1) 26 (.int .i64 0)) ∧
  ∃ v, Boxed A L 36 v ∧ A.ownsRow w.heap.size 40 4 v pre.length (rowT pre) ∧ v.ownBlock ≠ some M
theorem TJ.fr {w : World} {l D L M c : Nat} {rc : Loop} {cur : Array Value} {fr : Nat × Nat} {pre : List Value} {A C : World} (h : TJ w l D L M c rc cur fr pre A) (hf : Fr (fun k => k = M) A C) (h1 : l < M) (h2 : D < M) (h3 : c < M) (h4 : w.heap.size + 1 + 1 < M) (h5 : L < M) : TJ w l D L M c rc cur fr pre C := by
 obtain ⟨a1, a2, a3, a4, a5, ⟨b0, b1, b2⟩, v, a6, a7, a8⟩ := h;have hsz := hf.size;refine ⟨(hf.block l (by omega) (by omega)).trans a1, (hf.block D (by omega) (by omega)).trans a2, (hf.block c (by omega) (by omega)).trans a3, by omega, a5.trans (hf.toBelow a5.size (fun k hk => by omega)), ⟨boxed_fr b0 hf (by omega), boxed_fr b1 hf (by omega), boxed_fr b2 hf (by omega)⟩, v, boxed_fr a6 hf (by omega), ?_, a8⟩;refine ⟨a7.1, ?_⟩;rcases a7.2 with h | ⟨g, cap, cur', rfl, q1, q2, q3⟩
 · exact .inl h
 · exact .inr ⟨g, cap, cur', rfl, q1, (hf.block g (Array.getElem?_eq_some_iff.1 q2).1 (fun e => a8 (by rw [e]; rfl))).trans q2, q3⟩
theorem own_ne {A : World} {B k n : Nat} {o : Obj} {v : Value} {xs : List Value} (own : A.ownsRow B 40 4 v n xs) (h : A.heap[k]? = some o) (ho : ∀ cur, o ≠ .cells cur 40 (0, 0)) : v.ownBlock ≠ some k := by
 intro e;rcases own.2 with ⟨rfl, _⟩ | ⟨g, cap, cur, rfl, _, hg, _⟩
 · simp [Value.ownBlock] at e
 · simp only [Value.ownBlock, Option.some.injEq] at e
   subst e;rw [hg] at h;exact ho cur (Option.some.inj h).symm
theorem ranged_l (w : World) (r : Loop) : (ranged w r).heap[w.heap.size + 1]? = some (.loop r) := by
 have := World.alloc_heap_new (w.alloc (.deferred (some []))) (.loop r);rw [World.size_alloc] at this;exact this
theorem ranged_d (w : World) (r : Loop) : (ranged w r).heap[w.heap.size]? = some (.deferred (some [])) := (Below.heap_alloc _ _ _ (by simp)).trans (World.alloc_heap_new w _)
theorem ranged_size (w : World) (r : Loop) : (ranged w r).heap.size = w.heap.size + 1 + 1 := by simp [ranged]
theorem ranged_below (w : World) (r : Loop) : Below w.heap.size w (ranged w r) := ((Below.refl _ w).alloc NL _).alloc (by simp) _
end
section
open Go.RowKit Go.Shelf
def wordL : List ByteArray := [⟨#[98, 114, 101, 97, 107]⟩, ⟨#[99, 97, 116, 99, 104]⟩, ⟨#[99, 108, 97, 115, 115]⟩, ⟨#[99, 111, 110, 115, 116]⟩, ⟨#[99, 111, 110, 115, 116, 114, 117, 99, 116, 111, 114]⟩, ⟨#[99, 111, 110, 116, 105, 110, 117, 101]⟩, ⟨#[101, 108, 115, 101]⟩, ⟨#[101, 110, 117, 109]⟩, ⟨#[101, 120, 112, 111, 114, 116]⟩, ⟨#[101, 120, 116, 101, 110, 100, 115]⟩, ⟨#[102, 97, 108, 115, 101]⟩, ⟨#[102, 105, 110, 97, 108, 108, 121]⟩, ⟨#[102, 111, 114]⟩, ⟨#[102, 117, 110, 99, 116, 105, 111, 110]⟩, ⟨#[105, 102]⟩, ⟨#[105, 109, 112, 108, 101, 109, 101, 110, 116, 115]⟩, ⟨#[105, 110]⟩, ⟨#[105, 110, 116, 101, 114, 102, 97, 99, 101]⟩, ⟨#[108, 101, 116]⟩, ⟨#[110, 97, 109, 101, 115, 112, 97, 99, 101]⟩, ⟨#[110, 101, 119]⟩, ⟨#[110, 117, 108, 108]⟩, ⟨#[111, 102]⟩, ⟨#[112, 117, 98, 108, 105, 99]⟩, ⟨#[114, 101, 97, 100, 111, 110, 108, 121]⟩, ⟨#[114, 101, 116, 117, 114, 110]⟩, ⟨#[115, 117, 112, 101, 114]⟩, ⟨#[116, 104, 105, 115]⟩, ⟨#[116, 104, 114, 111, 119]⟩, ⟨#[116, 114, 117, 101]⟩, ⟨#[116, 114, 121]⟩, ⟨#[116, 121, 112, 101]⟩, ⟨#[116, 121, 112, 101, 111, 102]⟩, ⟨#[117, 110, 100, 101, 102, 105, 110, 101, 100]⟩, ⟨#[119, 104, 105, 108, 101]⟩, ⟨#[97, 115]⟩]
theorem res_any (s : ByteArray) (W : World) : Calls Tryz.prog 193 #[.string s] W fun x W' => x = .returned (.bool (hasT wordL s)) ∧ W' = W := by
 cases hr : hasT wordL s with
 | true =>
   obtain ⟨t, h, e⟩ := List.any_eq_true.1 hr
   obtain rfl : s = t := by
    simp only [ba_toList, beq_iff_eq] at e;exact ByteArray.ext (Array.toList_inj.1 e)
   clear hr e;simp only [wordL, List.mem_cons, List.not_mem_nil, or_false] at h;rcases h with rfl | rfl | rfl | rfl | rfl | rfl | rfl | rfl | rfl | rfl | rfl | rfl | rfl | rfl | rfl | rfl | rfl | rfl | rfl | rfl | rfl | rfl | rfl | rfl | rfl | rfl | rfl | rfl | rfl | rfl | rfl | rfl | rfl | rfl | rfl | rfl
   all_goals (
    go_enter Tryz.func193, Tryz.ntmps193;go_wp2;go_ret
    exact ⟨rfl, rfl⟩)
 | false =>
   have hno : ∀ t ∈ wordL, (s.toList == t.toList) = false := fun t ht => by simpa using List.any_eq_false.1 hr t ht
   clear hr;have q0 : (s.toList == [98, 114, 101, 97, 107]) = false := by have e := hno ⟨#[98, 114, 101, 97, 107]⟩ (by simp [wordL]); rw [ba_toList ⟨#[98, 114, 101, 97, 107]⟩] at e; exact e
   have q1 : (s.toList == [99, 97, 116, 99, 104]) = false := by have e := hno ⟨#[99, 97, 116, 99, 104]⟩ (by simp [wordL]); rw [ba_toList ⟨#[99, 97, 116, 99, 104]⟩] at e; exact e
   have q2 : (s.toList == [99, 108, 97, 115, 115]) = false := by have e := hno ⟨#[99, 108, 97, 115, 115]⟩ (by simp [wordL]); rw [ba_toList ⟨#[99, 108, 97, 115, 115]⟩] at e; exact e
   have q3 : (s.toList == [99, 111, 110, 115, 116]) = false := by have e := hno ⟨#[99, 111, 110, 115, 116]⟩ (by simp [wordL]); rw [ba_toList ⟨#[99, 111, 110, 115, 116]⟩] at e; exact e
   have q4 : (s.toList == [99, 111, 110, 115, 116, 114, 117, 99, 116, 111, 114]) = false := by have e := hno ⟨#[99, 111, 110, 115, 116, 114, 117, 99, 116, 111, 114]⟩ (by simp [wordL]); rw [ba_toList ⟨#[99, 111, 110, 115, 116, 114, 117, 99, 116, 111, 114]⟩] at e; exact e
   have q5 : (s.toList == [99, 111, 110, 116, 105, 110, 117, 101]) = false := by have e := hno ⟨#[99, 111, 110, 116, 105, 110, 117, 101]⟩ (by simp [wordL]); rw [ba_toList ⟨#[99, 111, 110, 116, 105, 110, 117, 101]⟩] at e; exact e
   have q6 : (s.toList == [101, 108, 115, 101]) = false := by have e := hno ⟨#[101, 108, 115, 101]⟩ (by simp [wordL]); rw [ba_toList ⟨#[101, 108, 115, 101]⟩] at e; exact e
   have q7 : (s.toList == [101, 110, 117, 109]) = false := by have e := hno ⟨#[101, 110, 117, 109]⟩ (by simp [wordL]); rw [ba_toList ⟨#[101, 110, 117, 109]⟩] at e; exact e
   have q8 : (s.toList == [101, 120, 112, 111, 114, 116]) = false := by have e := hno ⟨#[101, 120, 112, 111, 114, 116]⟩ (by simp [wordL]); rw [ba_toList ⟨#[101, 120, 112, 111, 114, 116]⟩] at e; exact e
   have q9 : (s.toList == [101, 120, 116, 101, 110, 100, 115]) = false := by have e := hno ⟨#[101, 120, 116, 101, 110, 100, 115]⟩ (by simp [wordL]); rw [ba_toList ⟨#[101, 120, 116, 101, 110, 100, 115]⟩] at e; exact e
   have q10 : (s.toList == [102, 97, 108, 115, 101]) = false := by have e := hno ⟨#[102, 97, 108, 115, 101]⟩ (by simp [wordL]); rw [ba_toList ⟨#[102, 97, 108, 115, 101]⟩] at e; exact e
   have q11 : (s.toList == [102, 105, 110, 97, 108, 108, 121]) = false := by have e := hno ⟨#[102, 105, 110, 97, 108, 108, 121]⟩ (by simp [wordL]); rw [ba_toList ⟨#[102, 105, 110, 97, 108, 108, 121]⟩] at e; exact e
   have q12 : (s.toList == [102, 111, 114]) = false := by have e := hno ⟨#[102, 111, 114]⟩ (by simp [wordL]); rw [ba_toList ⟨#[102, 111, 114]⟩] at e; exact e
   have q13 : (s.toList == [102, 117, 110, 99, 116, 105, 111, 110]) = false := by have e := hno ⟨#[102, 117, 110, 99, 116, 105, 111, 110]⟩ (by simp [wordL]); rw [ba_toList ⟨#[102, 117, 110, 99, 116, 105, 111, 110]⟩] at e; exact e
   have q14 : (s.toList == [105, 102]) = false := by have e := hno ⟨#[105, 102]⟩ (by simp [wordL]); rw [ba_toList ⟨#[105, 102]⟩] at e; exact e
   have q15 : (s.toList == [105, 109, 112, 108, 101, 109, 101, 110, 116, 115]) = false := by have e := hno ⟨#[105, 109, 112, 108, 101, 109, 101, 110, 116, 115]⟩ (by simp [wordL]); rw [ba_toList ⟨#[105, 109, 112, 108, 101, 109, 101, 110, 116, 115]⟩] at e; exact e
   have q16 : (s.toList == [105, 110]) = false := by have e := hno ⟨#[105, 110]⟩ (by simp [wordL]); rw [ba_toList ⟨#[105, 110]⟩] at e; exact e
   have q17 : (s.toList == [105, 110, 116, 101, 114, 102, 97, 99, 101]) = false := by have e := hno ⟨#[105, 110, 116, 101, 114, 102, 97, 99, 101]⟩ (by simp [wordL]); rw [ba_toList ⟨#[105, 110, 116, 101, 114, 102, 97, 99, 101]⟩] at e; exact e
   have q18 : (s.toList == [108, 101, 116]) = false := by have e := hno ⟨#[108, 101, 116]⟩ (by simp [wordL]); rw [ba_toList ⟨#[108, 101, 116]⟩] at e; exact e
   have q19 : (s.toList == [110, 97, 109, 101, 115, 112, 97, 99, 101]) = false := by have e := hno ⟨#[110, 97, 109, 101, 115, 112, 97, 99, 101]⟩ (by simp [wordL]); rw [ba_toList ⟨#[110, 97, 109, 101, 115, 112, 97, 99, 101]⟩] at e; exact e
   have q20 : (s.toList == [110, 101, 119]) = false := by have e := hno ⟨#[110, 101, 119]⟩ (by simp [wordL]); rw [ba_toList ⟨#[110, 101, 119]⟩] at e; exact e
   have q21 : (s.toList == [110, 117, 108, 108]) = false := by have e := hno ⟨#[110, 117, 108, 108]⟩ (by simp [wordL]); rw [ba_toList ⟨#[110, 117, 108, 108]⟩] at e; exact e
   have q22 : (s.toList == [111, 102]) = false := by have e := hno ⟨#[111, 102]⟩ (by simp [wordL]); rw [ba_toList ⟨#[111, 102]⟩] at e; exact e
   have q23 : (s.toList == [112, 117, 98, 108, 105, 99]) = false := by have e := hno ⟨#[112, 117, 98, 108, 105, 99]⟩ (by simp [wordL]); rw [ba_toList ⟨#[112, 117, 98, 108, 105, 99]⟩] at e; exact e
   have q24 : (s.toList == [114, 101, 97, 100, 111, 110, 108, 121]) = false := by have e := hno ⟨#[114, 101, 97, 100, 111, 110, 108, 121]⟩ (by simp [wordL]); rw [ba_toList ⟨#[114, 101, 97, 100, 111, 110, 108, 121]⟩] at e; exact e
   have q25 : (s.toList == [114, 101, 116, 117, 114, 110]) = false := by have e := hno ⟨#[114, 101, 116, 117, 114, 110]⟩ (by simp [wordL]); rw [ba_toList ⟨#[114, 101, 116, 117, 114, 110]⟩] at e; exact e
   have q26 : (s.toList == [115, 117, 112, 101, 114]) = false := by have e := hno ⟨#[115, 117, 112, 101, 114]⟩ (by simp [wordL]); rw [ba_toList ⟨#[115, 117, 112, 101, 114]⟩] at e; exact e
   have q27 : (s.toList == [116, 104, 105, 115]) = false := by have e := hno ⟨#[116, 104, 105, 115]⟩ (by simp [wordL]); rw [ba_toList ⟨#[116, 104, 105, 115]⟩] at e; exact e
   have q28 : (s.toList == [116, 104, 114, 111, 119]) = false := by have e := hno ⟨#[116, 104, 114, 111, 119]⟩ (by simp [wordL]); rw [ba_toList ⟨#[116, 104, 114, 111, 119]⟩] at e; exact e
   have q29 : (s.toList == [116, 114, 117, 101]) = false := by have e := hno ⟨#[116, 114, 117, 101]⟩ (by simp [wordL]); rw [ba_toList ⟨#[116, 114, 117, 101]⟩] at e; exact e
   have q30 : (s.toList == [116, 114, 121]) = false := by have e := hno ⟨#[116, 114, 121]⟩ (by simp [wordL]); rw [ba_toList ⟨#[116, 114, 121]⟩] at e; exact e
   have q31 : (s.toList == [116, 121, 112, 101]) = false := by have e := hno ⟨#[116, 121, 112, 101]⟩ (by simp [wordL]); rw [ba_toList ⟨#[116, 121, 112, 101]⟩] at e; exact e
   have q32 : (s.toList == [116, 121, 112, 101, 111, 102]) = false := by have e := hno ⟨#[116, 121, 112, 101, 111, 102]⟩ (by simp [wordL]); rw [ba_toList ⟨#[116, 121, 112, 101, 111, 102]⟩] at e; exact e
   have q33 : (s.toList == [117, 110, 100, 101, 102, 105, 110, 101, 100]) = false := by have e := hno ⟨#[117, 110, 100, 101, 102, 105, 110, 101, 100]⟩ (by simp [wordL]); rw [ba_toList ⟨#[117, 110, 100, 101, 102, 105, 110, 101, 100]⟩] at e; exact e
   have q34 : (s.toList == [119, 104, 105, 108, 101]) = false := by have e := hno ⟨#[119, 104, 105, 108, 101]⟩ (by simp [wordL]); rw [ba_toList ⟨#[119, 104, 105, 108, 101]⟩] at e; exact e
   have q35 : (s.toList == [97, 115]) = false := by have e := hno ⟨#[97, 115]⟩ (by simp [wordL]); rw [ba_toList ⟨#[97, 115]⟩] at e; exact e
   clear hno;go_enter Tryz.func193, Tryz.ntmps193;go_wp2;go_ret;exact ⟨rfl, rfl⟩
end
end Go.Proofs.YtofgphapjjofnaaGreatDoor
