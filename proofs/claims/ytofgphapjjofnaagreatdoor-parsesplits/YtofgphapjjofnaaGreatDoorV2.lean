/- Towards the law: PF0 PF PG PH PI PJ PK. -/
import Derived.Below
import Derived.Deep.AppendLies
import Derived.Deep.RegionHeld3
import Derived.Deep.RegionLaw
import Derived.Laws.Append
import Derived.Laws.OwnMore
import Derived.OwnWalk
import Derived.Test.YtofgphapjjofnaaGreatDoorV1
set_option linter.unusedSimpArgs false
set_option linter.unusedVariables false
set_option maxRecDepth 100000
set_option maxHeartbeats 8000000
namespace Go.Proofs.YtofgphapjjofnaaGreatDoor
section
open Go.RowKit
def OldRow (w w' : World) (e size : Nat) (v v' : Value) (n : Nat) : Prop := ∀ g cap cur, v = .slice (some ⟨g, 0, none⟩) n cap → w.heap[g]? = some (.cells cur e (0, 0)) → (∃ cur', w'.heap[g]? = some (.cells cur' e (0, 0)) ∧ cur'.size = cur.size ∧ cur'.toList.take (n * size) = cur.toList.take (n * size)) ∧ (∀ l cap', v' = .slice (some ⟨g, 0, none⟩) l cap' → cap' = cap)
theorem append_old {P : Program} (w : World) (t ty : TypeId) (base : Nat) (e : TypeId) (i : TypeInfo) (z : Value) (size bytes : Nat) (ht : P.underlying t = some (.slice e)) (hi : P.info? e = some i) (hz : i.zero = some z)
 (hsize : i.size = size) (hby : i.bytes = bytes) (hzs : z.cells.size = size) (hsz : 0 < size)
 (v : Value) (n : Nat) (xs : List Value) (hown : w.ownsRow base e size v n xs)
 (ad : Addr) (m c : Nat) (news : List Value) (hl : news.length = m * size) (hnews : ∀ j u, news[j]? = some u → w.cell? (ad.add j) = some u) (h1 : ∀ u ∈ news, u.oneCell' = true)
 (h63 : n + m ≤ maxLen) (hbytes : (n + m) * bytes ≤ 140737488355328)
 {v' : Value} {w' : World} (hr : (Builtin.append_ #[t, t] ty #[v, .slice (some ad) m c]).run P w = .ok v' w') : OldRow w w' e size v v' n := by
 intro g cap cur hv hh;subst hv;have hsmall : n + m ≤ 9223372036854775807 := by simp only [maxLen] at h63; omega
 rcases hown.2 with ⟨h, _⟩ | ⟨g', cap', cur', h, _, hh', hnc, hcm, hcs, htake⟩
 · cases h
 · cases h
   rw [hh] at hh';cases hh';have hxl : xs.length = n * size := hown.1;by_cases hroom : n + m ≤ cap
   · have hr2 := run_append_room (P := P) w t ty e i ht hi g n cap cur hh ad m c news (by rw [hsize]; exact hl) hnews h1 hroom (by rw [hsize, hl, hcs, ← Nat.add_mul]; exact Nat.mul_le_mul_right _ hroom)
     rw [hr] at hr2;cases hr2;have hcl : cur.toList.length = cap * size := by rw [Array.length_toList]; exact hcs
     have hle : n * size ≤ cur.toList.length := by
      rw [hcl];exact Nat.mul_le_mul_right _ hnc
     have hle2 : n * size + news.length ≤ cur.toList.length := by
      rw [hcl, hl, ← Nat.add_mul];exact Nat.mul_le_mul_right _ hroom
     refine ⟨⟨_, setRow_heap w g cur _ e (0, 0) hh, ?_, ?_⟩, fun l cap' h => by cases h; rfl⟩
     · rw [hsize]
       simp only [List.size_toArray, List.length_append, List.length_take, List.length_drop];rw [← Array.length_toList];omega
     · rw [hsize]
       simp only [List.append_assoc];rw [List.take_append_of_le_length (by rw [List.length_take]; omega), List.take_take, Nat.min_self]
   · have holds : ∀ j u, xs[j]? = some u → w.cell? ((⟨g, 0, none⟩ : Addr).add j) = some u := hown.cells (g := g) rfl
     have hr2 := run_append_grow (P := P) w t ty e i z ht hi hz ⟨g, 0, none⟩ n cap xs (by rw [hsize]; exact hxl) holds ad m c news (by rw [hsize]; exact hl) hnews (by omega) (by omega) (by rw [hby]; exact growslice_fits (by omega) (by omega));rw [hr] at hr2;cases hr2;have hg : g < w.heap.size := (Array.getElem?_eq_some_iff.1 hh).1;refine ⟨⟨cur, ?_, rfl, rfl⟩, fun l cap' h => ?_⟩
     · exact (((Below.refl w.heap.size w.drew).alloc NL _).block g hg).trans hh
     · cases h
       omega
theorem step_append_old {P : Program} (w : World) {ops : Array Oper} {o : Oper} {a : Act} {K : Act → World → Prop} {Q : Exit → Act → World → Prop} {E : Prop} (hgd : o.guard = none) (s x : Operand) (t : TypeId)
 (ho : o.op = .call { callee := .builtin .append, args := #[s, x], argTypes := #[t, t] })
 (base : Nat) (e : TypeId) (i : TypeInfo) (z : Value) (size bytes : Nat) (ht : P.underlying t = some (.slice e)) (hi : P.info? e = some i) (hz : i.zero = some z)
 (hsize : i.size = size) (hby : i.bytes = bytes) (hzs : z.cells.size = size) (hsz : 0 < size)
 (v : Value) (n : Nat) (xs : List Value) (hs : a.eval s = v) (hown : w.ownsRow base e size v n xs)
 (ad : Addr) (m c : Nat) (news : List Value) (hx : a.eval x = .slice (some ad) m c) (hl : news.length = m * size) (hnews : ∀ j u, news[j]? = some u → w.cell? (ad.add j) = some u) (h1 : ∀ u ∈ news, u.oneCell' = true)
 (hm : 0 < m) (h63 : n + m ≤ maxLen) (hbytes : (n + m) * bytes ≤ 140737488355328) (hbase : base ≤ w.heap.size) (H : Nat) (hH : w.heap.size = H)
 (h : ∀ g cap w', w'.ownsRow base e size (.slice (some ⟨g, 0, none⟩) (n + m) cap) (n + m) (xs ++ news) → w.grownBy w' v.ownBlock → (v.ownBlock = some g ∨ g = H) → g < w'.heap.size → OldRow w w' e size v (.slice (some ⟨g, 0, none⟩) (n + m) cap) n → K (a.put o.dst (.slice (some ⟨g, 0, none⟩) (n + m) cap)) w') :
 if Region.wanted o (yielded ops a.tmps) = true then Oper.wp P o a w K Q else E := by
 have hw : Region.wanted o (yielded ops a.tmps) = true := by simp [Region.wanted, hgd]
 rw [if_pos hw];obtain ⟨g, cap, w', hr, h2, h3, h4, h5⟩ := run_append_lies (P := P) w t o.type base e i z size bytes ht hi hz hsize hby hzs hsz v n xs hown ad m c news hl hnews h1 hm h63 hbytes hbase H hH;have h6 := append_old (P := P) w t o.type base e i z size bytes ht hi hz hsize hby hzs hsz v n xs hown ad m c news hl hnews h1 h63 hbytes hr;unfold Oper.wp execOp;simp only [ho, resolve, invoke, builtin, Sem.run_bind, Sem.run_pure, Result.andThen_ok, List.map_toArray, List.map_cons, List.map_nil, hs, hx, hr];exact h g cap w' h2 h3 h4 h5 h6
end
section
open Go.RowKit Go.Shelf
theorem infoNode : (Tryz.prog.info? 34).map (fun i => (i.zero, i.size, i.bytes)) = some (some (.agg #[.int .i64 0, .string ⟨#[]⟩, .int .i64 0, .slice none 0 0, .int .i64 0]), 5, 64) := by kernel_rfl
theorem at_new (w : World) (o : Obj) : (w.alloc o).heap[w.heap.size]? = some o := World.alloc_heap_new w o
theorem at_drew {w : World} {k : Nat} {o : Obj} (h : w.heap[k]? = some o) : w.drew.heap[k]? = some o := h
theorem own_cap5 {w : World} {B n : Nat} {g cap m : Nat} {xs : List Value} (h : w.ownsRow B 34 5 (.slice (some ⟨g, 0, none⟩) m cap) n xs) : n ≤ cap ∧ cap ≤ maxLen := by
 rcases h.2 with ⟨h0, _⟩ | ⟨g', cap', cur, h0, _, _, h1, h2, _⟩
 · cases h0
 · cases h0; exact ⟨h1, h2⟩
theorem row_keep {W W' : World} {B : Nat} {t : TypeId} {s n : Nat} {v : Value} {xs : List Value} (h : W.ownsRow B t s v n xs) (hb : ∀ k, v.ownBlock = some k → W'.heap[k]? = W.heap[k]?) : W'.ownsRow B t s v n xs := by
 refine ⟨h.1, ?_⟩;rcases h.2 with h0 | ⟨g, cap, cur, hv, hg, hh, hr⟩
 · exact .inl h0
 · refine .inr ⟨g, cap, cur, hv, hg, ?_, hr⟩
   rw [hb g (by rw [hv]; rfl)];exact hh
theorem RdAt.nodes {W : World} {M : Nat} {tv : Value} {n : Nat} {t : Tok} {nv lv cv bv : Value} (h : RdAt W M tv n t nv lv cv bv) : W.cell? ⟨M, 6, none⟩ = some nv := by
 have h' : W.heap[M]? = some (.cells (rdC tv n t nv lv cv bv) 72) := h;simp [World.cell?, h', rdC]
theorem RdAt.setN {W : World} {M : Nat} {tv : Value} {n : Nat} {t : Tok} {nv lv cv bv : Value} (h : RdAt W M tv n t nv lv cv bv) (nv' : Value) : RdAt (W.setCell ⟨M, 6, none⟩ nv') M tv n t nv' lv cv bv := by
 have h' : W.heap[M]? = some (.cells (rdC tv n t nv lv cv bv) 72) := h;unfold RdAt;simp [World.setCell, Array.getElem?_modify, h', rdC]
theorem put_any (M : Nat) (tv : Value) (n : Nat) (t : Tok) (nv lv cv bv : Value) (W : World) (m : Nat) (cells : List Value) (hR : RdAt W M tv n t nv lv cv bv) (hO : W.ownsRow 0 34 5 nv m cells) (hm : m < 1000000) (k num a : Int) (S : ByteArray) (ka : Option Addr) (kl kc : Nat) :
 Calls Tryz.prog 32 #[.pointer (some ⟨M, 0, none⟩), .agg #[.int .i64 k, .string S, .int .i64 num, .slice none 0 0, .int .i64 a], .slice ka kl kc] W fun e w' => e = .returned (.int .i64 (m : Int)) ∧ ∃ g cap, RdAt w' M tv n t (.slice (some ⟨g, 0, none⟩) (m + 1) cap) lv cv bv ∧ w'.ownsRow 0 34 5 (.slice (some ⟨g, 0, none⟩) (m + 1) cap) (m + 1) (cells ++ [.int .i64 k, .string S, .int .i64 num, .slice ka kl kc, .int .i64 a]) ∧ FrP (fun k => k = M ∨ nv.ownBlock = some k) W w' ∧ (nv.ownBlock = some g ∨ W.heap.size ≤ g) ∧ OldRow W w' 34 5 nv (.slice (some ⟨g, 0, none⟩) (m + 1) cap) m := by
 obtain ⟨i0, hi, hz0, hz1, hz2⟩ := info_parts infoNode;have hml := hR.lt;obtain ⟨WA, hWA⟩ : ∃ WA, W.alloc (.cells #[.int .i64 k, .string S, .int .i64 num, .slice ka kl kc, .int .i64 a] 34) = WA := ⟨_, rfl⟩;have hBA : Below W.heap.size W WA := by rw [← hWA]; exact (Below.refl _ W).alloc NL _
 have HBA := Hi hBA;have hOA : WA.ownsRow 0 34 5 nv m cells := by rw [← hWA]; exact hO.alloc _
 have HOA := Hi hOA;have hlt : ∀ j, nv.ownBlock = some j → j < W.heap.size := fun j hj => (hO.lt j hj).2
 have hne : nv.ownBlock ≠ some M := fun e => by
  rcases hO.2 with ⟨h, _⟩ | ⟨g, cap, cur, h, _, hh, _⟩
  · rw [h] at e; cases e
  · rw [h] at e
    have e' : g = M := by simpa [Value.ownBlock] using e
    subst e';rw [(hR : W.heap[g]? = _)] at hh;cases hh
 have hszA : WA.heap.size = W.heap.size + 1 := by rw [← hWA]; simp
 have hnewA : WA.heap[W.heap.size]? = some (.cells #[.int .i64 k, .string S, .int .i64 num, .slice ka kl kc, .int .i64 a] 34) := by rw [← hWA]; exact World.alloc_heap_new W _
 have HSS : Hid (∀ w' : World, w'.heap[M]? = WA.heap[M]? → w'.heap[W.heap.size]? = WA.heap[W.heap.size]? → w'.cell? ⟨M, 6, none⟩ = some nv ∧ w'.cell? ⟨W.heap.size, 0, none⟩ = some (.int .i64 k) ∧ w'.cell? ⟨W.heap.size, 1, none⟩ = some (.string S) ∧ w'.cell? ⟨W.heap.size, 2, none⟩ = some (.int .i64 num) ∧ w'.cell? ⟨W.heap.size, 3, none⟩ = some (.slice ka kl kc) ∧ w'.cell? ⟨W.heap.size, 4, none⟩ = some (.int .i64 a)) := fun w' h1 h2 => by
  have hr := (hR.keep (W' := w') (h1.trans (hBA.block M hml))).nodes;refine ⟨hr, ?_⟩;rw [hnewA] at h2;simp [World.cell?, h2]
 have HFR : Hid (∀ w' : World, w'.heap[M]? = WA.heap[M]? → w'.frozen? ⟨M, 6, none⟩ = false ∧ RdAt w' M tv n t nv lv cv bv) := fun w' h1 => ⟨(hR.keep (W' := w') (h1.trans (hBA.block M hml))).free 6, hR.keep (h1.trans (hBA.block M hml))⟩
 have HNE := Hi hne;have HLT := Hi hlt;have HSZ := Hi hszA;have hWAs : W.heap.size < WA.heap.size := by omega
 have hMA : M < WA.heap.size := by omega
 clear hBA hOA hne hlt hszA hnewA hR hO;go_enter Tryz.func32, Tryz.ntmps32;go_wp2;have hS0 := U HSS WA rfl rfl;obtain ⟨r0, r1, r2, r3, r4, r5⟩ := hS0;go_region_law (first | (refine step_append_old _ (by rfl) _ _ _ (by rfl) 0 34 i0 _ 5 64 Tryz.underlying23 hi hz0 hz1 hz2 rfl (by omega) _ m cells (by rfl) (((U HOA).alloc _).drew) ⟨_, 0, none⟩ 1 1 [.int .i64 k, .string S, .int .i64 num, .slice ka kl kc, .int .i64 a] (by rfl) (by rfl) (World.news_of_block (cs := #[.int .i64 k, .string S, .int .i64 num, .slice ka kl kc, .int .i64 a]) (t := 34) (fr := (0, 0)) (at_drew (at_new _ _))) (by intro u hu; simp at hu; rcases hu with rfl | rfl | rfl | rfl | rfl <;> rfl) (by omega) (by unfold maxLen; omega) (by omega) (by simp) _ rfl ?_; intro g4 cap4 w4 hown4 hgrow4 hat4 hlt4 hold4; have hcp4 := (own_cap5 hown4).1; have hb4 : ∀ j, j < WA.heap.size → nv.ownBlock ≠ some j → w4.heap[j]? = WA.heap[j]? := fun j hj hn => (hgrow4.block j (by simp; omega) (fun e => hn e.symm)).trans (((Below.refl _ WA).alloc NL _).block j hj); have hM4 := hb4 M hMA (U HNE); have hS4 := U HSS w4 hM4 (hb4 W.heap.size hWAs (fun e => by have := U HLT _ e; omega)); have hf4 := (U HFR w4 hM4).1))
 all_goals (
  have HO4 := Hi hown4;have HG4 := Hi hgrow4;have HA4 := Hi hat4;have HB4 := Hi hb4;have HM4 := Hi hM4;have HOL := Hi hold4;clear hold4;clear hown4 hgrow4 hat4 hb4;go_wp2;go_ret;have hR4 := (U HFR w4 (U HM4)).2
  have hne4 : g4 ≠ M := fun e => by
   rcases (U HO4).2 with ⟨h, _⟩ | ⟨g, cap, cur, h, _, hh, _⟩
   · cases h
   · have e' : g = M := by simp at h; rw [← h.1]; exact e
     subst e';rw [(hR4 : w4.heap[g]? = _)] at hh;cases hh
  have hrow : (w4.setCell ⟨M, 6, none⟩ (.slice (some ⟨g4, 0, none⟩) (m + 1) cap4)).ownsRow 0 34 5 (.slice (some ⟨g4, 0, none⟩) (m + 1) cap4) (m + 1) (cells ++ [.int .i64 k, .string S, .int .i64 num, .slice ka kl kc, .int .i64 a]) := row_keep (U HO4) fun j hj => by
   have hj' : g4 = j := by simpa [Value.ownBlock] using hj
   exact keep_set (by omega)
  refine ⟨rfl, g4, cap4, hR4.setN _, hrow, ?_, ?_, ?_⟩
  · have hF4 : FrP (fun k => k = M ∨ nv.ownBlock = some k) W w4 := ⟨(U HG4).os.trans (U HBA).os, (U HG4).tape.trans (U HBA).tape, (U HG4).output.trans (U HBA).output, by have h1 := (U HG4).size; have h2 := U HSZ; simp at h1; omega, fun j hj hs => (U HB4 j (by have := U HSZ; omega) (fun e => hs (.inr e))).trans ((U HBA).block j hj)⟩
    exact hF4.set M 6 _ (.inl rfl)
  · rcases U HA4 with h | h
    · exact .inl h
    · right
      have := U HSZ;rw [h];simp
      omega
  · intro g cap cur hv hh
    have hgM : g ≠ M := fun e => U HNE (by rw [hv, e]; rfl)
    have hgl : g < W.heap.size := (Array.getElem?_eq_some_iff.1 hh).1;obtain ⟨⟨cur', a1, a2, a3⟩, a4⟩ := U HOL g cap cur hv ((((Below.refl WA.heap.size WA).alloc NL _).block g (by omega)).trans (((U HBA).block g hgl).trans hh))
    exact ⟨⟨cur', (keep_set hgM).trans a1, a2, a3⟩, a4⟩)
def tyOf (W : World) (k : Nat) : Nat := match W.heap[k]? with
 | some (.cells _ t _) => t
 | _ => 0
structure Fz (M lo : Nat) (W A : World) : Prop where
 os : A.os = W.os
 tape : A.tape = W.tape
 output : A.output = W.output
 size : W.heap.size ≤ A.heap.size
 block : ∀ k, k < W.heap.size → k ≠ M → tyOf W k ≠ 34 → tyOf W k ≠ 4 → A.heap[k]? = W.heap[k]?
 low : ∀ k, k < W.heap.size → k < lo → A.heap[k]? = W.heap[k]?
theorem Fz.refl (M lo : Nat) (W : World) : Fz M lo W W := ⟨rfl, rfl, rfl, NL, fun _ _ _ _ _ => rfl, fun _ _ _ => rfl⟩
theorem tyOf_eq {W A : World} {k : Nat} (h : A.heap[k]? = W.heap[k]?) : tyOf A k = tyOf W k := by unfold tyOf; rw [h]
theorem Fz.trans {M lo : Nat} {A B C : World} (h : Fz M lo A B) (k : Fz M lo B C) : Fz M lo A C :=
 ⟨k.os.trans h.os, k.tape.trans h.tape, k.output.trans h.output, Nat.le_trans h.size k.size, fun i hi hM h1 h2 => by
  have e := h.block i hi hM h1 h2
  exact (k.block i (Nat.lt_of_lt_of_le hi h.size) hM (by rw [tyOf_eq e]; exact h1) (by rw [tyOf_eq e]; exact h2)).trans e, fun i hi hl => (k.low i (Nat.lt_of_lt_of_le hi h.size) hl).trans (h.low i hi hl)⟩
theorem below_fz {M lo : Nat} {A B : World} (h : Below A.heap.size A B) : Fz M lo A B := ⟨h.os, h.tape, h.output, h.size, fun k hk _ _ _ => h.block k hk, fun k hk _ => h.block k hk⟩
theorem fr_fz {M lo : Nat} {A B : World} {S0 : Nat → Prop} (h : FrP S0 A B) (hs : ∀ k, S0 k → k = M ∨ tyOf A k = 34 ∨ tyOf A k = 4) (hlo : ∀ k, S0 k → lo ≤ k) : Fz M lo A B :=
 ⟨h.os, h.tape, h.output, h.size, fun k hk hM h1 h2 => h.block k hk fun e => by rcases hs k e with h' | h' | h' <;> contradiction, fun k hk hl => h.block k hk fun e => Nat.lt_irrefl _ (Nat.lt_of_lt_of_le hl (hlo k e))⟩
def KidR (Z : Nat → Prop) (W : World) (kv : Value) (ks : List Nat) : Prop := ∃ a cap, kv = .slice a ks.length cap ∧ ks.length ≤ cap ∧ cap ≤ maxLen ∧ (ks = [] ∨ ∃ (b o : Nat) (cur : Array Value) (fr : Nat × Nat), a = some ⟨b, o, none⟩ ∧ ¬ Z b ∧ W.heap[b]? = some (.cells cur 3 fr) ∧ ∀ (j k : Nat), ks[j]? = some k → cur[o + j]? = some (.int .i64 (k : Int)))
def ndC (x : PN) (kv : Value) : List Value := [.int .i64 x.kind, .string (strOfNums x.text), .int .i64 x.num, kv, .int .i64 (x.loc : Int)]
def ndsC : List PN → List Value → List Value
 | x :: l, kv :: kvs => ndC x kv ++ ndsC l kvs
 | _, _ => []
def NdRow (Z : Nat → Prop) (W : World) (nv : Value) (l : List PN) : Prop := ∃ kvs : List Value, kvs.length = l.length ∧ W.ownsRow 0 34 5 nv l.length (ndsC l kvs) ∧ ∀ (j : Nat) (x : PN) (kv : Value), l[j]? = some x → kvs[j]? = some kv → KidR Z W kv x.kids
theorem ndsC_snoc : ∀ (l : List PN) (kvs : List Value) (x : PN) (kv : Value), kvs.length = l.length → ndsC (l ++ [x]) (kvs ++ [kv]) = ndsC l kvs ++ ndC x kv
 | [], [], x, kv, _ => by simp [ndsC]
 | y :: l, k :: kvs, x, kv, h => by simp [ndsC, ndsC_snoc l kvs x kv (by simpa using h)]
 | [], _ :: _, _, _, h => by simp at h
 | _ :: _, [], _, _, h => by simp at h
def NcRow (W : World) (bv : Value) (nc : List Bool) : Prop := ∃ (nb cap : Nat) (cur : Array Value), bv = .slice (some ⟨nb, 0, none⟩) nc.length cap ∧ nc.length ≤ cap ∧ cap ≤ maxLen ∧ W.heap[nb]? = some (.cells cur 4 (0, 0)) ∧ ∀ (j : Nat) (b : Bool), nc[j]? = some b → cur[j]? = some (.bool b)
def ClRow (W : World) (cv : Value) (cl : List Nat) : Prop := ∃ (cb cap : Nat) (cur : Array Value) (fr : Nat × Nat), cv = .slice (some ⟨cb, 0, none⟩) cl.length cap ∧ cl.length ≤ cap ∧ cap ≤ maxLen ∧ W.heap[cb]? = some (.cells cur 3 fr) ∧ ∀ (j k : Nat), cl[j]? = some k → cur[j]? = some (.int .i64 (k : Int))
def LvRow (W : World) (lv : Value) : Prop := ∃ (lb cap : Nat) (cur : Array Value) (t : Nat) (fr : Nat × Nat), t ≠ 34 ∧ t ≠ 4 ∧ t ≠ 72 ∧ lv = .slice (some ⟨lb, 0, none⟩) 10 cap ∧ 10 ≤ cap ∧ cap ≤ maxLen ∧ W.heap[lb]? = some (.cells cur t fr) ∧ ∀ (i : Nat) (r : List (List Int)), levelsL[i]? = some r → ∃ (b c : Nat) (cu : Array Value) (f : Nat × Nat), cur[i]? = some (.slice (some ⟨b, 0, none⟩) r.length c) ∧ r.length ≤ c ∧ c ≤ maxLen ∧ W.heap[b]? = some (.cells cu 9 f) ∧ ∀ (j : Nat) (x : List Int), r[j]? = some x → cu[j]? = some (.string (strOfNums x))
structure En where
 c : Cx
 M : Nat
 tv : Value
 lv : Value
 cv : Value
 bv : Value
 Z : Nat → Prop
 lo : Nat
def NumOk (l : List Int) : Prop := 0 < l.length ∧ l.length < 19 ∧ ∀ d ∈ l, 48 ≤ d ∧ d ≤ 57
def TkFine (t : Tok) : Prop := (t.1 = 3 → NumOk t.2.1) ∧ t.2.2.1 + t.2.1.length ≤ 1000000000
structure En.Ok (E : En) : Prop where
 toks : TksOk E.c.toks
 nums : ∀ t ∈ E.c.toks, TkFine t
 cll : E.c.cl.length = E.c.toks.length
 clb : ∀ k ∈ E.c.cl, k ≠ 0 → k + 1 < E.c.toks.length
def TyAt (W : World) (v : Value) (t : Nat) : Prop := ∀ k, v.ownBlock = some k → tyOf W k = t
structure RAt (E : En) (nv : Value) (s : PS) (W : World) : Prop where
 rd : RdAt W E.M E.tv s.n s.tk nv E.lv E.cv E.bv
 tk : TkRow W E.tv E.c.toks
 ty : TyAt W E.tv 40
 cl : ClRow W E.cv E.c.cl
 lv : LvRow W E.lv
 nc : NcRow W E.bv s.nc
 nd : NdRow E.Z W nv s.nodes
 zl : ∀ k, E.Z k → k < W.heap.size
 by' : Bys s.tk.2.1
 le : s.n < E.c.toks.length ∧ s.nc.length = E.c.toks.length ∧ TkFine s.tk
 lo : E.lo ≤ E.M ∧ (∀ g, nv.ownBlock = some g → E.lo ≤ g) ∧ ∀ g, E.bv.ownBlock = some g → E.lo ≤ g
theorem RAt.le' {E : En} {nv : Value} {s : PS} {W : World} (h : RAt E nv s W) : s.n ≤ 1000000 := by
 obtain ⟨tb, cap, e, q1, q2, hpos, hl, hc⟩ := h.tk;have := h.le.1;omega
theorem KidR.keep {Z : Nat → Prop} {W A : World} {kv : Value} {ks : List Nat} (h : KidR Z W kv ks) (hk : ∀ k, tyOf W k = 3 → A.heap[k]? = W.heap[k]?) : KidR Z A kv ks := by
 obtain ⟨a, cap, h1, h2, h3, h4⟩ := h;refine ⟨a, cap, h1, h2, h3, ?_⟩;rcases h4 with h4 | ⟨b, o, cur, fr, e, hz, hh, hc⟩
 · exact .inl h4
 · exact .inr ⟨b, o, cur, fr, e, hz, (hk b (by simp [tyOf, hh])).trans hh, hc⟩
theorem ClRow.keep {W A : World} {cv : Value} {cl : List Nat} (h : ClRow W cv cl) (hk : ∀ k, tyOf W k = 3 → A.heap[k]? = W.heap[k]?) : ClRow A cv cl := by
 obtain ⟨cb, cap, cur, fr, h1, h2, h3, hh, hc⟩ := h;exact ⟨cb, cap, cur, fr, h1, h2, h3, (hk cb (by simp [tyOf, hh])).trans hh, hc⟩
theorem LvRow.keep {W A : World} {lv : Value} (h : LvRow W lv) (hk : ∀ k, tyOf W k ≠ 34 → tyOf W k ≠ 4 → tyOf W k ≠ 72 → k < W.heap.size → A.heap[k]? = W.heap[k]?) : LvRow A lv := by
 obtain ⟨lb, cap, cur, t, fr, t1, t2, t3, h1, h2, h3, hh, hc⟩ := h;refine ⟨lb, cap, cur, t, fr, t1, t2, t3, h1, h2, h3, (hk lb (by simp [tyOf, hh]; exact t1) (by simp [tyOf, hh]; exact t2) (by simp [tyOf, hh]; exact t3) (Array.getElem?_eq_some_iff.1 hh).1).trans hh, fun i r hr => ?_⟩;obtain ⟨b, c, cu, f, a1, a2, a3, a4, a5⟩ := hc i r hr;exact ⟨b, c, cu, f, a1, a2, a3, (hk b (by simp [tyOf, a4]) (by simp [tyOf, a4]) (by simp [tyOf, a4]) (Array.getElem?_eq_some_iff.1 a4).1).trans a4, a5⟩
theorem ty_lt {W : World} {k t : Nat} (h : tyOf W k = t) (ht : t ≠ 0) : k < W.heap.size := by
 unfold tyOf at h;split at h
 · rename_i hh; exact (Array.getElem?_eq_some_iff.1 hh).1
 · exact absurd h.symm ht
theorem RAt.mty {E : En} {nv : Value} {s : PS} {W : World} (h : RAt E nv s W) : tyOf W E.M = 72 := by
 have this : W.heap[E.M]? = some (.cells (rdC E.tv s.n s.tk nv E.lv E.cv E.bv) 72) := h.rd;simp [tyOf, this]
theorem RAt.again {E : En} {nv nv' : Value} {s s' : PS} {W A : World} (h : RAt E nv s W) (hf : Fz E.M E.lo W A) (rd : RdAt A E.M E.tv s'.n s'.tk nv' E.lv E.cv E.bv) (nc : NcRow A E.bv s'.nc) (nd : NdRow E.Z A nv' s'.nodes) (hb : Bys s'.tk.2.1) (hle : s'.n < E.c.toks.length ∧ s'.nc.length = E.c.toks.length ∧ TkFine s'.tk) (hlo : ∀ g, nv'.ownBlock = some g → E.lo ≤ g) : RAt E nv' s' A := by
 have hM := h.mty;have hk : ∀ k t, tyOf W k = t → t ≠ 0 → t ≠ 34 → t ≠ 4 → t ≠ 72 → A.heap[k]? = W.heap[k]? := fun k t e h0 h1 h2 h3 => hf.block k (ty_lt e h0) (fun e' => by subst e'; omega) (by omega) (by omega)
 refine ⟨rd, ?_, fun k hk' => ?_, h.cl.keep (fun k e => hk k 3 e (by omega) (by omega) (by omega) (by omega)), h.lv.keep (fun k h1 h2 h3 hl => hf.block k hl (fun e' => by subst e'; exact h3 hM) h1 h2), nc, nd, fun k hz => Nat.lt_of_lt_of_le (h.zl k hz) hf.size, hb, hle, h.lo.1, hlo, h.lo.2.2⟩
 · obtain ⟨tb, cap, e, q1, q2, hpos, hl, hc⟩ := h.tk
   have ht : tyOf W tb = 40 := h.ty tb (by rw [e]; rfl);have hh := hk tb 40 ht (by omega) (by omega) (by omega) (by omega);refine ⟨tb, cap, e, q1, q2, hpos, hl, fun j t hj => ?_⟩;have ec : ∀ o, A.cell? ⟨tb, o, none⟩ = W.cell? ⟨tb, o, none⟩ := fun o => by unfold World.cell?; rw [hh]
   obtain ⟨a0, a1, a2, a3⟩ := hc j t hj;exact ⟨(ec _).trans a0, (ec _).trans a1, (ec _).trans a2, (ec _).trans a3⟩
 · have ht : tyOf W k = 40 := h.ty k hk'
   rw [tyOf_eq (hk k 40 ht (by omega) (by omega) (by omega) (by omega))];exact ht
theorem NcRow.keep {W A : World} {bv : Value} {nc : List Bool} (h : NcRow W bv nc) (hk : ∀ k, tyOf W k = 4 → A.heap[k]? = W.heap[k]?) : NcRow A bv nc := by
 obtain ⟨nb, cap, cur, h1, h2, h3, hh, hc⟩ := h;exact ⟨nb, cap, cur, h1, h2, h3, (hk nb (by simp [tyOf, hh])).trans hh, hc⟩
theorem NdRow.keep {Z : Nat → Prop} {W A : World} {nv : Value} {l : List PN} (h : NdRow Z W nv l) (hk : ∀ k, tyOf W k = 34 ∨ tyOf W k = 3 → A.heap[k]? = W.heap[k]?) : NdRow Z A nv l := by
 obtain ⟨kvs, h1, h2, h3⟩ := h;refine ⟨kvs, h1, row_keep h2 fun k hk' => hk k (.inl ?_), fun j x kv hx hkv => (h3 j x kv hx hkv).keep fun k e => hk k (.inr e)⟩;rcases h2.2 with ⟨e, _⟩ | ⟨g, cap, cur, e, _, hh, _⟩
 · rw [e] at hk'; cases hk'
 · rw [e] at hk'
   have : g = k := by simpa [Value.ownBlock] using hk'
   subst this;simp [tyOf, hh]
theorem RAt.below {E : En} {nv : Value} {s : PS} {W A : World} (h : RAt E nv s W) (hb : Below W.heap.size W A) : RAt E nv s A :=
 h.again (below_fz hb) (h.rd.keep (hb.block _ h.rd.lt)) (h.nc.keep fun k e => hb.block k (ty_lt e (by omega))) (h.nd.keep fun k e => hb.block k (by rcases e with e | e <;> exact ty_lt e (by omega))) h.by' h.le h.lo.2.1
theorem RAt.turn {E : En} {nv : Value} {s s' : PS} {W A : World} (h : RAt E nv s W) (hf : FrP (fun k => k = E.M) W A) (rd : RdAt A E.M E.tv s'.n s'.tk nv E.lv E.cv E.bv) (e1 : s'.nc = s.nc) (e2 : s'.nodes = s.nodes) (hb : Bys s'.tk.2.1) (hle : s'.n < E.c.toks.length ∧ s'.nc.length = E.c.toks.length ∧ TkFine s'.tk) : RAt E nv s' A := by
 have hM := h.mty;have hk : ∀ k t, tyOf W k = t → t ≠ 0 → t ≠ 72 → A.heap[k]? = W.heap[k]? := fun k t e h0 h1 => hf.block k (ty_lt e h0) (fun e' => by subst e'; omega)
 refine h.again (fr_fz hf (fun k e => .inl e) (fun k e => by rw [e]; exact h.lo.1)) rd (by rw [e1]; exact h.nc.keep fun k e => hk k 4 e (by omega) (by omega)) (by
  rw [e2];refine h.nd.keep fun k e => ?_
  rcases e with e | e
  · exact hk k 34 e (by omega) (by omega)
  · exact hk k 3 e (by omega) (by omega)) hb hle h.lo.2.1
def OldOf (Z : Nat → Prop) (W : World) (nv : Value) (l : List PN) (u : Value) (l' : List PN) : Prop := NdRow Z W u l' ∧ ∀ g n1 c1 n2 c2, u = .slice (some ⟨g, 0, none⟩) n1 c1 → nv = .slice (some ⟨g, 0, none⟩) n2 c2 → l' <+: l ∧ c1 = c2
theorem OldOf.self {Z : Nat → Prop} {W : World} {nv : Value} {l : List PN} (h : NdRow Z W nv l) : OldOf Z W nv l nv l := ⟨h, fun g n1 c1 n2 c2 e1 e2 => ⟨List.prefix_refl _, by rw [e1] at e2; cases e2; rfl⟩⟩
def Lf (E : En) (nv : Value) (s : PS) (W : World) (nv' : Value) (s' : PS) (A : World) : Prop := RAt E nv' s' A ∧ Fz E.M E.lo W A ∧ ∀ u l', OldOf E.Z W nv s.nodes u l' → OldOf E.Z A nv' s'.nodes u l'
def RQ {α : Type} (E : En) (v : α → Value) (nv : Value) (s : PS) (W : World) (r : Res α) (e : Ending) (A : World) : Prop :=
 match r with
 | .ok a s' => e = .returned (v a) ∧ ∃ nv', Lf E nv s W nv' s' A
 | .no s' => e = .panicked refC ∧ ∃ nv', Lf E nv s W nv' s' A
 | .out => False
theorem OldOf.keep {Z : Nat → Prop} {W A : World} {nv : Value} {l l' : List PN} {u : Value} (h : OldOf Z W nv l u l') (hk : ∀ k, tyOf W k = 34 ∨ tyOf W k = 3 → A.heap[k]? = W.heap[k]?) : OldOf Z A nv l u l' := ⟨h.1.keep hk, h.2⟩
theorem nd_ty {Z : Nat → Prop} {W : World} {nv : Value} {l : List PN} (h : NdRow Z W nv l) {k : Nat} (hk : nv.ownBlock = some k) : tyOf W k = 34 := by
 obtain ⟨kvs, h1, h2, h3⟩ := h;rcases h2.2 with ⟨e, _⟩ | ⟨g, cap, cur, e, _, hh, _⟩
 · rw [e] at hk; cases hk
 · rw [e] at hk
   have : g = k := by simpa [Value.ownBlock] using hk
   subst this;simp [tyOf, hh]
theorem put_state {E : En} {nv : Value} {s : PS} {W A : World} {x : PN} {g cap : Nat} {ka : Option Addr} {kc : Nat} (h : RAt E nv s W) (hk : KidR E.Z W (.slice ka x.kids.length kc) x.kids)
 (hR : RdAt A E.M E.tv s.n s.tk (.slice (some ⟨g, 0, none⟩) (s.nodes.length + 1) cap) E.lv E.cv E.bv) (kvs : List Value) (hkl : kvs.length = s.nodes.length) (hkk : ∀ (j : Nat) (x : PN) (kv : Value), s.nodes[j]? = some x → kvs[j]? = some kv → KidR E.Z W kv x.kids)
 (hO : A.ownsRow 0 34 5 (.slice (some ⟨g, 0, none⟩) (s.nodes.length + 1) cap) (s.nodes.length + 1) (ndsC s.nodes kvs ++ ndC x (.slice ka x.kids.length kc)))
 (hF : FrP (fun k => k = E.M ∨ nv.ownBlock = some k) W A) (hat : nv.ownBlock = some g ∨ W.heap.size ≤ g) (hold : OldRow W A 34 5 nv (.slice (some ⟨g, 0, none⟩) (s.nodes.length + 1) cap) s.nodes.length) :
 RAt E (.slice (some ⟨g, 0, none⟩) (s.nodes.length + 1) cap) { s with nodes := s.nodes ++ [x] } A ∧ Fz E.M E.lo W A ∧ ∀ u l', OldOf E.Z W nv s.nodes u l' → OldOf E.Z A (.slice (some ⟨g, 0, none⟩) (s.nodes.length + 1) cap) (s.nodes ++ [x]) u l' := by
 have hM := h.mty;have hz : Fz E.M E.lo W A := fr_fz hF (fun k e => e.imp id fun e => .inl (nd_ty h.nd e)) (fun k e => e.elim (fun e => by rw [e]; exact h.lo.1) (h.lo.2.1 k))
 have hkeep : ∀ k t, tyOf W k = t → t ≠ 0 → t ≠ 34 → t ≠ 72 → A.heap[k]? = W.heap[k]? := fun k t e h0 h1 h2 => hF.block k (ty_lt e h0) fun e' => by
  rcases e' with e' | e'
  · subst e'; omega
  · have := nd_ty h.nd e'; omega
 have hk3 : ∀ k, tyOf W k = 3 → A.heap[k]? = W.heap[k]? := fun k e => hkeep k 3 e (by omega) (by omega) (by omega)
 refine ⟨h.again hz hR (h.nc.keep fun k e => hkeep k 4 e (by omega) (by omega) (by omega)) ⟨kvs ++ [.slice ka x.kids.length kc], by simp [hkl], ?_, ?_⟩ h.by' h.le (fun g' e => by
  have : g = g' := by simpa [Value.ownBlock] using e
  subst this;rcases hat with e1 | e1
  · exact h.lo.2.1 g e1
  · have := h.lo.1
    have := h.rd.lt
    omega), hz, fun u l' ho => ⟨?_, ?_⟩⟩
 · rw [List.length_append, ndsC_snoc _ _ _ _ hkl]
   exact hO
 · intro j y kv hy hkv
   rcases Nat.lt_or_ge j s.nodes.length with hj | hj
   · rw [List.getElem?_append_left hj] at hy
     rw [List.getElem?_append_left (by omega)] at hkv;exact (hkk j y kv hy hkv).keep hk3
   · have hj2 : j = s.nodes.length := by
      have := (List.getElem?_eq_some_iff.1 hy).1;simp at this;omega
     subst hj2;rw [List.getElem?_append_right NL, Nat.sub_self] at hy;rw [List.getElem?_append_right (by omega), show s.nodes.length - kvs.length = 0 by omega] at hkv;cases hy;cases hkv;exact hk.keep hk3
 · obtain ⟨kv2, b1, b2, b3⟩ := ho.1
   refine ⟨kv2, b1, ?_, fun j y kv hy hkv => (b3 j y kv hy hkv).keep hk3⟩;refine ⟨b2.1, ?_⟩;rcases b2.2 with hn | ⟨g1, c1, cur, e, hg, hh, q1, q2, q3, q4⟩
   · exact .inl hn
   · by_cases hsame : nv.ownBlock = some g1
     · obtain ⟨kvn, d1, d2, d3⟩ := h.nd
       rcases d2.2 with ⟨hn, _⟩ | ⟨g2, c2, cur2, e2, _, hh2, r1, r2, r3, r4⟩
       · rw [hn] at hsame; cases hsame
       · have hgg : g2 = g1 := by rw [e2] at hsame; simpa [Value.ownBlock] using hsame
         subst hgg;obtain ⟨hpre, hcc⟩ := ho.2 g2 _ _ _ _ e e2;rw [hh] at hh2;cases hh2;obtain ⟨⟨cur', a1, a2, a3⟩, _⟩ := hold g2 c2 cur e2 hh;refine .inr ⟨g2, c1, cur', e, hg, a1, q1, q2, by rw [a2]; exact q3, ?_⟩;have hlen : l'.length * 5 ≤ s.nodes.length * 5 := Nat.mul_le_mul_right _ hpre.length_le;have t1 := congrArg (List.take (l'.length * 5)) a3;rw [List.take_take, List.take_take, Nat.min_eq_left hlen] at t1;rw [t1];exact q4
     · have hne : g1 ≠ E.M := fun e' => by
        subst e';have : tyOf W E.M = 34 := by simp [tyOf, hh]
        omega
       refine .inr ⟨g1, c1, cur, e, hg, (hF.block g1 (Array.getElem?_eq_some_iff.1 hh).1 (fun e' => ?_)).trans hh, q1, q2, q3, q4⟩;rcases e' with e' | e'
       · exact hne e'
       · exact hsame e'
 · intro g' n1 c1 n2 c2 e1 e2
   cases e2
   have hlt : g < W.heap.size := by
    obtain ⟨kv2, b1, b2, b3⟩ := ho.1;exact (b2.lt g (by rw [e1]; rfl)).2
   rcases hat with hat | hat
   · obtain ⟨kvn, d1, d2, d3⟩ := h.nd
     rcases d2.2 with ⟨hn, _⟩ | ⟨g2, c3, cur2, e3, _, hh2, r1, r2, r3, r4⟩
     · rw [hn] at hat; cases hat
     · have hgg : g2 = g := by rw [e3] at hat; simpa [Value.ownBlock] using hat
       subst g2;obtain ⟨hpre, hcc⟩ := ho.2 g _ _ _ _ e1 e3;have := (hold g c3 cur2 e3 hh2).2 _ _ rfl;exact ⟨hpre.trans (List.prefix_append _ _), by omega⟩
   · omega
theorem Lf.refl {E : En} {nv : Value} {s : PS} {W : World} (h : RAt E nv s W) : Lf E nv s W nv s W := ⟨h, Fz.refl _ _ _, fun _ _ h => h⟩
theorem Lf.trans {E : En} {n0 n1 n2 : Value} {s0 s1 s2 : PS} {A B C : World} (h : Lf E n0 s0 A n1 s1 B) (k : Lf E n1 s1 B n2 s2 C) : Lf E n0 s0 A n2 s2 C := ⟨k.1, h.2.1.trans k.2.1, fun u l o => k.2.2 u l (h.2.2 u l o)⟩
theorem OldOf.below {Z : Nat → Prop} {W A : World} {nv : Value} {l l' : List PN} {u : Value} (h : OldOf Z W nv l u l') (hb : Below W.heap.size W A) : OldOf Z A nv l u l' := h.keep fun k e => hb.block k (by rcases e with e | e <;> exact ty_lt e (by omega))
theorem Lf.below {E : En} {n0 n1 : Value} {s0 s1 : PS} {A B C : World} (h : Lf E n0 s0 A n1 s1 B) (k : Below B.heap.size B C) : Lf E n0 s0 A n1 s1 C := ⟨h.1.below k, h.2.1.trans (below_fz k), fun u l o => (h.2.2 u l o).below k⟩
theorem turn_lf {E : En} {nv : Value} {s s' : PS} {W A : World} (h : RAt E nv s W) (hf : FrP (fun k => k = E.M) W A) (rd : RdAt A E.M E.tv s'.n s'.tk nv E.lv E.cv E.bv) (e1 : s'.nc = s.nc) (e2 : s'.nodes = s.nodes) (hb : Bys s'.tk.2.1) (hle : s'.n < E.c.toks.length ∧ s'.nc.length = E.c.toks.length ∧ TkFine s'.tk) : Lf E nv s W nv s' A := by
 have hM := h.mty;refine ⟨h.turn hf rd e1 e2 hb hle, fr_fz hf (fun k e => .inl e) (fun k e => by rw [e]; exact h.lo.1), fun u l o => ?_⟩;rw [e2];refine o.keep fun k e => hf.block k (by rcases e with e | e <;> exact ty_lt e (by omega)) fun e' => ?_
 subst e';rcases e with e | e <;> omega
theorem rq_ok {α : Type} {E : En} {v : α → Value} {nv : Value} {s : PS} {W : World} {r : Res α} {f : Nat} {args : Array Value} (h : Calls Tryz.prog f args W (RQ E v nv s W r)) {a : α} {s' : PS} (hr : r = .ok a s') : Calls Tryz.prog f args W fun e A => e = .returned (v a) ∧ ∃ nv', Lf E nv s W nv' s' A := by
 subst hr;exact h
theorem rq_no {α : Type} {E : En} {v : α → Value} {nv : Value} {s : PS} {W : World} {r : Res α} {f : Nat} {args : Array Value} (h : Calls Tryz.prog f args W (RQ E v nv s W r)) {s' : PS} (hr : r = .no s') : Calls Tryz.prog f args W fun e A => e = .panicked refC ∧ ∃ nv', Lf E nv s W nv' s' A := by
 subst hr;exact h
theorem ro {α : Type} {E : En} {v : α → Value} {nv : Value} {s : PS} {W : World} {r : Res α} {f : Nat} {args : Array Value} (h : Hid (Calls Tryz.prog f args W (RQ E v nv s W r))) {a : α} {s' : PS} (hr : r = .ok a s') : Hid (Calls Tryz.prog f args W fun e A => e = .returned (v a) ∧ ∃ nv', Lf E nv s W nv' s' A) := rq_ok h hr
theorem rn {α : Type} {E : En} {v : α → Value} {nv : Value} {s : PS} {W : World} {r : Res α} {f : Nat} {args : Array Value} (h : Hid (Calls Tryz.prog f args W (RQ E v nv s W r))) {s' : PS} (hr : r = .no s') : Hid (Calls Tryz.prog f args W fun e A => e = .panicked refC ∧ ∃ nv', Lf E nv s W nv' s' A) := rq_no h hr
theorem ok_rq {α : Type} {E : En} {v : α → Value} {nv : Value} {s : PS} {W : World} {r : Res α} {f : Nat} {args : Array Value} {a : α} {s' : PS} (hr : r = .ok a s') (h : Calls Tryz.prog f args W fun e A => e = .returned (v a) ∧ ∃ nv', Lf E nv s W nv' s' A) : Calls Tryz.prog f args W (RQ E v nv s W r) := by
 subst hr;exact h
theorem no_rq {α : Type} {E : En} {v : α → Value} {nv : Value} {s : PS} {W : World} {r : Res α} {f : Nat} {args : Array Value} {s' : PS} (hr : r = .no s') (h : Calls Tryz.prog f args W fun e A => e = .panicked refC ∧ ∃ nv', Lf E nv s W nv' s' A) : Calls Tryz.prog f args W (RQ E v nv s W r) := by
 subst hr;exact h
theorem nextT_num {E : En} {n : Nat} (h : E.Ok) : TkFine (nextT E.c.toks n) := by
 unfold nextT;rw [List.getD_eq_getElem?_getD];cases hx : E.c.toks[min (n + 1) (E.c.toks.length - 1)]? with
 | none => exact ⟨fun hz => by simp [tok0] at hz, by simp [tok0]⟩
 | some t => exact h.nums t (List.mem_of_getElem? hx)
theorem next_rq {E : En} {nv : Value} {s : PS} {W : World} (hE : E.Ok) (h : RAt E nv s W) (hne : nextP E.c s ≠ .out) : Calls Tryz.prog 53 #[.pointer (some ⟨E.M, 0, none⟩)] W (RQ E tkV nv s W (nextP E.c s)) := by
 unfold nextP at hne ⊢;by_cases hn : s.n + 1 < E.c.toks.length
 · rw [if_pos hn]
   refine (next_any E.M E.tv s.n s.tk nv E.lv E.cv E.bv W E.c.toks h.rd h.tk h.le').mono ?_;rintro e w ⟨rfl, hR, hF⟩;exact ⟨rfl, nv, turn_lf h hF hR rfl rfl (nextT_ok hE.toks) ⟨hn, h.le.2.1, nextT_num hE⟩⟩
 · rw [if_neg hn] at hne
   exact absurd rfl hne
theorem RAt.tvne {E : En} {nv : Value} {s : PS} {W : World} (h : RAt E nv s W) : E.tv.ownBlock ≠ some E.M := fun e => by
 have h1 := h.ty _ e;have h2 := h.mty;omega
theorem take_rq {E : En} {nv : Value} {s : PS} {W : World} (hE : E.Ok) (h : RAt E nv s W) {x : ByteArray} {xs : List Int} (hx : Str x xs) (hne : takeP E.c xs s ≠ .out) : Calls Tryz.prog 42 #[.pointer (some ⟨E.M, 0, none⟩), .string x] W (RQ E .bool nv s W (takeP E.c xs s)) := by
 unfold takeP at hne ⊢;cases hy : isP xs s with
 | false =>
   refine (take_no E.M E.tv s.n s.tk nv E.lv E.cv E.bv W h.rd h.by' x xs hx hy).mono ?_;rintro e w ⟨rfl, hB⟩;exact ⟨rfl, nv, (Lf.refl h).below hB⟩
 | true =>
   rw [hy] at hne;by_cases hn : s.n + 1 < E.c.toks.length
   · refine (take_yes E.M E.tv s.n s.tk nv E.lv E.cv E.bv W E.c.toks h.rd h.tk h.le' h.by' h.tvne x xs hx hy).mono ?_
     rintro e w ⟨rfl, hR, hF⟩;simp only [if_true, bd, nextP, if_pos hn, rt];exact ⟨rfl, nv, turn_lf h hF hR rfl rfl (nextT_ok hE.toks) ⟨hn, h.le.2.1, nextT_num hE⟩⟩
   · simp [bd, nextP, if_neg hn] at hne
theorem take_ok {c : Cx} {xs : List Int} {s : PS} (h : takeP c xs s ≠ .out) : ∃ b s', takeP c xs s = .ok b s' := by
 unfold takeP bd nextP rt at *;by_cases h1 : isP xs s
 · rw [if_pos h1] at h ⊢
   by_cases h2 : s.n + 1 < c.toks.length
   · rw [if_pos h2]
     exact ⟨_, _, rfl⟩
   · rw [if_neg h2] at h
     exact absurd rfl h
 · rw [if_neg h1]
   exact ⟨_, _, rfl⟩
theorem put_ok {x : PN} {s : PS} (h : putP x s ≠ .out) : putP x s = .ok s.nodes.length { s with nodes := s.nodes ++ [x] } := by
 unfold putP at *;split at h
 · simp [*]
 · exact absurd rfl h
theorem bd_out {α β : Type} {p : Pr α} {k : α → Pr β} {s : PS} (h : bd p k s ≠ .out) : p s ≠ .out := fun e => by
 unfold bd at h;rw [e] at h;exact h rfl
theorem want_rq {E : En} {nv : Value} {s : PS} {W : World} (hE : E.Ok) (h : RAt E nv s W) {x : ByteArray} {xs : List Int} (hx : Str x xs) (hne : wantP E.c xs s ≠ .out) : Calls Tryz.prog 94 #[.pointer (some ⟨E.M, 0, none⟩), .string x] W (RQ E (fun _ : Unit => .tuple #[]) nv s W (wantP E.c xs s)) := by
 have ht := bd_out hne;obtain ⟨b, s1, hq⟩ := take_ok ht;have HT := Hi (rq_ok (take_rq hE h hx ht) hq)
 have hw : wantP E.c xs s = if b then .ok () s1 else .no s1 := by
  unfold wantP bd;rw [hq];cases b <;> rfl
 clear hq hne h hx ht;cases b with
 | true =>
   refine ok_rq (a := ()) (s' := s1) (by rw [hw]; rfl) ?_;clear hw;go_enter Tryz.func94, Tryz.ntmps94;go_wp2_with (go_at_call 42; refine (U HT).mono ?_)
   rintro e w1 ⟨rfl, nv1, h1⟩
   have H1 := Hi h1;clear h1;go_wp2;exact bodyPost_end (results_none rfl _ _ _) rfl ⟨rfl, nv1, U H1⟩
 | false =>
   refine no_rq (s' := s1) (by rw [hw]; rfl) ?_;clear hw;have HR := Hi (refuse_any (.pointer (some ⟨E.M, 0, none⟩)));go_enter Tryz.func94, Tryz.ntmps94;go_wp2_with (go_at_call 42; refine (U HT).mono ?_)
   rintro e w1 ⟨rfl, nv1, h1⟩
   have H1 := Hi h1;clear h1;go_wp2_with (go_at_call 52; refine (U HR w1).mono ?_)
   rintro e w2 ⟨rfl, hB2⟩
   have HB2 := Hi hB2;clear hB2;go_wp2;exact ⟨rfl, rfl, nv1, (U H1).below (U HB2)⟩
theorem wantKind_rq {E : En} {nv : Value} {s : PS} {W : World} (hE : E.Ok) (h : RAt E nv s W) (k : Int) (hne : wantKindP E.c k s ≠ .out) : Calls Tryz.prog 161 #[.pointer (some ⟨E.M, 0, none⟩), .int .i64 k] W (RQ E tkV nv s W (wantKindP E.c k s)) := by
 unfold wantKindP at hne ⊢;have hml := h.rd.lt;obtain ⟨c2, c3, c4, c5⟩ := h.rd.tok;obtain ⟨WA, hWA⟩ : ∃ WA, W.alloc (.cells #[.int .i64 0, .string ⟨#[]⟩, .int .i64 0, .int .i64 0] 40) = WA := ⟨_, rfl⟩;have hBA : Below W.heap.size W WA := by rw [← hWA]; exact (Below.refl _ W).alloc NL _
 have hn : WA.heap[W.heap.size]? = some (.cells #[.int .i64 0, .string ⟨#[]⟩, .int .i64 0, .int .i64 0] 40) := by rw [← hWA]; exact World.alloc_heap_new W _
 have hLA := (Lf.refl h).below hBA;by_cases hk : s.tk.1 = k
 · rw [if_pos hk] at hne ⊢
   subst hk
   have hn2 : s.n + 1 < E.c.toks.length := by
    unfold nextP at hne;split at hne
    · assumption
    · exact absurd rfl hne
   have hq : nextP E.c s = .ok s.tk { s with tk := behindP E.c 1 s, n := s.n + 1 } := by unfold nextP; rw [if_pos hn2]
   have HN := Hi (next_any E.M E.tv s.n s.tk nv E.lv E.cv E.bv WA E.c.toks hLA.1.rd hLA.1.tk h.le');refine ok_rq hq ?_;have hd2 := (hLA.1.rd.tok).1;have HLA := Hi hLA;have HN0 := Hi hn;have HOK := Hi hE;have HBA := Hi hBA;have HLT := Hi hn2;have hWs : W.heap.size < WA.heap.size := (Array.getElem?_eq_some_iff.1 hn).1;have HH := Hi h;clear hLA hn hBA h hne hq hE c3 c4 c5 hn2;go_enter Tryz.func161, Tryz.ntmps161;go_wp2_with (go_at_call 53; refine (U HN).mono ?_)
   rintro e w1 ⟨rfl, hR1, hF1⟩
   have h0 := (hF1.block W.heap.size hWs (by omega)).trans (U HN0);obtain ⟨a0, a1, a2, a3⟩ := cells4 h0;have zf : ∀ o, w1.frozen? ⟨W.heap.size, o, none⟩ = false := fun o => by simp [World.frozen?, h0]
   have g0 := zf 0;have g1 := zf 1;have g2 := zf 2;have g3 := zf 3;have HR1 := Hi hR1;have HF1 := Hi hF1;have H0 := Hi h0;clear hR1 hF1 h0 zf;unfold tkV;go_wp2;have hz := set4 (U H0) (.int .i64 s.tk.1) (.string (strOfNums s.tk.2.1)) (.int .i64 (s.tk.2.2.1 : Int)) (.int .i64 (s.tk.2.2.2 : Int));have hMne : E.M ≠ W.heap.size := by omega
   have hF2 : FrP (fun k => k = E.M) W w1 := (below_fr (U HBA)).trans (U HF1);have hF3 := (((hF2.setN 0 (.int .i64 s.tk.1)).setN 1 (.string (strOfNums s.tk.2.1))).setN 2 (.int .i64 (s.tk.2.2.1 : Int))).setN 3 (.int .i64 (s.tk.2.2.2 : Int));obtain ⟨u0, u1, u2, u3⟩ := cells4 hz;refine bodyPost_ret (v := tkV s.tk) ?_ rfl ⟨rfl, nv, turn_lf (U HH) hF3 ((U HR1).keep (by rw [keep_set hMne, keep_set hMne, keep_set hMne, keep_set hMne])) rfl rfl (nextT_ok (U HOK).toks) ⟨U HLT, (U HH).le.2.1, nextT_num (U HOK)⟩⟩;unfold tkV;simp [results, Tryz.results161, go_sem, u0, u1, u2, u3]
 · rw [if_neg hk]
   refine no_rq rfl ?_;have HR := Hi (refuse_any (.pointer (some ⟨E.M, 0, none⟩)) WA);have hkb : (s.tk.1 == k) = false := by simpa using hk
   have hd2 := (hLA.1.rd.tok).1;have HLA := Hi hLA;clear hLA h hne hE c3 c4 c5 hBA hn;go_enter Tryz.func161, Tryz.ntmps161;go_wp2_with (go_at_call 52; refine (U HR).mono ?_)
   rintro e w2 ⟨rfl, hB2⟩
   have HB2 := Hi hB2;clear hB2;go_wp2;exact ⟨rfl, rfl, nv, (U HLA).below (U HB2)⟩
theorem tf1 (k : Int) (t : ByteArray) (a b : Int) (w : World) : (Instr.field 40 (.agg #[.int .i64 k, .string t, .int .i64 a, .int .i64 b]) 1).run Tryz.prog w = .ok (.string t) w := by kernel_rfl
theorem tf2 (k : Int) (t : ByteArray) (a b : Int) (w : World) : (Instr.field 40 (.agg #[.int .i64 k, .string t, .int .i64 a, .int .i64 b]) 2).run Tryz.prog w = .ok (.int .i64 a) w := by kernel_rfl
theorem name_rq {E : En} {nv : Value} {s : PS} {W : World} (hE : E.Ok) (h : RAt E nv s W) (hne : nameP E.c s ≠ .out) : Calls Tryz.prog 103 #[.pointer (some ⟨E.M, 0, none⟩)] W (RQ E (fun l : List Int => .string (strOfNums l)) nv s W (nameP E.c s)) := by
 have ht := bd_out hne;have HW := Hi (wantKind_rq hE h 1 ht);cases hq : wantKindP E.c 1 s with
 | out => exact absurd hq ht
 | no s1 =>
   have HT := rn HW hq;refine no_rq (s' := s1) (by unfold nameP bd; rw [hq]) ?_;clear hq hne h ht HW;go_enter Tryz.func103, Tryz.ntmps103;go_wp2_with (go_at_call 161; refine (U HT).mono ?_)
   rintro e w1 ⟨rfl, nv1, h1⟩
   have H1 := Hi h1;clear h1;go_wp2;exact ⟨rfl, rfl, nv1, U H1⟩
 | ok t s1 =>
   have HT := ro HW hq;refine ok_rq (a := t.2.1) (s' := s1) (by unfold nameP bd; rw [hq]; rfl) ?_;clear hq hne h ht HW;unfold tkV at HT;go_enter Tryz.func103, Tryz.ntmps103;go_wp2_with (go_at_call 161; refine (U HT).mono ?_)
   rintro e w1 ⟨rfl, nv1, h1⟩
   have H1 := Hi h1;clear h1;have q1 := tf1 t.1 (strOfNums t.2.1) (t.2.2.1 : Int) (t.2.2.2 : Int) w1;go_wp2;go_ret;exact ⟨rfl, nv1, U H1⟩
theorem put_rq {E : En} {nv : Value} {s : PS} {W : World} (h : RAt E nv s W) (x : PN) (ka : Option Addr) (kc : Nat) (hk : KidR E.Z W (.slice ka x.kids.length kc) x.kids) (hne : putP x s ≠ .out) :
 Calls Tryz.prog 32 #[.pointer (some ⟨E.M, 0, none⟩), .agg #[.int .i64 x.kind, .string (strOfNums x.text), .int .i64 x.num, .slice none 0 0, .int .i64 (x.loc : Int)], .slice ka x.kids.length kc] W (RQ E (fun n : Nat => .int .i64 (n : Int)) nv s W (putP x s)) := by
 unfold putP at hne ⊢;by_cases hm : s.nodes.length < 1000000
 · rw [if_pos hm]
   obtain ⟨kvs, h1, h2, h3⟩ := h.nd;refine (put_any E.M E.tv s.n s.tk nv E.lv E.cv E.bv W s.nodes.length (ndsC s.nodes kvs) h.rd h2 hm x.kind x.num (x.loc : Int) (strOfNums x.text) ka x.kids.length kc).mono ?_;rintro e w ⟨rfl, g, cap, hR, hO, hF, hat, hold⟩;exact ⟨rfl, _, put_state h hk hR kvs h1 h3 hO hF hat hold⟩
 · rw [if_neg hm] at hne
   exact absurd rfl hne
theorem list_rq {E : En} {nv : Value} {s : PS} {W : World} (h : RAt E nv s W) (ks : List Nat) (ka : Option Addr) (kc : Nat) (hk : KidR E.Z W (.slice ka ks.length kc) ks) (hne : listP ks s ≠ .out) :
 Calls Tryz.prog 96 #[.pointer (some ⟨E.M, 0, none⟩), .slice ka ks.length kc] W (RQ E (fun n : Nat => .int .i64 (n : Int)) nv s W (listP ks s)) := by
 have HP := Hi (rq_ok (put_rq h ⟨2, [], 0, ks, 0⟩ ka kc hk hne) (put_ok hne));have e0 : strOfNums [] = ⟨#[]⟩ := rfl;refine ok_rq (put_ok hne) ?_;simp only [e0] at HP;clear hk h hne e0;obtain ⟨m, hm⟩ : ∃ m, ks.length = m := ⟨_, rfl⟩;rw [hm] at HP ⊢;clear hm;go_enter Tryz.func96, Tryz.ntmps96;go_wp2_with (go_at_call 32; refine (U HP).mono ?_)
 rintro e w1 ⟨rfl, nv1, h1⟩
 have H1 := Hi h1;clear h1;go_wp2;go_ret;exact ⟨rfl, nv1, U H1⟩
theorem bd_ok {α β : Type} {p : Pr α} {k : α → Pr β} {s s' : PS} {a : α} (h : p s = .ok a s') : bd p k s = k a s' := by unfold bd; rw [h]
theorem br {α β : Type} {p : Pr α} {k : α → Pr β} {s s' : PS} {a : α} {R : Res β} (h : p s = .ok a s') (H : Hid (bd p k s = R)) : Hid (k a s' = R) := (bd_ok h).symm.trans H
theorem bd_no {α β : Type} {p : Pr α} {k : α → Pr β} {s s' : PS} (h : p s = .no s') : bd p k s = .no s' := by unfold bd; rw [h]
theorem bd_ne {α β : Type} {p : Pr α} {k : α → Pr β} {s : PS} {R : Res β} (hR : bd p k s = R) (hne : R ≠ .out) : p s ≠ .out := bd_out (by rw [hR]; exact hne)
def IH0 (E : En) (n : Nat) (x : Cmd) (f : Nat) : Prop := ∀ nv s W, RAt E nv s W → parP E.c n x s ≠ .out → Calls Tryz.prog f #[.pointer (some ⟨E.M, 0, none⟩)] W (RQ E (fun l : List Nat => .int .i64 (hd0 l : Int)) nv s W (parP E.c n x s))
def IH1 (E : En) (n : Nat) (x : Cmd) (f : Nat) (y : Value) : Prop := ∀ nv s W, RAt E nv s W → parP E.c n x s ≠ .out → Calls Tryz.prog f #[.pointer (some ⟨E.M, 0, none⟩), y] W (RQ E (fun l : List Nat => .int .i64 (hd0 l : Int)) nv s W (parP E.c n x s))
theorem e0' : strOfNums [] = ⟨#[]⟩ := rfl
theorem kid3 {Z : Nat → Prop} (W : World) (a b c : Nat) (hz : ∀ k, Z k → k < W.heap.size) : KidR Z (W.alloc (.cells #[.int .i64 (a : Int), .int .i64 (b : Int), .int .i64 (c : Int)] 3)) (.slice (some ⟨W.heap.size, 0, none⟩) [a, b, c].length 3) [a, b, c] := by
 refine ⟨_, _, rfl, NL, by simp [maxLen], .inr ⟨_, _, _, _, rfl, fun h => Nat.lt_irrefl _ (hz _ h), World.alloc_heap_new W _, fun j k hj => ?_⟩⟩;match j, hj with
 | 0, hj => cases hj; rfl
 | 1, hj => cases hj; rfl
 | 2, hj => cases hj; rfl
 | j + 3, hj => cases hj
theorem cond_step {E : En} (hE : E.Ok) {n : Nat} (IB : IH1 E n (.binary 0) 101 (.int .i64 0)) (IX : IH0 E n .expr 24) : IH0 E (n + 1) .cond 48 := by
 intro nv s W h hne;have hml := h.rd.lt;obtain ⟨c2, c3, c4, c5⟩ := h.rd.tok;obtain ⟨R, hR⟩ : ∃ R, parP E.c (n + 1) .cond s = R := ⟨_, rfl⟩;rw [hR] at hne ⊢;simp only [parP, bodyP] at hR;rw [bd_ok (p := atP) rfl] at hR;have HL := Hi (Lf.refl h);have HE := Hi hE;have HX := Hi IX;have hp1 := bd_ne hR hne;have HC1 := Hi (IB nv s W h hp1);clear c2 c3 c5 IB IX hE h;cases hq1 : parP E.c n (.binary 0) s with
 | out => exact absurd hq1 hp1
 | no s1 =>
   rw [bd_no hq1] at hR;subst hR;replace HC1 := rn HC1 hq1;clear hq1 hp1 hne;go_enter Tryz.func48, Tryz.ntmps48;go_wp2_with (go_at_call 101; refine (U HC1).mono ?_)
   rintro e w1 ⟨rfl, nv1, h1⟩
   have H1 := Hi h1;clear h1;go_wp2;exact ⟨rfl, rfl, nv1, U H1⟩
 | ok a1 s1 =>
   rw [bd_ok hq1] at hR;replace HC1 := ro HC1 hq1;have HR := Hi hR;have HNE := Hi hne;clear hq1 hp1 hne hR;go_enter Tryz.func48, Tryz.ntmps48;go_wp2_with (go_at_call 101; refine (U HC1).mono ?_)
   rintro e w1 ⟨rfl, nv1, h1⟩
   have hp2 := bd_ne (U HR) (U HNE);have HC2 := Hi (take_rq (U HE) h1.1 (x := ⟨#[63]⟩) ⟨rfl, by intro z hz; simp at hz; omega⟩ hp2);obtain ⟨b2, s2, hq2⟩ := take_ok hp2;replace HC2 := ro HC2 hq2;have HR2 := br hq2 HR;have H1 := Hi h1;clear h1 hp2 hq2;go_wp2_with (go_at_call 42; refine (U HC2).mono ?_)
   rintro e w2 ⟨rfl, nv2, h2⟩
   have H2 := Hi ((U H1).trans h2);clear h2;cases b2 with
   | false =>
     have hR2 : (.ok a1 s2 : Res (List Nat)) = R := U HR2;subst hR2;go_wp2;go_ret;exact ⟨rfl, nv2, U H2⟩
   | true =>
     have hp3 := bd_ne (p := parP E.c n .expr) (U HR2) (U HNE);have HC3 := Hi (U HX _ _ _ (U H2).1 hp3);cases hq3 : parP E.c n .expr s2 with
     | out => exact absurd hq3 hp3
     | no s3 =>
       have hR3 := (bd_no hq3).symm.trans (U HR2);subst hR3;replace HC3 := rn HC3 hq3;clear hq3 hp3;go_wp2_with (go_at_call 24; refine (U HC3).mono ?_)
       rintro e w3 ⟨rfl, nv3, h3⟩
       have H3 := Hi h3;clear h3;go_wp2;exact ⟨rfl, rfl, nv3, (U H2).trans (U H3)⟩
     | ok a3 s3 =>
       have HR3 := br hq3 HR2;replace HC3 := ro HC3 hq3;clear hq3 hp3;go_wp2_with (go_at_call 24; refine (U HC3).mono ?_)
       rintro e w3 ⟨rfl, nv3, h3⟩
       have H3 := Hi ((U H2).trans h3);clear h3;have hp4 := bd_ne (p := wantP E.c [58]) (U HR3) (U HNE);have HC4 := Hi (want_rq (U HE) (U H3).1 (x := ⟨#[58]⟩) ⟨rfl, by intro z hz; simp at hz; omega⟩ hp4);cases hq4 : wantP E.c [58] s3 with
       | out => exact absurd hq4 hp4
       | no s4 =>
         have hR4 := (bd_no hq4).symm.trans (U HR3);subst hR4;replace HC4 := rn HC4 hq4;clear hq4 hp4;go_wp2_with (go_at_call 94; refine (U HC4).mono ?_)
         rintro e w4 ⟨rfl, nv4, h4⟩
         have H4 := Hi h4;clear h4;go_wp2;exact ⟨rfl, rfl, nv4, (U H3).trans (U H4)⟩
       | ok a4 s4 =>
         have HR4 := br hq4 HR3;replace HC4 := ro HC4 hq4;clear hq4 hp4;go_wp2_with (go_at_call 94; refine (U HC4).mono ?_)
         rintro e w4 ⟨rfl, nv4, h4⟩
         have H4 := Hi ((U H3).trans h4);clear h4;have hp5 := bd_ne (p := parP E.c n .expr) (U HR4) (U HNE);have HC5 := Hi (U HX _ _ _ (U H4).1 hp5);cases hq5 : parP E.c n .expr s4 with
         | out => exact absurd hq5 hp5
         | no s5 =>
           have hR5 := (bd_no hq5).symm.trans (U HR4);subst hR5;replace HC5 := rn HC5 hq5;clear hq5 hp5;go_wp2_with (go_at_call 24; refine (U HC5).mono ?_)
           rintro e w5 ⟨rfl, nv5, h5⟩
           have H5 := Hi h5;clear h5;go_wp2;exact ⟨rfl, rfl, nv5, (U H4).trans (U H5)⟩
         | ok a5 s5 =>
           have HR5 := br hq5 HR4;replace HC5 := ro HC5 hq5;clear hq5 hp5;go_wp2_with (go_at_call 24; refine (U HC5).mono ?_)
           rintro e w5 ⟨rfl, nv5, h5⟩
           have H5 := Hi ((U H4).trans h5);clear h5;have hp6 := bd_ne (U HR5) (U HNE);have hq6 := put_ok hp6;have hR6 := (bd_ok hq6).symm.trans (U HR5);have H6 := Hi ((U H5).below ((Below.refl _ w5).alloc NL (.cells #[.int .i64 (hd0 a1 : Int), .int .i64 (hd0 a3 : Int), .int .i64 (hd0 a5 : Int)] 3)));have HC6 := Hi (rq_ok (put_rq (U H6).1 _ _ _ (kid3 w5 (hd0 a1) (hd0 a3) (hd0 a5) (U H5).1.zl) hp6) hq6);simp only [e0', List.length_cons, List.length_nil] at HC6;subst hR6;clear hp6 hq6;go_wp2_with (go_at_call 32; refine (U HC6).mono ?_)
           rintro e w6 ⟨rfl, nv6, h6⟩
           have H7 := Hi ((U H6).trans h6);clear h6;go_wp2;go_ret;exact ⟨rfl, nv6, U H7⟩
theorem least_ex {P : Nat → Prop} (m : Nat) : P m → ∃ k, P k ∧ ∀ j, P j → k ≤ j := by
 induction m using Nat.strongRecOn with
 | ind m ih =>
   intro hm;by_cases h : ∃ j, j < m ∧ P j
   · obtain ⟨j, hj, hp⟩ := h
     exact ih j hj hp
   · exact ⟨m, hm, fun j hj => Nat.le_of_not_lt fun e => h ⟨j, e, hj⟩⟩
open Classical in
noncomputable def leastN (P : Nat → Prop) : Nat := if h : ∃ k, P k ∧ ∀ j, P j → k ≤ j then Classical.choose h else 0
theorem leastN_spec {P : Nat → Prop} {m : Nat} (h : P m) : P (leastN P) := by
 have h' := least_ex m h;unfold leastN;rw [dif_pos h'];exact (Classical.choose_spec h').1
theorem leastN_le {P : Nat → Prop} {m : Nat} (h : P m) : leastN P ≤ m := by
 have h' := least_ex m h;unfold leastN;rw [dif_pos h'];exact (Classical.choose_spec h').2 m h
theorem kid1 {Z : Nat → Prop} (W : World) (a : Nat) (hz : ∀ k, Z k → k < W.heap.size) : KidR Z (W.alloc (.cells #[.int .i64 (a : Int)] 3)) (.slice (some ⟨W.heap.size, 0, none⟩) [a].length 1) [a] := by
 refine ⟨_, _, rfl, NL, by simp [maxLen], .inr ⟨_, _, _, _, rfl, fun h => Nat.lt_irrefl _ (hz _ h), World.alloc_heap_new W _, fun j k hj => ?_⟩⟩;match j, hj with
 | 0, hj => cases hj; rfl
 | j + 1, hj => cases hj
def LpI (E : En) (nv : Value) (s : PS) (W : World) (n : Nat) (R : Res (List Nat)) (x : Nat → Cmd) (m : Nat) (t : Value) (wr : World) : Prop := m ≤ n ∧ ∃ (k : Nat) (nv' : Value) (s' : PS), t = .int .i64 (k : Int) ∧ Lf E nv s W nv' s' wr ∧ parP E.c m (x k) s' = R
theorem arrayType_step {E : En} (hE : E.Ok) {n : Nat} (IP : IH0 E n .plainType 93) : IH0 E (n + 1) .arrayType 43 := by
 intro nv s W h hne;have hml := h.rd.lt;obtain ⟨c2, c3, c4, c5⟩ := h.rd.tok;obtain ⟨R, hR⟩ : ∃ R, parP E.c (n + 1) .arrayType s = R := ⟨_, rfl⟩;rw [hR] at hne ⊢;simp only [parP, bodyP] at hR;rw [bd_ok (p := atP) rfl] at hR;have HE := Hi hE;have HNE := Hi hne;have hp1 := bd_ne hR hne;have HC1 := Hi (IP nv s W h hp1);clear c2 c3 c5 IP hE h;go_enter Tryz.func43, Tryz.ntmps43;cases hq1 : parP E.c n .plainType s with
 | out => exact absurd hq1 hp1
 | no s1 =>
   rw [bd_no hq1] at hR;subst hR;replace HC1 := rn HC1 hq1;clear hq1 hp1 hne;go_wp2_with (go_at_call 93; refine (U HC1).mono ?_)
   rintro e w1 ⟨rfl, nv1, h1⟩
   have H1 := Hi h1;clear h1;go_wp2;exact ⟨rfl, rfl, nv1, U H1⟩
 | ok a1 s1 =>
   rw [bd_ok hq1] at hR;replace HC1 := ro HC1 hq1;have HR := Hi hR;clear hq1 hp1 hne hR;go_wp2_with (go_at_call 93; refine (U HC1).mono ?_)
   rintro e w1 ⟨rfl, nv1, h1⟩
   have H1 := Hi h1;clear h1;go_wp2;go_loopw [4] (fun t wr => Hid (∃ m, LpI E nv s W n R (.arrLoop s.tk.2.2.1) m t wr)) (fun t wr => leastN fun m => LpI E nv s W n R (.arrLoop s.tk.2.2.1) m t wr)
   case atStart => exact ⟨n, NL, hd0 a1, nv1, s1, rfl, U H1, U HR⟩
   case round =>
    obtain ⟨m, hm⟩ := U hrel;obtain ⟨hmn, k, nv2, s2, rfl, h2, hR2⟩ := leastN_spec (P := fun m => LpI E nv s W n R (.arrLoop s.tk.2.2.1) m _ wr) hm;obtain ⟨m0, hm0⟩ : ∃ m0, (leastN fun m => LpI E nv s W n R (.arrLoop s.tk.2.2.1) m (.int .i64 (k : Int)) wr) = m0 := ⟨_, rfl⟩;rw [hm0] at hmn hR2;have HM0 := Hi hm0;clear hm hrel hm0 HR H1 HC1;cases m0 with
    | zero => exact absurd hR2.symm (U HNE)
    | succ m1 =>
      simp only [parP, bodyP] at hR2;have hp3 := bd_ne hR2 (U HNE);have HC3 := Hi (take_rq (U HE) h2.1 (x := ⟨#[91]⟩) ⟨rfl, by intro z hz; simp at hz; omega⟩ hp3);obtain ⟨b3, s3, hq3⟩ := take_ok hp3;replace HC3 := ro HC3 hq3;have HR3 := Hi ((bd_ok hq3).symm.trans hR2);have H2 := Hi h2;clear h2 hp3 hq3 hR2;go_wp2_with (go_at_call 42; refine (U HC3).mono ?_)
      rintro e w3 ⟨rfl, nv3, h3⟩
      have H3 := Hi ((U H2).trans h3);clear h3;cases b3 with
      | false =>
        have hR3 : (.ok [k] s3 : Res (List Nat)) = R := U HR3;subst hR3;go_wp2;go_ret;exact ⟨rfl, nv3, U H3⟩
      | true =>
        have hp4 := bd_ne (p := wantP E.c [93]) (U HR3) (U HNE);have HC4 := Hi (want_rq (U HE) (U H3).1 (x := ⟨#[93]⟩) ⟨rfl, by intro z hz; simp at hz; omega⟩ hp4);cases hq4 : wantP E.c [93] s3 with
        | out => exact absurd hq4 hp4
        | no s4 =>
          have hR4 := (bd_no hq4).symm.trans (U HR3);subst hR4;replace HC4 := rn HC4 hq4;clear hq4 hp4;go_wp2_with (go_at_call 94; refine (U HC4).mono ?_)
          rintro e w4 ⟨rfl, nv4, h4⟩
          have H4 := Hi h4;clear h4;go_wp2;exact ⟨rfl, rfl, nv4, (U H3).trans (U H4)⟩
        | ok a4 s4 =>
          have HR4 := br hq4 HR3;replace HC4 := ro HC4 hq4;clear hq4 hp4;go_wp2_with (go_at_call 94; refine (U HC4).mono ?_)
          rintro e w4 ⟨rfl, nv4, h4⟩
          have H4 := Hi ((U H3).trans h4);clear h4;have hp6 := bd_ne (U HR4) (U HNE);have hq6 := put_ok hp6;have HR6 := br hq6 HR4;have H6 := Hi ((U H4).below ((Below.refl _ w4).alloc NL (.cells #[.int .i64 (k : Int)] 3)));have HC6 := Hi (rq_ok (put_rq (U H6).1 _ _ _ (kid1 w4 k (U H4).1.zl) hp6) hq6);simp only [e0', List.length_cons, List.length_nil] at HC6;clear hp6 hq6;go_wp2_with (go_at_call 32; refine (U HC6).mono ?_)
          rintro e w6 ⟨rfl, nv6, h6⟩
          have H7 := Hi ((U H6).trans h6);clear h6;go_wp2;have hI : LpI E nv s W n R (.arrLoop s.tk.2.2.1) m1 (.int .i64 (s4.nodes.length : Int)) _ := ⟨by omega, _, nv6, _, rfl, U H7, U HR6⟩;exact ⟨⟨_, hI⟩, by rw [U HM0]; exact Nat.lt_succ_of_le (leastN_le hI)⟩
end
end Go.Proofs.YtofgphapjjofnaaGreatDoor
