/- Towards the law: RD RE RF RG. -/
import Derived.Test.YtofgphapjjofnaaGreatDoorVM
import Derived.Test.YtofgphapjjofnaaGreatDoorVQ
import Derived.Test.YtofgphapjjofnaaGreatDoorVR
set_option linter.unusedSimpArgs false
set_option linter.unusedVariables false
set_option maxRecDepth 100000
set_option maxHeartbeats 8000000
namespace Go.Proofs.YtofgphapjjofnaaGreatDoor
section
open Go.RowKit Go.Shelf
def endP (c : Cx) (n : Nat) (x : Cmd) (s : PS) : Res (List Nat) := match parP c n x s with
 | .ok l s' => if s'.tk.1 = 10 then .ok l s' else .no s'
 | .no s' => .no s'
 | .out => .out
theorem endP_ok {c : Cx} {n : Nat} {x : Cmd} {s s' : PS} {l : List Nat} (h : parP c n x s = .ok l s') (h10 : s'.tk.1 = 10) : endP c n x s = .ok l s' := by simp [endP, h, h10]
theorem endP_end {c : Cx} {n : Nat} {x : Cmd} {s s' : PS} {l : List Nat} (h : parP c n x s = .ok l s') (h10 : s'.tk.1 ≠ 10) : endP c n x s = .no s' := by simp [endP, h, h10]
theorem endP_no {c : Cx} {n : Nat} {x : Cmd} {s s' : PS} (h : parP c n x s = .no s') : endP c n x s = .no s' := by simp [endP, h]
theorem endP_out {c : Cx} {n : Nat} {x : Cmd} {s : PS} (h : endP c n x s ≠ .out) : parP c n x s ≠ .out := fun e => h (by simp [endP, e])
theorem toTheEnd_program {E : En} {n : Nat} (IG : IHA E n .program 17 #[.pointer (some ⟨E.M, 0, none⟩)]) (nv : Value) (s : PS) (W : World) (h : RAt E nv s W) (hp : endP E.c n .program s ≠ .out) :
 Calls Tryz.prog 29 #[.pointer (some ⟨E.M, 0, none⟩), .func (.func 17) #[] #[]] W (RQ E (fun l : List Nat => .int .i64 (hd0 l : Int)) nv s W (endP E.c n .program s)) := by
 have HC := Hi (IG nv s W h (endP_out hp));have hM : E.M < W.heap.size := h.rd.lt;clear h IG;cases hq : parP E.c n .program s with
 | out => exact absurd hq (endP_out hp)
 | no s' =>
   replace HC := rn HC hq;refine no_rq (endP_no hq) ?_;clear hq hp;go_enter Tryz.func29, Tryz.ntmps29;go_wp2_with (go_at_call 17; refine (U HC).mono ?_)
   first | rintro e w3 rfl nv3 h3 | rintro e w3 ⟨rfl, nv3, h3⟩
   have H3 := Hi h3;clear h3;go_wp2;exact ⟨rfl, rfl, nv3, U H3⟩
 | ok l s' =>
   replace HC := ro HC hq;by_cases h10 : s'.tk.1 = 10
   · refine ok_rq (endP_ok hq h10) ?_
     clear hq hp;go_enter Tryz.func29, Tryz.ntmps29;go_wp2_with (go_at_call 17; refine (U HC).mono ?_)
     first | rintro e w3 rfl nv3 h3 | rintro e w3 ⟨rfl, nv3, h3⟩
     obtain ⟨c0, c1, c2, c3⟩ := h3.1.rd.tok;rw [h10] at c0;have hM3 := h3.1.rd.lt;have H3 := Hi h3;clear h3 h10;go_wp2;go_ret;exact ⟨rfl, nv3, U H3⟩
   · refine no_rq (endP_end hq h10) ?_
     clear hq hp;have hb10 : (s'.tk.1 == 10) = false := beq_eq_false_iff_ne.2 h10;go_enter Tryz.func29, Tryz.ntmps29;go_wp2_with (go_at_call 17; refine (U HC).mono ?_)
     first | rintro e w3 rfl nv3 h3 | rintro e w3 ⟨rfl, nv3, h3⟩
     obtain ⟨c0, c1, c2, c3⟩ := h3.1.rd.tok;have hM3 := h3.1.rd.lt;have HF := Hi (refuse_any (.pointer (some ⟨E.M, 0, none⟩)) w3);have H3 := Hi h3;clear h3;go_wp2_with (go_at_call 52; refine (U HF).mono ?_)
     all_goals try (exfalso; simp_all; done)
     first | rintro e w4 rfl h4 | rintro e w4 ⟨rfl, h4⟩
     have H4 := Hi ((U H3).below h4);clear h4;go_wp2;exact ⟨rfl, rfl, nv3, U H4⟩
theorem whole1_program {E : En} {n : Nat} {nv : Value} {s : PS} {w2 : World} {B0 B1 : Nat} (IG : ∀ Z, IHA { E with Z := Z } n .program 17 #[.pointer (some ⟨E.M, 0, none⟩)]) (g : Nat) (h : RAt (E.off g) nv s w2) (kb : w2.heap[B0]? = some (.cells #[.pointer (some ⟨E.M, 0, none⟩)] 51)) (kc : w2.heap[B1]? = some (.cells #[.func (.func 17) #[] #[]] 49)) (k2 : w2.heap[g]? = some (.cells #[.int .i64 0] 3)) (hp : endP E.c n .program s ≠ .out) :
 Calls Tryz.prog 28 (#[] ++ #[.pointer (some ⟨B0, 0, none⟩), .pointer (some ⟨B1, 0, none⟩), .pointer (some ⟨g, 0, none⟩)]) w2 (AttQ (fun w => ∃ l s' nv' wB, endP E.c n .program s = .ok l s' ∧ Lf (E.off g) nv s w2 nv' s' wB ∧ w = wB.setCell ⟨g, 0, none⟩ (.int .i64 (hd0 l : Int))) (fun w => ∃ s' nv', endP E.c n .program s = .no s' ∧ Lf (E.off g) nv s w2 nv' s' w)) := by
 have HC := Hi (toTheEnd_program (IG (E.off g).Z) nv s w2 h hp)
 have hM : g ≠ E.M := fun e => by
  have h1 : tyOf w2 E.M = 72 := RAt.mty (E := E.off g) h;rw [← e] at h1;simp [tyOf, k2] at h1
 have c0 : w2.cell? ⟨B0, 0, none⟩ = some (.pointer (some ⟨E.M, 0, none⟩)) := by simp [World.cell?, kb]
 have c1 : w2.cell? ⟨B1, 0, none⟩ = some (.func (.func 17) #[] #[]) := by simp [World.cell?, kc]
 have hB0 := World.block_lt_of_cell? w2 _ c0;have hB1 := World.block_lt_of_cell? w2 _ c1;have HK2 := Hi k2;have HM := Hi hM;clear h kb kc k2 IG hM;cases hq : endP E.c n .program s with
 | out => exact absurd hq hp
 | no s' =>
   replace HC := rn HC hq;have HQ := Hi hq;clear hq hp;go_enter Tryz.func28, Tryz.ntmps28;go_wp2_with (go_at_call 29; refine (U HC).mono ?_)
   first | rintro e w3 rfl nv3 h3 | rintro e w3 ⟨rfl, nv3, h3⟩
   have H3 := Hi h3;clear h3;go_wp2;exact ⟨rfl, .inr ⟨rfl, s', nv3, rfl, U H3⟩⟩
 | ok l s' =>
   replace HC := ro HC hq;clear hq hp;go_enter Tryz.func28, Tryz.ntmps28;go_wp2_with (go_at_call 29; refine (U HC).mono ?_)
   first | rintro e w3 rfl nv3 h3 | rintro e w3 ⟨rfl, nv3, h3⟩
   have k3 := ct_stay h3 (U HK2) (by decide) (by decide) (U HM);have x3 : w3.cell? ⟨g, 0, none⟩ = some (.int .i64 0) := by simp [World.cell?, k3]
   have f3 : w3.frozen? ⟨g, 0, none⟩ = false := by simp [World.frozen?, k3]
   have hg3 := World.block_lt_of_cell? w3 _ x3;have H3 := Hi h3;clear h3 k3;go_wp2;exact bodyPost_end (results_none rfl _ _ _) rfl (.inl ⟨rfl, l, s', nv3, w3, rfl, U H3, rfl⟩)
theorem toTheEnd_anyType {E : En} {n : Nat} (IG : IHA E n .anyType 22 #[.pointer (some ⟨E.M, 0, none⟩)]) (nv : Value) (s : PS) (W : World) (h : RAt E nv s W) (hp : endP E.c n .anyType s ≠ .out) :
 Calls Tryz.prog 29 #[.pointer (some ⟨E.M, 0, none⟩), .func (.func 22) #[] #[]] W (RQ E (fun l : List Nat => .int .i64 (hd0 l : Int)) nv s W (endP E.c n .anyType s)) := by
 have HC := Hi (IG nv s W h (endP_out hp));have hM : E.M < W.heap.size := h.rd.lt;clear h IG;cases hq : parP E.c n .anyType s with
 | out => exact absurd hq (endP_out hp)
 | no s' =>
   replace HC := rn HC hq;refine no_rq (endP_no hq) ?_;clear hq hp;go_enter Tryz.func29, Tryz.ntmps29;go_wp2_with (go_at_call 22; refine (U HC).mono ?_)
   first | rintro e w3 rfl nv3 h3 | rintro e w3 ⟨rfl, nv3, h3⟩
   have H3 := Hi h3;clear h3;go_wp2;exact ⟨rfl, rfl, nv3, U H3⟩
 | ok l s' =>
   replace HC := ro HC hq;by_cases h10 : s'.tk.1 = 10
   · refine ok_rq (endP_ok hq h10) ?_
     clear hq hp;go_enter Tryz.func29, Tryz.ntmps29;go_wp2_with (go_at_call 22; refine (U HC).mono ?_)
     first | rintro e w3 rfl nv3 h3 | rintro e w3 ⟨rfl, nv3, h3⟩
     obtain ⟨c0, c1, c2, c3⟩ := h3.1.rd.tok;rw [h10] at c0;have hM3 := h3.1.rd.lt;have H3 := Hi h3;clear h3 h10;go_wp2;go_ret;exact ⟨rfl, nv3, U H3⟩
   · refine no_rq (endP_end hq h10) ?_
     clear hq hp;have hb10 : (s'.tk.1 == 10) = false := beq_eq_false_iff_ne.2 h10;go_enter Tryz.func29, Tryz.ntmps29;go_wp2_with (go_at_call 22; refine (U HC).mono ?_)
     first | rintro e w3 rfl nv3 h3 | rintro e w3 ⟨rfl, nv3, h3⟩
     obtain ⟨c0, c1, c2, c3⟩ := h3.1.rd.tok;have hM3 := h3.1.rd.lt;have HF := Hi (refuse_any (.pointer (some ⟨E.M, 0, none⟩)) w3);have H3 := Hi h3;clear h3;go_wp2_with (go_at_call 52; refine (U HF).mono ?_)
     all_goals try (exfalso; simp_all; done)
     first | rintro e w4 rfl h4 | rintro e w4 ⟨rfl, h4⟩
     have H4 := Hi ((U H3).below h4);clear h4;go_wp2;exact ⟨rfl, rfl, nv3, U H4⟩
theorem whole1_anyType {E : En} {n : Nat} {nv : Value} {s : PS} {w2 : World} {B0 B1 : Nat} (IG : ∀ Z, IHA { E with Z := Z } n .anyType 22 #[.pointer (some ⟨E.M, 0, none⟩)]) (g : Nat) (h : RAt (E.off g) nv s w2) (kb : w2.heap[B0]? = some (.cells #[.pointer (some ⟨E.M, 0, none⟩)] 51)) (kc : w2.heap[B1]? = some (.cells #[.func (.func 22) #[] #[]] 49)) (k2 : w2.heap[g]? = some (.cells #[.int .i64 0] 3)) (hp : endP E.c n .anyType s ≠ .out) :
 Calls Tryz.prog 28 (#[] ++ #[.pointer (some ⟨B0, 0, none⟩), .pointer (some ⟨B1, 0, none⟩), .pointer (some ⟨g, 0, none⟩)]) w2 (AttQ (fun w => ∃ l s' nv' wB, endP E.c n .anyType s = .ok l s' ∧ Lf (E.off g) nv s w2 nv' s' wB ∧ w = wB.setCell ⟨g, 0, none⟩ (.int .i64 (hd0 l : Int))) (fun w => ∃ s' nv', endP E.c n .anyType s = .no s' ∧ Lf (E.off g) nv s w2 nv' s' w)) := by
 have HC := Hi (toTheEnd_anyType (IG (E.off g).Z) nv s w2 h hp)
 have hM : g ≠ E.M := fun e => by
  have h1 : tyOf w2 E.M = 72 := RAt.mty (E := E.off g) h;rw [← e] at h1;simp [tyOf, k2] at h1
 have c0 : w2.cell? ⟨B0, 0, none⟩ = some (.pointer (some ⟨E.M, 0, none⟩)) := by simp [World.cell?, kb]
 have c1 : w2.cell? ⟨B1, 0, none⟩ = some (.func (.func 22) #[] #[]) := by simp [World.cell?, kc]
 have hB0 := World.block_lt_of_cell? w2 _ c0;have hB1 := World.block_lt_of_cell? w2 _ c1;have HK2 := Hi k2;have HM := Hi hM;clear h kb kc k2 IG hM;cases hq : endP E.c n .anyType s with
 | out => exact absurd hq hp
 | no s' =>
   replace HC := rn HC hq;have HQ := Hi hq;clear hq hp;go_enter Tryz.func28, Tryz.ntmps28;go_wp2_with (go_at_call 29; refine (U HC).mono ?_)
   first | rintro e w3 rfl nv3 h3 | rintro e w3 ⟨rfl, nv3, h3⟩
   have H3 := Hi h3;clear h3;go_wp2;exact ⟨rfl, .inr ⟨rfl, s', nv3, rfl, U H3⟩⟩
 | ok l s' =>
   replace HC := ro HC hq;clear hq hp;go_enter Tryz.func28, Tryz.ntmps28;go_wp2_with (go_at_call 29; refine (U HC).mono ?_)
   first | rintro e w3 rfl nv3 h3 | rintro e w3 ⟨rfl, nv3, h3⟩
   have k3 := ct_stay h3 (U HK2) (by decide) (by decide) (U HM);have x3 : w3.cell? ⟨g, 0, none⟩ = some (.int .i64 0) := by simp [World.cell?, k3]
   have f3 : w3.frozen? ⟨g, 0, none⟩ = false := by simp [World.frozen?, k3]
   have hg3 := World.block_lt_of_cell? w3 _ x3;have H3 := Hi h3;clear h3 k3;go_wp2;exact bodyPost_end (results_none rfl _ _ _) rfl (.inl ⟨rfl, l, s', nv3, w3, rfl, U H3, rfl⟩)
def pn0 : PN := ⟨0, [], 0, [], 0⟩
def layS (nodes : List PN) (f : Nat) (a : List PN × List Nat) (k : Nat) : List PN × List Nat := ((layP nodes f k a.1).1, a.2 ++ [(layP nodes f k a.1).2])
theorem layP_succ (nodes : List PN) (f n : Nat) (t : List PN) : layP nodes (f + 1) n t = ((((nodes.getD n pn0).kids.foldl (layS nodes f) (t ++ [nodes.getD n pn0], [])).1.set t.length { nodes.getD n pn0 with kids := ((nodes.getD n pn0).kids.foldl (layS nodes f) (t ++ [nodes.getD n pn0], [])).2 }), t.length) := rfl
def Grows (a b : List PN) : Prop := a.length ≤ b.length ∧ ∀ j, j < a.length → b[j]? = a[j]?
theorem Grows.refl (a : List PN) : Grows a a := ⟨Nat.le_refl _, fun _ _ => rfl⟩
theorem Grows.trans {a b c : List PN} (h : Grows a b) (k : Grows b c) : Grows a c := ⟨Nat.le_trans h.1 k.1, fun j hj => (k.2 j (Nat.lt_of_lt_of_le hj h.1)).trans (h.2 j hj)⟩
theorem lay_fold {nodes : List PN} {f : Nat} (H : ∀ n t, Grows t (layP nodes f n t).1) : ∀ (ks : List Nat) (a : List PN × List Nat), Grows a.1 (ks.foldl (layS nodes f) a).1 ∧ (ks.foldl (layS nodes f) a).2.length = a.2.length + ks.length
 | [], a => ⟨Grows.refl _, rfl⟩
 | k :: ks, a => by
   obtain ⟨h1, h2⟩ := lay_fold H ks (layS nodes f a k);refine ⟨(H k a.1).trans h1, ?_⟩;rw [List.foldl_cons, h2];simp [layS];omega
theorem lay_grows (nodes : List PN) : ∀ f n t, Grows t (layP nodes f n t).1
 | 0, n, t => Grows.refl t
 | f + 1, n, t => by
   rw [layP_succ];have h := (lay_fold (lay_grows nodes f) (nodes.getD n pn0).kids (t ++ [nodes.getD n pn0], [])).1;refine ⟨?_, fun j hj => ?_⟩
   · have := h.1
     simp at this ⊢;omega
   · show (List.set _ _ _)[j]? = _
     rw [List.getElem?_set_ne (by omega), h.2 j (by simp; omega), List.getElem?_append_left hj]
structure LAt (Z : Nat → Prop) (M T : Nat) (rc : Array Value) (nv : Value) (nodes : List PN) (tvv : Value) (tl : List PN) (W : World) : Prop where
 rd : W.heap[M]? = some (.cells rc 72)
 nd : NdRow Z W nv nodes
 tt : W.heap[T]? = some (.cells #[tvv] 25)
 tr : NdRow Z W tvv tl
 ne : ∀ g, nv.ownBlock = some g → tvv.ownBlock ≠ some g
 zl : ∀ k, Z k → k < W.heap.size
def LFr (T : Nat) (tvv tvv' : Value) (W A : World) : Prop := FrP (fun k => k = T ∨ tvv.ownBlock = some k) W A ∧ ∀ g, tvv'.ownBlock = some g → tvv.ownBlock = some g ∨ W.heap.size ≤ g
theorem LFr.refl (T : Nat) (v : Value) (W : World) : LFr T v v W W := ⟨FrP.refl _ _, fun g h => .inl h⟩
theorem LFr.trans {T : Nat} {u v x : Value} {A B C : World} (h : LFr T u v A B) (k : LFr T v x B C) : LFr T u x A C := by
 refine ⟨⟨k.1.os.trans h.1.os, k.1.tape.trans h.1.tape, k.1.output.trans h.1.output, Nat.le_trans h.1.size k.1.size, fun i hi hn => ?_⟩, fun g e => ?_⟩
 · refine (k.1.block i (Nat.lt_of_lt_of_le hi h.1.size) fun e => ?_).trans (h.1.block i hi hn)
   rcases e with e | e
   · exact hn (.inl e)
   · rcases h.2 i e with e' | e'
     · exact hn (.inr e')
     · omega
 · rcases k.2 g e with e' | e'
   · exact h.2 g e'
   · exact .inr (Nat.le_trans h.1.size e')
theorem LFr.below {T : Nat} {u v : Value} {A B C : World} (h : LFr T u v A B) (k : Below B.heap.size B C) : LFr T u v A C := h.trans ⟨below_fr k, fun g e => .inl e⟩
theorem KidR.keepZ {Z : Nat → Prop} {W A : World} {kv : Value} {ks : List Nat} (h : KidR Z W kv ks) (hk : ∀ k, tyOf W k = 3 → ¬ Z k → A.heap[k]? = W.heap[k]?) : KidR Z A kv ks := by
 obtain ⟨a, cap, e, h1, h2, h3⟩ := h;refine ⟨a, cap, e, h1, h2, h3.imp id fun ⟨b, o, cur, fr, e1, e2, e3, e4⟩ => ⟨b, o, cur, fr, e1, e2, ?_, e4⟩⟩;exact (hk b (by simp [tyOf, e3]) e2).trans e3
theorem NdRow.keepZ {Z : Nat → Prop} {W A : World} {nv : Value} {l : List PN} (h : NdRow Z W nv l) (h1 : ∀ k, nv.ownBlock = some k → A.heap[k]? = W.heap[k]?) (h2 : ∀ k, tyOf W k = 3 → ¬ Z k → A.heap[k]? = W.heap[k]?) : NdRow Z A nv l := by
 obtain ⟨kvs, a, b, c⟩ := h;exact ⟨kvs, a, row_keep b h1, fun j x kv hx hkv => (c j x kv hx hkv).keepZ h2⟩
theorem LAt.below {Z : Nat → Prop} {M T : Nat} {rc : Array Value} {nv tvv : Value} {nodes tl : List PN} {W A : World} (h : LAt Z M T rc nv nodes tvv tl W) (hb : Below W.heap.size W A) : LAt Z M T rc nv nodes tvv tl A := by
 have hlt : ∀ {k : Nat} {o : Obj}, W.heap[k]? = some o → k < W.heap.size := fun e => (Array.getElem?_eq_some_iff.1 e).1
 refine ⟨(hb.block _ (hlt h.rd)).trans h.rd, h.nd.keep fun k e => hb.block k (by rcases e with e | e <;> exact ty_lt e (by omega)), (hb.block _ (hlt h.tt)).trans h.tt, h.tr.keep fun k e => hb.block k (by rcases e with e | e <;> exact ty_lt e (by omega)), h.ne, fun k hk => Nat.lt_of_lt_of_le (h.zl k hk) hb.size⟩
theorem LAt.nt {Z : Nat → Prop} {M T : Nat} {rc : Array Value} {nv tvv : Value} {nodes tl : List PN} {W : World} (h : LAt Z M T rc nv nodes tvv tl W) : M ≠ T ∧ nv.ownBlock ≠ some T ∧ tvv.ownBlock ≠ some T ∧ tvv.ownBlock ≠ some M ∧ tyOf W T = 25 := by
 have tT : tyOf W T = 25 := by simp [tyOf, h.tt]
 have tM : tyOf W M = 72 := by simp [tyOf, h.rd]
 refine ⟨fun e => ?_, fun e => ?_, fun e => ?_, fun e => ?_, tT⟩
 · rw [e] at tM; omega
 · have := nd_ty h.nd e; omega
 · have := nd_ty h.tr e; omega
 · have := nd_ty h.tr e; omega
theorem lay_put {Z : Nat → Prop} {M T : Nat} {rc : Array Value} {nv tvv kv : Value} {nodes tl : List PN} {W w4 : World} {x : PN} {g cap : Nat} {kvs : List Value} (h : LAt Z M T rc nv nodes tvv tl W) (hk : KidR Z W kv x.kids) (hkl : kvs.length = tl.length) (hkk : ∀ (j : Nat) (x : PN) (kv : Value), tl[j]? = some x → kvs[j]? = some kv → KidR Z W kv x.kids)
 (hO : w4.ownsRow 0 34 5 (.slice (some ⟨g, 0, none⟩) (tl.length + 1) cap) (tl.length + 1) (ndsC tl kvs ++ ndC x kv)) (hos : w4.os = W.os) (hta : w4.tape = W.tape) (hou : w4.output = W.output) (hsz : W.heap.size ≤ w4.heap.size) (hb : ∀ j, j < W.heap.size → tvv.ownBlock ≠ some j → w4.heap[j]? = W.heap[j]?) (hat : tvv.ownBlock = some g ∨ W.heap.size ≤ g) :
 LAt Z M T rc nv nodes (.slice (some ⟨g, 0, none⟩) (tl.length + 1) cap) (tl ++ [x]) (w4.setCell ⟨T, 0, none⟩ (.slice (some ⟨g, 0, none⟩) (tl.length + 1) cap)) ∧ LFr T tvv (.slice (some ⟨g, 0, none⟩) (tl.length + 1) cap) W (w4.setCell ⟨T, 0, none⟩ (.slice (some ⟨g, 0, none⟩) (tl.length + 1) cap)) := by
 obtain ⟨nMT, nNT, nTT, nTM, tT⟩ := h.nt;have hlt : ∀ {k : Nat} {o : Obj}, W.heap[k]? = some o → k < W.heap.size := fun e => (Array.getElem?_eq_some_iff.1 e).1
 have hset : ∀ j, j < W.heap.size → j ≠ T → tvv.ownBlock ≠ some j → (w4.setCell ⟨T, 0, none⟩ (.slice (some ⟨g, 0, none⟩) (tl.length + 1) cap)).heap[j]? = W.heap[j]? := fun j hj h1 h2 => (keep_set h1).trans (hb j hj h2)
 have h3 : ∀ k, tyOf W k = 3 → (w4.setCell ⟨T, 0, none⟩ (.slice (some ⟨g, 0, none⟩) (tl.length + 1) cap)).heap[k]? = W.heap[k]? := fun k e => hset k (ty_lt e (by omega)) (fun e' => by rw [e'] at e; omega) (fun e' => by have := nd_ty h.tr e'; omega)
 have hgT : g ≠ T := by
  rcases hat with e | e
  · exact fun e' => nTT (by rw [e, e'])
  · have := hlt h.tt; omega
 have hTT : w4.heap[T]? = some (.cells #[tvv] 25) := (hb T (hlt h.tt) nTT).trans h.tt;refine ⟨⟨(hset M (hlt h.rd) nMT nTM).trans h.rd, h.nd.keepZ (fun k e => ?_) (fun k e _ => h3 k e), by simp [World.setCell, Array.getElem?_modify, hTT], ⟨kvs ++ [kv], by simp [hkl], ?_, ?_⟩, ?_, ?_⟩, ?_, ?_⟩
 · have hty := nd_ty h.nd e
   exact hset k (ty_lt hty (by omega)) (fun e' => nNT (by rw [e, e'])) (h.ne k e)
 · rw [List.length_append, ndsC_snoc _ _ _ _ hkl]
   exact row_keep hO fun j hj => by
    have hj' : g = j := by simpa [Value.ownBlock] using hj
    exact keep_set (by omega)
 · intro j y kv' hy hkv
   rcases Nat.lt_or_ge j tl.length with hj | hj
   · rw [List.getElem?_append_left hj] at hy
     rw [List.getElem?_append_left (by omega)] at hkv;exact (hkk j y kv' hy hkv).keep h3
   · have hj2 : j = tl.length := by
      have := (List.getElem?_eq_some_iff.1 hy).1;simp at this;omega
     subst hj2;rw [List.getElem?_append_right (Nat.le_refl _), Nat.sub_self] at hy;rw [List.getElem?_append_right (by omega), show tl.length - kvs.length = 0 by omega] at hkv;cases hy;cases hkv;exact hk.keep h3
 · intro g' e e'
   have hg : g = g' := by simpa [Value.ownBlock] using e'
   subst hg;rcases hat with e2 | e2
   · exact h.ne _ e e2
   · have := ty_lt (nd_ty h.nd e) (by omega); omega
 · intro k hk
   have := h.zl k hk;simp [World.setCell];omega
 · refine ⟨hos, hta, hou, by simpa [World.setCell] using hsz, fun k hk hn => hset k hk (fun e => hn (.inl e)) (fun e => hn (.inr e))⟩
 · intro g' e
   have hg : g = g' := by simpa [Value.ownBlock] using e
   subst hg;exact hat
theorem ndsC_set : ∀ (l : List PN) (kvs : List Value) (j : Nat) (x : PN) (kv : Value) (ks : List Nat), kvs.length = l.length → l[j]? = some x → ndsC (l.set j { x with kids := ks }) (kvs.set j kv) = (ndsC l kvs).set (j * 5 + 3) kv
 | [], _, j, x, kv, ks, _, h => by simp at h
 | y :: l, [], _, _, _, _, h, _ => by simp at h
 | y :: l, k :: kvs, 0, x, kv, ks, h, hx => by
   cases hx;rfl
 | y :: l, k :: kvs, j + 1, x, kv, ks, h, hx => by
   have hx' : l[j]? = some x := hx;have ih := ndsC_set l kvs j x kv ks (by simpa using h) hx';show ndC y k ++ ndsC (l.set j { x with kids := ks }) (kvs.set j kv) = (ndC y k ++ ndsC l kvs).set ((j + 1) * 5 + 3) kv
   rw [ih, show (j + 1) * 5 + 3 = (j * 5 + 3) + 1 + 1 + 1 + 1 + 1 by omega];rfl
theorem LAt.fill {Z : Nat → Prop} {M T K i : Nat} {rc : Array Value} {nv tvv v : Value} {nodes tl : List PN} {W : World} (h : LAt Z M T rc nv nodes tvv tl W) (hz : Z K) (hK : tyOf W K = 3) : LAt Z M T rc nv nodes tvv tl (W.setCell ⟨K, i, none⟩ v) := by
 have tT : tyOf W T = 25 := by simp [tyOf, h.tt]
 have tM : tyOf W M = 72 := by simp [tyOf, h.rd]
 refine ⟨(keep_set (fun e => by rw [e] at tM; omega)).trans h.rd, h.nd.keepZ (fun k e => keep_set fun e' => by have := nd_ty h.nd e; rw [e'] at this; omega) (fun k _ hn => keep_set fun e => hn (by rw [e]; exact hz)), (keep_set (fun e => by rw [e] at tT; omega)).trans h.tt, h.tr.keepZ (fun k e => keep_set fun e' => by have := nd_ty h.tr e; rw [e'] at this; omega) (fun k _ hn => keep_set fun e => hn (by rw [e]; exact hz)), h.ne, fun k hk => by have := h.zl k hk; simpa [World.setCell] using this⟩
theorem lay_set {Z : Nat → Prop} {M T K : Nat} {rc : Array Value} {nv : Value} {nodes tl : List PN} {W : World} {g cap j : Nat} {x : PN} {ks : List Nat} {cur : Array Value} (h : LAt (fun k => Z k ∨ k = K) M T rc nv nodes (.slice (some ⟨g, 0, none⟩) tl.length cap) tl W) (hx : tl[j]? = some x) (hKZ : ¬ Z K) (hK : W.heap[K]? = some (.cells cur 3)) (hc : ∀ (i k : Nat), ks[i]? = some k → cur[i]? = some (.int .i64 (k : Int))) (hl : ks.length ≤ 1000000) :
 LAt Z M T rc nv nodes (.slice (some ⟨g, 0, none⟩) tl.length cap) (tl.set j { x with kids := ks }) (W.setCell ⟨g, j * 5 + 3, none⟩ (.slice (some ⟨K, 0, none⟩) ks.length ks.length)) := by
 obtain ⟨nMT, nNT, nTT, nTM, tT⟩ := h.nt;have tM : tyOf W M = 72 := by simp [tyOf, h.rd]
 have tg : tyOf W g = 34 := nd_ty h.tr rfl;have h3 : ∀ k, tyOf W k = 3 → (W.setCell ⟨g, j * 5 + 3, none⟩ (.slice (some ⟨K, 0, none⟩) ks.length ks.length)).heap[k]? = W.heap[k]? := fun k e => keep_set fun e' => by rw [e'] at e; omega
 have hz : ∀ k, k < W.heap.size → ¬ (Z k ∨ k = K) → ¬ Z k := fun k _ hn hz => hn (.inl hz)
 obtain ⟨kvs, a, b, c⟩ := h.tr;refine ⟨(keep_set (fun e => by rw [e] at tM; omega)).trans h.rd, (h.nd.lt hz).keepZ (fun k e => keep_set fun e' => h.ne k e (by rw [e']; rfl)) (fun k e _ => h3 k e), (keep_set (fun e => by rw [e] at tT; omega)).trans h.tt, ⟨kvs.set j (.slice (some ⟨K, 0, none⟩) ks.length ks.length), by simp [a], ?_, ?_⟩, h.ne, fun k hk => by have := h.zl k (.inl hk); simpa [World.setCell] using this⟩
 · rw [ndsC_set _ _ _ _ _ _ a hx, List.length_set]
   exact (b.stored _ _).1
 · intro i y kv hy hkv
   by_cases hij : i = j
   · subst hij
     have hi := (List.getElem?_eq_some_iff.1 hx).1;rw [List.getElem?_set_self hi] at hy;rw [List.getElem?_set_self (by omega)] at hkv;cases hy;cases hkv;refine ⟨_, _, rfl, Nat.le_refl _, by unfold maxLen; omega, .inr ⟨K, 0, cur, (0, 0), rfl, hKZ, (h3 K (by simp [tyOf, hK])).trans hK, fun q k hq => ?_⟩⟩;rw [Nat.zero_add];exact hc q k hq
   · rw [List.getElem?_set_ne (by omega)] at hy
     rw [List.getElem?_set_ne (by omega)] at hkv;exact ((c i y kv hy hkv).lt hz).keep h3
theorem ndsC_five : ∀ (l : List PN) (kvs : List Value) (i : Nat) (x : PN) (kv : Value), l[i]? = some x → kvs[i]? = some kv → ∀ q, q < 5 → (ndsC l kvs)[i * 5 + q]? = (ndC x kv)[q]?
 | [], _, i, x, kv, h, _ => by simp at h
 | _ :: _, [], i, x, kv, _, h => by simp at h
 | y :: l, k :: kvs, 0, x, kv, h, hk => by
   cases h;cases hk;intro q hq;show (ndC y k ++ ndsC l kvs)[0 * 5 + q]? = _
   rw [Nat.zero_mul, Nat.zero_add, List.getElem?_append_left (by simp [ndC]; omega)]
 | y :: l, k :: kvs, i + 1, x, kv, h, hk => by
   intro q hq;have ih := ndsC_five l kvs i x kv h hk q hq;rw [← ih];show (ndC y k ++ ndsC l kvs)[(i + 1) * 5 + q]? = _
   rw [show (i + 1) * 5 + q = (i * 5 + q) + 1 + 1 + 1 + 1 + 1 by omega];rfl
theorem nd_five {Z : Nat → Prop} {W : World} {nv : Value} {l : List PN} (h : NdRow Z W nv l) {i : Nat} {x : PN} (hx : l[i]? = some x) : ∃ g cap kv, nv = .slice (some ⟨g, 0, none⟩) l.length cap ∧ l.length ≤ cap ∧ cap ≤ 9223372036854775807 ∧ KidR Z W kv x.kids ∧ W.cell? ⟨g, i * 5, none⟩ = some (.int .i64 x.kind) ∧ W.cell? ⟨g, i * 5 + 1, none⟩ = some (.string (strOfNums x.text)) ∧ W.cell? ⟨g, i * 5 + 2, none⟩ = some (.int .i64 x.num) ∧ W.cell? ⟨g, i * 5 + 3, none⟩ = some kv ∧ W.cell? ⟨g, i * 5 + 4, none⟩ = some (.int .i64 (x.loc : Int)) := by
 obtain ⟨kvs, h1, h2, h3⟩ := h;have hi := (List.getElem?_eq_some_iff.1 hx).1;obtain ⟨kv, hkv⟩ : ∃ kv, kvs[i]? = some kv := ⟨_, List.getElem?_eq_getElem (by omega)⟩;have hc := ndsC_five l kvs i x kv hx hkv;rcases h2.2 with ⟨e, e2⟩ | ⟨g, cap, cur, e, _, hh, q1, q2, _⟩
 · omega
 · have hcell : ∀ q u, q < 5 → (ndC x kv)[q]? = some u → W.cell? ⟨g, i * 5 + q, none⟩ = some u := fun q u hq hu => by
    have := h2.cells (g := g) (by rw [e]; rfl) (i * 5 + q) u ((hc q hq).trans hu);rw [show (⟨g, i * 5 + q, none⟩ : Addr) = (⟨g, 0, none⟩ : Addr).add (i * 5 + q) by unfold Addr.add; split <;> simp_all];exact this
   exact ⟨g, cap, kv, e, q1, by unfold maxLen at q2; omega, h3 i x kv hx hkv, hcell 0 _ (by omega) rfl, hcell 1 _ (by omega) rfl, hcell 2 _ (by omega) rfl, hcell 3 _ (by omega) rfl, hcell 4 _ (by omega) rfl⟩
theorem nd_form {Z : Nat → Prop} {W : World} {nv : Value} {l : List PN} (h : NdRow Z W nv l) : ∃ a cap, nv = .slice a l.length cap := by
 obtain ⟨kvs, h1, h2, h3⟩ := h;rcases h2.2 with ⟨e, e2⟩ | ⟨g, cap, cur, e, _⟩
 · exact ⟨none, 0, by rw [e, e2]⟩
 · exact ⟨_, _, e⟩
def KidsLt (nodes : List PN) : Prop := ∀ (i : Nat) (x : PN), nodes[i]? = some x → x.kids.length ≤ 1000000 ∧ ∀ k ∈ x.kids, k < i
def LayI (nodes : List PN) (f : Nat) : Prop := ∀ (Z : Nat → Prop) (M T : Nat) (rc : Array Value) (nv tvv : Value) (tl : List PN) (W : World) (n : Nat), rc[6]? = some nv → LAt Z M T rc nv nodes tvv tl W → n < nodes.length → n < f → (layP nodes f n tl).1.length ≤ 1000000 →
 Calls Tryz.prog 58 #[.pointer (some ⟨M, 0, none⟩), .pointer (some ⟨T, 0, none⟩), .int .i64 (n : Int)] W fun e A => e = .returned (.int .i64 (tl.length : Int)) ∧ ∃ tvv', LAt Z M T rc nv nodes tvv' (layP nodes f n tl).1 A ∧ LFr T tvv tvv' W A
def layA (nodes : List PN) (f : Nat) (x : PN) (tl : List PN) (i : Nat) : List PN × List Nat := (x.kids.take i).foldl (layS nodes f) (tl ++ [x], [])
theorem layA_succ {nodes : List PN} {f : Nat} {x : PN} {tl : List PN} {i k : Nat} (h : x.kids[i]? = some k) : layA nodes f x tl (i + 1) = layS nodes f (layA nodes f x tl i) k := by
 unfold layA;rw [List.take_add_one, h];simp
theorem layA_len {nodes : List PN} {f : Nat} {x : PN} {tl : List PN} {i : Nat} (h : i ≤ x.kids.length) : (layA nodes f x tl i).2.length = i ∧ Grows (tl ++ [x]) (layA nodes f x tl i).1 := by
 have := lay_fold (lay_grows nodes f) (x.kids.take i) (tl ++ [x], []);refine ⟨?_, this.1⟩;unfold layA;rw [this.2];simp
 omega
theorem layA_le {nodes : List PN} {f : Nat} {x : PN} {tl : List PN} {i : Nat} : (layA nodes f x tl i).1.length ≤ (layA nodes f x tl x.kids.length).1.length := by
 have := lay_fold (lay_grows nodes f) (x.kids.drop i) (layA nodes f x tl i);unfold layA at *;rw [← List.foldl_append, List.take_append_drop] at this;rw [List.take_length];exact this.1.1
theorem layA_two {nodes : List PN} {f : Nat} {a : List PN × List Nat} {k : Nat} (h : k < f) : layS nodes f a k = ((layP nodes f k a.1).1, a.2 ++ [a.1.length]) := by
 cases f with
 | zero => omega
 | succ f => rfl
def LayL (nodes : List PN) (f : Nat) (x : PN) (tl : List PN) (Z : Nat → Prop) (M T K : Nat) (rc : Array Value) (nv tvv : Value) (W : World) (iv : Value) (wr : World) : Prop := ∃ (i : Nat) (tvi : Value), i ≤ x.kids.length ∧ iv = .int .i64 (i : Int) ∧ LAt (fun k => Z k ∨ k = K) M T rc nv nodes tvi (layA nodes f x tl i).1 wr ∧ LFr T tvv tvi W wr ∧ wr.heap[K]? = some (.cells (((layA nodes f x tl i).2.map fun k : Nat => Value.int .i64 (k : Int)) ++ List.replicate (x.kids.length - i) (Value.int .i64 0)).toArray 3)
theorem LAt.off {Z : Nat → Prop} {M T : Nat} {rc : Array Value} {nv tvv : Value} {nodes tl : List PN} {W : World} (h : LAt Z M T rc nv nodes tvv tl W) (o : Obj) : LAt (fun k => Z k ∨ k = W.heap.size) M T rc nv nodes tvv tl (W.alloc o) := by
 have hb : Below W.heap.size W (W.alloc o) := (Below.refl _ W).alloc (Nat.le_refl _) o;have h' := h.below hb;have hz : ∀ k, k < W.heap.size → ¬ Z k → ¬ (Z k ∨ k = W.heap.size) := fun k hk hn he => he.elim hn fun e => by omega
 refine ⟨h'.rd, (h.nd.lt hz).keep fun k e => hb.block k (by rcases e with e | e <;> exact ty_lt e (by omega)), h'.tt, (h.tr.lt hz).keep fun k e => hb.block k (by rcases e with e | e <;> exact ty_lt e (by omega)), h.ne, fun k hk => ?_⟩;rcases hk with hk | hk
 · exact h'.zl k hk
 · subst hk; simp
theorem LFr.put {T K i : Nat} {u x v : Value} {A B : World} (h : LFr T u x A B) (hK : A.heap.size ≤ K ∨ u.ownBlock = some K) : LFr T u x A (B.setCell ⟨K, i, none⟩ v) :=
 ⟨⟨h.1.os, h.1.tape, h.1.output, by have := h.1.size; simpa [World.setCell] using this, fun k hk hn => (keep_set (fun e => by rcases hK with e' | e' ; exact absurd hk (by omega); exact hn (.inr (by rw [e]; exact e')))).trans (h.1.block k hk hn)⟩, h.2⟩
theorem row_put {l : List Nat} {m i v : Nat} (hl : l.length = i) (hi : i < m) : ((l.map fun k : Nat => Value.int .i64 (k : Int)) ++ List.replicate (m - i) (Value.int .i64 0)).toArray.setIfInBounds i (.int .i64 (v : Int)) = (((l ++ [v]).map fun k : Nat => Value.int .i64 (k : Int)) ++ List.replicate (m - (i + 1)) (Value.int .i64 0)).toArray := by
 apply Array.ext'
 rw [Array.toList_setIfInBounds];show List.set _ _ _ = _
 rw [List.set_append_right _ _ (by simp; omega)];simp only [List.length_map, hl, Nat.sub_self];rw [show m - i = (m - (i + 1)) + 1 by omega, List.replicate_succ];simp
theorem lay_step {nodes : List PN} (hK : KidsLt nodes) {f : Nat} (IH : LayI nodes f) : LayI nodes (f + 1) := by
 intro Z M T rc nv tvv tl W n hrc h hn hf hlen;obtain ⟨x, hx⟩ : ∃ x, nodes[n]? = some x := ⟨_, List.getElem?_eq_getElem hn⟩;have hgx : nodes.getD n pn0 = x := by rw [List.getD_eq_getElem?_getD, hx]; rfl
 obtain ⟨hkl6, hkn⟩ := hK n x hx;rw [layP_succ, hgx] at hlen ⊢;have hA : x.kids.foldl (layS nodes f) (tl ++ [x], []) = layA nodes f x tl x.kids.length := by unfold layA; rw [List.take_length]
 rw [hA] at hlen ⊢;rw [List.length_set] at hlen;obtain ⟨nb, ncap, kv, env, q1, q2, hkid, d0, d1, d2, d3, d4⟩ := nd_five h.nd hx;have hkid' := hkid;obtain ⟨ka, kc, rfl, hkc1, hkc2, hkcs⟩ := hkid';obtain ⟨ta, tc, etv⟩ := nd_form h.tr;have cM : W.cell? ⟨M, 6, none⟩ = some nv := by simp [World.cell?, h.rd, hrc]
 have cT : W.cell? ⟨T, 0, none⟩ = some tvv := by simp [World.cell?, h.tt]
 have hl0 : tl.length + 1 ≤ (layA nodes f x tl x.kids.length).1.length := by
  have := (layA_len (nodes := nodes) (f := f) (x := x) (tl := tl) (Nat.le_refl _)).2.1;simpa using this
 obtain ⟨L0, hL0⟩ : ∃ m, tl.length = m := ⟨_, rfl⟩;obtain ⟨kl, hkl⟩ : ∃ m, x.kids.length = m := ⟨_, rfl⟩;obtain ⟨NL, hNL⟩ : ∃ m, nodes.length = m := ⟨_, rfl⟩;have H := Hi h;obtain ⟨i0, hi, hz0, hz1, hz2⟩ := info_parts infoNode;have hmk := fun w => run_make_row' (P := Tryz.prog) 32 3 (.int .i64 0) 8 Tryz.underlying32 infoInt rfl .i64 .i64 x.kids.length (by omega) (by omega) w
 rw [made_ints] at hmk;have hMl := World.block_lt_of_cell? W _ cM;have hTl := World.block_lt_of_cell? W _ cT;have hnl := World.block_lt_of_cell? W _ d0;have HKID := Hi hkid;have HKS := Hi hkcs;have HLEN := Hi hlen;have HKN := Hi hkn;have HKL := Hi hkl;have HL0 := Hi hL0;have HIH := Hi IH;have HRC := Hi hrc;have HETV := Hi etv;have HX := Hi hx;have hl6 : L0 < 1000000 := by omega
 obtain ⟨xk, hxk⟩ : ∃ v, x.kind = v := ⟨_, rfl⟩;obtain ⟨xt, hxt⟩ : ∃ v, strOfNums x.text = v := ⟨_, rfl⟩;obtain ⟨xn, hxn⟩ : ∃ v, x.num = v := ⟨_, rfl⟩;obtain ⟨xl, hxl⟩ : ∃ v, (x.loc : Int) = v := ⟨_, rfl⟩;have HXX := Hi (And.intro hxk (And.intro hxt (And.intro hxn hxl)));subst env;subst etv;rw [hxk] at d0;rw [hxt] at d1;rw [hxn] at d2;rw [hxl] at d4;rw [hkl] at hkl6 hkc1 d3 hmk;rw [hL0] at cT H ⊢;have hcM : W.cell? ⟨M, 6, none⟩ = some (.slice (some ⟨nb, 0, none⟩) NL ncap) := by rw [← hNL]; exact cM
 rw [hNL] at hn q1;unfold maxLen at hkc2;clear h hkid hkcs hlen hkn hkl hL0 IH hrc hx hxk hxt hxn hxl hgx hA cM hl0 hK;go_enter Tryz.func58, Tryz.ntmps58;go_wp2;generalize hWA : W.alloc (Obj.cells #[Value.int IntKind.i64 xk, Value.string xt, Value.int IntKind.i64 xn, Value.slice ka kl kc, Value.int IntKind.i64 xl] 34) = WA;have hBA : Below W.heap.size W WA := by rw [← hWA]; exact (Below.refl _ W).alloc (Nat.le_refl _) _
 have hLA := (U H).below hBA;obtain ⟨kvs, hkl5, hOA, hkk⟩ := hLA.tr;rw [U HL0] at hOA;have HOA := Hi hOA;have HKK := Hi (And.intro hkl5 hkk);have HLA := Hi hLA;have HBA := Hi hBA
 have hlt : ∀ j, (Value.slice ta L0 tc).ownBlock = some j → j < W.heap.size := fun j hj => by
  obtain ⟨kv2, b1, b2, b3⟩ := (U H).tr;exact (b2.lt j hj).2
 have hne : (Value.slice ta L0 tc).ownBlock ≠ some T := (U H).nt.2.2.1;have hszA : WA.heap.size = W.heap.size + 1 := by rw [← hWA]; simp
 have hnewA : WA.heap[W.heap.size]? = some (.cells #[.int .i64 xk, .string xt, .int .i64 xn, .slice ka kl kc, .int .i64 xl] 34) := by rw [← hWA]; exact World.alloc_heap_new W _
 have HNA := Hi hnewA;have htA : WA.heap[T]? = some (.cells #[.slice ta L0 tc] 25) := hLA.tt
 have HSS : Hid (∀ w' : World, w'.heap[T]? = WA.heap[T]? → w'.heap[W.heap.size]? = WA.heap[W.heap.size]? → w'.cell? ⟨T, 0, none⟩ = some (.slice ta L0 tc) ∧ w'.cell? ⟨W.heap.size, 0, none⟩ = some (.int .i64 xk) ∧ w'.cell? ⟨W.heap.size, 1, none⟩ = some (.string xt) ∧ w'.cell? ⟨W.heap.size, 2, none⟩ = some (.int .i64 xn) ∧ w'.cell? ⟨W.heap.size, 3, none⟩ = some (.slice ka kl kc) ∧ w'.cell? ⟨W.heap.size, 4, none⟩ = some (.int .i64 xl)) := fun w' h1 h2 => by
  rw [hnewA] at h2;rw [htA] at h1;simp [World.cell?, h2, h1]
 have HFR : Hid (∀ w' : World, w'.heap[T]? = WA.heap[T]? → w'.frozen? ⟨T, 0, none⟩ = false) := fun w' h1 => by
  rw [htA] at h1;simp [World.frozen?, h1]
 have HNE := Hi hne;have HLT := Hi hlt;have HSZ := Hi hszA;have hWAs : W.heap.size < WA.heap.size := by omega
 have hTA : T < WA.heap.size := by omega
 have hS0 := U HSS WA rfl rfl;obtain ⟨r0, r1, r2, r3, r4, r5⟩ := hS0;obtain ⟨XB, hXB⟩ : ∃ X, W.heap.size = X := ⟨_, rfl⟩;clear hBA hOA hne hlt hszA hnewA htA hLA hkk hkl5 hcM cT d0 d1 d2 d3 d4 hWA hXB;go_region_law (first | (refine step_append_old _ (by rfl) _ _ _ (by rfl) 0 34 i0 _ 5 64 Tryz.underlying23 hi hz0 hz1 hz2 rfl (by omega) _ L0 (ndsC tl kvs) (by rfl) (((U HOA).alloc _).drew) ⟨_, 0, none⟩ 1 1 [.int .i64 xk, .string xt, .int .i64 xn, .slice ka kl kc, .int .i64 xl] (by rfl) (by rfl) (World.news_of_block (cs := #[.int .i64 xk, .string xt, .int .i64 xn, .slice ka kl kc, .int .i64 xl]) (t := 34) (fr := (0, 0)) (at_drew (at_new _ _))) (by intro u hu; simp at hu; rcases hu with rfl | rfl | rfl | rfl | rfl <;> rfl) (by omega) (by unfold maxLen; omega) (by omega) (by simp) _ rfl ?_; intro g4 cap4 w4 hown4 hgrow4 hat4 hlt4 hold4; have hcp4 := (own_cap5 hown4).1; have hb4 : ∀ j, j < WA.heap.size → (Value.slice ta L0 tc).ownBlock ≠ some j → w4.heap[j]? = WA.heap[j]? := fun j hj hn => (hgrow4.block j (by simp; omega) (fun e => hn e.symm)).trans (((Below.refl _ WA).alloc (Nat.le_refl _) _).block j hj); have hM4 := hb4 T hTA (U HNE); have hS4 := U HSS w4 hM4 (hb4 W.heap.size hWAs (fun e => by have := U HLT _ e; omega)); have hf4 := (U HFR w4 hM4)))
 all_goals (
  have HO4 := Hi hown4;have HG4 := Hi hgrow4;have HA4 := Hi hat4;have HB4 := Hi hb4;clear hold4;clear hown4 hgrow4 hat4 hb4
  have hLP := lay_put (x := x) (kv := .slice ka kl kc) (g := g4) (cap := cap4) (kvs := kvs) (w4 := w4) (U HLA) (by rw [← U HKL]; exact (U HKID).keep fun k e => (U HBA).block k (ty_lt e (by omega))) (U HKK).1 (U HKK).2 (by
   obtain ⟨x1, x2, x3, x4⟩ := U HXX;simp only [ndC, x1, x2, x3, x4];rw [U HL0]
   exact U HO4) (U HG4).os (U HG4).tape (U HG4).output (by have h1 := (U HG4).size; simp at h1; omega) (U HB4) (by
   rcases U HA4 with e | e
   · exact .inl e
   · exact .inr (by rw [e]; simp))
  have hX5 : (w4.setCell ⟨T, 0, none⟩ (.slice (some ⟨g4, 0, none⟩) (L0 + 1) cap4)).heap[W.heap.size]? = some (.cells #[.int .i64 xk, .string xt, .int .i64 xn, .slice ka kl kc, .int .i64 xl] 34) := (keep_set (by omega)).trans ((U HB4 W.heap.size hWAs (fun e => by have := U HLT _ e; omega)).trans (U HNA));rw [U HL0] at hLP;generalize hw5 : w4.setCell ⟨T, 0, none⟩ (.slice (some ⟨g4, 0, none⟩) (L0 + 1) cap4) = w5 at *;have hX3 : w5.cell? ⟨W.heap.size, 3, none⟩ = some (.slice ka kl kc) := by simp [World.cell?, hX5]
  have hX5l := World.block_lt_of_cell? w5 _ hX3;have HLF := Hi (LFr.trans (v := .slice ta L0 tc) ⟨below_fr (U HBA), fun g e => .inl e⟩ hLP.2);have HLP := Hi hLP.1;clear hLP hX5 hw5 HO4 HG4 HA4 HB4 HOA HKK HLA HBA HNA HSS HFR HNE HLT HSZ;go_wp2;go_loopw [41] (fun iv wr => Hid (LayL nodes f x tl Z M T w5.heap.size rc (.slice (some ⟨nb, 0, none⟩) nodes.length ncap) (.slice ta L0 tc) W iv wr)) (fun iv wr => kl - (Lib.intOf iv).toNat)
  case atStart =>
   refine ⟨0, _, Nat.zero_le _, rfl, (U HLP).off _, (U HLF).below ((Below.refl _ w5).alloc (Nat.le_refl _) _), ?_⟩;rw [U HKL];refine (World.alloc_heap_new w5 _).trans ?_;simp [layA]
  case round =>
   obtain ⟨i, tvi, hil, rfl, hLi, hFi, hKi⟩ := U hrel;clear hrel;rw [U HKL] at hil hKi;have hal := layA_len (nodes := nodes) (f := f) (x := x) (tl := tl) (i := i) (by rw [U HKL]; exact hil);have hW5 : W.heap.size ≤ w5.heap.size := (U HLF).1.size;have HW5 := Hi hW5;have HLi := Hi hLi;have HFi := Hi hFi;have HKi := Hi hKi;have HAL := Hi hal;by_cases hik : i < kl
   · obtain ⟨k, hk⟩ : ∃ k, x.kids[i]? = some k := ⟨_, List.getElem?_eq_getElem (by rw [U HKL]; exact hik)⟩
     have hkn := U HKN k (List.mem_of_getElem? hk);rcases U HKS with e | ⟨b, o, cur, fr, rfl, hbz, hbh, hbc⟩
     · exfalso
       have := U HKL;rw [e] at this;simp at this;omega
     have hbw : wr.heap[b]? = some (.cells cur 3 fr) := by
      have hty : tyOf W b = 3 := by simp [tyOf, hbh]
      refine (hFi.1.block b (ty_lt hty (by omega)) fun e => ?_).trans hbh;rcases e with e | e
      · have := (U H).nt.2.2.2.2
        rw [← e] at this;omega
      · have := nd_ty (U H).tr e
        omega
     have kc0 : wr.cell? ⟨b, o + i, none⟩ = some (.int .i64 (k : Int)) := by simp [World.cell?, hbw, hbc i k hk]
     have hb0 := World.block_lt_of_cell? wr _ kc0;have hs1 := layA_succ (nodes := nodes) (f := f) (tl := tl) hk;rw [layA_two (by omega)] at hs1
     have HC := Hi (U HIH (fun k => Z k ∨ k = w5.heap.size) M T rc _ tvi (layA nodes f x tl i).1 wr k (U HRC) hLi (by omega) (by omega) (by
      have h1 := layA_le (nodes := nodes) (f := f) (x := x) (tl := tl) (i := i + 1);rw [hs1] at h1;have h2 := U HLEN
      exact Nat.le_trans h1 h2))
     have HS1 := Hi hs1;have hikI : (i : Int) < (kl : Int) := by omega
     obtain ⟨LA, hLA⟩ : ∃ m, (layA nodes f x tl i).1.length = m := ⟨_, rfl⟩;rw [hLA] at HC;have HLL := Hi hLA;clear hLi hFi hKi hal hk hbw hbh hbc hs1 hLA;go_wp2_with (go_at_call 58; refine (U HC).mono ?_)
     first | rintro e w7 rfl tv7 hL7 hF7 | rintro e w7 ⟨rfl, tv7, hL7, hF7⟩
     have htK : tyOf wr w5.heap.size = 3 := by simp [tyOf, U HKi]
     have hK7 : w7.heap[w5.heap.size]? = some (.cells (((layA nodes f x tl i).2.map fun k : Nat => Value.int .i64 (k : Int)) ++ List.replicate (kl - i) (Value.int .i64 0)).toArray 3) := by
      refine (hF7.1.block _ (ty_lt htK (by omega)) fun e => ?_).trans (U HKi);rcases e with e | e
      · have := (U HLi).nt.2.2.2.2
        rw [← e] at this;omega
      · have := nd_ty (U HLi).tr e
        omega
     have x7 : w7.cell? ⟨w5.heap.size, i, none⟩ = some (.int .i64 0) := by
      have := (U HAL).1;simp [World.cell?, hK7, List.getElem?_append_right, this, List.getElem?_replicate, hik];omega
     have f7 : w7.frozen? ⟨w5.heap.size, i, none⟩ = false := by simp [World.frozen?, hK7]
     have hg7 := World.block_lt_of_cell? w7 _ x7;have HL7 := Hi hL7;have HF7 := Hi hF7;have HK7 := Hi hK7;clear hL7 hF7 hK7 htK;go_wp2;refine ⟨⟨i + 1, tv7, by rw [U HKL]; omega, by simp, ?_, ?_, ?_⟩, by simp [Lib.intOf]; omega⟩
     · rw [U HS1, hNL]
       exact (U HL7).fill (.inr rfl) (by simp [tyOf, U HK7])
     · exact ((U HFi).trans (U HF7)).put (.inl (U HW5))
     · rw [U HS1, U HKL, U HLL, ← row_put (U HAL).1 hik]
       simp [World.setCell, Array.getElem?_modify, U HK7]
   · have hie : i = kl := by omega
     have hx9 : (layA nodes f x tl i).1[L0]? = some x := by
      rw [hal.2.2 L0 (by rw [← U HL0]; simp), ← U HL0];simp
     obtain ⟨g9, c9, kv9, e9, p1, p2, _, _, _, _, y3, _⟩ := nd_five hLi.tr hx9;have hl9 : L0 < (layA nodes f x tl i).1.length := (List.getElem?_eq_some_iff.1 hx9).1;have y0 : wr.cell? ⟨T, 0, none⟩ = some tvi := by simp [World.cell?, hLi.tt]
     subst e9
     have f9 : wr.frozen? ⟨g9, L0 * 5 + 3, none⟩ = false := by
      obtain ⟨kv2, b1, b2, b3⟩ := hLi.tr;exact b2.frozenAt _
     have hSET := lay_set (K := w5.heap.size) (ks := (layA nodes f x tl i).2) hLi hx9 (fun hz => by have := (U HLP).zl _ hz; omega) hKi (fun q k hq => by
      have hq' := (List.getElem?_eq_some_iff.1 hq).1;rw [List.getElem?_toArray, List.getElem?_append_left (by simpa using hq'), List.getElem?_map, hq]
      rfl) (by rw [hal.1]; omega)
     rw [hal.1] at hSET;have HSET := Hi hSET;have hT9 := World.block_lt_of_cell? wr _ y0;have hg9 := World.block_lt_of_cell? wr _ y3;obtain ⟨LN, hLN⟩ : ∃ m, (layA nodes f x tl i).1.length = m := ⟨_, rfl⟩;rw [hLN] at y0 p1 hl9;have hniI : ¬ (i : Int) < (kl : Int) := by omega
     have HLN := Hi hLN;clear hLi hFi hKi hal hx9 hSET hLN;subst hie;go_wp2;go_ret;refine ⟨rfl, _, ?_, (U HFi).put (((U HFi).2 g9 rfl).symm)⟩;rw [U HKL];have := U HSET;rw [hNL] at this
     exact this)
theorem results_cell3 {P : Program} {fn : Func} {p u v : Tmp} {ty : TypeId} (h : fn.results = #[.cell p ty, .tmp u, .tmp v]) (tmps : Array Value) (w : World) (g : Nat) (t : TypeId) (cs : Array Value) (fr : Nat × Nat) (d : TypeDesc)
 (hp : tmps.getD p undef = .pointer (some ⟨g, 0, none⟩)) (hg : w.heap[g]? = some (.cells cs t fr))
 (hu : P.underlying ty = some d) (hd : (match d with | .struct _ | .array _ _ => true | _ => false) = true) (hi : (P.info? ty).map (·.size) = some cs.size) :
 (results fn tmps).run P w = .ok (.tuple #[.agg cs, tmps.getD u undef, tmps.getD v undef]) w := by
 have hp' : tmps[p]?.getD undef = .pointer (some ⟨g, 0, none⟩) := by simpa using hp
 simp [results, h, hp', asAddr, run_loadVar_row w g t ty cs fr d hg hu hd hi]
theorem lay_all {nodes : List PN} (hK : KidsLt nodes) : ∀ f, LayI nodes f
 | 0 => fun Z M T rc nv tvv tl W n _ _ _ hf _ => absurd hf (by omega)
 | f + 1 => lay_step hK (lay_all hK f)
theorem laidOut_any {Z : Nat → Prop} {M : Nat} {rc : Array Value} {nv : Value} {nodes : List PN} {W : World} {n : Nat} (hrc : rc[6]? = some nv) (hrd : W.heap[M]? = some (.cells rc 72)) (hnd : NdRow Z W nv nodes) (hzl : ∀ k, Z k → k < W.heap.size) (hn : n < nodes.length) (hK : KidsLt nodes) (hlen : (layP nodes (nodes.length + 1) n []).1.length ≤ 1000000) :
 Calls Tryz.prog 30 #[.pointer (some ⟨M, 0, none⟩), .int .i64 (n : Int)] W fun e A => ∃ tvv, e = .returned (.agg #[tvv]) ∧ NdRow Z A tvv (layP nodes (nodes.length + 1) n []).1 ∧ Below W.heap.size W A := by
 have HC : Hid (∀ w, Below W.heap.size W w → ∀ T, W.heap.size ≤ T → w.heap[T]? = some (.cells #[.slice none 0 0] 25) → Calls Tryz.prog 58 #[.pointer (some ⟨M, 0, none⟩), .pointer (some ⟨T, 0, none⟩), .int .i64 (n : Int)] w fun e A => e = .returned (.int .i64 0) ∧ ∃ tvv', LAt Z M T rc nv nodes tvv' (layP nodes (nodes.length + 1) n []).1 A ∧ LFr T (.slice none 0 0) tvv' w A) := fun w hw T hT hTT => by
  refine (lay_all hK (nodes.length + 1) Z M T rc nv (.slice none 0 0) [] w n hrc ⟨(hw.block M (Array.getElem?_eq_some_iff.1 hrd).1).trans hrd, hnd.keep fun k e => hw.block k (by rcases e with e | e <;> exact ty_lt e (by omega)), hTT, ⟨[], rfl, World.ownsRow_nil _ _ _ _, fun j x kv hx => by simp at hx⟩, fun g _ e => (by cases e), fun k hk => Nat.lt_of_lt_of_le (hzl k hk) hw.size⟩ hn (by omega) hlen).mono ?_;rintro e A ⟨rfl, h⟩;exact ⟨rfl, h⟩
 clear hrc hrd hnd hzl hn hK hlen;go_enter Tryz.func30, Tryz.ntmps30;have hBB : Below W.heap.size W ((W.alloc (Obj.cells #[Value.slice none 0 0] 25)).alloc (Obj.cells #[Value.slice none 0 0] 25)) := ((Below.refl _ W).alloc (Nat.le_refl _) _).alloc (by simp) _;have HBB := Hi hBB;clear hBB;go_wp2_with (go_at_call 58; refine (U HC _ (U HBB) (W.heap.size + 1) (Nat.le_succ _) (al_at' _ _ _)).mono ?_)
 first | rintro e A rfl tvv hL hF | rintro e A ⟨rfl, tvv, hL, hF⟩
 have c1 : A.cell? ⟨W.heap.size + 1, 0, none⟩ = some tvv := by simp [World.cell?, hL.tt]
 have hR0 : A.heap[W.heap.size]? = some (.cells #[.slice none 0 0] 25) := (hF.1.block _ (by simp; omega) (fun e => by rcases e with e | e; omega; cases e)).trans (al_lt (al_at _ _));have c0 : A.cell? ⟨W.heap.size, 0, none⟩ = some (.slice none 0 0) := by simp [World.cell?, hR0]
 have f0 : A.frozen? ⟨W.heap.size, 0, none⟩ = false := by simp [World.frozen?, hR0]
 have hl1 := World.block_lt_of_cell? A _ c1;have hl0 := World.block_lt_of_cell? A _ c0
 have hfin : NdRow Z (A.setCell ⟨W.heap.size, 0, none⟩ tvv) tvv (layP nodes (nodes.length + 1) n []).1 ∧ Below W.heap.size W (A.setCell ⟨W.heap.size, 0, none⟩ tvv) := by
  have tR : tyOf A W.heap.size = 25 := by simp [tyOf, hR0]
  refine ⟨hL.tr.keep fun k e => keep_set fun e' => by subst e'; omega, ?_⟩;have hb : Below W.heap.size W A := ⟨hF.1.os.trans (U HBB).os, hF.1.tape.trans (U HBB).tape, hF.1.output.trans (U HBB).output, Nat.le_trans (U HBB).size hF.1.size, fun k hk => (hF.1.block k (by simp; omega) (fun e => by rcases e with e | e; omega; cases e)).trans ((U HBB).block k hk)⟩;exact hb.trans ⟨rfl, rfl, rfl, by simp [World.setCell], fun k hk => keep_set (by omega)⟩
 have HFIN := Hi hfin;obtain ⟨ta, tc, etv⟩ := nd_form hL.tr;subst etv;have HV := Hi (show (A.setCell ⟨W.heap.size, 0, none⟩ (.slice ta (layP nodes (nodes.length + 1) n []).1.length tc)).heap[W.heap.size]? = some (.cells #[.slice ta (layP nodes (nodes.length + 1) n []).1.length tc] 25) by simp [World.setCell, Array.getElem?_modify, hR0]);clear hL hF hfin hR0;generalize (layP nodes (nodes.length + 1) n []).1.length = LL at *;go_wp2;refine bodyPost_ret (results_cell_row rfl _ _ W.heap.size 25 #[.slice ta LL tc] (0, 0) _ rfl (U HV) Tryz.underlying25 rfl rfl) rfl ?_;exact ⟨_, rfl, (U HFIN).1, (U HFIN).2⟩
end
end Go.Proofs.YtofgphapjjofnaaGreatDoor
