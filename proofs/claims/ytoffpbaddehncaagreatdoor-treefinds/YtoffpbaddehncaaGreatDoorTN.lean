/- tree.Make in general. -/
import Derived.LoopN
import Derived.OwnWalk
import Derived.Deep.Onto
import Derived.Test.YtoffpbaddehncaaGreatDoorTM
namespace Go.Proofs.YtoffpbaddehncaaGreatDoor
set_option linter.unusedSimpArgs false
set_option linter.unusedVariables false
open Go.RowKit Go.Shelf

/-- Trees in a row. -/
def TreesAt (W : World) (M : Nat) (a : Option Addr) (ts : List (List Nd)) : Prop :=
  ts = [] ∨ ∃ b o, a = some ⟨b, o, none⟩ ∧ b < M ∧ ∀ j, j < ts.length → ∃ tv, W.cell? ⟨b, o + j, none⟩ = some tv ∧ Nodes W M tv (ts.getD j [])
theorem TreesAt.keep {W W' : World} {M N : Nat} {a : Option Addr} {ts : List (List Nd)} (h : TreesAt W M a ts) (hB : Below N W W') (hn : M ≤ N) : TreesAt W' M a ts := by
  rcases h with h | ⟨b, o, ha, hb, hc⟩
  · exact .inl h
  · refine .inr ⟨b, o, ha, hb, fun j hj => ?_⟩
    obtain ⟨v, h1, h2⟩ := hc j hj
    exact ⟨v, (hB.cell (p := ⟨b, o + j, none⟩) (Nat.lt_of_lt_of_le hb hn)).trans h1, h2.keep hB hn⟩
/-- How many nodes the first trees have. -/
def szs (ts : List (List Nd)) : Nat → Nat
  | 0 => 0
  | i + 1 => szs ts i + (ts.getD i []).length
/-- The nodes behind the root, and where the kids' roots are. -/
def mk (ts : List (List Nd)) : Nat → List Nd × List Int
  | 0 => ([], [])
  | i + 1 => if (ts.getD i []).length = 0 then mk ts i else ((mk ts i).1 ++ (ts.getD i []).map (shN ((mk ts i).1.length + 1 : Nat)), (mk ts i).2 ++ [(((mk ts i).1.length + 1 : Nat) : Int)])
def makeT (root : Nd) (ts : List (List Nd)) : List Nd := { root with kids := (mk ts ts.length).2 } :: (mk ts ts.length).1
theorem mk_len (ts : List (List Nd)) : ∀ i, (mk ts i).1.length = szs ts i
  | 0 => rfl
  | i + 1 => by
    simp only [mk, szs]
    split
    · rw [mk_len ts i]; omega
    · simp [mk_len ts i]
theorem szs_mono (ts : List (List Nd)) : ∀ {i j}, i ≤ j → szs ts i ≤ szs ts j
  | i, 0, h => by obtain rfl : i = 0 := by omega
                  exact Nat.le_refl _
  | i, j + 1, h => by
    by_cases e : i = j + 1
    · rw [e]; exact Nat.le_refl _
    · have := szs_mono ts (i := i) (j := j) (by omega)
      simp only [szs]; omega
theorem mkr_len (ts : List (List Nd)) : ∀ i, (mk ts i).2.length ≤ i
  | 0 => Nat.le_refl _
  | i + 1 => by
    simp only [mk]
    have := mkr_len ts i
    split
    · omega
    · simp; omega

theorem madeCells_get (z : Array Value) (n j : Nat) (hj : j < n) : (madeCells z n).toList[j]? = some (z[j % z.size]!) := by simp [madeCells, hj]
theorem run_make_one (w : World) (base : Nat) (i : TypeInfo) (z : Value) (hi : Tryz.prog.info? 29 = some i) (hz : i.zero = some z) (hsize : i.size = 5) (hzc : z.cells = #[.int .i64 0, .string ⟨#[]⟩, .int .i64 0, .slice none 0 0, .int .i64 0]) (c : Nat) (hc : 1 ≤ c) (hbytes : i.bytes * c ≤ 281474976710656) (h63 : c ≤ maxLen) (hbase : base ≤ w.heap.size) :
    ∃ w', (Instr.makeSlice 22 (.int .i64 1) (.int .i64 (c : Int))).run Tryz.prog w = .ok (.slice (some ⟨w.heap.size, 0, none⟩) 1 c) w' ∧
      w'.ownsRow base 29 5 (.slice (some ⟨w.heap.size, 0, none⟩) 1 c) 1 (flatN [⟨⟨0, ⟨#[]⟩, 0, [], 0⟩, none, 0⟩]) ∧ w.grownBy w' none := by
  have h63' : (c : Int) ≤ 9223372036854775807 := by
    have h := h63
    simp [maxLen] at h
    omega
  have hb' : (i.bytes : Int) * (c : Int) ≤ 281474976710656 := by
    have h : ((i.bytes * c : Nat) : Int) ≤ 281474976710656 := by omega
    rwa [Int.natCast_mul] at h
  have hr := run_make (P := Tryz.prog) w 22 29 i z Tryz.underlying22 hi hz .i64 .i64 1 c (by omega) (by omega) hb' h63'
  simp only [Int.toNat_natCast] at hr
  refine ⟨_, hr, ⟨rfl, .inr ⟨w.heap.size, c, _, rfl, hbase, heap_alloc_new w _, hc, h63, by rw [hsize]; exact size_madeCells _ _, ?_⟩⟩, World.grownBy_alloc w _ none⟩
  rw [hzc, hsize]
  apply List.ext_getElem?
  intro j
  by_cases hj : j < 5
  · rw [List.getElem?_take, if_pos (by omega)]
    rw [madeCells_get _ _ _ (by omega)]
    rcases (by omega : j = 0 ∨ j = 1 ∨ j = 2 ∨ j = 3 ∨ j = 4) with rfl | rfl | rfl | rfl | rfl <;> rfl
  · rw [List.getElem?_eq_none (by simp; omega), List.getElem?_eq_none (by simp [flatN, cellN]; omega)]

theorem KidO.keep' {W W' : World} {B : Nat} {e : NE} (h : KidO W B e) (hk : e.x.kids ≠ [] → ∀ kb, e.a = some ⟨kb, 0, none⟩ → kb < W.heap.size → W'.heap[kb]? = W.heap[kb]?) : KidO W' B e := by
  obtain ⟨h1, h2, h3⟩ := h
  refine ⟨h1, h2, ?_⟩
  rcases h3 with h3 | ⟨kb, cur, ha, hb, hh, hc⟩
  · exact .inl h3
  · by_cases h0 : e.x.kids = []
    · exact .inl h0
    · exact .inr ⟨kb, cur, ha, hb, (hk h0 kb ha (Array.getElem?_eq_some_iff.1 hh).1).trans hh, hc⟩
theorem KidO.lt {W : World} {B : Nat} {e : NE} (h : KidO W B e) (h0 : e.x.kids ≠ []) {kb : Nat} (ha : e.a = some ⟨kb, 0, none⟩) : kb < W.heap.size := by
  rcases h.2.2 with h | ⟨kb', cur, ha', hb, hh, hc⟩
  · exact absurd h h0
  · rw [ha'] at ha
    cases ha
    exact (Array.getElem?_eq_some_iff.1 hh).1
theorem KidO.mono {W : World} {B B' : Nat} {e : NE} (h : KidO W B e) (hB : B' ≤ B) : KidO W B' e := by
  obtain ⟨h1, h2, h3⟩ := h
  refine ⟨h1, h2, ?_⟩
  rcases h3 with h3 | ⟨kb, cur, ha, hb, hh, hc⟩
  · exact .inl h3
  · exact .inr ⟨kb, cur, ha, by omega, hh, hc⟩
/-- Two rows of cells of other types lie in two blocks. -/
theorem rows_apart {W : World} {B B' : Nat} {t t' : TypeId} {s s' : Nat} {v v' : Value} {n n' : Nat} {xs xs' : List Value} (h : W.ownsRow B t s v n xs) (h' : W.ownsRow B' t' s' v' n' xs') (ht : t ≠ t') : v.ownBlock = none ∨ v.ownBlock ≠ v'.ownBlock := by
  rcases h.2 with ⟨h1, _⟩ | ⟨g, c, cur, h1, _, hh, _⟩
  · exact .inl (by rw [h1]; rfl)
  · right
    intro e
    rcases h'.2 with ⟨h2, _⟩ | ⟨g', c', cur', h2, _, hh', _⟩
    · rw [h1, h2] at e; cases e
    · rw [h1, h2] at e
      simp only [Value.ownBlock, Option.some.injEq] at e
      rw [e, hh'] at hh
      simp at hh
      exact ht hh.2.symm
theorem one_set {w : World} {B g n c j : Nat} {xs : List Value} (h : w.ownsRow B 29 5 (.slice (some ⟨g, 0, none⟩) n c) n xs) (hn : 1 ≤ n) (hj : j < 5) (y : Value) :
    ∃ w1, w.setCell ⟨g, j, none⟩ y = w1 ∧ (∃ x, w.cell? ⟨g, j, none⟩ = some x) ∧ w.frozen? ⟨g, j, none⟩ = false ∧ w1.ownsRow B 29 5 (.slice (some ⟨g, 0, none⟩) n c) n (xs.set j y) ∧ w.grownBy w1 (some g) ∧ g < w1.heap.size := by
  obtain ⟨h1, h2⟩ := h.stored j y
  refine ⟨_, rfl, ?_, h.frozenAt j, h1, h2, (h1.lt g rfl).2⟩
  rw [h.cellAt j (by omega)]
  exact ⟨_, List.getElem?_eq_getElem (by rw [h.1]; omega)⟩
theorem grown_trans {a b c : World} {row : Option Nat} (h : a.grownBy b row) (k : b.grownBy c row) : a.grownBy c row :=
  ⟨k.os.trans h.os, k.tape.trans h.tape, k.output.trans h.output, Nat.le_trans h.size k.size, fun i hi hne => (k.block i (Nat.lt_of_lt_of_le hi h.size) hne).trans (h.block i hi hne)⟩
/-- The end of Make: the root's box, the row's first node, the answer's cell. -/
theorem make_end {w4 w5 : World} {N g n c : Nat} {k t m s at' tx ks v : Value} {xs : List Value} (hX : w4.heap[N]? = some (.cells #[k, t, m, s, at'] 29)) (hY : w4.heap[N + 1]? = some (.cells #[.slice none 0 0] 24)) (ho : w4.ownsRow (N + 2) 29 5 (.slice (some ⟨g, 0, none⟩) n c) n xs) (hn : 1 ≤ n) (hB : Below w4.heap.size w4 w5) :
    ∃ w6 w7 y1 y2 y3 y4 y5 y6, (w5.cell? ⟨N, 1, none⟩ = some t ∧ w5.frozen? ⟨N, 1, none⟩ = false ∧ w5.setCell ⟨N, 1, none⟩ tx = w6) ∧ (w6.cell? ⟨N, 3, none⟩ = some s ∧ w6.frozen? ⟨N, 3, none⟩ = false ∧ w6.setCell ⟨N, 3, none⟩ ks = w7) ∧
      (w7.cell? ⟨N, 0, none⟩ = some k ∧ w7.cell? ⟨N, 1, none⟩ = some tx ∧ w7.cell? ⟨N, 2, none⟩ = some m ∧ w7.cell? ⟨N, 3, none⟩ = some ks ∧ w7.cell? ⟨N, 4, none⟩ = some at') ∧
      ((∃ x, w7.cell? ⟨g, 0, none⟩ = some x) ∧ w7.frozen? ⟨g, 0, none⟩ = false ∧ w7.setCell ⟨g, 0, none⟩ k = y1) ∧ ((∃ x, y1.cell? ⟨g, 1, none⟩ = some x) ∧ y1.frozen? ⟨g, 1, none⟩ = false ∧ y1.setCell ⟨g, 1, none⟩ tx = y2) ∧ ((∃ x, y2.cell? ⟨g, 2, none⟩ = some x) ∧ y2.frozen? ⟨g, 2, none⟩ = false ∧ y2.setCell ⟨g, 2, none⟩ m = y3) ∧
      ((∃ x, y3.cell? ⟨g, 3, none⟩ = some x) ∧ y3.frozen? ⟨g, 3, none⟩ = false ∧ y3.setCell ⟨g, 3, none⟩ ks = y4) ∧ ((∃ x, y4.cell? ⟨g, 4, none⟩ = some x) ∧ y4.frozen? ⟨g, 4, none⟩ = false ∧ y4.setCell ⟨g, 4, none⟩ at' = y5) ∧
      (y5.cell? ⟨N + 1, 0, none⟩ = some (.slice none 0 0) ∧ y5.frozen? ⟨N + 1, 0, none⟩ = false ∧ y5.setCell ⟨N + 1, 0, none⟩ v = y6) ∧ y6.cell? ⟨N + 1, 0, none⟩ = some v ∧
      y6.ownsRow (N + 2) 29 5 (.slice (some ⟨g, 0, none⟩) n c) n (((((xs.set 0 k).set 1 tx).set 2 m).set 3 ks).set 4 at') ∧
      (y6.os = w4.os ∧ y6.tape = w4.tape ∧ y6.output = w4.output ∧ w4.heap.size ≤ y6.heap.size ∧ ∀ i, i < w4.heap.size → i ≠ N → i ≠ N + 1 → i ≠ g → y6.heap[i]? = w4.heap[i]?) ∧ (N + 1 < w5.heap.size ∧ w6.heap.size = w5.heap.size ∧ w7.heap.size = w5.heap.size ∧ y1.heap.size = w5.heap.size ∧ y2.heap.size = w5.heap.size ∧ y3.heap.size = w5.heap.size ∧ y4.heap.size = w5.heap.size ∧ y5.heap.size = w5.heap.size ∧ g < w5.heap.size) := by
  have hgN := (ho.lt g rfl).1
  have hgl := (ho.lt g rfl).2
  have hNl : N < w4.heap.size := (Array.getElem?_eq_some_iff.1 hX).1
  have hYl : N + 1 < w4.heap.size := (Array.getElem?_eq_some_iff.1 hY).1
  have hz5 := hB.size
  have hX5 := (hB.block N hNl).trans hX
  have hY5 := (hB.block (N + 1) hYl).trans hY
  obtain ⟨w6, e6⟩ : ∃ w6, w5.setCell ⟨N, 1, none⟩ tx = w6 := ⟨_, rfl⟩
  have hX6 := put5_1 hX5 tx
  rw [e6] at hX6
  obtain ⟨w7, e7⟩ : ∃ w7, w6.setCell ⟨N, 3, none⟩ ks = w7 := ⟨_, rfl⟩
  have hX7 := put5_3 hX6 ks
  rw [e7] at hX7
  obtain ⟨a1, a2, a3, a4, a5⟩ := two_sets e6 e7
  have hg47 : w4.grownBy w7 (some N) := ⟨a1.trans hB.os, a2.trans hB.tape, a3.trans hB.output, by omega, fun i hi hne => (a5 i (fun e => hne (by rw [e]))).trans (hB.block i hi)⟩
  have o7 := ho.kept hg47 (.inr (by simp [Value.ownBlock]; omega))
  obtain ⟨y1, e1, p1, f1, o1, g1, l1⟩ := one_set o7 hn (by decide : 0 < 5) k
  obtain ⟨y2, e2, p2, f2, o2, g2, l2⟩ := one_set o1 hn (by decide : 1 < 5) tx
  obtain ⟨y3, e3, p3, f3, o3, g3, l3⟩ := one_set o2 hn (by decide : 2 < 5) m
  obtain ⟨y4, e4, p4, f4, o4, g4, l4⟩ := one_set o3 hn (by decide : 3 < 5) ks
  obtain ⟨y5, e5, p5, f5, o5, g5, l5⟩ := one_set o4 hn (by decide : 4 < 5) at'
  have hg75 := grown_trans g1 (grown_trans g2 (grown_trans g3 (grown_trans g4 g5)))
  have z1 := setCell_size e1
  have z2 := setCell_size e2
  have z3 := setCell_size e3
  have z4 := setCell_size e4
  have z5 := setCell_size e5
  have z6 := setCell_size e6
  have z7 := setCell_size e7
  have hYf : y5.heap[N + 1]? = some (.cells #[.slice none 0 0] 24) := (hg75.block _ (by omega) (by simp; omega)).trans ((a5 _ (by omega)).trans hY5)
  obtain ⟨y6, ey⟩ : ∃ y6, y5.setCell ⟨N + 1, 0, none⟩ v = y6 := ⟨_, rfl⟩
  have hY6 : y6.heap[N + 1]? = some (.cells #[v] 24) := by rw [← ey]; simp [World.setCell, Array.getElem?_modify, hYf]
  have o6 : y6.ownsRow (N + 2) 29 5 (.slice (some ⟨g, 0, none⟩) n c) n (((((xs.set 0 k).set 1 tx).set 2 m).set 3 ks).set 4 at') := by rw [← ey]; exact ownsRow_setCell_below o5 (a := ⟨N + 1, 0, none⟩) (by simp) v
  have zy := setCell_size ey
  refine ⟨w6, w7, y1, y2, y3, y4, y5, y6, ⟨(cells5 hX5).2.1, frozen_at hX5 1, e6⟩, ⟨(cells5 hX6).2.2.2.1, frozen_at hX6 3, e7⟩, cells5 hX7, ⟨p1, f1, e1⟩, ⟨p2, f2, e2⟩, ⟨p3, f3, e3⟩, ⟨p4, f4, e4⟩, ⟨p5, f5, e5⟩, ⟨by rw [Lib.cell_of_heap hYf]; rfl, frozen_at hYf 0, ey⟩, by rw [Lib.cell_of_heap hY6]; rfl, o6, ⟨?_, ?_, ?_, by omega, fun i hi h1 h2 h3 => ?_⟩, by omega, by omega, by omega, by omega, by omega, by omega, by omega, by omega, by omega⟩
  · rw [← ey]; exact hg75.os.trans hg47.os
  · rw [← ey]; exact hg75.tape.trans hg47.tape
  · rw [← ey]; exact hg75.output.trans hg47.output
  · rw [← ey, Below.heap_setCell _ _ _ _ h2]
    exact (hg75.block i (by omega) (by simp; omega)).trans (hg47.block i hi (by simp; omega))
/-- Between two rounds of Make. -/
structure MkI (W2 : World) (B : Nat) (ts : List (List Nd)) (i : Nat) (t8 t9 : Value) (wr : World) (es : List NE) : Prop where
  map : es.map NE.x = (mk ts i).1
  own : OwnN wr B t8 (⟨⟨0, ⟨#[]⟩, 0, [], 0⟩, none, 0⟩ :: es)
  roots : wr.ownsRow B 3 1 t9 (mk ts i).2.length ((mk ts i).2.map (Value.int .i64))
  apart : ∀ e ∈ es, e.x.kids ≠ [] → ∀ kb, e.a = some ⟨kb, 0, none⟩ → t9.ownBlock ≠ some kb
  below : Below B W2 wr

/-- What Make answers. -/
def MakeQ (root : Nd) (ts : List (List Nd)) (W : World) (e : Ending) (w' : World) : Prop := ∃ v' es, e = .returned (.agg #[v']) ∧ es.map NE.x = makeT root ts ∧ OwnN w' W.heap.size v' es ∧ Below W.heap.size W w'

set_option maxRecDepth 100000 in
set_option maxHeartbeats 4000000 in
theorem make_any (root : Nd) (rk : Value) (ka : Option Addr) (kl kc : Nat) (ts : List (List Nd)) (a : Option Addr) (cap M : Nat) (W : World) (hrk : rk = .slice ka kl kc) (hM : M ≤ W.heap.size) (hT : TreesAt W M a ts) (htx : root.text.size ≤ 4294967280) (hsz : szs ts ts.length + 1 ≤ 2199023255552) (hts : ts.length ≤ 4398046511104) :
    Calls Tryz.prog 26 #[.agg #[.int .i64 root.kind, .string root.text, .int .i64 root.num, rk, .int .i64 root.at'], .slice a ts.length cap] W (MakeQ root ts W) := by
  subst hrk
  obtain ⟨i0, hi, hz0, hz1, hz2⟩ := info_parts infoNode
  obtain ⟨j0, hj, hy0, hy1, hy2⟩ := info_parts infoInt
  have HT := hide hT
  obtain ⟨rkd, rtx, rnm, rks, rat⟩ := root
  simp only at htx ⊢
  clear hT
  obtain ⟨W2, hW2⟩ : ∃ W2, (W.alloc (.cells #[.int .i64 rkd, .string rtx, .int .i64 rnm, .slice ka kl kc, .int .i64 rat] 29)).alloc (.cells #[.slice none 0 0] 24) = W2 := ⟨_, rfl⟩
  have hB2 : Below W.heap.size W W2 := by rw [← hW2]; exact ((Below.refl _ W).alloc (Nat.le_refl _) _).alloc (by simp) _
  have hz2' : W2.heap.size = W.heap.size + 2 := by rw [← hW2]; simp
  have hX2 : W2.heap[W.heap.size]? = some (.cells #[.int .i64 rkd, .string rtx, .int .i64 rnm, .slice ka kl kc, .int .i64 rat] 29) := by rw [← hW2]; exact (Below.heap_alloc _ _ _ (by simp)).trans (World.alloc_heap_new W _)
  have hY2 : W2.heap[W.heap.size + 1]? = some (.cells #[.slice none 0 0] 24) := by
    have := World.alloc_heap_new (W.alloc (.cells #[.int .i64 rkd, .string rtx, .int .i64 rnm, .slice ka kl kc, .int .i64 rat] 29)) (.cells #[.slice none 0 0] 24)
    rw [World.size_alloc] at this
    rw [← hW2]; exact this
  have HX2 := hide hX2
  have HY2 := hide hY2
  clear hX2 hY2
  go_enter Tryz.func26, Tryz.ntmps26
  go_wp2
  clear hW2
  go_loopw [5, 14] (fun t5 t14 wr => ∃ i : Nat, i ≤ ts.length ∧ t14 = .int .i64 (i : Int) ∧ t5 = .int .i64 ((1 + szs ts i : Nat) : Int) ∧ Below (W.heap.size + 2) W2 wr) (fun _ t14 _ => ts.length - (intOf t14).toNat)
  case atStart => exact ⟨0, Nat.zero_le _, rfl, rfl, Below.refl _ _⟩
  case round =>
    obtain ⟨i, hil, rfl, rfl, hBr⟩ := hrel
    obtain ⟨w0, hw0⟩ : ∃ w0, w0 = wr := ⟨_, rfl⟩
    subst hw0
    have hBW : Below W.heap.size W w0 := hB2.trans (hBr.mono (by omega))
    have hszm := szs_mono ts hil
    by_cases hlt : i < ts.length
    · have hlt' : (i : Int) < ts.length := by omega
      have hszm' := szs_mono ts (show i + 1 ≤ ts.length from hlt)
      simp only [szs] at hszm'
      rcases (unhide HT).keep hBW hM with h | ⟨tb, to, rfl, htb, htc⟩
      · subst h; simp at hlt
      obtain ⟨tv, dt, hNt⟩ := htc i hlt
      obtain ⟨ta, tc, rfl, _, _⟩ := hNt.len
      have htw : tb < w0.heap.size := by have := hBW.size; omega
      clear htc hNt
      obtain ⟨tl, htl⟩ : ∃ tl, (ts.getD i []).length = tl := ⟨_, rfl⟩
      rw [htl] at dt hszm'
      have HTL := hide htl
      clear htl
      go_wp2
      refine ⟨⟨i + 1, by omega, by go_num, ?_, hBr.alloc (by have := hBr.size; omega) _⟩, by simp [intOf]; omega⟩
      simp only [szs, unhide HTL]
      go_num
    · have hlt' : ¬ (i : Int) < ts.length := by omega
      obtain rfl : i = ts.length := by omega
      obtain ⟨w3, hmk, hown3, hg3⟩ := run_make_one w0 (W.heap.size + 2) i0 _ hi hz0 hz1 rfl (1 + szs ts ts.length) (by omega) (by rw [hz2]; omega) (by unfold maxLen; omega) (by have := hBr.size; omega)
      have hmk' : (Instr.makeSlice 22 (.int .i64 1) (.int .i64 (1 + (szs ts ts.length : Int)))).run Tryz.prog w0 = .ok (.slice (some ⟨w0.heap.size, 0, none⟩) 1 (1 + szs ts ts.length)) w3 := by
        rw [Int.natCast_add] at hmk; exact hmk
      have hb3 : Below (W.heap.size + 2) W2 w3 := hBr.grown hg3 (by have := hBr.size; omega) (fun k hk => by cases hk)
      have HI0 : Hid (MkI W2 (W.heap.size + 2) ts 0 (.slice (some ⟨w0.heap.size, 0, none⟩) 1 (1 + szs ts ts.length)) (.slice none 0 0) w3 []) := ⟨rfl, ⟨hown3, fun e he => by obtain rfl := List.mem_singleton.1 he; exact ⟨Nat.le_refl _, Nat.zero_le _, .inl rfl⟩⟩, World.ownsRow_nil _ _ _ _, (fun e he => by cases he), hb3⟩
      clear hmk hown3 hg3 hb3
      go_wp2
      clear hmk'
      go_loopw [8, 9, 28] (fun t8 t9 t28 wr => ∃ (i : Nat) (es : List NE), i ≤ ts.length ∧ t28 = .int .i64 (i : Int) ∧ MkI W2 (W.heap.size + 2) ts i t8 t9 wr es) (fun _ _ t28 _ => ts.length - (intOf t28).toNat)
      case atStart => exact ⟨0, [], Nat.zero_le _, rfl, unhide HI0⟩
      case round =>
        obtain ⟨i, es, hil2, rfl, hI⟩ := hrel
        obtain ⟨w4, hw4⟩ : ∃ w4, w4 = wr := ⟨_, rfl⟩
        subst hw4
        have HI := hide hI
        have hB4 : Below W.heap.size W w4 := hB2.trans (hI.below.mono (by omega))
        have hz4 : W.heap.size + 2 ≤ w4.heap.size := by have := hI.below.size; omega
        have hml := mk_len ts i
        have hmr := mkr_len ts i
        have hszm2 := szs_mono ts hil2
        have hel : es.length = szs ts i := by rw [← hml, ← hI.map]; simp
        clear hI
        by_cases hlt2 : i < ts.length
        · have hlt2' : (i : Int) < ts.length := by omega
          have hszm' := szs_mono ts (show i + 1 ≤ ts.length from hlt2)
          simp only [szs] at hszm'
          rcases (unhide HT).keep hB4 hM with h | ⟨tb, to, rfl, htb, htc⟩
          · subst h; simp at hlt2
          obtain ⟨tv, dt, hNt⟩ := htc i hlt2
          obtain ⟨ta, tc, rfl, _, _⟩ := hNt.len
          have htw : tb < w4.heap.size := by omega
          have HNT := hide hNt
          clear htc hNt
          obtain ⟨tr, htr⟩ : ∃ tr, ts.getD i [] = tr := ⟨_, rfl⟩
          rw [htr] at dt hszm' HNT
          have HTR := hide htr
          clear htr
          by_cases h0 : tr.length = 0
          · have hmk0 : mk ts (i + 1) = mk ts i := by simp only [mk, unhide HTR, h0, if_true]
            have HM0 := hide hmk0
            rw [h0] at dt
            clear hmk0
            go_wp2
            refine ⟨⟨i + 1, es, by omega, by go_num, ?_⟩, by simp [intOf]; omega⟩
            have hI := unhide HI
            refine ⟨by rw [unhide HM0]; exact hI.map, ⟨hI.own.1.alloc _, fun e he => (hI.own.2 e he).below ((Below.refl _ _).alloc (Nat.le_refl _) _)⟩, by rw [unhide HM0]; exact hI.roots.alloc _, hI.apart, hI.below.alloc (by omega) _⟩
          · have h0' : ((tr.length : Int) == 0) = false := by simp only [beq_eq_false_iff_ne]; omega
            have hmk1 : mk ts (i + 1) = ((mk ts i).1 ++ tr.map (shN (szs ts i + 1 : Nat)), (mk ts i).2 ++ [((szs ts i + 1 : Nat) : Int)]) := by simp only [mk, unhide HTR, h0, if_false, hml]
            have HM1 := hide hmk1
            obtain ⟨n8, hn8⟩ : ∃ n8, szs ts i + 1 = n8 := ⟨_, rfl⟩
            have hlen8 : (⟨⟨0, ⟨#[]⟩, 0, [], 0⟩, none, 0⟩ :: es : List NE).length = n8 := by simp; omega
            obtain ⟨g8, c8, hu8, hg8b, hg8l⟩ := (unhide HI).own.1.form (by simp)
            rw [hlen8] at hu8
            subst hu8
            have hub : ∀ k, u9.ownBlock = some k → k < w4.heap.size := fun k hk => ((unhide HI).roots.lt k hk).2
            have HUB := hide hub
            rw [hn8] at hmk1
            clear hmk1 hub h0
            go_wp2_with (at_builtin; refine wpList_append_lies _ rfl _ _ 27 rfl (W.heap.size + 2) 3 j0 _ 1 8 Tryz.underlying27 hj hy0 hy1 hy2 rfl (by decide) _ _ _ rfl (((unhide HI).roots.alloc _).alloc _) ⟨w4.heap.size + 1, 0, none⟩ 1 1 [.int .i64 (n8 : Int)] rfl rfl ?c1 ?c2 (by decide) ?c3 ?c4 ?c5 _ rfl ?_)
            case c1 =>
              intro j u hj
              have e1 : (w4.alloc (.cells #[.slice ta tr.length tc] 24)).heap.size = w4.heap.size + 1 := by simp
              rw [Addr.add_lit, Nat.zero_add, ← e1, World.cell?_alloc_mark]
              rw [← hj]; simp
            case c2 => intro u hu; simp at hu; rcases hu with rfl; rfl
            case c3 => unfold maxLen; omega
            case c4 => omega
            case c5 => simp; omega
            intro g9 cap9 w6 hown6 hg6 hat6 hlt6
            have hz6 := hg6.size
            simp at hz6
            have hk6 : ∀ k, k < w4.heap.size → some k ≠ u9.ownBlock → w6.heap[k]? = w4.heap[k]? := fun k hk hne => (hg6.block k (by simp; omega) hne).trans ((Below.heap_alloc _ _ _ (by simp; omega)).trans (Below.heap_alloc _ _ _ hk))
            have hkid : w6.heap[w4.heap.size]? = some (.cells #[.slice ta tr.length tc] 24) := by
              refine (hg6.block _ (by simp; omega) (fun e => ?_)).trans ((Below.heap_alloc _ _ _ (by simp)).trans (World.alloc_heap_new w4 _))
              have := unhide HUB _ e.symm
              omega
            have ckid : w6.cell? ⟨w4.heap.size, 0, none⟩ = some (.slice ta tr.length tc) := by rw [Lib.cell_of_heap hkid]; rfl
            have hap := rows_apart (unhide HI).own.1 (unhide HI).roots (by decide)
            have hb6 : Below (W.heap.size + 2) w4 w6 := ⟨hg6.os, hg6.tape, hg6.output, by omega, fun k hk => hk6 k (by omega) (fun e => by have := ((unhide HI).roots.lt k e.symm).1; omega)⟩
            have hg46 : w4.grownBy w6 u9.ownBlock := ⟨hg6.os, hg6.tape, hg6.output, by omega, hk6⟩
            have HO6 : Hid (OwnN w6 (W.heap.size + 2) (.slice (some ⟨g8, 0, none⟩) n8 c8) (⟨⟨0, ⟨#[]⟩, 0, [], 0⟩, none, 0⟩ :: es)) := by
              refine ⟨(unhide HI).own.1.kept hg46 hap, fun e he => ((unhide HI).own.2 e he).keep' fun hne kb ha hl => hk6 kb hl ?_⟩
              rcases List.mem_cons.1 he with rfl | he
              · exact absurd rfl hne
              · exact fun e' => (unhide HI).apart e he hne kb ha e'.symm
            have HR6 := hide hown6
            have HB6 := hide hb6
            have HAT := hide hat6
            clear hown6 hg6 hk6 hkid hap hb6 hg46 hat6
            have hkl : w4.heap.size < w6.heap.size := by omega
            go_wp2_with (go_at_call 42; refine (lay_any (W.heap.size + 2) _ _ _ tr (n8 : Int) M _ (by omega) (by omega) (unhide HO6) ((unhide HNT).keep (unhide HB6) (by omega)) (by omega) (by rw [hlen8]; omega)).mono ?_; rintro e w7 ⟨v8', es2, rfl, hm7, ho7, hb7, hf7, hk7⟩; have HM7 := hide hm7; have HO7 := hide ho7; have HB7 := hide hb7; have HF7 := hide hf7; have HK7 := hide hk7; clear hm7 ho7 hb7 hf7 hk7)
            refine ⟨⟨i + 1, es ++ es2, by omega, by go_num, ?_⟩, by simp [intOf]; omega⟩
            have hI := unhide HI
            have hm1 := unhide HM1
            have hf7 := unhide HF7
            have hb7 := unhide HB7
            have e2 : (mk ts (i + 1)).2 = (mk ts i).2 ++ [(n8 : Int)] := by rw [hm1, hn8]
            have hg67 : w6.grownBy w7 (some g8) := ⟨hb7.os, hb7.tape, hb7.output, hf7.2.2, fun k hk hne => hf7.1 k hk hne⟩
            have hr7 := (unhide HR6).kept hg67 (rows_apart (unhide HR6) (unhide HO6).1 (by decide))
            refine ⟨by rw [hm1, List.map_append, hI.map, unhide HM7, hn8], by have := unhide HO7; simpa using this, ?_, fun e he hne kb ha => ?_, hI.below.trans ((unhide HB6).trans hb7)⟩
            · rw [e2, List.length_append, List.map_append]; exact hr7
            · rcases List.mem_append.1 he with he | he
              · rcases unhide HAT with h | h
                · have := hI.apart e he hne kb ha
                  rw [h] at this
                  simpa [Value.ownBlock] using this
                · have := (hI.own.2 e (by simp [he])).lt hne ha
                  simp [Value.ownBlock]
                  try simp at h
                  omega
              · obtain ⟨kb', ha', hl'⟩ := unhide HK7 e he
                rw [ha'] at ha
                simp only [Option.some.injEq, Addr.mk.injEq, and_true] at ha
                simp [Value.ownBlock]
                omega
        · have hlt2' : ¬ (i : Int) < ts.length := by omega
          obtain rfl : i = ts.length := by omega
          obtain ⟨n8, hn8⟩ : ∃ n8, szs ts ts.length + 1 = n8 := ⟨_, rfl⟩
          have hlen8 : (⟨⟨0, ⟨#[]⟩, 0, [], 0⟩, none, 0⟩ :: es : List NE).length = n8 := by simp; omega
          obtain ⟨g8, c8, hu8, hg8b, hg8l⟩ := (unhide HI).own.1.form (by simp)
          rw [hlen8] at hu8
          subst hu8
          obtain ⟨rs, hrs⟩ : ∃ rs, (mk ts ts.length).2 = rs := ⟨_, rfl⟩
          have hR := (unhide HI).roots
          rw [hrs] at hR
          obtain ⟨a9, c9, hu9, hcc9⟩ : ∃ a9 c9, u9 = .slice a9 rs.length c9 ∧ (rs.length ≤ c9 ∧ c9 ≤ maxLen) := by
            rcases hR.2 with ⟨h, h0⟩ | ⟨gw, cap, cur, h, _, _, h1, h2, _⟩
            · exact ⟨none, 0, by rw [h, h0], by rw [h0]; exact ⟨Nat.le_refl _, Nat.zero_le _⟩⟩
            · exact ⟨_, cap, h, h1, h2⟩
          subst hu9
          have hX4 : w4.heap[W.heap.size]? = _ := ((unhide HI).below.block _ (by omega)).trans (unhide HX2)
          have hY4 : w4.heap[W.heap.size + 1]? = _ := ((unhide HI).below.block _ (by omega)).trans (unhide HY2)
          have cX4 := (cells5 hX4).2.1
          have HX4 := hide hX4
          have HY4 := hide hY4
          have HRR := hide hR
          clear hX4 hY4 hR
          have hn1 : 1 ≤ n8 := by omega
          have HOO : Hid (w4.ownsRow (W.heap.size + 2) 29 5 (.slice (some ⟨g8, 0, none⟩) n8 c8) n8 (flatN (⟨⟨0, ⟨#[]⟩, 0, [], 0⟩, none, 0⟩ :: es))) := by rw [← hlen8]; rw [← hlen8] at HI; exact (unhide HI).own.1
          go_wp2_with (go_at_call 43; refine (clone43 rtx _ (by omega)).mono ?_; rintro e w5 ⟨rfl, hB5⟩; obtain ⟨w6, w7, y1, y2, y3, y4, y5, y6, ⟨b1, b2, b3⟩, ⟨b4, b5, b6⟩, ⟨x0, x1, x2, x3, x4⟩, ⟨⟨q0, p0⟩, f0, e0⟩, ⟨⟨q1, p1⟩, f1, e1⟩, ⟨⟨q2, p2⟩, f2, e2⟩, ⟨⟨q3, p3⟩, f3, e3⟩, ⟨⟨q4, p4⟩, f4, e4⟩, ⟨r0, r1, r2⟩, r3, o6, hkeep, z0, z6, z7, zy1, zy2, zy3, zy4, zy5, zg⟩ := make_end (tx := .string rtx) (ks := .slice a9 rs.length c9) (v := .slice (some ⟨g8, 0, none⟩) n8 c8) (unhide HX4) (unhide HY4) (unhide HOO) hn1 hB5; have z0' : W.heap.size < w5.heap.size := (by omega); have H6 := hide o6; have HKP := hide hkeep; have HB5 := hide hB5; have d1 : g8 < w7.heap.size := (by omega); have d2 : W.heap.size < w6.heap.size := (by omega); have d3 : W.heap.size < w7.heap.size := (by omega); have d4 : g8 < y1.heap.size := (by omega); have d5 : g8 < y2.heap.size := (by omega); have d6 : g8 < y3.heap.size := (by omega); have d7 : g8 < y4.heap.size := (by omega); have d8 : W.heap.size + 1 < y5.heap.size := (by omega); clear o6 hkeep hB5 z0 z6 z7 zy1 zy2 zy3 zy4 zy5 zg)
          have hI := unhide HI
          obtain ⟨k1, k2, k3, k4, k5⟩ := unhide HKP
          have o4 := unhide HOO
          obtain ⟨cur8, h8⟩ : ∃ cur8, w4.heap[g8]? = some (.cells cur8 29 (0, 0)) := by
            rcases o4.2 with ⟨h, _⟩ | ⟨g', cap', cur, h, _, hh, _⟩
            · cases h
            · cases h; exact ⟨cur, hh⟩
          have hkk : ∀ (k : Nat) (cur : Array Value), w4.heap[k]? = some (Obj.cells cur 3 (0, 0)) → y6.heap[k]? = w4.heap[k]? := fun k cur hk => by
            refine k5 k (Array.getElem?_eq_some_iff.1 hk).1 (fun e => ?_) (fun e => ?_) (fun e => ?_)
            · rw [e, unhide HX4] at hk; simp at hk
            · rw [e, unhide HY4] at hk; simp at hk
            · rw [e, h8] at hk; simp at hk
          refine bodyPost_ret (v := .agg #[.slice (some ⟨g8, 0, none⟩) n8 c8]) ?_ rfl ⟨_, ⟨⟨rkd, rtx, rnm, rs, rat⟩, a9, c9⟩ :: es, rfl, ?_, ⟨?_, fun e he => ?_⟩, ?_⟩
          · simp [results, Tryz.results26, go_sem, r3]
          · simp only [List.map_cons, hI.map, makeT, hrs]
          · have e1 : (⟨⟨rkd, rtx, rnm, rs, rat⟩, a9, c9⟩ :: es : List NE).length = n8 := hlen8
            rw [e1]
            exact (unhide H6).mono (by omega)
          · rcases List.mem_cons.1 he with rfl | he
            · refine ⟨hcc9.1, hcc9.2, ?_⟩
              have hR := unhide HRR
              rcases hR.2 with ⟨h, h0⟩ | ⟨gw, cap', cur, h, hb9, hh, _, _, _, htake⟩
              · exact .inl (List.length_eq_zero_iff.1 h0)
              · simp only [Value.slice.injEq, true_and] at h
                refine .inr ⟨gw, cur, h.1, by omega, (hkk gw cur hh).trans hh, fun j hj => ?_⟩
                have hj' : j < rs.length := hj
                have e2 : cur.toList[j]? = (rs.map (Value.int .i64))[j]? := by rw [← htake, List.getElem?_take, if_pos (by omega)]
                rw [Array.getElem?_toList] at e2
                rw [e2]
                simp [hj']
            · exact ((hI.own.2 e (by simp [he])).keep hkk).mono (by omega)
          · refine ⟨k1.trans hB4.os, k2.trans hB4.tape, k3.trans hB4.output, Nat.le_trans hB4.size k4, fun k hk => ?_⟩
            exact (k5 k (by omega) (by omega) (by omega) (by omega)).trans (hB4.block k hk)
end Go.Proofs.YtoffpbaddehncaaGreatDoor
