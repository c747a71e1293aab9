/- The heap as data, and how it lies in memory. -/
import Derived.OwnWalk
import Derived.Maps.OwnSet
import Derived.Maps.Views
import Derived.Maps.Keyed
import Derived.Test.YtdgocaokmmhenaaGreatDoorV0c
namespace Go.Proofs.YtdgocaokmmhenaaGreatDoor
set_option linter.unusedSimpArgs false
set_option linter.unusedVariables false
set_option maxRecDepth 100000
open Go.RowKit

/-- A value; a thing: its kind (1 object, 2 array, 3 function, 4 class), what is behind it, its members in order, its values; a heap. -/
structure PV where
  k : Int
  n : Int
  t : ByteArray
structure Th where
  kind : Nat
  beh : Option Nat
  slots : List (ByteArray × PV)
  vals : List PV
structure PH where
  room : Nat
  used : Nat
  ths : List Th
/-- Whose each block is (0: nobody's), and where each thing lies. -/
structure Ly where
  L : Nat → Nat
  bx : Nat → Nat
def PV.cells (v : PV) : List Value := [.int .i64 v.k, .int .i64 v.n, .string v.t]
def PV.agg (v : PV) : Value := .agg (Vc v.k v.n v.t)
def PV.und : PV := ⟨0, 0, ByteArray.empty⟩
def tyP (k : Nat) : Nat := if k = 1 then 70 else if k = 2 then 109 else if k = 3 then 123 else 126
def tyB (k : Nat) : Nat := if k = 1 then 122 else if k = 2 then 115 else if k = 3 then 125 else 128
def ptr (b : Nat) : Value := .pointer (some ⟨b, 0, none⟩)
def ifv (l : Ly) (i : Nat) (t : Th) : Value := .iface (tyP t.kind) (ptr (l.bx i))
def ifs (l : Ly) (ths : List Th) : List Value := ths.mapIdx (ifv l)
def bpv (l : Ly) : Option Nat → Value
  | none => .pointer none
  | some j => ptr (l.bx j)
def eqB (a b : ByteArray) : Bool := decide (a.data.toList = b.data.toList)
/-- What a member is. -/
def look : List (ByteArray × PV) → ByteArray → Option PV
  | [], _ => none
  | x :: s, k => if eqB x.1 k then some x.2 else look s k
def put : List (ByteArray × PV) → ByteArray → PV → List (ByteArray × PV)
  | [], k, v => [(k, v)]
  | x :: s, k, v => if eqB x.1 k then (x.1, v) :: s else x :: put s k v
def keyL (s : ByteArray) : Lit := .string s.data.toList
def vD (v : PV) : DataW Unit := .agg [.lit (.int .i64 v.k), .lit (.int .i64 v.n), .lit (.string v.t.data.toList)]
def vElem : Value → Option (DataW Unit × List MemPlace)
  | .agg ⟨[.int .i64 k, .int .i64 n, .string t]⟩ => some (.agg [.lit (.int .i64 k), .lit (.int .i64 n), .lit (.string t.data.toList)], [])
  | _ => none
theorem vElem_mk (v : PV) : vElem v.agg = some (vD v, []) := rfl
theorem ba_ext {a b : ByteArray} (h : a.data.toList = b.data.toList) : a = b := by
  cases a; cases b; simp at h; simp [h]
theorem vElem_inv {x : Value} {v : PV} {ps : List MemPlace} (h : vElem x = some (vD v, ps)) : x = v.agg := by
  unfold vElem at h
  split at h
  · rename_i k n t
    simp [vD] at h
    obtain ⟨⟨rfl, rfl, h3⟩, _⟩ := h
    have : t = v.t := ba_ext (by simpa using h3)
    subst this
    rfl
  · cases h
/-- What a map says of a thing's members. -/
structure MapD (D : DataW Unit) (s : List (ByteArray × PV)) : Prop where
  tidy : Maps.Tidy D
  size : Maps.size D = s.length
  has : ∀ k, Maps.has D (keyL k) = (look s k).isSome
  at' : ∀ k v, look s k = some v → ∀ z, D.atKey (keyL k) z = vD v
def MapAt (w : World) (m : Nat) (s : List (ByteArray × PV)) : Prop := ∃ D, w.ownsMap Tryz.prog 9 vElem m s.length D ∧ MapD D s
theorem eqB_iff {a b : ByteArray} : eqB a b = true ↔ a = b := by
  unfold eqB
  rw [decide_eq_true_eq]
  exact ⟨ba_ext, fun e => by rw [e]⟩
theorem eqB_self (a : ByteArray) : eqB a a = true := eqB_iff.2 rfl
theorem eqB_false {a b : ByteArray} : eqB a b = false ↔ a ≠ b := by
  rw [← Bool.not_eq_true, eqB_iff]
theorem keyL_ne {a b : ByteArray} (h : a ≠ b) : keyL a ≠ keyL b := by
  intro e; simp [keyL] at e; exact h (ba_ext (by simp [e]))
theorem look_put_same (s : List (ByteArray × PV)) (k : ByteArray) (v : PV) : look (put s k v) k = some v := by
  induction s with
  | nil => simp [put, look, eqB_self]
  | cons x s ih =>
    cases e : eqB x.1 k <;> simp [put, look, e, ih]
theorem look_put_other (s : List (ByteArray × PV)) (k k' : ByteArray) (v : PV) (hne : k' ≠ k) : look (put s k v) k' = look s k' := by
  induction s with
  | nil => simp [put, look, eqB_false.2 (Ne.symm hne)]
  | cons x s ih =>
    cases e : eqB x.1 k
    · simp [put, look, e, ih]
    · have : eqB x.1 k' = false := eqB_false.2 (fun h => hne (h.symm.trans (eqB_iff.1 e)))
      simp [put, look, e, this]
theorem put_length (s : List (ByteArray × PV)) (k : ByteArray) (v : PV) : (put s k v).length = if (look s k).isSome then s.length else s.length + 1 := by
  induction s with
  | nil => simp [put, look]
  | cons x s ih =>
    cases e : eqB x.1 k
    · simp only [put, look, e, List.length_cons, ih, Bool.false_eq_true, if_false]
      split <;> simp
    · simp [put, look, e]
theorem put_keys (s : List (ByteArray × PV)) (k : ByteArray) (v : PV) : (put s k v).map (·.1) = if (look s k).isSome then s.map (·.1) else s.map (·.1) ++ [k] := by
  induction s with
  | nil => simp [put, look]
  | cons x s ih =>
    cases e : eqB x.1 k
    · simp only [put, look, e, List.map_cons, ih, Bool.false_eq_true, if_false]
      split <;> simp
    · simp [put, look, e]
theorem MapD.nil : MapD (.map []) [] := ⟨Maps.tidy_empty, rfl, fun _ => rfl, fun _ _ h => by cases h⟩
theorem MapD.put {D : DataW Unit} {s : List (ByteArray × PV)} (h : MapD D s) (k : ByteArray) (v : PV) : MapD (D.put (keyL k) (vD v)) (put s k v) where
  tidy := h.tidy.put (k := keyL k) (by simp [WideAt.IsKeyLit, keyL]) _
  size := by rw [Maps.size_put h.tidy, put_length, h.has, h.size]
  has := fun k' => by
    by_cases e : k' = k
    · subst e
      rw [Maps.has_put_same h.tidy.isMap (by simp [WideAt.IsKeyLit, keyL]), look_put_same]; rfl
    · rw [Maps.has_put_other (keyL_ne e), look_put_other _ _ _ _ e, h.has]
  at' := fun k' v' hl z => by
    by_cases e : k' = k
    · subst e
      rw [look_put_same] at hl
      cases hl
      exact Maps.atKey_put_same h.tidy.isMap (by simp [WideAt.IsKeyLit, keyL]) _ _
    · rw [look_put_other _ _ _ _ e] at hl
      rw [Maps.atKey_put_other (keyL_ne e)]
      exact h.at' _ _ hl z
/-- A call that writes into the heap's own blocks and new ones alone. -/
structure St (L L' : Nat → Nat) (W W' : World) : Prop where
  os : W'.os = W.os
  tape : W'.tape = W.tape
  output : W'.output = W.output
  size : W.heap.size ≤ W'.heap.size
  ext : ∀ k, k < W.heap.size → L' k = L k
  block : ∀ k, k < W.heap.size → L k = 0 → W'.heap[k]? = W.heap[k]?
theorem St.refl (L : Nat → Nat) (W : World) : St L L W W := ⟨rfl, rfl, rfl, Nat.le_refl _, fun _ _ => rfl, fun _ _ _ => rfl⟩
theorem St.trans {L L' L'' : Nat → Nat} {W W' W'' : World} (h : St L L' W W') (k : St L' L'' W' W'') : St L L'' W W'' :=
  ⟨k.os.trans h.os, k.tape.trans h.tape, k.output.trans h.output, Nat.le_trans h.size k.size,
    fun j hj => (k.ext j (Nat.lt_of_lt_of_le hj h.size)).trans (h.ext j hj),
    fun j hj e => (k.block j (Nat.lt_of_lt_of_le hj h.size) ((h.ext j hj).trans e)).trans (h.block j hj e)⟩
theorem St.of_below {L : Nat → Nat} {W W' : World} (h : Below W.heap.size W W') : St L L W W' :=
  ⟨h.os, h.tape, h.output, h.size, fun _ _ => rfl, fun k hk _ => h.block k hk⟩
theorem St.below {L L' : Nat → Nat} {W W' : World} (h : St L L' W W') {N : Nat} (hN : N ≤ W.heap.size) (h0 : ∀ k, k < N → L k = 0) : Below N W W' :=
  ⟨h.os, h.tape, h.output, h.size, fun k hk => h.block k (Nat.lt_of_lt_of_le hk hN) (h0 k hk)⟩
theorem Bx.st {L L' : Nat → Nat} {W W' : World} {b t : Nat} {cs : Array Value} (h : Bx W b cs t) (k : St L L' W W') (h0 : L b = 0) : Bx W' b cs t := (k.block b h.lt h0).trans h
theorem row_keep {w w' : World} {b e s n : Nat} {v : Value} {xs : List Value} (h : w.ownsRow b e s v n xs) (hk : ∀ g, v.ownBlock = some g → w'.heap[g]? = w.heap[g]?) : w'.ownsRow b e s v n xs := by
  refine ⟨h.1, ?_⟩
  rcases h.2 with hn | ⟨g, cap, cur, rfl, hb, hgg, rest⟩
  · exact .inl hn
  · exact .inr ⟨g, cap, cur, rfl, hb, (hk g rfl).trans hgg, rest⟩
theorem map_keep {w w' : World} {m : Nat} {s : List (ByteArray × PV)} (h : MapAt w m s) (hk : w'.heap[m]? = w.heap[m]?) : MapAt w' m s := by
  obtain ⟨D, ⟨es, clock, hb, rest⟩, hD⟩ := h
  exact ⟨D, ⟨es, clock, hk.trans hb, rest⟩, hD⟩
theorem MapAt.lt {w : World} {m : Nat} {s : List (ByteArray × PV)} (h : MapAt w m s) : m < w.heap.size := by
  obtain ⟨D, h, _⟩ := h; exact h.lt
/-- An array. -/
structure ArAt (w : World) (l : Ly) (i : Nat) (t : Th) (sv : Value) : Prop where
  box : Bx w (l.bx i) #[sv] 115
  row : w.ownsRow 0 23 3 sv t.vals.length (t.vals.flatMap PV.cells)
  lr : ∀ g, sv.ownBlock = some g → l.L g = 3 * i + 5
/-- An object, a function, a class. -/
structure ObAt (w : World) (l : Ly) (i : Nat) (t : Th) (mv : Option Nat) (kv : Value) : Prop where
  box : Bx w (l.bx i) #[bpv l t.beh, .map mv, kv] (tyB t.kind)
  map : ∀ m, mv = some m → MapAt w m t.slots ∧ l.L m = 3 * i + 4
  nomap : mv = none → t.slots = []
  row : w.ownsRow 0 9 1 kv t.slots.length (t.slots.map fun x => .string x.1)
  lr : ∀ g, kv.ownBlock = some g → l.L g = 3 * i + 5
structure ThAt (w : World) (l : Ly) (i : Nat) (t : Th) : Prop where
  lb : l.L (l.bx i) = 3 * i + 3
  kd : 1 ≤ t.kind ∧ t.kind ≤ 4
  arr : t.kind = 2 → t.slots = [] ∧ t.beh = none ∧ ∃ sv, ArAt w l i t sv
  obj : t.kind ≠ 2 → t.vals = [] ∧ ∃ mv kv, ObAt w l i t mv kv
  beh : ∀ j, t.beh = some j → j < i
def cellsT (t : Th) : Nat := 1 + t.slots.length + t.vals.length
def cellsH (l : List Th) : Nat := (l.map cellsT).sum
structure HAt (w : World) (l : Ly) (hb : Nat) (H : PH) : Prop where
  box : ∃ sv, Bx w hb #[.int .i64 H.room, .int .i64 H.used, sv] 36 ∧ w.ownsRow 0 68 1 sv H.ths.length (ifs l H.ths) ∧ ∀ g, sv.ownBlock = some g → l.L g = 2
  lh : l.L hb = 1
  fresh : ∀ k, w.heap.size ≤ k → l.L k = 0
  th : ∀ (i : Nat) (t : Th), H.ths[i]? = some t → ThAt w l i t
  obj : ∀ (i : Nat) (t : Th) (j : Nat), H.ths[i]? = some t → t.beh = some j → ∃ u : Th, H.ths[j]? = some u ∧ (u.kind = 1 ∨ u.kind = 4)
  room : H.room ≤ 1048576
  sum : cellsH H.ths ≤ H.used
  used : H.used ≤ H.room
theorem cells_len (l : List Th) : l.length ≤ cellsH l := by
  induction l with
  | nil => simp [cellsH]
  | cons t l ih => simp [cellsH, cellsT] at ih ⊢; omega
theorem cells_at : ∀ (l : List Th) (i : Nat) (t : Th), l[i]? = some t → cellsT t ≤ cellsH l
  | [], i, t, h => by simp at h
  | u :: l, 0, t, h => by simp at h; subst h; simp [cellsH]
  | u :: l, i + 1, t, h => by
    have := cells_at l i t (by simpa using h)
    simp [cellsH] at this ⊢
    omega
end Go.Proofs.YtdgocaokmmhenaaGreatDoor
