/- The law HeapArrays: the heap that it builds; a list of numbers that came in. -/
import Derived.OpenShut
import Derived.Test.YtojbkohgngnlaaaDoorHC2
import Derived.Test.YtojbkohgngnlaaaDoorHK
namespace Go.Proofs.YtojbkohgngnlaaaDoor
set_option linter.unusedSimpArgs false
set_option linter.unusedVariables false
set_option maxRecDepth 100000
open Go.RowKit Go.Shelf

/-- A row of numbers that came in. -/
def IntsAt (W : World) (a : Option Addr) (n : Nat) : Prop := n ≤ 9223372036854775807 ∧ ∃ zs : List Int, zs.length = n ∧ ∀ k z, zs[k]? = some z → -9223372036854775808 ≤ z ∧ z ≤ 9223372036854775807 ∧ ∃ ad, a = some ad ∧ ad.block < W.heap.size ∧ W.cell? (ad.add k) = some (.int .i64 z)
theorem ints_nil (W : World) : IntsAt W none 0 := ⟨by decide, [], rfl, fun k z h => by simp at h⟩
theorem ints_some (W : World) {len cap : Nat} (a : Addr) (zs : List Int) (hl : len ≤ zs.length) (hle : len ≤ cap) (hm : cap ≤ maxLen) (hc : ∀ i, i < zs.length → W.cell? (a.add i) = some (.int .i64 (zs.getD i 0))) (hw : ∀ n ∈ zs, (Lit.int .i64 n).wf = true) : IntsAt W (some a) len := by
  refine ⟨by unfold maxLen at hm; omega, zs.take len, by simp; omega, fun k z hk => ?_⟩
  rw [List.getElem?_take] at hk
  split at hk
  · have hkl := (List.getElem?_eq_some_iff.1 hk).1
    have hmem := List.mem_of_getElem? hk
    have hb := bounds_i64 (hw z hmem)
    have hcell := hc k hkl
    rw [List.getD_eq_getElem?_getD, hk] at hcell
    refine ⟨hb.1, hb.2, a, rfl, ?_, hcell⟩
    have := World.block_lt_of_cell? W _ hcell
    have hab : (a.add k).block = a.block := by unfold Addr.add; split <;> rfl
    omega
  · cases hk
def aval (z : Int) : PV := ⟨3, z.tmod 100000, ByteArray.empty⟩
/-- An array of the first k numbers. -/
def AT (zs : List Int) (k : Nat) : Th := ⟨2, none, [], (zs.take k).map aval⟩
def AH (zs : List Int) (k : Nat) : PH := ⟨5000, 1 + k, [AT zs k]⟩
theorem AH_make (zs : List Int) : (⟨5000, 0, []⟩ : PH).make 2 (-1) = AH zs 0 := rfl
theorem AH_cells (zs : List Int) (k : Nat) : cellsH (AH zs k).ths ≤ (AH zs k).used := by
  simp [AH, cellsH, cellsT, AT]; omega
theorem tmod_small (z : Int) : -100000 < z.tmod 100000 ∧ z.tmod 100000 < 100000 := by
  have h1 := Int.tmod_lt_of_pos z (show (0 : Int) < 100000 by decide)
  have h2 := Int.tmod_lt_of_pos (-z) (show (0 : Int) < 100000 by decide)
  rw [Int.neg_tmod] at h2
  omega
theorem clamp_mod (z : Int) : clampN (z.tmod 100000) = z.tmod 100000 := by
  have := tmod_small z
  unfold clampN
  rw [if_neg (by omega), if_neg (by omega)]
theorem AH_lay (zs : List Int) (k : Nat) (z : Int) (hz : zs[k]? = some z) : (AH zs k).lay 0 (AT zs k) ⟨3, z.tmod 100000, ⟨#[]⟩⟩ = AH zs (k + 1) := by
  have e1 : stl (AH zs k) ⟨3, z.tmod 100000, ⟨#[]⟩⟩ = aval z := by simp [stl, clamp_mod, aval]
  unfold PH.lay
  rw [e1]
  unfold AH AT
  have e2 : zs.take (k + 1) = zs.take k ++ [z] := by rw [List.take_add_one, hz]; rfl
  rw [e2]
  simp
  omega
theorem AT_len (zs : List Int) (k : Nat) (h : k ≤ zs.length) : (AT zs k).vals.length = k := by simp [AT]; omega
theorem clamp_200 (k : Int) (h1 : -1 ≤ k) (h2 : k ≤ 200) : clampN k = k := by unfold clampN; rw [if_neg (by omega), if_neg (by omega)]
theorem AT_at (zs : List Int) (hl : zs.length ≤ 200) (k : Nat) (z : Int) (hz : zs[k]? = some z) : atP (AT zs zs.length).vals (clampN (k : Int)) = ⟨3, z.tmod 100000, ByteArray.empty⟩ := by
  have hk := (List.getElem?_eq_some_iff.1 hz).1
  rw [clamp_200 _ (by omega) (by omega)]
  unfold atP
  rw [if_neg (by omega)]
  simp [AT, hz, aval]
theorem AT_out (zs : List Int) (hl : zs.length ≤ 200) (k : Int) (h1 : -1 ≤ k) (h2 : k ≤ zs.length) (hk : k < 0 ∨ zs.length ≤ k) : atP (AT zs zs.length).vals (clampN k) = ⟨0, 0, ByteArray.empty⟩ := by
  rw [clamp_200 _ h1 (by omega)]
  unfold atP
  by_cases h : k < 0
  · rw [if_pos h]; rfl
  · rw [if_neg h, List.getElem?_eq_none (by simp [AT]; omega)]
    rfl
/-- What stands between two calls of a heap's methods. -/
structure Inv (W : World) (hb bR : Nat) (ref : Array Value) (A : World) (l : Ly) (H : PH) : Prop where
  h : HAt A l hb H
  bel : Below W.heap.size W A
  lab : ∀ k, k < W.heap.size → l.L k = 0
  ref : Bx A bR ref 32
  lr : l.L bR = 0
theorem Inv.step {W : World} {hb bR : Nat} {ref : Array Value} {A A' : World} {l l' : Ly} {H H' : PH} (h : Inv W hb bR ref A l H) (h1 : HAt A' l' hb H') (h2 : St l.L l'.L A A') : Inv W hb bR ref A' l' H' :=
  ⟨h1, h.bel.trans (h2.below h.bel.size h.lab), fun k hk => (h2.ext k (Nat.lt_of_lt_of_le hk h.bel.size)).trans (h.lab k hk), h.ref.st h2 h.lr, (h2.ext _ h.ref.lt).trans h.lr⟩
theorem Inv.below {W : World} {hb bR : Nat} {ref : Array Value} {A A' : World} {l : Ly} {H : PH} (h : Inv W hb bR ref A l H) (k : Below A.heap.size A A') : Inv W hb bR ref A' l H :=
  h.step (h.h.below k) (St.of_below k)
end Go.Proofs.YtojbkohgngnlaaaDoor
