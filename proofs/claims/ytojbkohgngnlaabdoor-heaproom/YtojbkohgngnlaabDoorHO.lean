/- A list of numbers that came in. -/
import Derived.OpenShut
import Derived.Test.YtojbkohgngnlaabDoorHK
namespace Go.Proofs.YtojbkohgngnlaabDoor
set_option linter.unusedSimpArgs false
set_option linter.unusedVariables false
set_option maxRecDepth 100000
open Go.RowKit Go.Shelf

/-- A row of numbers that came in. -/
def IntsAt (W : World) (a : Option Addr) (n : Nat) : Prop := n ≤ 9223372036854775807 ∧ ∃ zs : List Int, zs.length = n ∧ ∀ k z, zs[k]? = some z → -9223372036854775808 ≤ z ∧ z ≤ 9223372036854775807 ∧ ∃ ad, a = some ad ∧ ad.block < W.heap.size ∧ W.cell? (ad.add k) = some (.int .i64 z)
theorem ints_nil (W : World) : IntsAt W none 0 := ⟨by decide, [], rfl, fun k z h => by simp at h⟩
theorem ints_some (W : World) {len cap : Nat} (a : Addr) (zs : List Int) (hl : len ≤ zs.length) (hle : len ≤ cap) (hm : cap ≤ maxLen) (hc : ∀ i, i < zs.length → W.cell? (a.add i) = some (.int .i64 (zs.getD i 0))) (hw : ∀ n ∈ zs, (Lit.int .i64 n).wf = true) : IntsAt W (some a) len := by
  refine ⟨by unfold maxLen at hm; omega, zs.take len, by simp; omega, fun k z hk => ?_⟩
  rw [List.getElem?_take] at hk
  split at hk
  · have hkl := (List.getElem?_eq_some_iff.1 hk).1
    have hmem := List.mem_of_getElem? hk
    have hb := bounds_i64 (hw z hmem)
    have hcell := hc k hkl
    rw [List.getD_eq_getElem?_getD, hk] at hcell
    refine ⟨hb.1, hb.2, a, rfl, ?_, hcell⟩
    have := World.block_lt_of_cell? W _ hcell
    have hab : (a.add k).block = a.block := by unfold Addr.add; split <;> rfl
    omega
  · cases hk
/-- What stands between two calls of a heap's methods. -/
structure Inv (W : World) (hb bR : Nat) (ref : Array Value) (A : World) (l : Ly) (H : PH) : Prop where
  h : HAt A l hb H
  bel : Below W.heap.size W A
  lab : ∀ k, k < W.heap.size → l.L k = 0
  ref : Bx A bR ref 35
  lr : l.L bR = 0
theorem Inv.step {W : World} {hb bR : Nat} {ref : Array Value} {A A' : World} {l l' : Ly} {H H' : PH} (h : Inv W hb bR ref A l H) (h1 : HAt A' l' hb H') (h2 : St l.L l'.L A A') : Inv W hb bR ref A' l' H' :=
  ⟨h1, h.bel.trans (h2.below h.bel.size h.lab), fun k hk => (h2.ext k (Nat.lt_of_lt_of_le hk h.bel.size)).trans (h.lab k hk), h.ref.st h2 h.lr, (h2.ext _ h.ref.lt).trans h.lr⟩
theorem Inv.below {W : World} {hb bR : Nat} {ref : Array Value} {A A' : World} {l : Ly} {H : PH} (h : Inv W hb bR ref A l H) (k : Below A.heap.size A A') : Inv W hb bR ref A' l H :=
  h.step (h.h.below k) (St.of_below k)
end Go.Proofs.YtojbkohgngnlaabDoor
