/- core.alone in general; what Strip lays, purely. -/
import Derived.Test.YtnnpkomedpjlcaaGreatDoorKF
import Derived.Test.YtnnpkomedpjlcaaGreatDoorKG
import Derived.Test.YtnnpkomedpjlcaaGreatDoorKH
import Derived.Test.YtnnpkomedpjlcaaGreatDoorKI
namespace Go.Proofs.YtnnpkomedpjlcaaGreatDoor
set_option linter.unusedSimpArgs false
set_option linter.unusedVariables false
open Go.RowKit Go.Shelf

/-- A Param that is Public or Readonly. -/
def markP (n : Int) : Bool := bits BinOp.and IntKind.i64 n 6 != 0
/-- What is left of a node, its kids aside. -/
def aloneN (x : Nd) : Nd :=
  if typeK x.kind = true then ⟨1, ⟨#[]⟩, 0, [], x.at'⟩
  else if x.kind = 44 then ⟨44, x.text, 0, [], x.at'⟩
  else if x.kind = 66 then ⟨66, x.text, if markP x.num = true then 2 else 0, [], x.at'⟩
  else ⟨x.kind, x.text, x.num, [], x.at'⟩
theorem alone_any (W : World) (x : Nd) (a : Option Addr) (c : Nat) (hs : x.text.size ≤ 281474976710656) : Calls Tryz.prog 42 #[ndV x a c] W fun e w' => e = .returned (ndV (aloneN x) none 0) ∧ Below W.heap.size W w' := by
  obtain ⟨k, tx, nm, ks, at'⟩ := x
  by_cases ht : typeK k = true
  · have h := alone_type W k tx nm at' a ks.length c hs ht
    have e : aloneN ⟨k, tx, nm, ks, at'⟩ = ⟨1, ⟨#[]⟩, 0, [], at'⟩ := by simp [aloneN, ht]
    rw [e]
    exact h
  · have ht' : typeK k = false := by simpa using ht
    by_cases h44 : k = 44
    · subst h44
      have h := alone_field W tx nm at' a ks.length c hs
      have e : aloneN ⟨44, tx, nm, ks, at'⟩ = ⟨44, tx, 0, [], at'⟩ := by simp [aloneN, ht']
      rw [e]
      exact h
    · by_cases h66 : k = 66
      · subst h66
        cases hm : markP nm with
        | true =>
          have h := alone_mark W tx nm at' a ks.length c hs hm
          have e : aloneN ⟨66, tx, nm, ks, at'⟩ = ⟨66, tx, 2, [], at'⟩ := by simp [aloneN, ht', hm]
          rw [e]
          exact h
        | false =>
          have h := alone_bare W tx nm at' a ks.length c hs hm
          have e : aloneN ⟨66, tx, nm, ks, at'⟩ = ⟨66, tx, 0, [], at'⟩ := by simp [aloneN, ht', hm]
          rw [e]
          exact h
      · have h := alone_rest W k tx nm at' a ks.length c hs ht' h44 h66
        have e : aloneN ⟨k, tx, nm, ks, at'⟩ = ⟨k, tx, nm, [], at'⟩ := by simp [aloneN, ht', h44, h66]
        rw [e]
        exact h

/-- What Strip lays of kids, one behind the other, from a place on: where each stands, and the nodes. -/
def layK (one : Nat → Nat → List Nd) : List Int → Nat → List Int × List Nd
  | [], _ => ([], [])
  | k :: ks, p => ((p : Int) :: (layK one ks (p + (one k.toNat p).length)).1, one k.toNat p ++ (layK one ks (p + (one k.toNat p).length)).2)
/-- What Strip lays of a node at a place. -/
def layF (l : List Nd) : Nat → Nat → Nat → List Nd
  | 0, _, _ => []
  | f + 1, n, p => { aloneN (nd l (inn l n)) with kids := (layK (layF l f) ((nd l (inn l n)).kids.filter fun k => !leftP (ruleF (nd l n).kind) l k.toNat) (p + 1)).1 } :: (layK (layF l f) ((nd l (inn l n)).kids.filter fun k => !leftP (ruleF (nd l n).kind) l k.toNat) (p + 1)).2
/-- What Strip leaves of a tree. -/
def stripP (l : List Nd) : List Nd := layF l l.length 0 0
end Go.Proofs.YtnnpkomedpjlcaaGreatDoor
