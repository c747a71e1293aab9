/- An arena's row of types; kind, sizeOver. -/
import Derived.LoopN
import Derived.Test.YticdaphajanbbaaGreatDoorKB
import Derived.Test.YticdaphajanbbaaGreatDoorKC
namespace Go.Proofs.YticdaphajanbbaaGreatDoor
set_option linter.unusedSimpArgs false
set_option linter.unusedVariables false
set_option maxRecDepth 100000
set_option maxHeartbeats 1000000
open Go.RowKit

def kindP (L : List Kt) (id : Int) : Int := if id = -1 then 0 else ((L[id.toNat]?).map (·.kind)).getD 0
def szP (L : List Kt) (id : Int) : Int := ((L[id.toNat]?).map (·.size)).getD 0
def sizeP (L : List Kt) : List Int → Int → Int
  | [], acc => acc
  | p :: ps, acc => if p = -1 then 501 else sizeP L ps (acc + szP L p)
/-- A number of a type. -/
def Is (L : List Kt) (id : Int) : Prop := 0 ≤ id ∧ id < (L.length : Int)
/-- .. or of one that is too large. -/
def IsX (L : List Kt) (id : Int) : Prop := id = -1 ∨ Is L id
def SzOk (L : List Kt) : Prop := ∀ k ∈ L, 1 ≤ k.size ∧ k.size ≤ 500
theorem Is.get {L : List Kt} {id : Int} (h : Is L id) : ∃ (i : Nat) (k : Kt), id = (i : Int) ∧ i < L.length ∧ L[i]? = some k := by
  refine ⟨id.toNat, L[id.toNat]'(by have := h.1; have := h.2; omega), by have := h.1; omega, by have := h.1; have := h.2; omega, List.getElem?_eq_getElem _⟩
variable {P : Program} {lo M : Nat} {mo : Option Nat} {dv : Value} {L : List Kt} {W : World}
theorem AAt.types (h : AAt P lo M mo dv L W) (hL : 0 < L.length) : ∃ g cap, ∃ vs : List (Value × Value × Value), W.cell? ⟨M, 0, none⟩ = some (.slice (some ⟨g, 0, none⟩) L.length cap) ∧ L.length ≤ cap ∧ cap ≤ maxLen ∧ lo ≤ g ∧ tyOf W g = 75 ∧ vs.length = L.length ∧ ∀ (i : Nat) (k : Kt) (v : Value × Value × Value), L[i]? = some k → vs[i]? = some v → KtIn W k v ∧ ∀ (c : Nat) (u : Value), (ktC k v)[c]? = some u → W.cell? ⟨g, i * 8 + c, none⟩ = some u := by
  obtain ⟨tv, hM, vs, h1, h2, h3⟩ := h.row
  rcases h2.2 with ⟨_, e⟩ | ⟨g, cap, cur, e, hg, hh, hn, hc, hcs, hx⟩
  · omega
  · subst e
    refine ⟨g, cap, vs, by simp [World.cell?, hM], hn, hc, hg, by simp [tyOf, hh], h1, fun i k v hk hv => ⟨h3 i k v hk hv, fun c u hu => ?_⟩⟩
    have := h2.cells (g := g) rfl (i * 8 + c) u (ktsC_get L vs i k v h1 hk hv c u hu)
    rw [Addr.add_lit, Nat.zero_add] at this
    exact this
theorem AAt.one (h : AAt P lo M mo dv L W) {i : Nat} {k : Kt} (hk : L[i]? = some k) : ∃ g cap v, W.cell? ⟨M, 0, none⟩ = some (.slice (some ⟨g, 0, none⟩) L.length cap) ∧ i < L.length ∧ L.length ≤ 1000000 ∧ g < W.heap.size ∧ KtIn W k v ∧ ∀ (c : Nat) (u : Value), (ktC k v)[c]? = some u → W.cell? ⟨g, i * 8 + c, none⟩ = some u := by
  have hi : i < L.length := (List.getElem?_eq_some_iff.1 hk).1
  obtain ⟨g, cap, vs, h1, h2, h3, h4, h5, h6, h7⟩ := h.types (by omega)
  have hv : vs[i]? = some (vs[i]'(by omega)) := List.getElem?_eq_getElem _
  obtain ⟨h8, h9⟩ := h7 i k _ hk hv
  exact ⟨g, cap, _, h1, hi, h.len, ty_lt h5 (by omega), h8, h9⟩
theorem kind_any (h : AAt Tryz.prog lo M mo dv L W) (id : Int) (hi : IsX L id) : Calls Tryz.prog 74 #[.pointer (some ⟨M, 0, none⟩), .int .i64 id] W fun e w' => e = .returned (.int .i64 (kindP L id)) ∧ w' = W := by
  have hM := h.lt
  rcases hi with rfl | hi
  · clear h
    go_enter Tryz.func74, Tryz.ntmps74
    go_wp2
    go_ret
    exact ⟨rfl, rfl⟩
  · obtain ⟨i, k, rfl, hil, hk⟩ := hi.get
    obtain ⟨g, cap, v, c0, h1, h2, h3, h4, h5⟩ := h.one hk
    have c1 := h5 0 _ rfl
    have hne : ((i : Int) == -1) = false := by simp <;> omega
    have hp : kindP L (i : Int) = k.kind := by simp [kindP, hk] <;> omega
    rw [hp]
    clear h hi h4 h5 hk hp
    rw [Nat.add_zero] at c1
    go_enter Tryz.func74, Tryz.ntmps74
    go_wp2
    go_ret
    exact ⟨rfl, rfl⟩
end Go.Proofs.YticdaphajanbbaaGreatDoor
