/- A tree in memory: a row of nodes, each with a row of kids. -/
import Derived.Below
import Derived.Test.YtnnpkomedpjlcaaGreatDoorA1
import Derived.Test.YtnnpkomedpjlcaaGreatDoorT0
namespace Go.Proofs.YtnnpkomedpjlcaaGreatDoor
set_option linter.unusedSimpArgs false
set_option linter.unusedVariables false
open Go.RowKit

/-- A row of whole numbers, in blocks below M. -/
def KidsAt (W : World) (M : Nat) (a : Option Addr) (ks : List Int) : Prop :=
  ks = [] ∨ ∃ b o, a = some ⟨b, o, none⟩ ∧ b < M ∧ ∀ j, j < ks.length → W.cell? ⟨b, o + j, none⟩ = some (.int .i64 (ks.getD j 0))
/-- A node's five cells. -/
def NdAt (W : World) (M b o : Nat) (x : Nd) : Prop :=
  W.cell? ⟨b, o, none⟩ = some (.int .i64 x.kind) ∧ W.cell? ⟨b, o + 1, none⟩ = some (.string x.text) ∧ W.cell? ⟨b, o + 2, none⟩ = some (.int .i64 x.num) ∧
  (∃ a cap, W.cell? ⟨b, o + 3, none⟩ = some (.slice a x.kids.length cap) ∧ x.kids.length ≤ cap ∧ cap ≤ maxLen ∧ KidsAt W M a x.kids) ∧ W.cell? ⟨b, o + 4, none⟩ = some (.int .i64 x.at')
/-- A row of nodes. -/
def Nodes (W : World) (M : Nat) (v : Value) (l : List Nd) : Prop :=
  l.length ≤ 2199023255552 ∧ (∀ j, j < l.length → (nd l j).text.size ≤ 4294967280 ∧ (nd l j).kids.length ≤ 17592186044416) ∧
  ∃ a cap, v = .slice a l.length cap ∧ l.length ≤ cap ∧ cap ≤ maxLen ∧ (l = [] ∨ ∃ b o, a = some ⟨b, o, none⟩ ∧ b < M ∧ ∀ j, j < l.length → NdAt W M b (o + j * 5) (nd l j))

theorem KidsAt.keep {W W' : World} {M N : Nat} {a : Option Addr} {ks : List Int} (h : KidsAt W M a ks) (hB : Below N W W') (hn : M ≤ N) : KidsAt W' M a ks := by
  rcases h with h | ⟨b, o, ha, hb, hc⟩
  · exact .inl h
  · exact .inr ⟨b, o, ha, hb, fun j hj => (hB.cell (p := ⟨b, o + j, none⟩) (Nat.lt_of_lt_of_le hb hn)).trans (hc j hj)⟩
theorem KidsAt.mono {W : World} {M N : Nat} {a : Option Addr} {ks : List Int} (h : KidsAt W M a ks) (hn : M ≤ N) : KidsAt W N a ks := by
  rcases h with h | ⟨b, o, ha, hb, hc⟩
  · exact .inl h
  · exact .inr ⟨b, o, ha, Nat.lt_of_lt_of_le hb hn, hc⟩
theorem NdAt.keep {W W' : World} {M N b o : Nat} {x : Nd} (h : NdAt W M b o x) (hb : b < M) (hB : Below N W W') (hn : M ≤ N) : NdAt W' M b o x := by
  obtain ⟨h0, h1, h2, ⟨a, cap, h3, hc, hm, hk⟩, h4⟩ := h
  have hb' : b < N := Nat.lt_of_lt_of_le hb hn
  exact ⟨(hB.cell (p := ⟨b, o, none⟩) hb').trans h0, (hB.cell (p := ⟨b, o + 1, none⟩) hb').trans h1, (hB.cell (p := ⟨b, o + 2, none⟩) hb').trans h2,
    ⟨a, cap, (hB.cell (p := ⟨b, o + 3, none⟩) hb').trans h3, hc, hm, hk.keep hB hn⟩, (hB.cell (p := ⟨b, o + 4, none⟩) hb').trans h4⟩
theorem NdAt.mono {W : World} {M N b o : Nat} {x : Nd} (h : NdAt W M b o x) (hn : M ≤ N) : NdAt W N b o x := by
  obtain ⟨h0, h1, h2, ⟨a, cap, h3, hc, hm, hk⟩, h4⟩ := h
  exact ⟨h0, h1, h2, ⟨a, cap, h3, hc, hm, hk.mono hn⟩, h4⟩
theorem Nodes.keep {W W' : World} {M N : Nat} {v : Value} {l : List Nd} (h : Nodes W M v l) (hB : Below N W W') (hn : M ≤ N) : Nodes W' M v l := by
  obtain ⟨hl, hs, a, cap, hv, hc, hm, h⟩ := h
  refine ⟨hl, hs, a, cap, hv, hc, hm, ?_⟩
  rcases h with h | ⟨b, o, ha, hb, h⟩
  · exact .inl h
  · exact .inr ⟨b, o, ha, hb, fun j hj => (h j hj).keep hb hB hn⟩
theorem Nodes.mono {W : World} {M N : Nat} {v : Value} {l : List Nd} (h : Nodes W M v l) (hn : M ≤ N) : Nodes W N v l := by
  obtain ⟨hl, hs, a, cap, hv, hc, hm, h⟩ := h
  refine ⟨hl, hs, a, cap, hv, hc, hm, ?_⟩
  rcases h with h | ⟨b, o, ha, hb, h⟩
  · exact .inl h
  · exact .inr ⟨b, o, ha, Nat.lt_of_lt_of_le hb hn, fun j hj => (h j hj).mono hn⟩
/-- One node of a row. -/
theorem Nodes.at {W : World} {M : Nat} {v : Value} {l : List Nd} (h : Nodes W M v l) {n : Nat} (hn : n < l.length) :
    ∃ b o cap ka kc, v = .slice (some ⟨b, o, none⟩) l.length cap ∧ l.length ≤ cap ∧ cap ≤ maxLen ∧ b < M ∧ W.cell? ⟨b, o + n * 5, none⟩ = some (.int .i64 (nd l n).kind) ∧ W.cell? ⟨b, o + n * 5 + 1, none⟩ = some (.string (nd l n).text) ∧ W.cell? ⟨b, o + n * 5 + 2, none⟩ = some (.int .i64 (nd l n).num) ∧
      W.cell? ⟨b, o + n * 5 + 3, none⟩ = some (.slice ka (nd l n).kids.length kc) ∧ W.cell? ⟨b, o + n * 5 + 4, none⟩ = some (.int .i64 (nd l n).at') ∧ (nd l n).kids.length ≤ kc ∧ kc ≤ maxLen ∧ KidsAt W M ka (nd l n).kids := by
  obtain ⟨hl, hs, a, cap, rfl, hc, hm, h⟩ := h
  rcases h with rfl | ⟨b, o, rfl, hb, h⟩
  · simp at hn
  · obtain ⟨h0, h1, h2, ⟨ka, kc, h3, hkc, hkm, hk⟩, h4⟩ := h n hn
    exact ⟨b, o, cap, ka, kc, rfl, hc, hm, hb, h0, h1, h2, h3, h4, hkc, hkm, hk⟩
theorem Nodes.len {W : World} {M : Nat} {v : Value} {l : List Nd} (h : Nodes W M v l) : ∃ a cap, v = .slice a l.length cap ∧ l.length ≤ cap ∧ cap ≤ maxLen := by
  obtain ⟨_, _, a, cap, hv, hc, hm, _⟩ := h
  exact ⟨a, cap, hv, hc, hm⟩

/-- A function is a place: it answers as the place does, and changes nothing. -/
def PlOk (f : Nat) (p : Plc) : Prop := ∀ (W : World) (M : Nat) (v : Value) (l : List Nd) (n : Nat), Nodes W M v l → n < l.length → M ≤ W.heap.size →
  Calls Tryz.prog f #[v, .int .i64 (n : Int)] W fun e w' => e = .returned (.bool (p l n)) ∧ Below W.heap.size W w'
def IntOk (f : Nat) (p : Int → Bool) : Prop := ∀ (W : World) (n : Int), Calls Tryz.prog f #[.int .i64 n] W fun e w' => e = .returned (.bool (p n)) ∧ Below W.heap.size W w'
def TextOk (f : Nat) (p : ByteArray → Bool) : Prop := ∀ (W : World) (s : ByteArray), s.size ≤ 4294967280 → Calls Tryz.prog f #[.string s] W fun e w' => e = .returned (.bool (p s)) ∧ Below W.heap.size W w'
def AllOk (f m : Nat) (p : List Nd → List Int → Bool) : Prop := ∀ (W : World) (M : Nat) (v : Value) (l : List Nd) (ks : List Int) (a : Option Addr) (cap : Nat), Nodes W M v l → KidsAt W M a ks → ks.length ≤ 17592186044416 → m ≤ ks.length → ks.length ≤ cap → cap ≤ maxLen → (∀ k ∈ ks, ins l k = true) → M ≤ W.heap.size →
  Calls Tryz.prog f #[v, .slice a ks.length cap] W fun e w' => e = .returned (.bool (p l ks)) ∧ Below W.heap.size W w'
theorem ret_b {a b : Bool} (h : a = b) : Ending.returned (.bool a) = .returned (.bool b) := by rw [h]
end Go.Proofs.YtnnpkomedpjlcaaGreatDoor
