/- Towards the law: T0 T1. -/
import Derived.Below
import Derived.Test.YtofgphapjjofnaaGreatDoorM0
set_option linter.unusedSimpArgs false
set_option linter.unusedVariables false
set_option maxRecDepth 100000
set_option maxHeartbeats 8000000
namespace Go.Proofs.YtofgphapjjofnaaGreatDoor.Tr
section
structure Nd where
 kind : Int
 text : ByteArray
 num : Int
 kids : List Int
 at' : Int
def nd0 : Nd := ⟨0, ⟨#[]⟩, 0, [], 0⟩
def nd (l : List Nd) (n : Nat) : Nd := l.getD n nd0
def ins (l : List Nd) (k : Int) : Bool := decide (0 ≤ k) && decide (k < (l.length : Int))
theorem ins_iff {l : List Nd} {k : Int} : ins l k = true ↔ 0 ≤ k ∧ k.toNat < l.length := by simp [ins]; omega
theorem ins_iff' {l : List Nd} {k : Int} : ins l k = true ↔ 0 ≤ k ∧ k < (l.length : Int) := by simp [ins]
def isE (k : Int) : Bool := decide (10 ≤ k) && decide (k ≤ 34) && !(k == 21)
def isT (k : Int) : Bool := decide (80 ≤ k) && decide (k ≤ 87) && !(k == 85)
def stmtK : List Int := [40, 41, 42, 47, 49, 51, 52, 53, 54, 55, 56, 57, 58, 59, 60, 61, 63, 64, 65]
def isS (k : Int) : Bool := stmtK.contains k
abbrev Plc := List Nd → Nat → Bool
def pAny : Plc := fun _ _ => true
def pK (c : Int) : Plc := fun l n => (nd l n).kind == c
def pExpr : Plc := fun l n => isE (nd l n).kind
def pStmt : Plc := fun l n => isS (nd l n).kind
def pTyp : Plc := fun l n => isT (nd l n).kind
def zo (n : Int) : Bool := n == 0 || n == 1
def pParam : Plc := fun l n => (nd l n).kind == 66 && zo (nd l n).num
def pOr (p q : Plc) : Plc := fun l n => p l n || q l n
def pLet : Plc := fun l n => ((nd l n).kind == 40 && (nd l n).num == 0) || pK 1 l n
def pAsg : Plc := fun l n => (nd l n).kind == 17 || (nd l n).kind == 29 || (nd l n).kind == 30
def expK : List Int := [41, 42, 49, 51, 52]
def expOk (k num : Int) : Bool := if k == 40 then num == 1 else if k == 47 then !(num == 1) else expK.contains k
def pExp : Plc := fun l n => expOk (nd l n).kind (nd l n).num
def mov (l : List Nd) : Nat → Nat → Bool
 | 0, n => (nd l n).kind == 17
 | f + 1, n => match (nd l n).kids with
   | [k] => if (nd l n).kind == 29 && ins l k then mov l f k.toNat else (nd l n).kind == 17
   | _ => (nd l n).kind == 17
def pNew : Plc := fun l n => mov l l.length n
def kAll (p : Plc) (l : List Nd) (ks : List Int) : Bool := ks.all fun k => ins l k && p l k.toNat
def pList (p : Plc) : Plc := fun l n => (nd l n).kind == 2 && kAll p l (nd l n).kids
def mem (l : List Nd) : Nat → List Int → Bool
 | _, [] => true
 | c, k :: ks => ins l k && (if (nd l k.toNat).kind == 44 || (nd l k.toNat).kind == 45 then mem l c ks else if (nd l k.toNat).kind == 46 then c == 0 && mem l (c + 1) ks else false)
def pMem : Plc := fun l n => (nd l n).kind == 2 && mem l 0 (nd l n).kids
def two (l : List Nd) (ks : List Int) : Bool := decide (2 ≤ ks.length)
def pcs (l : List Nd) : List Int → Bool
 | [] => false
 | [k] => (nd l k.toNat).kind == 11
 | k :: _ :: ks => (nd l k.toNat).kind == 11 && pcs l ks
def cof (l : List Nd) (ks : List Int) : Bool := !((nd l (ks.getD 1 0).toNat).kind == 1) || !((nd l (ks.getD 2 0).toNat).kind == 1)
end
section
open Go.RowKit
def KidsAt (W : World) (M : Nat) (a : Option Addr) (ks : List Int) : Prop :=
 ks = [] ∨ ∃ b o, a = some ⟨b, o, none⟩ ∧ b < M ∧ ∀ j, j < ks.length → W.cell? ⟨b, o + j, none⟩ = some (.int .i64 (ks.getD j 0))
def NdAt (W : World) (M b o : Nat) (x : Nd) : Prop :=
 W.cell? ⟨b, o, none⟩ = some (.int .i64 x.kind) ∧ W.cell? ⟨b, o + 1, none⟩ = some (.string x.text) ∧ W.cell? ⟨b, o + 2, none⟩ = some (.int .i64 x.num) ∧
 (∃ a cap, W.cell? ⟨b, o + 3, none⟩ = some (.slice a x.kids.length cap) ∧ x.kids.length ≤ cap ∧ cap ≤ maxLen ∧ KidsAt W M a x.kids) ∧ W.cell? ⟨b, o + 4, none⟩ = some (.int .i64 x.at')
def Nodes (W : World) (M : Nat) (v : Value) (l : List Nd) : Prop :=
 l.length ≤ 2199023255552 ∧ (∀ j, j < l.length → (nd l j).text.size ≤ 4294967280 ∧ (nd l j).kids.length ≤ 17592186044416) ∧
 ∃ a cap, v = .slice a l.length cap ∧ l.length ≤ cap ∧ cap ≤ maxLen ∧ (l = [] ∨ ∃ b o, a = some ⟨b, o, none⟩ ∧ b < M ∧ ∀ j, j < l.length → NdAt W M b (o + j * 5) (nd l j))
theorem KidsAt.keep {W W' : World} {M N : Nat} {a : Option Addr} {ks : List Int} (h : KidsAt W M a ks) (hB : Below N W W') (hn : M ≤ N) : KidsAt W' M a ks := by
 rcases h with h | ⟨b, o, ha, hb, hc⟩
 · exact .inl h
 · exact .inr ⟨b, o, ha, hb, fun j hj => (hB.cell (p := ⟨b, o + j, none⟩) (Nat.lt_of_lt_of_le hb hn)).trans (hc j hj)⟩
theorem KidsAt.mono {W : World} {M N : Nat} {a : Option Addr} {ks : List Int} (h : KidsAt W M a ks) (hn : M ≤ N) : KidsAt W N a ks := by
 rcases h with h | ⟨b, o, ha, hb, hc⟩
 · exact .inl h
 · exact .inr ⟨b, o, ha, Nat.lt_of_lt_of_le hb hn, hc⟩
theorem NdAt.keep {W W' : World} {M N b o : Nat} {x : Nd} (h : NdAt W M b o x) (hb : b < M) (hB : Below N W W') (hn : M ≤ N) : NdAt W' M b o x := by
 obtain ⟨h0, h1, h2, ⟨a, cap, h3, hc, hm, hk⟩, h4⟩ := h;have hb' : b < N := Nat.lt_of_lt_of_le hb hn
 exact ⟨(hB.cell (p := ⟨b, o, none⟩) hb').trans h0, (hB.cell (p := ⟨b, o + 1, none⟩) hb').trans h1, (hB.cell (p := ⟨b, o + 2, none⟩) hb').trans h2,
  ⟨a, cap, (hB.cell (p := ⟨b, o + 3, none⟩) hb').trans h3, hc, hm, hk.keep hB hn⟩, (hB.cell (p := ⟨b, o + 4, none⟩) hb').trans h4⟩
theorem NdAt.mono {W : World} {M N b o : Nat} {x : Nd} (h : NdAt W M b o x) (hn : M ≤ N) : NdAt W N b o x := by
 obtain ⟨h0, h1, h2, ⟨a, cap, h3, hc, hm, hk⟩, h4⟩ := h;exact ⟨h0, h1, h2, ⟨a, cap, h3, hc, hm, hk.mono hn⟩, h4⟩
theorem Nodes.keep {W W' : World} {M N : Nat} {v : Value} {l : List Nd} (h : Nodes W M v l) (hB : Below N W W') (hn : M ≤ N) : Nodes W' M v l := by
 obtain ⟨hl, hs, a, cap, hv, hc, hm, h⟩ := h;refine ⟨hl, hs, a, cap, hv, hc, hm, ?_⟩;rcases h with h | ⟨b, o, ha, hb, h⟩
 · exact .inl h
 · exact .inr ⟨b, o, ha, hb, fun j hj => (h j hj).keep hb hB hn⟩
theorem Nodes.mono {W : World} {M N : Nat} {v : Value} {l : List Nd} (h : Nodes W M v l) (hn : M ≤ N) : Nodes W N v l := by
 obtain ⟨hl, hs, a, cap, hv, hc, hm, h⟩ := h;refine ⟨hl, hs, a, cap, hv, hc, hm, ?_⟩;rcases h with h | ⟨b, o, ha, hb, h⟩
 · exact .inl h
 · exact .inr ⟨b, o, ha, Nat.lt_of_lt_of_le hb hn, fun j hj => (h j hj).mono hn⟩
theorem Nodes.at {W : World} {M : Nat} {v : Value} {l : List Nd} (h : Nodes W M v l) {n : Nat} (hn : n < l.length) :
 ∃ b o cap ka kc, v = .slice (some ⟨b, o, none⟩) l.length cap ∧ l.length ≤ cap ∧ cap ≤ maxLen ∧ b < M ∧ W.cell? ⟨b, o + n * 5, none⟩ = some (.int .i64 (nd l n).kind) ∧ W.cell? ⟨b, o + n * 5 + 1, none⟩ = some (.string (nd l n).text) ∧ W.cell? ⟨b, o + n * 5 + 2, none⟩ = some (.int .i64 (nd l n).num) ∧
   W.cell? ⟨b, o + n * 5 + 3, none⟩ = some (.slice ka (nd l n).kids.length kc) ∧ W.cell? ⟨b, o + n * 5 + 4, none⟩ = some (.int .i64 (nd l n).at') ∧ (nd l n).kids.length ≤ kc ∧ kc ≤ maxLen ∧ KidsAt W M ka (nd l n).kids := by
 obtain ⟨hl, hs, a, cap, rfl, hc, hm, h⟩ := h;rcases h with rfl | ⟨b, o, rfl, hb, h⟩
 · simp at hn
 · obtain ⟨h0, h1, h2, ⟨ka, kc, h3, hkc, hkm, hk⟩, h4⟩ := h n hn
   exact ⟨b, o, cap, ka, kc, rfl, hc, hm, hb, h0, h1, h2, h3, h4, hkc, hkm, hk⟩
theorem Nodes.len {W : World} {M : Nat} {v : Value} {l : List Nd} (h : Nodes W M v l) : ∃ a cap, v = .slice a l.length cap ∧ l.length ≤ cap ∧ cap ≤ maxLen := by
 obtain ⟨_, _, a, cap, hv, hc, hm, _⟩ := h;exact ⟨a, cap, hv, hc, hm⟩
def PlOk (f : Nat) (p : Plc) : Prop := ∀ (W : World) (M : Nat) (v : Value) (l : List Nd) (n : Nat), Nodes W M v l → n < l.length → M ≤ W.heap.size →
 Calls Tryz.prog f #[v, .int .i64 (n : Int)] W fun e w' => e = .returned (.bool (p l n)) ∧ Below W.heap.size W w'
def IntOk (f : Nat) (p : Int → Bool) : Prop := ∀ (W : World) (n : Int), Calls Tryz.prog f #[.int .i64 n] W fun e w' => e = .returned (.bool (p n)) ∧ Below W.heap.size W w'
def TextOk (f : Nat) (p : ByteArray → Bool) : Prop := ∀ (W : World) (s : ByteArray), s.size ≤ 4294967280 → Calls Tryz.prog f #[.string s] W fun e w' => e = .returned (.bool (p s)) ∧ Below W.heap.size W w'
def AllOk (f m : Nat) (p : List Nd → List Int → Bool) : Prop := ∀ (W : World) (M : Nat) (v : Value) (l : List Nd) (ks : List Int) (a : Option Addr) (cap : Nat), Nodes W M v l → KidsAt W M a ks → ks.length ≤ 17592186044416 → m ≤ ks.length → ks.length ≤ cap → cap ≤ maxLen → (∀ k ∈ ks, ins l k = true) → M ≤ W.heap.size →
 Calls Tryz.prog f #[v, .slice a ks.length cap] W fun e w' => e = .returned (.bool (p l ks)) ∧ Below W.heap.size W w'
theorem ret_b {a b : Bool} (h : a = b) : Ending.returned (.bool a) = .returned (.bool b) := by rw [h]
end
end Go.Proofs.YtofgphapjjofnaaGreatDoor.Tr
