/- Trees as plain data: nodes, places, the table of kinds. -/

namespace Go.Proofs.YtnnpkomedpjlcaaGreatDoor
set_option linter.unusedVariables false

/-- A node. -/
structure Nd where
  kind : Int
  text : ByteArray
  num : Int
  kids : List Int
  at' : Int
/-- The empty node. -/
def nd0 : Nd := ⟨0, ⟨#[]⟩, 0, [], 0⟩
def nd (l : List Nd) (n : Nat) : Nd := l.getD n nd0
/-- Is a number that of a node? -/
def ins (l : List Nd) (k : Int) : Bool := decide (0 ≤ k) && decide (k < (l.length : Int))
theorem ins_iff {l : List Nd} {k : Int} : ins l k = true ↔ 0 ≤ k ∧ k.toNat < l.length := by simp [ins]; omega
theorem ins_iff' {l : List Nd} {k : Int} : ins l k = true ↔ 0 ≤ k ∧ k < (l.length : Int) := by simp [ins]
theorem ins_false {l : List Nd} {k : Int} : ins l k = false ↔ ¬ (0 ≤ k ∧ k < (l.length : Int)) := by
  rw [← ins_iff']; simp

def isE (k : Int) : Bool := decide (10 ≤ k) && decide (k ≤ 34) && !(k == 21)
def isT (k : Int) : Bool := decide (80 ≤ k) && decide (k ≤ 87) && !(k == 85)
def stmtK : List Int := [40, 41, 42, 47, 49, 51, 52, 53, 54, 55, 56, 57, 58, 59, 60, 61, 63, 64, 65]
def isS (k : Int) : Bool := stmtK.contains k

/-- A place: does it take the node of that number? -/
abbrev Plc := List Nd → Nat → Bool
def pAny : Plc := fun _ _ => true
def pK (c : Int) : Plc := fun l n => (nd l n).kind == c
def pExpr : Plc := fun l n => isE (nd l n).kind
def pStmt : Plc := fun l n => isS (nd l n).kind
def pTyp : Plc := fun l n => isT (nd l n).kind
def zo (n : Int) : Bool := n == 0 || n == 1
def pParam : Plc := fun l n => (nd l n).kind == 66 && zo (nd l n).num
def pOr (p q : Plc) : Plc := fun l n => p l n || q l n
def pLet : Plc := fun l n => ((nd l n).kind == 40 && (nd l n).num == 0) || pK 1 l n
def pAsg : Plc := fun l n => (nd l n).kind == 17 || (nd l n).kind == 29 || (nd l n).kind == 30
def expK : List Int := [41, 42, 49, 51, 52]
def expOk (k num : Int) : Bool := if k == 40 then num == 1 else if k == 47 then !(num == 1) else expK.contains k
def pExp : Plc := fun l n => expOk (nd l n).kind (nd l n).num
/-- Members over a Name, looked at so many steps far. -/
def mov (l : List Nd) : Nat → Nat → Bool
  | 0, n => (nd l n).kind == 17
  | f + 1, n => match (nd l n).kids with
    | [k] => if (nd l n).kind == 29 && ins l k then mov l f k.toNat else (nd l n).kind == 17
    | _ => (nd l n).kind == 17
def pNew : Plc := fun l n => mov l l.length n
/-- All kids are of a place. -/
def kAll (p : Plc) (l : List Nd) (ks : List Int) : Bool := ks.all fun k => ins l k && p l k.toNat
def pList (p : Plc) : Plc := fun l n => (nd l n).kind == 2 && kAll p l (nd l n).kids
/-- A class's parts, so many constructors ahead of them. -/
def mem (l : List Nd) : Nat → List Int → Bool
  | _, [] => true
  | c, k :: ks => ins l k && (if (nd l k.toNat).kind == 44 || (nd l k.toNat).kind == 45 then mem l c ks else if (nd l k.toNat).kind == 46 then c == 0 && mem l (c + 1) ks else false)
def pMem : Plc := fun l n => (nd l n).kind == 2 && mem l 0 (nd l n).kids

/-- A row of the table: what Text, Num and kids may be. -/
structure RowP where
  text : Option (ByteArray → Bool) := none
  num : Option (Int → Bool) := none
  kids : List Plc := []
  more : Option Plc := none
  all : Option (List Nd → List Int → Bool) := none

def two (l : List Nd) (ks : List Int) : Bool := decide (2 ≤ ks.length)
def pcs (l : List Nd) : List Int → Bool
  | [] => false
  | [k] => (nd l k.toNat).kind == 11
  | k :: _ :: ks => (nd l k.toNat).kind == 11 && pcs l ks
def cof (l : List Nd) (ks : List Int) : Bool := !((nd l (ks.getD 1 0).toNat).kind == 1) || !((nd l (ks.getD 2 0).toNat).kind == 1)

def kZip (l : List Nd) : List Plc → List Int → Bool
  | [], [] => true
  | p :: ps, k :: ks => ins l k && p l k.toNat && kZip l ps ks
  | _, _ => false
def RowP.takesText (r : RowP) (s : ByteArray) : Bool := match r.text with | none => s.size == 0 | some f => f s
def RowP.takesNum (r : RowP) (n : Int) : Bool := match r.num with | none => n == 0 | some f => f n
def RowP.takesKids (r : RowP) (l : List Nd) (ks : List Int) : Bool :=
  (match r.more with | some p => kAll p l ks | none => kZip l r.kids ks) && (match r.all with | none => true | some f => f l ks)
end Go.Proofs.YtnnpkomedpjlcaaGreatDoor
