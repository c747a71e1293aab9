/- Towards the law: PP PA PB PC PD. -/
import Derived.Below
import Derived.BigQuiet
import Derived.BigRegion
import Derived.Deep.QuietTactic
import Derived.Lib.Bytes
import Derived.LoopN
import Derived.OwnWalkIn
import Derived.RangeFuncBox
import Derived.Shelf.Abstract
import Derived.StillTailTactics
import Derived.WalkMore
import Derived.Test.YtofgphapjjofnaaGreatDoorM0
set_option linter.unusedSimpArgs false
set_option linter.unusedVariables false
set_option maxRecDepth 100000
set_option maxHeartbeats 8000000
namespace Go.Proofs.YtofgphapjjofnaaGreatDoor
section
abbrev Tok := Int × List Int × Nat × Nat
structure PN where
 kind : Int
 text : List Int
 num : Int
 kids : List Nat
 loc : Nat
 deriving DecidableEq
structure PS where
 n : Nat
 tk : Tok
 nodes : List PN
 nc : List Bool
structure Cx where
 toks : List Tok
 cl : List Nat
inductive Res (α : Type) where
 | ok (a : α) (s : PS)
 | no (s : PS)
 | out
abbrev Pr (α : Type) := PS → Res α
def bd {α β : Type} (p : Pr α) (k : α → Pr β) : Pr β := fun s => match p s with
 | .ok a s' => k a s'
 | .no s' => .no s'
 | .out => .out
def rt {α : Type} (a : α) : Pr α := fun s => .ok a s
def refuseP {α : Type} : Pr α := fun s => .no s
def mark (t : Tok) : List Int := if t.1 = 9 ∨ t.1 = 2 then t.2.1 else []
def isT (t : Tok) (x : List Int) : Bool := mark t == x
def isP (x : List Int) (s : PS) : Bool := isT s.tk x
def tok0 : Tok := (0, [], 0, 0)
def behindP (c : Cx) (far : Nat) (s : PS) : Tok := c.toks.getD (min (s.n + far) (c.toks.length - 1)) tok0
def nextP (c : Cx) : Pr Tok := fun s => if s.n + 1 < c.toks.length then .ok s.tk { s with tk := behindP c 1 s, n := s.n + 1 } else .out
def takeP (c : Cx) (x : List Int) : Pr Bool := fun s => if isP x s then bd (nextP c) (fun _ => rt true) s else .ok false s
def wantP (c : Cx) (x : List Int) : Pr Unit := bd (takeP c x) fun b => if b then rt () else refuseP
def wantKindP (c : Cx) (k : Int) : Pr Tok := fun s => if s.tk.1 = k then nextP c s else .no s
def nameP (c : Cx) : Pr (List Int) := bd (wantKindP c 1) fun t => rt t.2.1
def splitT (t : Tok) : Option Tok := if t.1 = 9 ∧ 2 ≤ t.2.1.length ∧ t.2.1.getD 0 0 = 62 then some (9, t.2.1.tail, t.2.2.1 + 1, t.2.2.2) else none
def wantAngleP (c : Cx) : Pr Unit := fun s => match splitT s.tk with
 | some t => .ok () { s with tk := t }
 | none => wantP c [62] s
def putP (x : PN) : Pr Nat := fun s => if s.nodes.length < 1000000 then .ok s.nodes.length { s with nodes := s.nodes ++ [x] } else .out
def capP {α : Type} (l : List α) : Pr Unit := fun s => if l.length < 1000000 then .ok () s else .out
def listP (kids : List Nat) : Pr Nat := putP ⟨2, [], 0, kids, 0⟩
def atP : Pr Nat := fun s => .ok s.tk.2.2.1 s
def kindP : Pr Int := fun s => .ok s.tk.1 s
def markP : Pr (List Int) := fun s => .ok (mark s.tk) s
def testP (f : PS → Bool) : Pr Bool := fun s => .ok (f s) s
def decV (l : List Int) : Int := l.foldl (fun a d => a * 10 + (d - 48)) 0
def numberP (c : Cx) : Pr Int := bd (wantKindP c 3) fun t => rt (decV t.2.1)
def strP (c : Cx) : Pr Nat := bd (nextP c) fun t => putP ⟨11, t.2.1, 0, [], t.2.2.1⟩
def aloneP (c : Cx) (k : Int) : Pr Nat := bd (nextP c) fun t => putP ⟨k, [], 0, [], t.2.2.1⟩
def paramsAheadP (c : Cx) (s : PS) : Bool := isP [40] s && (c.cl.getD s.n 0 != 0) && isT (c.toks.getD (c.cl.getD s.n 0 + 1) tok0) [61, 62]
def levelsL : List (List (List Int)) := [[[124, 124]], [[38, 38]], [[124]], [[94]], [[38]], [[61, 61, 61], [33, 61, 61]], [[60], [60, 61], [62], [62, 61], [105, 110], [97, 115]], [[60, 60], [62, 62], [62, 62, 62]], [[43], [45]], [[42], [37]]]
inductive Cmd where
 | expr | arrow | body | cond | binary (l : Nat) | binLoop (l at' left : Nat) | unary | postfix | postLoop (at' x : Nat) | args | primary | template | tempLoop (kids : List Nat) | pair | newThing | newLoop (at' begin' cls : Nat) | super
 | several (one : Cmd) | sevLoop (one : Cmd) (kids : List Nat) | enclosed (o e : List Int) (one : Cmd) | braced (one : Cmd) (between : List (List Int)) | braLoop (one : Cmd) (between : List (List Int)) (kids : List Nat) | filled (one : Cmd) | filLoop (one : Cmd) (kids : List Nat)
 | maybe (x : List Int) (one : Cmd) | until (x : List Int) (one : Cmd)
 | typeParams | typeParam | params (one : Cmd) | param | memberParam | marked (at' : Nat) (marks : Int)
 | anyType | anyLoop (at' : Nat) (parts : List Nat) | arrayType | arrLoop (at' x : Nat) | plainType | funcType (between : List Int) | typeRef | refLoop (at' : Nat) (names : List (List Int)) | typeArgs | callTypes | objectType | piece
 | program | progLoop (kids : List Nat) | block | stmt | bare (k : Int) | evaluated (k : Int) (at' : Nat) | variable (num : Int) | inParens | choice | otherwise | while' | loop | forOf (at' : Nat) | try' | caught
 | declaration | callable (k : Int) (at' : Nat) | cls | base | refs (x : List Int) | classPart | field | enum | enumMember | namespace' | spacePart | exported | face | alias
def one1 (p : Pr Nat) : Pr (List Nat) := bd p fun x => rt [x]
def hd0 (l : List Nat) : Nat := l.getD 0 0
def isAssignL : List (List Int) := [[61], [43, 61], [45, 61], [42, 61], [37, 61]]
def declL : List (List Int) := [[102, 117, 110, 99, 116, 105, 111, 110], [99, 108, 97, 115, 115], [101, 110, 117, 109], [110, 97, 109, 101, 115, 112, 97, 99, 101], [105, 110, 116, 101, 114, 102, 97, 99, 101], [116, 121, 112, 101]]
def joinDots : List (List Int) → List Int
 | [] => []
 | [a] => a
 | a :: b :: l => a ++ [46] ++ joinDots (b :: l)
def bodyP (c : Cx) (par : Cmd → Pr (List Nat)) : Cmd → Pr (List Nat)
 | .expr => bd (testP fun s => if s.tk.1 = 1 then isT (behindP c 1 s) [61, 62] else isP [60] s || paramsAheadP c s) fun a => if a then par .arrow else
  bd atP fun at' => bd (par .cond) fun l => bd markP fun m => if isAssignL.contains m = false then rt l else
  fun s => if s.nodes.length ≤ hd0 l then .out else if (s.nodes.getD (hd0 l) ⟨0, [], 0, [], 0⟩).kind = 17 ∨ (s.nodes.getD (hd0 l) ⟨0, [], 0, [], 0⟩).kind = 29 ∨ (s.nodes.getD (hd0 l) ⟨0, [], 0, [], 0⟩).kind = 30 then
   (bd (nextP c) fun t => bd (par .expr) fun r => one1 (putP ⟨26, t.2.1, 0, [hd0 l, hd0 r], at'⟩)) s else .no s
 | .arrow => fun _ => .out
 | .body => fun _ => .out
 | .cond => bd atP fun at' => bd (par (.binary 0)) fun t => bd (takeP c [63]) fun b => if b = false then rt t else
  bd (par .expr) fun y => bd (wantP c [58]) fun _ => bd (par .expr) fun n => one1 (putP ⟨25, [], 0, [hd0 t, hd0 y, hd0 n], at'⟩)
 | .binary l => if l = levelsL.length then par .unary else bd atP fun at' => bd (par (.binary (l + 1))) fun x => par (.binLoop l at' (hd0 x))
 | .binLoop l at' left => bd markP fun m => if (levelsL.getD l []).contains m = false then rt [left] else
  bd (nextP c) fun t => if t.2.1 = [97, 115] then bd (par .anyType) fun ty => bd (putP ⟨33, [], 0, [left, hd0 ty], at'⟩) fun x => par (.binLoop l at' x)
  else bd (par (.binary (l + 1))) fun r => bd (putP ⟨24, t.2.1, 0, [left, hd0 r], at'⟩) fun x => par (.binLoop l at' x)
 | .unary => bd atP fun at' => bd markP fun m => if [[33], [45], [126], [116, 121, 112, 101, 111, 102]].contains m then bd (nextP c) fun t => bd (par .unary) fun x => one1 (putP ⟨23, t.2.1, 0, [hd0 x], at'⟩) else par .postfix
 | .postfix => bd atP fun at' => bd (par .primary) fun x => par (.postLoop at' (hd0 x))
 | .postLoop at' x => bd (takeP c [46]) fun b => if b then bd (nameP c) fun nm => bd (putP ⟨29, nm, 0, [x], at'⟩) fun y => par (.postLoop at' y) else
  bd (takeP c [91]) fun b => if b then bd (par .expr) fun i => bd (wantP c [93]) fun _ => bd (putP ⟨30, [], 0, [x, hd0 i], at'⟩) fun y => par (.postLoop at' y) else
  bd (takeP c [33]) fun b => if b then bd (putP ⟨34, [], 0, [x], at'⟩) fun y => par (.postLoop at' y) else
  bd (par .callTypes) fun ty => if ty = [] then rt [x] else bd (par .args) fun a => bd (putP ⟨27, [], 0, [x, hd0 ty, hd0 a], at'⟩) fun y => par (.postLoop at' y)
 | .args => bd (par (.enclosed [40] [41] .expr)) fun l => one1 (listP l)
 | .primary => bd atP fun at' => bd kindP fun k =>
  if k = 3 then bd (numberP c) fun v => one1 (putP ⟨10, [], v, [], at'⟩)
  else if k = 4 then one1 (strP c)
  else if k = 5 ∨ k = 6 then par .template
  else if k = 1 then bd (nameP c) fun nm => one1 (putP ⟨17, nm, 0, [], at'⟩)
  else bd markP fun m =>
   if m = [116, 114, 117, 101] then one1 (aloneP c 13) else if m = [102, 97, 108, 115, 101] then one1 (aloneP c 14) else if m = [110, 117, 108, 108] then one1 (aloneP c 15) else if m = [117, 110, 100, 101, 102, 105, 110, 101, 100] then one1 (aloneP c 16) else if m = [116, 104, 105, 115] then one1 (aloneP c 18)
   else if m = [91] then bd (par (.enclosed [91] [93] .expr)) fun l => one1 (putP ⟨19, [], 0, l, at'⟩)
   else if m = [123] then bd (par (.braced .pair [[44]])) fun l => one1 (putP ⟨20, [], 0, l, at'⟩)
   else if m = [110, 101, 119] then par .newThing else if m = [115, 117, 112, 101, 114] then par .super
   else bd (wantP c [40]) fun _ => bd (par .expr) fun x => bd (wantP c [41]) fun _ => rt x
 | .template => fun _ => .out
 | .tempLoop kids => fun _ => .out
 | .pair => fun _ => .out
 | .newThing => fun _ => .out
 | .newLoop at' bg x => fun _ => .out
 | .super => fun _ => .out
 | .several one => bd (par one) fun x => par (.sevLoop one [hd0 x])
 | .sevLoop one kids => bd (capP kids) fun _ => bd (takeP c [44]) fun b => if b then bd (par one) fun x => par (.sevLoop one (kids ++ [hd0 x])) else rt kids
 | .enclosed o e one => bd (wantP c o) fun _ => bd (takeP c e) fun b => if b then rt [] else bd (par (.several one)) fun l => bd (wantP c e) fun _ => rt l
 | .braced one bt => fun _ => .out
 | .braLoop one bt kids => fun _ => .out
 | .filled one => fun _ => .out
 | .filLoop one kids => fun _ => .out
 | .maybe x one => fun _ => .out
 | .until x one => fun _ => .out
 | .typeParams => fun _ => .out
 | .typeParam => fun _ => .out
 | .params one => fun _ => .out
 | .param => fun _ => .out
 | .memberParam => fun _ => .out
 | .marked at' m => fun _ => .out
 | .anyType => bd atP fun at' => bd (takeP c [124]) fun _ => bd (par .arrayType) fun x => par (.anyLoop at' [hd0 x])
 | .anyLoop at' parts => bd (capP parts) fun _ => bd (takeP c [124]) fun b => if b then bd (par .arrayType) fun x => par (.anyLoop at' (parts ++ [hd0 x])) else if parts.length = 1 then rt [hd0 parts] else one1 (putP ⟨87, [], 0, parts, at'⟩)
 | .arrayType => bd atP fun at' => bd (par .plainType) fun x => par (.arrLoop at' (hd0 x))
 | .arrLoop at' x => bd (takeP c [91]) fun b => if b then bd (wantP c [93]) fun _ => bd (putP ⟨83, [], 0, [x], at'⟩) fun y => par (.arrLoop at' y) else rt [x]
 | .plainType => bd atP fun at' => bd (testP (paramsAheadP c)) fun pa => if pa then par (.funcType [61, 62]) else
  bd (takeP c [40]) fun b => if b then bd (par .anyType) fun x => bd (wantP c [41]) fun _ => rt x else
  bd (testP (isP [123])) fun b => if b then par .objectType else
  bd (takeP c [45]) fun b => if b then bd (numberP c) fun v => one1 (putP ⟨81, [], -v, [], at'⟩) else
  bd kindP fun k => if k = 3 then bd (numberP c) fun v => one1 (putP ⟨81, [], v, [], at'⟩) else if k = 4 then bd (nextP c) fun t => one1 (putP ⟨82, t.2.1, 0, [], at'⟩) else par .typeRef
 | .funcType bt => fun _ => .out
 | .typeRef => bd atP fun at' => bd markP fun m => if [[110, 117, 108, 108], [117, 110, 100, 101, 102, 105, 110, 101, 100], [116, 114, 117, 101], [102, 97, 108, 115, 101]].contains m then bd (nextP c) fun t => bd (listP []) fun l => one1 (putP ⟨80, t.2.1, 0, [l], at'⟩) else bd (nameP c) fun nm => par (.refLoop at' [nm])
 | .refLoop at' names => bd (capP names) fun _ => bd (takeP c [46]) fun b => if b then bd (nameP c) fun nm => par (.refLoop at' (names ++ [nm])) else bd (par .typeArgs) fun a => one1 (putP ⟨80, joinDots names, 0, [hd0 a], at'⟩)
 | .typeArgs => bd (testP (isP [60])) fun b => if b = false then one1 (listP []) else fun s0 =>
  (bd (nextP c) fun _ => bd (par (.several .anyType)) fun l => bd (wantAngleP c) fun _ => fun s => one1 (listP l) { s with nc := s.nc.set s0.n (isP [40] s == false) }) { s0 with nc := s0.nc.set s0.n true }
 | .callTypes => fun s => if (isP [40] s = false ∧ isP [60] s = false) ∨ s.nc.getD s.n false = true then .ok [] s else
  match par .typeArgs s with
  | .ok l s' => if isP [40] s' then .ok l s' else .ok [] { s with nc := s'.nc }
  | .no s' => .ok [] { s with nc := s'.nc }
  | .out => .out
 | .objectType => fun _ => .out
 | .piece => fun _ => .out
 | .program => par (.progLoop [])
 | .progLoop kids => bd (capP kids) fun _ => bd kindP fun k => if k = 10 then one1 (putP ⟨3, [], 0, kids, 0⟩) else bd (par .stmt) fun x => par (.progLoop (kids ++ [hd0 x]))
 | .block => fun _ => .out
 | .stmt => bd markP fun m =>
  if m = [59] then one1 (aloneP c 65) else if m = [123] then par .block else if m = [108, 101, 116] then par (.variable 0)
  else if m = [99, 111, 110, 115, 116] then bd (testP fun s => isT (behindP c 1 s) [101, 110, 117, 109]) fun b => if b then par .enum else par (.variable 1)
  else if m = [105, 102] then par .choice else if m = [119, 104, 105, 108, 101] then par .while' else if m = [102, 111, 114] then par .loop
  else if m = [114, 101, 116, 117, 114, 110] then bd (nextP c) fun t => bd (par (.until [59] .expr)) fun x => one1 (putP ⟨57, [], 0, [hd0 x], t.2.2.1⟩)
  else if m = [98, 114, 101, 97, 107] then par (.bare 58) else if m = [99, 111, 110, 116, 105, 110, 117, 101] then par (.bare 59)
  else if m = [116, 104, 114, 111, 119] then bd (nextP c) fun t => par (.evaluated 60 t.2.2.1)
  else if m = [116, 114, 121] then par .try'
  else if declL.contains m then par .declaration else bd atP fun at' => par (.evaluated 64 at')
 | .bare k => fun _ => .out
 | .evaluated k at' => bd (par .expr) fun x => bd (wantP c [59]) fun _ => one1 (putP ⟨k, [], 0, [hd0 x], at'⟩)
 | .variable num => fun _ => .out
 | .inParens => fun _ => .out
 | .choice => fun _ => .out
 | .otherwise => fun _ => .out
 | .while' => fun _ => .out
 | .loop => fun _ => .out
 | .forOf at' => fun _ => .out
 | .try' => fun _ => .out
 | .caught => fun _ => .out
 | .declaration => fun _ => .out
 | .callable k at' => fun _ => .out
 | .cls => fun _ => .out
 | .base => fun _ => .out
 | .refs x => fun _ => .out
 | .classPart => fun _ => .out
 | .field => fun _ => .out
 | .enum => fun _ => .out
 | .enumMember => fun _ => .out
 | .namespace' => fun _ => .out
 | .spacePart => fun _ => .out
 | .exported => fun _ => .out
 | .face => fun _ => .out
 | .alias => fun _ => .out
def parP (c : Cx) : Nat → Cmd → Pr (List Nat)
 | 0, _ => fun _ => .out
 | f + 1, x => bodyP c (parP c f) x
def clF : List Tok → Nat → List Nat → List Nat → List Nat
 | [], _, _, cl => cl
 | t :: l, i, op, cl => if t.1 = 6 ∨ isT t [40] ∨ isT t [91] ∨ isT t [123] then clF l (i + 1) (i :: op) cl else match op with
   | [] => clF l (i + 1) [] cl
   | o :: op' => if t.1 = 8 ∨ isT t [41] ∨ isT t [93] ∨ isT t [125] then clF l (i + 1) op' (cl.set o i) else clF l (i + 1) (o :: op') cl
def clL (l : List Tok) : List Nat := clF l 0 [] (List.replicate l.length 0)
def layP (nodes : List PN) : Nat → Nat → List PN → List PN × Nat
 | 0, _, t => (t, 0)
 | f + 1, n, t =>
   let x := nodes.getD n ⟨0, [], 0, [], 0⟩
   let r := x.kids.foldl (fun (a : List PN × List Nat) k => let y := layP nodes f k a.1; (y.1, a.2 ++ [y.2])) (t ++ [x], [])
   (r.1.set t.length { x with kids := r.2 }, t.length)
end
section
open Go.RowKit Go.Shelf
def tkV (t : Tok) : Value := .agg #[.int .i64 t.1, .string (strOfNums t.2.1), .int .i64 (t.2.2.1 : Int), .int .i64 (t.2.2.2 : Int)]
def Bys (l : List Int) : Prop := ∀ z ∈ l, 0 ≤ z ∧ z ≤ 255
def Str (x : ByteArray) (l : List Int) : Prop := x = strOfNums l ∧ Bys l
theorem bytes_inj : ∀ {a b : List Int}, Bys a → Bys b → Lib.bytesOf a = Lib.bytesOf b → a = b
 | [], [], _, _, _ => rfl
 | [], _ :: _, _, _, h => by simp [Lib.bytesOf] at h
 | _ :: _, [], _, _, h => by simp [Lib.bytesOf] at h
 | x :: a, y :: b, ha, hb, h => by
   simp only [Lib.bytesOf, List.map_cons, List.cons.injEq] at h;have h1 := ha x (List.mem_cons_self ..);have h2 := hb y (List.mem_cons_self ..);have e := congrArg UInt8.toNat h.1;simp only [UInt8.toNat_ofNat'] at e;have hxy : x = y := by omega
   rw [hxy, bytes_inj (fun z hz => ha z (List.mem_cons_of_mem _ hz)) (fun z hz => hb z (List.mem_cons_of_mem _ hz)) h.2]
theorem str_eq {a b : List Int} (ha : Bys a) (hb : Bys b) : ((strOfNums a).toList == (strOfNums b).toList) = (a == b) := by
 rw [Lib.strOfNums_toList, Lib.strOfNums_toList];by_cases h : a = b
 · subst h; simp
 · have h2 : ¬ Lib.bytesOf a = Lib.bytesOf b := fun e => h (bytes_inj ha hb e)
   rw [beq_eq_false_iff_ne.2 h, beq_eq_false_iff_ne.2 h2]
theorem mark_bys {t : Tok} (h : Bys t.2.1) : Bys (mark t) := by
 unfold mark;split
 · exact h
 · intro z hz; cases hz
theorem mark_any (t : Tok) (W : World) : Calls Tryz.prog 50 #[tkV t] W fun e w' => e = .returned (.string (strOfNums (mark t))) ∧ Below W.heap.size W w' := by
 obtain ⟨k, tx, a, e⟩ := t;unfold tkV mark;simp only;obtain ⟨S, hS⟩ : ∃ S, strOfNums tx = S := ⟨_, rfl⟩;by_cases h9 : k = 9
 · subst h9
   rw [if_pos (.inl rfl), hS];go_enter Tryz.func50, Tryz.ntmps50;go_wp2;go_ret;exact ⟨rfl, (Below.refl _ W).alloc NL _⟩
 have b9 : (k == 9) = false := by simpa using h9
 by_cases h2 : k = 2
 · subst h2
   rw [if_pos (.inr rfl), hS];go_enter Tryz.func50, Tryz.ntmps50;go_wp2;go_ret;exact ⟨rfl, (Below.refl _ W).alloc NL _⟩
 have b2 : (k == 2) = false := by simpa using h2
 rw [if_neg (by omega), hS];go_enter Tryz.func50, Tryz.ntmps50;go_wp2;go_ret;exact ⟨rfl, (Below.refl _ W).alloc NL _⟩
theorem is_any (t : Tok) (ht : Bys t.2.1) (x : ByteArray) (l : List Int) (hx : Str x l) (W : World) : Calls Tryz.prog 62 #[tkV t, .string x] W fun e w' => e = .returned (.bool (isT t l)) ∧ Below W.heap.size W w' := by
 obtain ⟨rfl, hl⟩ := hx;have hB0 : Below W.heap.size W (W.alloc (.cells #[.int .i64 t.1, .string (strOfNums t.2.1), .int .i64 (t.2.2.1 : Int), .int .i64 (t.2.2.2 : Int)] 40)) := (Below.refl _ W).alloc NL _;have HM := Hi (mark_any t (W.alloc (.cells #[.int .i64 t.1, .string (strOfNums t.2.1), .int .i64 (t.2.2.1 : Int), .int .i64 (t.2.2.2 : Int)] 40)));have he := str_eq (mark_bys ht) hl;have HE : Hid (((strOfNums (mark t)).toList == (strOfNums l).toList) = isT t l) := he;unfold tkV at HM ⊢;obtain ⟨S, hS⟩ : ∃ S, strOfNums t.2.1 = S := ⟨_, rfl⟩;obtain ⟨X, hX⟩ : ∃ X, strOfNums l = X := ⟨_, rfl⟩;obtain ⟨Y, hY⟩ : ∃ X, strOfNums (mark t) = X := ⟨_, rfl⟩;rw [hS] at HM hB0 ⊢;rw [hY] at HM HE;rw [hX] at HE ⊢;have HB0 := Hi hB0;clear he hS hX hY hB0;go_enter Tryz.func62, Tryz.ntmps62;go_wp2_with (go_at_call 50; refine (U HM).mono ?_)
 rintro e w1 ⟨rfl, hB1⟩
 have HB1 := Hi ((U HB0).trans (hB1.mono (by simp)));clear hB1;go_wp2;go_ret;refine ⟨?_, U HB1⟩;rw [U HE];rfl
def rdC (tv : Value) (n : Nat) (t : Tok) (nv lv cv bv : Value) : Array Value := #[tv, .int .i64 (n : Int), .int .i64 t.1, .string (strOfNums t.2.1), .int .i64 (t.2.2.1 : Int), .int .i64 (t.2.2.2 : Int), nv, lv, cv, bv]
def RdAt (W : World) (M : Nat) (tv : Value) (n : Nat) (t : Tok) (nv lv cv bv : Value) : Prop := W.heap[M]? = some (.cells (rdC tv n t nv lv cv bv) 72)
theorem RdAt.lt {W : World} {M : Nat} {tv : Value} {n : Nat} {t : Tok} {nv lv cv bv : Value} (h : RdAt W M tv n t nv lv cv bv) : M < W.heap.size := (Array.getElem?_eq_some_iff.1 h).1
theorem RdAt.tok {W : World} {M : Nat} {tv : Value} {n : Nat} {t : Tok} {nv lv cv bv : Value} (h : RdAt W M tv n t nv lv cv bv) : W.cell? ⟨M, 2, none⟩ = some (.int .i64 t.1) ∧ W.cell? ⟨M, 3, none⟩ = some (.string (strOfNums t.2.1)) ∧ W.cell? ⟨M, 4, none⟩ = some (.int .i64 (t.2.2.1 : Int)) ∧ W.cell? ⟨M, 5, none⟩ = some (.int .i64 (t.2.2.2 : Int)) := by
 have h' : W.heap[M]? = some (.cells (rdC tv n t nv lv cv bv) 72) := h;simp [World.cell?, h', rdC]
theorem RdAt.two {W : World} {M : Nat} {tv : Value} {n : Nat} {t : Tok} {nv lv cv bv : Value} (h : RdAt W M tv n t nv lv cv bv) : W.cell? ⟨M, 0, none⟩ = some tv ∧ W.cell? ⟨M, 1, none⟩ = some (.int .i64 (n : Int)) := by
 have h' : W.heap[M]? = some (.cells (rdC tv n t nv lv cv bv) 72) := h;simp [World.cell?, h', rdC]
theorem RdAt.free {W : World} {M : Nat} {tv : Value} {n : Nat} {t : Tok} {nv lv cv bv : Value} (h : RdAt W M tv n t nv lv cv bv) (o : Nat) : W.frozen? ⟨M, o, none⟩ = false := by
 have h' : W.heap[M]? = some (.cells (rdC tv n t nv lv cv bv) 72) := h;simp [World.frozen?, h']
theorem RdAt.keep {W W' : World} {M : Nat} {tv : Value} {n : Nat} {t : Tok} {nv lv cv bv : Value} (h : RdAt W M tv n t nv lv cv bv) (hk : W'.heap[M]? = W.heap[M]?) : RdAt W' M tv n t nv lv cv bv := hk.trans h
theorem ris_any (M : Nat) (tv : Value) (n : Nat) (t : Tok) (nv lv cv bv : Value) (W : World) (hR : RdAt W M tv n t nv lv cv bv) (ht : Bys t.2.1) (x : ByteArray) (l : List Int) (hx : Str x l) : Calls Tryz.prog 92 #[.pointer (some ⟨M, 0, none⟩), .string x] W fun e w' => e = .returned (.bool (isT t l)) ∧ Below W.heap.size W w' := by
 obtain ⟨c2, c3, c4, c5⟩ := hR.tok;have HI := Hi (is_any t ht x l hx W);unfold tkV at HI;obtain ⟨S, hS⟩ : ∃ S, strOfNums t.2.1 = S := ⟨_, rfl⟩;rw [hS] at HI c3;clear hS hx hR;go_enter Tryz.func92, Tryz.ntmps92;go_wp2_with (go_at_call 62; refine (U HI).mono ?_)
 rintro e w1 ⟨rfl, hB1⟩
 have HB1 := Hi hB1;clear hB1;go_wp2;go_ret;exact ⟨rfl, U HB1⟩
def TkRow (W : World) (tv : Value) (l : List Tok) : Prop := ∃ tb cap, tv = .slice (some ⟨tb, 0, none⟩) l.length cap ∧ l.length ≤ cap ∧ cap ≤ maxLen ∧ 0 < l.length ∧ l.length ≤ 100000 ∧ ∀ j t, l[j]? = some t → W.cell? ⟨tb, j * 4, none⟩ = some (.int .i64 t.1) ∧ W.cell? ⟨tb, j * 4 + 1, none⟩ = some (.string (strOfNums t.2.1)) ∧ W.cell? ⟨tb, j * 4 + 2, none⟩ = some (.int .i64 (t.2.2.1 : Int)) ∧ W.cell? ⟨tb, j * 4 + 3, none⟩ = some (.int .i64 (t.2.2.2 : Int))
structure FrP (S0 : Nat → Prop) (W A : World) : Prop where
 os : A.os = W.os
 tape : A.tape = W.tape
 output : A.output = W.output
 size : W.heap.size ≤ A.heap.size
 block : ∀ k, k < W.heap.size → ¬ S0 k → A.heap[k]? = W.heap[k]?
theorem FrP.refl (S0 : Nat → Prop) (W : World) : FrP S0 W W := ⟨rfl, rfl, rfl, NL, fun _ _ _ => rfl⟩
theorem FrP.trans {S0 : Nat → Prop} {A B C : World} (h : FrP S0 A B) (k : FrP S0 B C) : FrP S0 A C :=
 ⟨k.os.trans h.os, k.tape.trans h.tape, k.output.trans h.output, Nat.le_trans h.size k.size, fun i hi hs => (k.block i (Nat.lt_of_lt_of_le hi h.size) hs).trans (h.block i hi hs)⟩
theorem FrP.below {S0 : Nat → Prop} {A B C : World} (h : FrP S0 A B) (k : Below B.heap.size B C) : FrP S0 A C :=
 ⟨k.os.trans h.os, k.tape.trans h.tape, k.output.trans h.output, Nat.le_trans h.size k.size, fun i hi hs => (k.block i (Nat.lt_of_lt_of_le hi h.size)).trans (h.block i hi hs)⟩
theorem FrP.set {S0 : Nat → Prop} {A B : World} (h : FrP S0 A B) (b j : Nat) (v : Value) (hb : S0 b) : FrP S0 A (B.setCell ⟨b, j, none⟩ v) :=
 ⟨h.os, h.tape, h.output, by simpa [World.setCell] using h.size, fun i hi hs => (Below.heap_setCell B ⟨b, j, none⟩ v i (fun e => hs (by have e' : i = b := e; subst e'; exact hb))).trans (h.block i hi hs)⟩
theorem FrP.alloc {S0 : Nat → Prop} {A B : World} (h : FrP S0 A B) (o : Obj) : FrP S0 A (B.alloc o) := h.below ((Below.refl _ B).alloc NL o)
theorem set4 {W : World} {b : Nat} {x0 x1 x2 x3 : Value} (h : W.heap[b]? = some (.cells #[x0, x1, x2, x3] 40)) (y0 y1 y2 y3 : Value) : ((((W.setCell ⟨b, 0, none⟩ y0).setCell ⟨b, 1, none⟩ y1).setCell ⟨b, 2, none⟩ y2).setCell ⟨b, 3, none⟩ y3).heap[b]? = some (.cells #[y0, y1, y2, y3] 40) := by
 simp [World.setCell, Array.getElem?_modify, h]
theorem cells4 {W : World} {b : Nat} {x0 x1 x2 x3 : Value} (h : W.heap[b]? = some (.cells #[x0, x1, x2, x3] 40)) : W.cell? ⟨b, 0, none⟩ = some x0 ∧ W.cell? ⟨b, 1, none⟩ = some x1 ∧ W.cell? ⟨b, 2, none⟩ = some x2 ∧ W.cell? ⟨b, 3, none⟩ = some x3 := by
 simp [World.cell?, h]
theorem behind_any (M : Nat) (tv : Value) (n : Nat) (t : Tok) (nv lv cv bv : Value) (W : World) (l : List Tok) (hR : RdAt W M tv n t nv lv cv bv) (hT : TkRow W tv l) (hn : n ≤ 1000000) (far : Nat) (hf : far ≤ 2) :
 Calls Tryz.prog 63 #[.pointer (some ⟨M, 0, none⟩), .int .i64 (far : Int)] W fun e w' => e = .returned (tkV (l.getD (min (n + far) (l.length - 1)) tok0)) ∧ Below W.heap.size W w' := by
 obtain ⟨tb, cap, rfl, q1, q2, hpos, hl, hc⟩ := hT;have hml := hR.lt;obtain ⟨c0, c1⟩ := hR.two;obtain ⟨j, hj⟩ : ∃ j, min (n + far) (l.length - 1) = j := ⟨_, rfl⟩;have hjl : j < l.length := by omega
 obtain ⟨t', ht'⟩ : ∃ t', l[j]? = some t' := ⟨_, List.getElem?_eq_getElem hjl⟩;obtain ⟨y0, y1, y2, y3⟩ := hc j t' ht';have hbt := World.block_lt_of_cell? W _ y0;rw [hj, List.getD_eq_getElem?_getD, ht'];simp only [Option.getD_some];unfold tkV;obtain ⟨S, hS⟩ : ∃ S, strOfNums t'.2.1 = S := ⟨_, rfl⟩;rw [hS] at y1 ⊢;obtain ⟨m, hm⟩ : ∃ m, l.length = m := ⟨_, rfl⟩;rw [hm] at c0 q1 hpos hl hjl hj;have hmin : (if (m : Int) - 1 < (n : Int) + far then (m : Int) - 1 else (n : Int) + far) = (j : Int) := by split <;> omega
 unfold maxLen at q2;simp only at hbt;obtain ⟨WA, hWA⟩ : ∃ WA, W.alloc (.cells #[.int .i64 0, .string ⟨#[]⟩, .int .i64 0, .int .i64 0] 40) = WA := ⟨_, rfl⟩;have hn : WA.heap[W.heap.size]? = some (.cells #[.int .i64 0, .string ⟨#[]⟩, .int .i64 0, .int .i64 0] 40) := by rw [← hWA]; exact World.alloc_heap_new W _
 have z0 : WA.cell? ⟨W.heap.size, 0, none⟩ = some (.int .i64 0) := by rw [Lib.cell_of_heap hn]; rfl
 have z1 : WA.cell? ⟨W.heap.size, 1, none⟩ = some (.string ⟨#[]⟩) := by rw [Lib.cell_of_heap hn]; rfl
 have z2 : WA.cell? ⟨W.heap.size, 2, none⟩ = some (.int .i64 0) := by rw [Lib.cell_of_heap hn]; rfl
 have z3 : WA.cell? ⟨W.heap.size, 3, none⟩ = some (.int .i64 0) := by rw [Lib.cell_of_heap hn]; rfl
 have zf : ∀ o, WA.frozen? ⟨W.heap.size, o, none⟩ = false := fun o => by simp [World.frozen?, hn]
 have f0 := zf 0;have f1 := zf 1;have f2 := zf 2;have f3 := zf 3;have up : ∀ {b : Addr} {u : Value}, W.cell? b = some u → WA.cell? b = some u := fun {b u} h => by rw [← hWA, World.cell?_alloc_lt _ _ _ (World.block_lt_of_cell? W _ h)]; exact h
 have c0 := up c0; have c1 := up c1; have y0 := up y0; have y1 := up y1; have y2 := up y2; have y3 := up y3;have hBA : Below W.heap.size W WA := by rw [← hWA]; exact (Below.refl _ W).alloc NL _
 have HBA := Hi hBA;have HN := Hi hn;clear hc ht' hS hm hR up zf hBA hn;go_enter Tryz.func63, Tryz.ntmps63;go_wp2;go_region;go_wp2;have hz := set4 (U HN) (.int .i64 t'.1) (.string S) (.int .i64 (t'.2.2.1 : Int)) (.int .i64 (t'.2.2.2 : Int));obtain ⟨WB, hWB⟩ : ∃ WB, (((WA.setCell ⟨W.heap.size, 0, none⟩ (.int .i64 t'.1)).setCell ⟨W.heap.size, 1, none⟩ (.string S)).setCell ⟨W.heap.size, 2, none⟩ (.int .i64 (t'.2.2.1 : Int))).setCell ⟨W.heap.size, 3, none⟩ (.int .i64 (t'.2.2.2 : Int)) = WB := ⟨_, rfl⟩
 have hBB : Below W.heap.size W WB := by
  rw [← hWB];exact ((((U HBA).setCell (p := ⟨W.heap.size, 0, none⟩) NL _).setCell (p := ⟨W.heap.size, 1, none⟩) NL _).setCell (p := ⟨W.heap.size, 2, none⟩) NL _).setCell (p := ⟨W.heap.size, 3, none⟩) NL _
 rw [hWB] at hz ⊢;obtain ⟨u0, u1, u2, u3⟩ := cells4 hz;refine bodyPost_ret (v := .agg #[.int .i64 t'.1, .string S, .int .i64 (t'.2.2.1 : Int), .int .i64 (t'.2.2.2 : Int)]) ?_ rfl ⟨rfl, hBB.drew⟩;simp [results, Tryz.results63, go_sem, u0, u1, u2, u3]
theorem RdAt.next {W : World} {M : Nat} {tv : Value} {n : Nat} {t : Tok} {nv lv cv bv : Value} (h : RdAt W M tv n t nv lv cv bv) (t' : Tok) :
 RdAt (((((W.setCell ⟨M, 2, none⟩ (.int .i64 t'.1)).setCell ⟨M, 3, none⟩ (.string (strOfNums t'.2.1))).setCell ⟨M, 4, none⟩ (.int .i64 (t'.2.2.1 : Int))).setCell ⟨M, 5, none⟩ (.int .i64 (t'.2.2.2 : Int))).setCell ⟨M, 1, none⟩ (.int .i64 ((n : Int) + 1))) M tv (n + 1) t' nv lv cv bv := by
 have h' : W.heap[M]? = some (.cells (rdC tv n t nv lv cv bv) 72) := h;unfold RdAt;simp [World.setCell, Array.getElem?_modify, h', rdC]
theorem TkRow.keep {W W' : World} {tv : Value} {l : List Tok} (h : TkRow W tv l) {S0 : Nat → Prop} (hf : FrP S0 W W') (hs : ∀ k, tv.ownBlock = some k → ¬ S0 k) : TkRow W' tv l := by
 obtain ⟨tb, cap, rfl, q1, q2, hpos, hl, hc⟩ := h;refine ⟨tb, cap, rfl, q1, q2, hpos, hl, fun j t ht => ?_⟩;have := hc j t ht;have hb := World.block_lt_of_cell? W _ this.1
 have e : ∀ o, W'.cell? ⟨tb, o, none⟩ = W.cell? ⟨tb, o, none⟩ := fun o => by
  unfold World.cell?;rw [hf.block tb hb (hs tb rfl)]
 exact ⟨(e _).trans this.1, (e _).trans this.2.1, (e _).trans this.2.2.1, (e _).trans this.2.2.2⟩
theorem below_fr {S0 : Nat → Prop} {A B : World} (h : Below A.heap.size A B) : FrP S0 A B := ⟨h.os, h.tape, h.output, h.size, fun k hk _ => h.block k hk⟩
theorem keep_set {W : World} {b o k : Nat} {v : Value} (h : k ≠ b) : (W.setCell ⟨b, o, none⟩ v).heap[k]? = W.heap[k]? := Below.heap_setCell W ⟨b, o, none⟩ v k (fun e => h e)
theorem FrP.setN {S0 : Nat → Prop} {A B : World} (h : FrP S0 A B) (j : Nat) (v : Value) : FrP S0 A (B.setCell ⟨A.heap.size, j, none⟩ v) :=
 ⟨h.os, h.tape, h.output, by simpa [World.setCell] using h.size, fun i hi hs => (keep_set (by omega)).trans (h.block i hi hs)⟩
def nextT (l : List Tok) (n : Nat) : Tok := l.getD (min (n + 1) (l.length - 1)) tok0
theorem next_any (M : Nat) (tv : Value) (n : Nat) (t : Tok) (nv lv cv bv : Value) (W : World) (l : List Tok) (hR : RdAt W M tv n t nv lv cv bv) (hT : TkRow W tv l) (hn : n ≤ 1000000) :
 Calls Tryz.prog 53 #[.pointer (some ⟨M, 0, none⟩)] W fun e w' => e = .returned (tkV t) ∧ RdAt w' M tv (n + 1) (nextT l n) nv lv cv bv ∧ FrP (fun k => k = M) W w' := by
 have hml := hR.lt;obtain ⟨c2, c3, c4, c5⟩ := hR.tok;obtain ⟨WA, hWA⟩ : ∃ WA, (W.alloc (.cells #[.int .i64 0, .string ⟨#[]⟩, .int .i64 0, .int .i64 0] 40)).alloc (.cells #[.int .i64 t.1, .string (strOfNums t.2.1), .int .i64 (t.2.2.1 : Int), .int .i64 (t.2.2.2 : Int)] 40) = WA := ⟨_, rfl⟩;have hBA : Below W.heap.size W WA := by rw [← hWA]; exact ((Below.refl _ W).alloc NL _).alloc (by simp) _
 have hsz : WA.heap.size = W.heap.size + 1 + 1 := by rw [← hWA]; simp
 have hn0 : WA.heap[W.heap.size]? = some (.cells #[.int .i64 0, .string ⟨#[]⟩, .int .i64 0, .int .i64 0] 40) := by
  rw [← hWA];exact (((Below.refl _ (W.alloc (.cells #[.int .i64 0, .string ⟨#[]⟩, .int .i64 0, .int .i64 0] 40))).alloc NL _).block W.heap.size (by simp)).trans (World.alloc_heap_new W _)
 have hn1 : WA.heap[W.heap.size + 1]? = some (.cells #[.int .i64 t.1, .string (strOfNums t.2.1), .int .i64 (t.2.2.1 : Int), .int .i64 (t.2.2.2 : Int)] 40) := by
  rw [← hWA];have := World.alloc_heap_new (W.alloc (.cells #[.int .i64 0, .string ⟨#[]⟩, .int .i64 0, .int .i64 0] 40)) (.cells #[.int .i64 t.1, .string (strOfNums t.2.1), .int .i64 (t.2.2.1 : Int), .int .i64 (t.2.2.2 : Int)] 40);rw [World.size_alloc] at this;exact this
 have HRA := Hi (hR.keep (hBA.block M hml));have HTA := Hi (hT.keep (S0 := fun _ => False) (below_fr hBA) (fun _ _ h => h));have HBH := Hi (behind_any M tv n t nv lv cv bv WA l (U HRA) (U HTA) hn 1 (by omega));have HBA := Hi hBA;have HN0 := Hi hn0;have HN1 := Hi hn1;have HSZ := Hi hsz;have HR := Hi hR;clear hBA hn0 hn1 hsz hT hR;go_enter Tryz.func53, Tryz.ntmps53;go_wp2_with (go_at_call 63; refine (U HBH).mono ?_)
 rintro e w1 ⟨rfl, hB1⟩
 have hz1 := hB1.size;have hszA := U HSZ;have hR1 : RdAt w1 M tv n t nv lv cv bv := (U HRA).keep (hB1.block M (by omega));have h0 := (hB1.block W.heap.size (by omega)).trans (U HN0);have h1 := (hB1.block (W.heap.size + 1) (by omega)).trans (U HN1);obtain ⟨d2, d3, d4, d5⟩ := hR1.tok;obtain ⟨d0, d1⟩ := hR1.two;have f1 := hR1.free 1;have f2 := hR1.free 2;have f3 := hR1.free 3;have f4 := hR1.free 4;have f5 := hR1.free 5;obtain ⟨a0, a1, a2, a3⟩ := cells4 h0;obtain ⟨b0, b1, b2, b3⟩ := cells4 h1;have zf : ∀ o, w1.frozen? ⟨W.heap.size, o, none⟩ = false := fun o => by simp [World.frozen?, h0]
 have g0 := zf 0;have g1 := zf 1;have g2 := zf 2;have g3 := zf 3;have HR1 := Hi hR1;have H0 := Hi h0;have HB1 := Hi hB1;have hMne : M ≠ W.heap.size := by omega
 have hMne1 : M ≠ W.heap.size + 1 := by omega
 obtain ⟨t', ht'⟩ : ∃ t', l.getD (min (n + 1) (l.length - 1)) tok0 = t' := ⟨_, rfl⟩;have HT' := Hi ht';rw [ht'];unfold tkV;clear ht' hR1 h0 h1 hB1 zf hszA hWA;go_wp2;have hn1 := (U HR1).next t';obtain ⟨w2, hw2⟩ : ∃ w2, ((((w1.setCell ⟨M, 2, none⟩ (.int .i64 t'.1)).setCell ⟨M, 3, none⟩ (.string (strOfNums t'.2.1))).setCell ⟨M, 4, none⟩ (.int .i64 (t'.2.2.1 : Int))).setCell ⟨M, 5, none⟩ (.int .i64 (t'.2.2.2 : Int))).setCell ⟨M, 1, none⟩ (.int .i64 ((n : Int) + 1)) = w2 := ⟨_, rfl⟩
 have hF2 : FrP (fun k => k = M) W w2 := by
  rw [← hw2];exact (((((below_fr (S0 := fun k => k = M) ((U HBA).trans ((U HB1).mono (U HBA).size))).set M 2 _ rfl).set M 3 _ rfl).set M 4 _ rfl).set M 5 _ rfl).set M 1 _ rfl
 have h02 : w2.heap[W.heap.size]? = some (.cells #[.int .i64 0, .string ⟨#[]⟩, .int .i64 0, .int .i64 0] 40) := by
  rw [← hw2, keep_set hMne.symm, keep_set hMne.symm, keep_set hMne.symm, keep_set hMne.symm, keep_set hMne.symm];exact U H0
 rw [hw2] at hn1 ⊢;have hz := set4 h02 (.int .i64 t.1) (.string (strOfNums t.2.1)) (.int .i64 (t.2.2.1 : Int)) (.int .i64 (t.2.2.2 : Int));have hn3 : RdAt ((((w2.setCell ⟨W.heap.size, 0, none⟩ (.int .i64 t.1)).setCell ⟨W.heap.size, 1, none⟩ (.string (strOfNums t.2.1))).setCell ⟨W.heap.size, 2, none⟩ (.int .i64 (t.2.2.1 : Int))).setCell ⟨W.heap.size, 3, none⟩ (.int .i64 (t.2.2.2 : Int))) M tv (n + 1) t' nv lv cv bv := hn1.keep (by rw [keep_set hMne, keep_set hMne, keep_set hMne, keep_set hMne]);have hF3 : FrP (fun k => k = M) W ((((w2.setCell ⟨W.heap.size, 0, none⟩ (.int .i64 t.1)).setCell ⟨W.heap.size, 1, none⟩ (.string (strOfNums t.2.1))).setCell ⟨W.heap.size, 2, none⟩ (.int .i64 (t.2.2.1 : Int))).setCell ⟨W.heap.size, 3, none⟩ (.int .i64 (t.2.2.2 : Int))) := (((hF2.setN 0 _).setN 1 _).setN 2 _).setN 3 _;obtain ⟨u0, u1, u2, u3⟩ := cells4 hz;refine bodyPost_ret (v := tkV t) ?_ rfl ⟨rfl, by rw [show nextT l n = t' from U HT']; exact hn3, hF3⟩;unfold tkV;simp [results, Tryz.results53, go_sem, u0, u1, u2, u3]
def refC : List PanicEntry := [{ v := .iface 95 (.agg #[]), recovered := false }]
theorem refuse_any (p : Value) (W : World) : Calls Tryz.prog 52 #[p] W fun e w' => e = .panicked refC ∧ Below W.heap.size W w' := by
 go_enter Tryz.func52, Tryz.ntmps52;go_wp2;exact ⟨rfl, rfl, Below.refl _ _⟩
def TksOk (l : List Tok) : Prop := ∀ t ∈ l, Bys t.2.1
theorem nextT_ok {l : List Tok} {n : Nat} (h : TksOk l) : Bys (nextT l n).2.1 := by
 unfold nextT;rw [List.getD_eq_getElem?_getD];cases hx : l[min (n + 1) (l.length - 1)]? with
 | none => intro z hz; cases hz
 | some t => exact h t (List.mem_of_getElem? hx)
theorem take_yes (M : Nat) (tv : Value) (n : Nat) (t : Tok) (nv lv cv bv : Value) (W : World) (l : List Tok) (hR : RdAt W M tv n t nv lv cv bv) (hT : TkRow W tv l) (hn : n ≤ 1000000) (ht : Bys t.2.1) (htv : tv.ownBlock ≠ some M) (x : ByteArray) (xs : List Int) (hx : Str x xs) (hy : isT t xs = true) :
 Calls Tryz.prog 42 #[.pointer (some ⟨M, 0, none⟩), .string x] W fun e w' => e = .returned (.bool true) ∧ RdAt w' M tv (n + 1) (nextT l n) nv lv cv bv ∧ FrP (fun k => k = M) W w' := by
 have HI := Hi (ris_any M tv n t nv lv cv bv W hR ht x xs hx);rw [hy] at HI;have hml := hR.lt
 have HN : Hid (∀ w1, Below W.heap.size W w1 → Calls Tryz.prog 53 #[.pointer (some ⟨M, 0, none⟩)] w1 fun e w' => e = .returned (tkV t) ∧ RdAt w' M tv (n + 1) (nextT l n) nv lv cv bv ∧ FrP (fun k => k = M) w1 w') := fun w1 hb =>
  next_any M tv n t nv lv cv bv w1 l (hR.keep (hb.block M hml)) (hT.keep (S0 := fun _ => False) (below_fr hb) (fun _ _ h => h)) hn
 clear hR hT hx hy;go_enter Tryz.func42, Tryz.ntmps42;go_wp2_with (go_at_call 92; refine (U HI).mono ?_)
 rintro e w1 ⟨rfl, hB1⟩
 have HB1 := Hi hB1;have HN1 := Hi (U HN w1 hB1);clear hB1;go_wp2_with (go_at_call 53; refine (U HN1).mono ?_)
 rintro e w2 ⟨rfl, hR2, hF2⟩
 have HR2 := Hi hR2;have HF2 := Hi hF2;clear hR2 hF2;unfold tkV;go_wp2;go_ret;exact ⟨rfl, U HR2, (below_fr (U HB1)).trans (U HF2)⟩
theorem take_no (M : Nat) (tv : Value) (n : Nat) (t : Tok) (nv lv cv bv : Value) (W : World) (hR : RdAt W M tv n t nv lv cv bv) (ht : Bys t.2.1) (x : ByteArray) (xs : List Int) (hx : Str x xs) (hy : isT t xs = false) :
 Calls Tryz.prog 42 #[.pointer (some ⟨M, 0, none⟩), .string x] W fun e w' => e = .returned (.bool false) ∧ Below W.heap.size W w' := by
 have HI := Hi (ris_any M tv n t nv lv cv bv W hR ht x xs hx);rw [hy] at HI;clear hR hx hy;go_enter Tryz.func42, Tryz.ntmps42;go_wp2_with (go_at_call 92; refine (U HI).mono ?_)
 rintro e w1 ⟨rfl, hB1⟩
 have HB1 := Hi hB1;clear hB1;go_wp2;go_ret;exact ⟨rfl, U HB1⟩
end
end Go.Proofs.YtofgphapjjofnaaGreatDoor
