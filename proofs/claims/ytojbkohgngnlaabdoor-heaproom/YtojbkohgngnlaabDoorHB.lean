/- find: a member of an object, or of the nearest one behind it. -/
import Derived.LoopTactic
import Derived.Test.YtojbkohgngnlaabDoorHA
namespace Go.Proofs.YtojbkohgngnlaabDoor
set_option linter.unusedSimpArgs false
set_option linter.unusedVariables false
set_option maxRecDepth 100000
set_option maxHeartbeats 2000000
open Go.RowKit Go.Shelf

variable {w W : World} {l : Ly} {hb : Nat} {H : PH}
/-- The member of the nearest one that has it. -/
def findP (ths : List Th) (key : ByteArray) (i : Nat) : Option PV :=
  match ths[i]? with
  | none => none
  | some t => match look t.slots key with
    | some v => some v
    | none => match t.beh with
      | none => none
      | some j => if j < i then findP ths key j else none
termination_by i
def findO (ths : List Th) (key : ByteArray) : Option Nat → Option PV
  | none => none
  | some i => findP ths key i
theorem findP_eq (ths : List Th) (key : ByteArray) (i : Nat) (t : Th) (hi : ths[i]? = some t) (hb : ∀ j, t.beh = some j → j < i) : findP ths key i = match look t.slots key with
    | some v => some v
    | none => findO ths key t.beh := by
  rw [findP, hi]
  simp only
  cases look t.slots key with
  | some v => rfl
  | none =>
    cases hbe : t.beh with
    | none => rfl
    | some j => simp [findO, hb j hbe]
theorem law9 : Maps.Keyed Tryd.prog 9 := Maps.string_keyed Tryd.underlying9
theorem zero32 (w : World) : (zeroValue 35).run Tryd.prog w = .ok (.agg (Vc 0 0 ⟨#[]⟩)) w := by kernel_rfl
theorem vElem_zero : vElem (.agg (Vc 0 0 ⟨#[]⟩)) = some (vD PV.und, []) := rfl
theorem key9 {s : ByteArray} (hs : s.size ≤ maxLen) : keyOf Tryd.prog 9 (.string s) = some (keyL s) := WideMaps.keyOf_string_mk Tryd.underlying9 hs
/-- The look-up in a thing's members. -/
theorem look_run {i : Nat} {t : Th} {mv : Option Nat} {kv : Value} (h : ObAt W l i t mv kv) (s : ByteArray) (hs : s.size ≤ maxLen) : (Instr.lookup 62 (.map mv) (.string s) true).run Tryd.prog W = .ok (.tuple #[((look t.slots s).getD PV.und).agg, .bool (look t.slots s).isSome]) W := by
  cases mv with
  | none =>
    rw [h.nomap rfl]
    show _ = Result.ok (Value.tuple #[PV.und.agg, .bool false]) W
    kernel_rfl
  | some m =>
    obtain ⟨⟨D, ho, hD⟩, _⟩ := h.map m rfl
    obtain ⟨v, ps, hrun, hv⟩ := ho.look_ok law9 Tryd.underlying62 (zero32 W) vElem_zero (key9 hs)
    rw [hrun, hD.has]
    congr 3
    cases hl : look t.slots s with
    | none =>
      have : Maps.has D (keyL s) = false := by rw [hD.has, hl]; rfl
      rw [Maps.atKey_of_not_has this] at hv
      rw [vElem_inv hv]; rfl
    | some x =>
      rw [hD.at' s x hl] at hv
      rw [vElem_inv hv]; rfl
theorem res_vb {P : Program} {fn : Func} {p u : Tmp} {ty : TypeId} (h : fn.results = #[.cell p ty, .tmp u]) (tmps : Array Value) (w : World) (g : Nat) (t : TypeId) (cs : Array Value) (fr : Nat × Nat) (d : TypeDesc)
    (hp : tmps.getD p undef = .pointer (some ⟨g, 0, none⟩)) (hg : w.heap[g]? = some (.cells cs t fr))
    (hu : P.underlying ty = some d) (hd : (match d with | .struct _ | .array _ _ => true | _ => false) = true) (hi : (P.info? ty).map (·.size) = some cs.size) :
    (results fn tmps).run P w = .ok (.tuple #[.agg cs, tmps.getD u undef]) w := by
  have hp' : tmps[p]?.getD undef = .pointer (some ⟨g, 0, none⟩) := by simpa using hp
  simp [results, h, hp', asAddr, run_loadVar_row w g t ty cs fr d hg hu hd hi]
theorem ret_vb {fn : Func} {p u : Tmp} (h : fn.results = #[.cell p 35, .tmp u]) {a : Act} {w W : World} {g : Nat} {B : Nat} {k n k0 n0 : Int} {t t0 : ByteArray} {bo : Bool} {x y z : Value} (hp : a.tmps.getD p undef = .pointer (some ⟨g, 0, none⟩)) (hu : a.tmps.getD u undef = .bool bo) (hg : Bv w g k0 n0 t0) (hx : #[x, y, z] = Vc k n t) (hb : Below B W w) (hB : B ≤ g) (hd : a.defers = []) :
    bodyPost Tryd.prog fn (fun e w' => e = .returned (.tuple #[.agg (Vc k n t), .bool bo]) ∧ Below B W w') .ret a (put3 w g x y z) := by
  refine bodyPost_ret ((res_vb h _ _ g 35 (Vc k n t) (0, 0) _ hp (by rw [← hx]; exact Bx.puts hg x y z) Tryd.underlying35 rfl (by rw [info32]; rfl)).trans (by rw [hu])) hd ⟨rfl, below_put3 hb hB _ _ _⟩
end Go.Proofs.YtojbkohgngnlaabDoor
