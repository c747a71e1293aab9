/- Towards the law: EV. -/
import Derived.ChangeOld
import Derived.LaidMore
import Derived.OpenShut
import Derived.ProofKit
import Derived.ShutString
import Derived.Stop.Joined
import Derived.Test.YtofgphapjjofnaaGreatDoorMG
import Derived.Test.YtofgphapjjofnaaGreatDoorTie
set_option linter.unusedSimpArgs false
set_option linter.unusedVariables false
set_option maxRecDepth 100000
set_option maxHeartbeats 8000000
namespace Go.Proofs.YtofgphapjjofnaaGreatDoor
section
open Go.ChangeShapes Go.WideShapes Go.ChangeAt Go.RowKit Go.Shelf
theorem own : ownKnob Tryz.prog.godebug = none := by kernel_rfl
def IsRow (w : World) (a : Option Addr) (len cap : Nat) (zs : List Int) : Prop :=
 (a = none ∧ len = 0 ∧ cap = 0 ∧ zs = []) ∨
 ∃ x, a = some x ∧ len ≤ cap ∧ cap ≤ maxLen ∧ zs.length = cap ∧ (∀ i, i < zs.length → w.cell? (x.add i) = some (.int .u8 (zs.getD i 0))) ∧ ∀ n ∈ zs, (Lit.int .u8 n).wf = true
def gZ (zs : List Int) (j : Nat) : Int := zs.getD j 0
theorem IsRow.bd {w : World} {a : Option Addr} {len cap : Nat} {zs : List Int} (h : IsRow w a len cap zs) (j : Nat) : 0 ≤ gZ zs j ∧ gZ zs j ≤ 255 := by
 have key : ∀ n ∈ zs, 0 ≤ n ∧ n ≤ 255 := by
  rcases h with ⟨_, _, _, rfl⟩ | ⟨_, _, _, _, _, _, hw⟩
  · intro n hn; simp at hn
  · exact fun n hn => bounds_u8 (hw n hn)
 unfold gZ;by_cases hj : j < zs.length
 · have := key (zs[j]) (List.getElem_mem hj)
   simpa [List.getD_eq_getElem?_getD, hj] using this
 · simp [List.getD_eq_getElem?_getD, List.getElem?_eq_none (by omega : zs.length ≤ j)]
def laid5 : List (String × DataW Unit) := [("math/bits.deBruijn32tab", Rows.laid_math_bits_deBruijn32tab), ("math/bits.deBruijn64tab", Rows.laid_math_bits_deBruijn64tab), ("internal/strconv.uint64pow10", Rows.laid_internal_strconv_uint64pow10), ("strconv.ErrRange", Rows.laid_strconv_ErrRange), ("strconv.ErrSyntax", Rows.laid_strconv_ErrSyntax)]
theorem door_met5 (os : Os) (args : Array Value) : laidMetH Tryz.prog laid5 ((World.doorLaid Tryz.prog 90 os).forCall (fun _ _ => 0) ⟨#[], args, []⟩).memory :=
 laidMetH_of_parts3 (fuel := 8) (laidMet_of_run' 8 (by kernel_rfl) (by kernel_rfl)) (by kernel_rfl) (by kernel_rfl)
theorem iface_read {P : Program} {w : World} {fuel : Nat} {t : TypeId} {m} {cs : List Value} {d : DataW Unit} {p : List MemPlace} (ht : P.underlying t = some (.interface m))
 (h : DataW.trod (fun _ => ()) P w 0 (fun _ => true) false fuel t cs = some (d, p)) : cs = [.nilIface] ∨ ∃ u v, cs = [.iface u v] := by
 cases fuel with
 | zero => cases h
 | succ n =>
   unfold DataW.trod at h;rw [ht] at h;split at h <;> simp_all
def isIf : Option TypeDesc → Bool
 | some (.interface _) => true
 | _ => false
theorem isIf_some {o : Option TypeDesc} (h : isIf o = true) : ∃ m, o = some (.interface m) := by
 unfold isIf at h;split at h
 · exact ⟨_, rfl⟩
 · cases h
def ifAt (P : Program) (G : Nat) : Bool :=
 match (P.globals[G]?).map (·.type) with
 | some t => isIf (P.underlying t)
 | none => false
theorem err_cell {P : Program} {W : World} {n : String} {g t : Nat} {cs : Array Value} {fuel : Nat} {d : DataW Unit} {p : List MemPlace} (G : Nat) (hg : P.globalNamed n = some g) (eg : P.globalNamed n = some G)
 (ht : (P.globals[g]?).map (·.type) = some t) (hm : ifAt P G = true)
 (hv : W.var? P n = some cs) (h : DataW.trod (fun _ => ()) P W 0 (fun _ => true) false fuel t cs.toList = some (d, p)) : ErrG W G := by
 have hG : g = G := by
  have := hg.symm.trans eg;exact Option.some.inj this
 subst hG;unfold ifAt at hm;rw [ht] at hm;obtain ⟨m, hm⟩ := isIf_some hm;have hr := iface_read (P := P) hm h;simp only [World.var?, eg, Option.bind_some] at hv;split at hv
 · rename_i c1 t1 f1 hh
   cases hv
   have hc : ∀ u, cs.toList = [u] → W.cell? ⟨g, 0, none⟩ = some u := fun u hu => by
    have e : cs = #[u] := by rw [← Array.toArray_toList (xs := cs), hu]
    subst e;unfold World.cell?;rw [hh];rfl
   rcases hr with h | ⟨u, v, h⟩
   · exact ⟨_, hc _ h, .inl rfl⟩
   · exact ⟨_, hc _ h, .inr ⟨_, _, rfl⟩⟩
 · cases hv
theorem err_vars {W : World} (h : laidMetH Tryz.prog laid5 W) : ErrG W 1 ∧ ErrG W 2 := by
 rw [MakeChecks.laidMetH_plain _ _ _ (by kernel_rfl)] at h;obtain ⟨ps, ⟨_, _, _, _, _, _, _, _, _, _, ⟨_, _, _, _, _, _, _, _, _, _, ⟨_, _, _, _, _, _, _, _, _, _, ⟨g1, t1, c1, f1, p1, q1, a1, b1, d1, e1, ⟨g2, t2, c2, f2, p2, q2, a2, b2, d2, e2, _⟩, _⟩, _⟩, _⟩, _⟩, _, _⟩ := h;exact ⟨err_cell 1 a2 (by kernel_rfl) b2 (by kernel_rfl) d2 e2, err_cell 2 a1 (by kernel_rfl) b1 (by kernel_rfl) d1 e1⟩
end
end Go.Proofs.YtofgphapjjofnaaGreatDoor
