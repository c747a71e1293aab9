/- What a function answers whose result lies in a box. -/
import Derived.Test.YtdgocaokmmhenaaGreatDoorV0b
namespace Go.Proofs.YtdgocaokmmhenaaGreatDoor
set_option linter.unusedSimpArgs false
set_option linter.unusedVariables false
set_option maxRecDepth 100000
open Go.RowKit
theorem info32 : (Tryz.prog.info? 23).map (·.size) = some 3 := by kernel_rfl
def put3 (w : World) (b : Nat) (x y z : Value) : World := ((w.setCell ⟨b, 0, none⟩ x).setCell ⟨b, 1, none⟩ y).setCell ⟨b, 2, none⟩ z
theorem Bx.puts {w : World} {b : Nat} {x0 y0 z0 : Value} {t : Nat} (h : Bx w b #[x0, y0, z0] t) (x y z : Value) : Bx (put3 w b x y z) b #[x, y, z] t := by
  have := ((h.set (i := 0) x).set (i := 1) y).set (i := 2) z
  simpa [put3] using this
theorem Bx.puts_ne {w : World} {b c : Nat} {cs : Array Value} {t : Nat} (h : Bx w b cs t) (hne : b ≠ c) (x y z : Value) : Bx (put3 w c x y z) b cs t := ((h.other hne x).other hne y).other hne z
theorem below_put3 {B : Nat} {a w : World} (h : Below B a w) {b : Nat} (hb : B ≤ b) (x y z : Value) : Below B a (put3 w b x y z) := ((h.setCell hb _).setCell hb _).setCell hb _
theorem size_put3 (w : World) (b : Nat) (x y z : Value) : (put3 w b x y z).heap.size = w.heap.size := by simp [put3, World.setCell]
theorem res_v {P : Program} {fn : Func} {p : Tmp} {ty : TypeId} (h : fn.results = #[.cell p ty]) (tmps : Array Value) (w : World) (g : Nat) (t : TypeId) (cs : Array Value) (fr : Nat × Nat) (d : TypeDesc)
    (hp : tmps.getD p undef = .pointer (some ⟨g, 0, none⟩)) (hg : w.heap[g]? = some (.cells cs t fr))
    (hu : P.underlying ty = some d) (hd : (match d with | .struct _ | .array _ _ => true | _ => false) = true) (hi : (P.info? ty).map (·.size) = some cs.size) :
    (results fn tmps).run P w = .ok (.agg cs) w := by
  have hp' : tmps[p]?.getD undef = .pointer (some ⟨g, 0, none⟩) := by simpa using hp
  simp [results, h, hp', asAddr, run_loadVar_row w g t ty cs fr d hg hu hd hi]
theorem res_vsf {P : Program} {fn : Func} {p u v : Tmp} {ty : TypeId} (h : fn.results = #[.cell p ty, .tmp u, .tmp v]) (tmps : Array Value) (w : World) (g : Nat) (t : TypeId) (cs : Array Value) (fr : Nat × Nat) (d : TypeDesc)
    (hp : tmps.getD p undef = .pointer (some ⟨g, 0, none⟩)) (hg : w.heap[g]? = some (.cells cs t fr))
    (hu : P.underlying ty = some d) (hd : (match d with | .struct _ | .array _ _ => true | _ => false) = true) (hi : (P.info? ty).map (·.size) = some cs.size) :
    (results fn tmps).run P w = .ok (.tuple #[.agg cs, tmps.getD u undef, tmps.getD v undef]) w := by
  have hp' : tmps[p]?.getD undef = .pointer (some ⟨g, 0, none⟩) := by simpa using hp
  simp [results, h, hp', asAddr, run_loadVar_row w g t ty cs fr d hg hu hd hi]
/-- What is answered: a value, a text, a fault. -/
def Tr (k n : Int) (t s : ByteArray) (f : Int) : Value := .tuple #[.agg (Vc k n t), .string s, .int .i64 f]
def R5.tr (r : R5) : Value := Tr r.k r.n r.t r.s r.f
theorem ret_v {fn : Func} {p : Tmp} (h : fn.results = #[.cell p 23]) {a : Act} {w W : World} {g : Nat} {B : Nat} {k n k0 n0 : Int} {t t0 : ByteArray} {x y z : Value} (hp : a.tmps.getD p undef = .pointer (some ⟨g, 0, none⟩)) (hg : Bv w g k0 n0 t0) (hx : #[x, y, z] = Vc k n t) (hb : Below B W w) (hB : B ≤ g) (hd : a.defers = []) :
    bodyPost Tryz.prog fn (fun e w' => e = .returned (.agg (Vc k n t)) ∧ Below B W w') .ret a (put3 w g x y z) := by
  refine bodyPost_ret (res_v h _ _ g 23 (Vc k n t) (0, 0) _ hp (by rw [← hx]; exact Bx.puts hg x y z) Tryz.underlying23 rfl (by rw [info32]; rfl)) hd ⟨rfl, below_put3 hb hB _ _ _⟩
theorem ret_vsf {fn : Func} {p u v : Tmp} (h : fn.results = #[.cell p 23, .tmp u, .tmp v]) {a : Act} {w W : World} {g : Nat} {B : Nat} {k n k0 n0 : Int} {t t0 s : ByteArray} {f : Int} {x y z : Value} (hp : a.tmps.getD p undef = .pointer (some ⟨g, 0, none⟩)) (hu : a.tmps.getD u undef = .string s) (hv : a.tmps.getD v undef = .int .i64 f) (hg : Bv w g k0 n0 t0) (hx : #[x, y, z] = Vc k n t) (hb : Below B W w) (hB : B ≤ g) (hd : a.defers = []) :
    bodyPost Tryz.prog fn (fun e w' => e = .returned (Tr k n t s f) ∧ Below B W w') .ret a (put3 w g x y z) := by
  refine bodyPost_ret ((res_vsf h _ _ g 23 (Vc k n t) (0, 0) _ hp (by rw [← hx]; exact Bx.puts hg x y z) Tryz.underlying23 rfl (by rw [info32]; rfl)).trans (by rw [hu, hv]; rfl)) hd ⟨rfl, below_put3 hb hB _ _ _⟩
end Go.Proofs.YtdgocaokmmhenaaGreatDoor
