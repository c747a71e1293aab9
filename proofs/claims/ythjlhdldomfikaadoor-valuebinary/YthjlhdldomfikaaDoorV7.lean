/- The reference: Truth, low, signed; boxes for what it answers. -/
import Derived.Test.YthjlhdldomfikaaDoorV6
namespace Go.Proofs.YthjlhdldomfikaaDoor
set_option linter.unusedSimpArgs false
set_option linter.unusedVariables false
set_option maxRecDepth 100000
open Go.RowKit Go.Shelf

theorem truth_kinds (k n : Int) (t : ByteArray) (h : 0 ≤ k ∧ k ≤ 5) (W : World) (k0 n0 : Int) (t0 : ByteArray) (H : Hid (Ret 26 #[.agg (Vc k0 n0 t0)] (.agg (Vc k n t)))) :
    Calls Tryd.prog 15 #[.agg (Vc k0 n0 t0)] W fun e w' => e = .returned (.bool (truP k n t)) ∧ Below W.heap.size W w' := by
  unfold Vc at H ⊢
  have hb := below_one W (.cells #[.int .i64 k0, .int .i64 n0, .string t0] 23)
  have HB := hide hb
  clear hb
  have hc : k = 0 ∨ k = 1 ∨ k = 2 ∨ k = 3 ∨ k = 4 ∨ k = 5 := by omega
  clear h
  unfold truP
  rcases hc with rfl | rfl | rfl | rfl | rfl | rfl
  all_goals
    go_enter Tryd.func15, Tryd.ntmps15
    go_wp2_with (go_at_call 26; refine (unhide H _).mono ?_; rintro e w1 ⟨rfl, hb1⟩; have HB1 := hide (((unhide HB).trans (hb1.mono (by simp))).alloc (by have := hb1.size; simp at this; omega) (.cells #[.int .i64 0, .int .i64 0, .string t] 23)))
    go_ret
    refine ⟨rfl, ?_⟩
    have q := ((unhide HB).trans (hb1.mono (by simp)))
    exact q.alloc (by have := hb1.size; simp at this; omega) _
theorem rTruth_any (k n : Int) (t : ByteArray) (h : 0 ≤ k ∧ k ≤ 5) (k0 n0 : Int) (t0 : ByteArray) (H : Ret 26 #[.agg (Vc k0 n0 t0)] (.agg (Vc k n t))) : Ret 15 #[.agg (Vc k0 n0 t0)] (.bool (truP k n t)) := fun W => truth_kinds k n t h W k0 n0 t0 (hide H)
/-- The lowest 32 digits. -/
def lowP (n : Int) : Int := n % 4294967296
theorem low_any (n : Int) : Ret 31 #[.int .i64 n] (.int .i64 (lowP n)) := by
  intro W
  unfold lowP
  go_enter Tryd.func31, Tryd.ntmps31
  go_wp2
  go_ret
  exact ⟨rfl, Below.refl _ _⟩
theorem rsigned_any (n m : Int) (hm : wrap64 (wrap32 (n % 4294967296)) = m) : Ret 30 #[.int .i64 n] (.agg (Vc 3 m ByteArray.empty)) := by
  intro W
  obtain ⟨W2, hW2, b2, hb, hz⟩ := one_box W
  have B2 := hide b2
  have HB := hide hb
  have HZ := hide hz
  clear b2 hb hz
  go_enter Tryd.func30, Tryd.ntmps30
  go_wp2_with (go_at_call 29; refine (rNumber_any _ _).mono ?_; rintro e w1 ⟨rfl, hb'⟩; unfold Vc; have hz := unhide HZ; have E2 := hide ((unhide B2).below hb' (by omega)); obtain ⟨d0, d1, d2, g0, g1, g2, lt'⟩ := (unhide E2).all)
  exact ret_v Tryd.results30 rfl (unhide E2) rfl ((unhide HB).trans (hb'.mono (by omega))) (by omega) rfl
def R5.oc (r : R5) : Value := .agg (Oc r.k r.n r.t r.s r.f)
theorem info28 : (Tryd.prog.info? 28).map (·.size) = some 5 := by kernel_rfl
/-- A box with what the reference answers. -/
def Bo (w : World) (b : Nat) (k n : Int) (t s : ByteArray) (f : Int) : Prop := Bx w b (Oc k n t s f) 28
theorem Bo.all {w : World} {b : Nat} {k n f : Int} {t s : ByteArray} (h : Bo w b k n t s f) : w.cell? ⟨b, 0, none⟩ = some (.int .i64 k) ∧ w.cell? ⟨b, 1, none⟩ = some (.int .i64 n) ∧ w.cell? ⟨b, 2, none⟩ = some (.string t) ∧ w.cell? ⟨b, 3, none⟩ = some (.string s) ∧ w.cell? ⟨b, 4, none⟩ = some (.int .i64 f) ∧ w.frozen? ⟨b, 0, none⟩ = false ∧ w.frozen? ⟨b, 1, none⟩ = false ∧ w.frozen? ⟨b, 2, none⟩ = false ∧ w.frozen? ⟨b, 3, none⟩ = false ∧ w.frozen? ⟨b, 4, none⟩ = false ∧ b < w.heap.size :=
  ⟨Bx.cell h 0 rfl, Bx.cell h 1 rfl, Bx.cell h 2 rfl, Bx.cell h 3 rfl, Bx.cell h 4 rfl, Bx.free h 0, Bx.free h 1, Bx.free h 2, Bx.free h 3, Bx.free h 4, Bx.lt h⟩
theorem Bo.below {w w' : World} {b B : Nat} {k n f : Int} {t s : ByteArray} (h : Bo w b k n t s f) (hb : Below B w w') (hB : b < B) : Bo w' b k n t s f := Bx.below h hb hB
def put5 (w : World) (b : Nat) (x y z u v : Value) : World := ((put3 w b x y z).setCell ⟨b, 3, none⟩ u).setCell ⟨b, 4, none⟩ v
theorem Bx.puts5 {w : World} {b : Nat} {x0 y0 z0 u0 v0 : Value} {t : Nat} (h : Bx w b #[x0, y0, z0, u0, v0] t) (x y z u v : Value) : Bx (put5 w b x y z u v) b #[x, y, z, u, v] t := by
  have := ((((h.set (i := 0) x).set (i := 1) y).set (i := 2) z).set (i := 3) u).set (i := 4) v
  simpa [put5, put3] using this
theorem below_put5 {B : Nat} {a w : World} (h : Below B a w) {b : Nat} (hb : B ≤ b) (x y z u v : Value) : Below B a (put5 w b x y z u v) := ((below_put3 h hb x y z).setCell hb _).setCell hb _
theorem ret_o {fn : Func} {p : Tmp} (h : fn.results = #[.cell p 28]) {a : Act} {w W : World} {g : Nat} {B : Nat} {k n f k0 n0 f0 : Int} {t s t0 s0 : ByteArray} {x y z u v : Value} (hp : a.tmps.getD p undef = .pointer (some ⟨g, 0, none⟩)) (hg : Bo w g k0 n0 t0 s0 f0) (hx : #[x, y, z, u, v] = Oc k n t s f) (hb : Below B W w) (hB : B ≤ g) (hd : a.defers = []) :
    bodyPost Tryd.prog fn (fun e w' => e = .returned (.agg (Oc k n t s f)) ∧ Below B W w') .ret a (put5 w g x y z u v) := by
  refine bodyPost_ret (res_v h _ _ g 28 (Oc k n t s f) (0, 0) _ hp (by rw [← hx]; exact Bx.puts5 hg x y z u v) Tryd.underlying28 rfl (by rw [info28]; rfl)) hd ⟨rfl, below_put5 hb hB _ _ _ _ _⟩
/-- A value's box, and the zero answer behind it. -/
theorem box_out (W : World) (k n : Int) (t : ByteArray) : ∃ W2, (W.alloc (.cells #[.int .i64 k, .int .i64 n, .string t] 23)).alloc (.cells #[.int .i64 0, .int .i64 0, .string ⟨#[]⟩, .string ⟨#[]⟩, .int .i64 0] 28) = W2 ∧ Bv W2 W.heap.size k n t ∧ Bo W2 (W.heap.size + 1) 0 0 ⟨#[]⟩ ⟨#[]⟩ 0 ∧ Below W.heap.size W W2 ∧ W2.heap.size = W.heap.size + 2 := by
  refine ⟨_, rfl, (Bx.new W _ _).alloc _, ?_, below_two _ _ _, by simp⟩
  have := Bx.new (W.alloc (.cells #[.int .i64 k, .int .i64 n, .string t] 23)) (Oc 0 0 ⟨#[]⟩ ⟨#[]⟩ 0) 28
  rw [World.size_alloc] at this
  exact this
/-- A value is laid in a new box. -/
theorem new_box (w : World) (k n : Int) (t : ByteArray) : ∃ W3, w.alloc (.cells #[.int .i64 k, .int .i64 n, .string t] 23) = W3 ∧ Bv W3 w.heap.size k n t ∧ Below w.heap.size w W3 ∧ W3.heap.size = w.heap.size + 1 :=
  ⟨_, rfl, Bx.new w _ _, below_one _ _, by simp⟩
end Go.Proofs.YthjlhdldomfikaaDoor
