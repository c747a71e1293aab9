/- Values settled twice. -/
import Derived.Test.YtdgocaokmmhenaaGreatDoorVA
import Derived.Test.YtdgocaokmmhenaaGreatDoorV6
namespace Go.Proofs.YtdgocaokmmhenaaGreatDoor
set_option linter.unusedSimpArgs false
set_option linter.unusedVariables false
set_option maxRecDepth 100000
open Go.RowKit Go.Shelf

theorem clamp_in (n : Int) : -9007199254740991 ≤ clampN n ∧ clampN n ≤ 9007199254740991 := by unfold clampN; split <;> (try split) <;> omega
theorem stlK_in (k : Int) : 0 ≤ stlK k ∧ stlK k ≤ 5 := by unfold stlK; split <;> omega
theorem stlK_id (k : Int) : stlK (stlK k) = stlK k := by unfold stlK; split <;> simp_all
theorem clamp_of (n : Int) (h : -9007199254740991 ≤ n ∧ n ≤ 9007199254740991) : clampN n = n := by
  obtain ⟨h1, h2⟩ := h
  unfold clampN
  have h3 : ¬ n < -9007199254740991 := by omega
  have h4 : ¬ 9007199254740991 < n := by omega
  simp only [h3, h4, if_false]
theorem clamp_id (n : Int) : clampN (clampN n) = clampN n := by
  exact clamp_of _ (clamp_in n)
theorem stlN_id (k n : Int) : stlN (stlK k) (stlN k n) = stlN k n := by
  by_cases h : k = 1 ∨ k = 2 ∨ k = 3 ∨ k = 4 ∨ k = 5
  · rcases h with rfl | rfl | rfl | rfl | rfl
    · rfl
    · show bI (bI (n != 0) != 0) = bI (n != 0)
      cases n != 0 <;> rfl
    · have e1 : stlK 3 = 3 := rfl
      have e2 : stlN 3 n = clampN n := by simp [stlN]
      have e3 : stlN 3 (clampN n) = clampN (clampN n) := by simp [stlN]
      rw [e1, e2, e3, clamp_id]
    · rfl
    · rfl
  · have : stlK k = 0 := by unfold stlK; rw [if_neg h]
    rw [this]
    have h' : stlN k n = 0 := by unfold stlN; rw [if_neg (by omega), if_neg (by omega), if_neg (by omega)]
    rw [h']
    rfl
theorem stlT_id (k : Int) (t : ByteArray) : stlT (stlK k) (stlT k t) = stlT k t := by
  by_cases h : k = 4
  · subst h; rfl
  · have : stlT k t = ByteArray.empty := by unfold stlT; rw [if_neg h]
    rw [this]
    unfold stlT
    split <;> rfl
theorem stl_num {k : Int} (h : stlK k = 3) (n : Int) : -9007199254740991 ≤ stlN k n ∧ stlN k n ≤ 9007199254740991 := by
  have hk : k = 3 := by unfold stlK at h; split at h <;> omega
  subst hk
  have e2 : stlN 3 n = clampN n := by simp [stlN]
  rw [e2]
  exact clamp_in n
def R5.oc (r : R5) : Value := .agg (Oc r.k r.n r.t r.s r.f)
theorem info28 : (Tryz.prog.info? 54).map (·.size) = some 5 := by kernel_rfl
/-- A box with what the reference answers. -/
def Bo (w : World) (b : Nat) (k n : Int) (t s : ByteArray) (f : Int) : Prop := Bx w b (Oc k n t s f) 54
theorem Bo.all {w : World} {b : Nat} {k n f : Int} {t s : ByteArray} (h : Bo w b k n t s f) : w.cell? ⟨b, 0, none⟩ = some (.int .i64 k) ∧ w.cell? ⟨b, 1, none⟩ = some (.int .i64 n) ∧ w.cell? ⟨b, 2, none⟩ = some (.string t) ∧ w.cell? ⟨b, 3, none⟩ = some (.string s) ∧ w.cell? ⟨b, 4, none⟩ = some (.int .i64 f) ∧ w.frozen? ⟨b, 0, none⟩ = false ∧ w.frozen? ⟨b, 1, none⟩ = false ∧ w.frozen? ⟨b, 2, none⟩ = false ∧ w.frozen? ⟨b, 3, none⟩ = false ∧ w.frozen? ⟨b, 4, none⟩ = false ∧ b < w.heap.size :=
  ⟨Bx.cell h 0 rfl, Bx.cell h 1 rfl, Bx.cell h 2 rfl, Bx.cell h 3 rfl, Bx.cell h 4 rfl, Bx.free h 0, Bx.free h 1, Bx.free h 2, Bx.free h 3, Bx.free h 4, Bx.lt h⟩
theorem Bo.below {w w' : World} {b B : Nat} {k n f : Int} {t s : ByteArray} (h : Bo w b k n t s f) (hb : Below B w w') (hB : b < B) : Bo w' b k n t s f := Bx.below h hb hB
def put5 (w : World) (b : Nat) (x y z u v : Value) : World := ((put3 w b x y z).setCell ⟨b, 3, none⟩ u).setCell ⟨b, 4, none⟩ v
theorem Bx.puts5 {w : World} {b : Nat} {x0 y0 z0 u0 v0 : Value} {t : Nat} (h : Bx w b #[x0, y0, z0, u0, v0] t) (x y z u v : Value) : Bx (put5 w b x y z u v) b #[x, y, z, u, v] t := by
  have := ((((h.set (i := 0) x).set (i := 1) y).set (i := 2) z).set (i := 3) u).set (i := 4) v
  simpa [put5, put3] using this
theorem below_put5 {B : Nat} {a w : World} (h : Below B a w) {b : Nat} (hb : B ≤ b) (x y z u v : Value) : Below B a (put5 w b x y z u v) := ((below_put3 h hb x y z).setCell hb _).setCell hb _
theorem ret_o {fn : Func} {p : Tmp} (h : fn.results = #[.cell p 54]) {a : Act} {w W : World} {g : Nat} {B : Nat} {k n f k0 n0 f0 : Int} {t s t0 s0 : ByteArray} {x y z u v : Value} (hp : a.tmps.getD p undef = .pointer (some ⟨g, 0, none⟩)) (hg : Bo w g k0 n0 t0 s0 f0) (hx : #[x, y, z, u, v] = Oc k n t s f) (hb : Below B W w) (hB : B ≤ g) (hd : a.defers = []) :
    bodyPost Tryz.prog fn (fun e w' => e = .returned (.agg (Oc k n t s f)) ∧ Below B W w') .ret a (put5 w g x y z u v) := by
  refine bodyPost_ret (res_v h _ _ g 54 (Oc k n t s f) (0, 0) _ hp (by rw [← hx]; exact Bx.puts5 hg x y z u v) Tryz.underlying54 rfl (by rw [info28]; rfl)) hd ⟨rfl, below_put5 hb hB _ _ _ _ _⟩
/-- A value's box, and the zero answer behind it. -/
theorem box_out (W : World) (k n : Int) (t : ByteArray) : ∃ W2, (W.alloc (.cells #[.int .i64 k, .int .i64 n, .string t] 23)).alloc (.cells #[.int .i64 0, .int .i64 0, .string ⟨#[]⟩, .string ⟨#[]⟩, .int .i64 0] 54) = W2 ∧ Bv W2 W.heap.size k n t ∧ Bo W2 (W.heap.size + 1) 0 0 ⟨#[]⟩ ⟨#[]⟩ 0 ∧ Below W.heap.size W W2 ∧ W2.heap.size = W.heap.size + 2 := by
  refine ⟨_, rfl, (Bx.new W _ _).alloc _, ?_, below_two _ _ _, by simp⟩
  have := Bx.new (W.alloc (.cells #[.int .i64 k, .int .i64 n, .string t] 23)) (Oc 0 0 ⟨#[]⟩ ⟨#[]⟩ 0) 54
  rw [World.size_alloc] at this
  exact this
/-- A value is laid in a new box. -/
theorem new_box (w : World) (k n : Int) (t : ByteArray) : ∃ W3, w.alloc (.cells #[.int .i64 k, .int .i64 n, .string t] 23) = W3 ∧ Bv W3 w.heap.size k n t ∧ Below w.heap.size w W3 ∧ W3.heap.size = w.heap.size + 1 :=
  ⟨_, rfl, Bx.new w _ _, below_one _ _, by simp⟩
end Go.Proofs.YtdgocaokmmhenaaGreatDoor
