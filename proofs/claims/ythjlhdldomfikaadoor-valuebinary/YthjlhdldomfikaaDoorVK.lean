/- The law ValueUnary, walked. -/
import Derived.Test.YthjlhdldomfikaaDoorVJ
namespace Go.Proofs.YthjlhdldomfikaaDoor
set_option linter.unusedSimpArgs false
set_option linter.unusedVariables false
set_option maxRecDepth 100000
open Go.RowKit Go.Shelf

theorem Bv.up {w w' : World} {b : Nat} {k n : Int} {t : ByteArray} (h : Bv w b k n t) (hb : Below w.heap.size w w') : Bv w' b k n t := Bx.below h hb (Bx.lt h)
theorem Bo.up {w w' : World} {b : Nat} {k n f : Int} {t s : ByteArray} (h : Bo w b k n t s f) (hb : Below w.heap.size w w') : Bo w' b k n t s f := Bx.below h hb (Bx.lt h)
/-- What the reference answers is laid in a new box. -/
theorem new_out (w : World) (k n f : Int) (t s : ByteArray) : ∃ W3, w.alloc (.cells #[.int .i64 k, .int .i64 n, .string t, .string s, .int .i64 f] 28) = W3 ∧ Bo W3 w.heap.size k n t s f ∧ Below w.heap.size w W3 ∧ W3.heap.size = w.heap.size + 1 :=
  ⟨_, rfl, Bx.new w _ _, below_one _ _, by simp⟩
set_option maxHeartbeats 1000000 in
theorem valueUnary_any (op t : ByteArray) (k n : Int) (h1 : op.size ≤ 281474976710656) (h2 : t.size ≤ 281474976710656) : Ret 3 #[.string op, .agg (Vc k n t)] (.bool true) := by
  intro W
  obtain ⟨W1, hW1, b1, hb, hz⟩ := new_box W k n t
  have B1 := hide b1
  have HB := hide hb
  obtain ⟨c0, c1, c2, f0, f1, f2, lt⟩ := b1.all
  have HK := hide known_any
  clear b1 hb hz
  by_cases hbig : (70000 : Int) < (t.size : Int) + (op.size : Int)
  · unfold Vc
    go_enter Tryd.func3, Tryd.ntmps3
    go_wp2_with (go_at_call 9; refine (unhide HK _).mono ?_; rintro e w2 ⟨rfl, hb2⟩; have HB2 := hide (Below.up (unhide HB) hb2))
    go_ret
    exact ⟨rfl, unhide HB2⟩
  · have H1 := Unary_any op k n t
    have H2 := rUnary_any op k n t
    obtain ⟨⟨rk, rn, rt, rs, rf⟩, hr⟩ : ∃ r, unP op (stlK k) (stlN k n) (stlT k t) = r := ⟨_, rfl⟩
    rw [hr] at H1 H2
    have HU := hide H1
    have HR := hide H2
    unfold R5.tr Tr Vc at HU
    unfold R5.oc Oc Vc at HR
    clear H1 H2 hr
    unfold Vc
    dsimp only at HU HR
    go_enter Tryd.func3, Tryd.ntmps3
    go_wp2_with (first
      | (go_at_call 10
         refine (unhide HU _).mono ?_
         rintro e w2 ⟨rfl, hb2⟩
         obtain ⟨W3, hW3, e1, e3, e4⟩ := new_box w2 rk rn rt
         have q := Below.up hb2 e3
         have X1 := hide ((unhide B1).up q)
         have X3 := hide e1
         obtain ⟨x0, x1, x2, y0, y1, y2, ly⟩ := (unhide X1).all
         have HB3 := hide (Below.up (unhide HB) q)
         clear hb2 e1 e3 e4 q)
      | (go_at_call 11
         refine (unhide HR _).mono ?_
         rintro e w4 ⟨rfl, hb4⟩
         obtain ⟨W5, hW5, e1, e3, e4⟩ := new_out w4 rk rn rf rt rs
         have q := Below.up hb4 e3
         obtain ⟨x0, x1, x2, y0, y1, y2, ly⟩ := ((unhide X3).up q).all
         obtain ⟨d0, d1, d2, d3, d4, g0, g1, g2, g3, g4, lt'⟩ := e1.all
         have HB5 := hide (Below.up (unhide HB3) q)
         clear hb4 e1 e3 e4 q)
      | (go_at_call 9; refine (unhide HK _).mono ?_; rintro e w6 ⟨rfl, hb6⟩; have HB6 := hide (Below.up (unhide HB5) hb6)))
    go_ret
    exact ⟨rfl, unhide HB6⟩
end Go.Proofs.YthjlhdldomfikaaDoor
