/- The law ValueBits, walked. -/
import Derived.Deep.QuietTactic
import Derived.BigQuiet
import Derived.Test.YthjlhdldomfikabDoorBA
namespace Go.Proofs.YthjlhdldomfikabDoor
set_option linter.unusedSimpArgs false
set_option linter.unusedVariables false
set_option maxRecDepth 100000
set_option maxHeartbeats 4000000
open Go.RowKit Go.Shelf
/-- A region whose operations only read and whose callees leave a class of worlds: one walk serves every order. -/
theorem region_C {P : Program} {C : World → Prop} {id : Nat} {Q : Exit → Act → World → Prop} {a : Act} {w : World} {l : List Oper} (hm : P.follows .mixedOrders = true) (hB : Region.lexB .any l.toArray = true) (hC : C { w with drawn := w.drawn + 1 })
    (h : wpQuiet P l.toArray C (fun a' => ∀ w', C w' → Q .normal a' w') l a) : (Code.region id l.toArray true).wp P Q a w :=
  wp_region_quiet (C := C) hm hB hC (by simpa using h)
theorem bits_core (a b x y : Int) (h1 : -9007199254740991 ≤ a) (h2 : a ≤ 9007199254740991) (h3 : -9007199254740991 ≤ b) (h4 : b ≤ 9007199254740991) (hx : wrap32 (a % 4294967296) = x) (hy : wrap32 (b % 4294967296) = y)
    (J10 : Ret 8 #[.string ⟨#[38]⟩, .agg (Vc 3 a ByteArray.empty), .agg (Vc 3 b ByteArray.empty)] (Tr 3 (wrap64 (bits BinOp.and IntKind.i32 x y)) ByteArray.empty ⟨#[]⟩ 0))
    (J20 : Ret 8 #[.string ⟨#[124]⟩, .agg (Vc 3 a ByteArray.empty), .agg (Vc 3 b ByteArray.empty)] (Tr 3 (wrap64 (bits BinOp.or IntKind.i32 x y)) ByteArray.empty ⟨#[]⟩ 0))
    (J30 : Ret 8 #[.string ⟨#[94]⟩, .agg (Vc 3 a ByteArray.empty), .agg (Vc 3 b ByteArray.empty)] (Tr 3 (wrap64 (bits BinOp.xor IntKind.i32 x y)) ByteArray.empty ⟨#[]⟩ 0))
    (J40 : Ret 10 #[.string ⟨#[126]⟩, .agg (Vc 3 a ByteArray.empty)] (Tr 3 (wrap64 (bits BinOp.xor IntKind.i32 (-1) x)) ByteArray.empty ⟨#[]⟩ 0)) : Ret 3 #[.int .i64 a, .int .i64 b] (.bool true) := by
  intro W
  have HK := hide known_any
  have HN : Hid (∀ n w, Calls Tryd.prog 9 #[.int .i64 n] w fun e w' => e = .returned (.agg #[.int .i64 3, .int .i64 n, .string ByteArray.empty]) ∧ Below w.heap.size w w') := fun n w => num_any n w
  have HKK : Hid (∀ w, Calls Tryd.prog 7 #[] w fun e w' => e = .returned (.bool true) ∧ Below w.heap.size w w') := fun w => known_any w
  have HB := hide (Below.refl W.heap.size W)
  have J1 := hide J10
  have J2 := hide J20
  have J3 := hide J30
  have J4 := hide J40
  unfold Tr Vc at J1 J2 J3 J4
  clear J10 J20 J30 J40
  go_enter Tryd.func3, Tryd.ntmps3
  go_wp2_with (first
    | (go_at_call 9
       refine (unhide HN _ _).mono ?_
       rintro e w1 ⟨rfl, hb1⟩
       (try have X1 := hide ((unhide X1).up hb1))
       (try have X2 := hide ((unhide X2).up hb1))
       (try have X3 := hide ((unhide X3).up hb1))
       have HB := hide (Below.up (unhide HB) hb1)
       clear hb1)
    | (go_at_call 8
       refine (unhide J1 _).mono ?_
       clear J1
       rintro e w1 ⟨rfl, hb1⟩
       obtain ⟨W3, hW3, e1, e3, e4⟩ := new_box w1 3 (wrap64 (bits BinOp.and IntKind.i32 x y)) ByteArray.empty
       have q := Below.up hb1 e3
       skip
       have X1 := hide e1
       have HB := hide (Below.up (unhide HB) q)
       clear hb1 e1 e3 e4 q)
    | (go_at_call 8
       refine (unhide J2 _).mono ?_
       clear J2
       rintro e w1 ⟨rfl, hb1⟩
       obtain ⟨W3, hW3, e1, e3, e4⟩ := new_box w1 3 (wrap64 (bits BinOp.or IntKind.i32 x y)) ByteArray.empty
       have q := Below.up hb1 e3
       have X1 := hide ((unhide X1).up q);
       have X2 := hide e1
       have HB := hide (Below.up (unhide HB) q)
       clear hb1 e1 e3 e4 q)
    | (go_at_call 8
       refine (unhide J3 _).mono ?_
       clear J3
       rintro e w1 ⟨rfl, hb1⟩
       obtain ⟨W3, hW3, e1, e3, e4⟩ := new_box w1 3 (wrap64 (bits BinOp.xor IntKind.i32 x y)) ByteArray.empty
       have q := Below.up hb1 e3
       have X1 := hide ((unhide X1).up q); have X2 := hide ((unhide X2).up q);
       have X3 := hide e1
       have HB := hide (Below.up (unhide HB) q)
       clear hb1 e1 e3 e4 q)
    | (go_at_call 10
       refine (unhide J4 _).mono ?_
       clear J4
       rintro e w1 ⟨rfl, hb1⟩
       obtain ⟨W3, hW3, e1, e3, e4⟩ := new_box w1 3 (wrap64 (bits BinOp.xor IntKind.i32 (-1) x)) ByteArray.empty
       have q := Below.up hb1 e3
       have X1 := hide ((unhide X1).up q); have X2 := hide ((unhide X2).up q); have X3 := hide ((unhide X3).up q);
       have X4 := hide e1
       have HB := hide (Below.up (unhide HB) q)
       clear hb1 e1 e3 e4 q))
  refine region_C (C := fun w' => Below W3.heap.size W3 w') (by kernel_rfl) (by kernel_rfl) (Below.refl _ _).drew ?_
  have HSS := hide (fun w' (hw : Below W3.heap.size W3 w') => And.intro ((unhide X1).up hw).all (And.intro ((unhide X2).up hw).all (And.intro ((unhide X3).up hw).all (((unhide X4).up hw).all))))
  have hS : (if IntKind.i32.signed = true then (-1 : Int) else IntKind.i32.max) = -1 := rfl
  repeat (first
    | rw [hS]
    | go_big_quiet_skip
    | (go_big_quiet_want
       go_big_quiet_op
       first
         | go_big_quiet_on
         | (apply Exists.intro
            refine ⟨fun w hw => ?_, ?_⟩
            first
              | rfl
              | with_reducible exact (unhide HN _ w).mono fun e w2 h => ⟨h.1, hw.trans (h.2.mono hw.size)⟩
              | with_reducible exact (unhide HKK w).mono fun e w2 h => ⟨h.1, hw.trans (h.2.mono hw.size)⟩
              | (obtain ⟨⟨a1, b1, c1, -, -, -, -⟩, ⟨a2, b2, c2, -, -, -, -⟩, ⟨a3, b3, c3, -, -, -, -⟩, ⟨a4, b4, c4, -, -, -, -⟩⟩ := unhide HSS w hw
                 go_simp
                 first | done | rfl | exact ⟨rfl, rfl⟩)
            go_big_quiet_on)))
  refine wpQuiet_nil ?_
  intro wz hwz
  have HWZ := hide hwz
  clear hwz
  go_wp2
  go_ret
  exact ⟨rfl, Below.up (unhide HB) (unhide HWZ)⟩
theorem w32_low (a : Int) : wrap32 (a % 4294967296) = wrap32 a := by rw [w32, w32]; omega
theorem bits_any (a b : Int) : Ret 3 #[.int .i64 a, .int .i64 b] (.bool true) := by
  by_cases h : 9007199254740991 < a ∨ a < -9007199254740991 ∨ 9007199254740991 < b ∨ b < -9007199254740991
  · exact big_3 a b h
  have H1 := Binary_num ⟨#[38]⟩ a b ByteArray.empty ByteArray.empty
  have H2 := Binary_num ⟨#[124]⟩ a b ByteArray.empty ByteArray.empty
  have H3 := Binary_num ⟨#[94]⟩ a b ByteArray.empty ByteArray.empty
  have H4 := Unary_any ⟨#[126]⟩ 3 a ByteArray.empty
  have e : (unP ⟨#[126]⟩ (stlK 3) (stlN 3 a) (stlT 3 ByteArray.empty)) = ⟨3, turnP (stlN 3 a), ByteArray.empty, ⟨#[]⟩, 0⟩ := rfl
  have e2 : stlN 3 a = clampN a := by simp [stlN]
  rw [binN_6, clamp_of a (by omega), clamp_of b (by omega)] at H1
  rw [binN_7, clamp_of a (by omega), clamp_of b (by omega)] at H2
  rw [binN_8, clamp_of a (by omega), clamp_of b (by omega)] at H3
  rw [e, e2, clamp_of a (by omega)] at H4
  exact bits_core a b (wrap32 a) (wrap32 b) (by omega) (by omega) (by omega) (by omega) (w32_low a) (w32_low b) H1 H2 H3 H4
end Go.Proofs.YthjlhdldomfikabDoor
