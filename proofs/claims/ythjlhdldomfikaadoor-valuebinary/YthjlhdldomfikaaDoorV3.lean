/- ofNumber, opposite, turned; value.Unary. -/
import Derived.Test.YthjlhdldomfikaaDoorV2
namespace Go.Proofs.YthjlhdldomfikaaDoor
set_option linter.unusedSimpArgs false
set_option linter.unusedVariables false
set_option maxRecDepth 100000
open Go.RowKit Go.Shelf

def numT : ByteArray := ⟨#[84, 121, 112, 101, 69, 114, 114, 111, 114, 58, 32, 110, 117, 109, 98, 101, 114]⟩
theorem opposite_any (n : Int) (h : -9007199254740991 ≤ n ∧ n ≤ 9007199254740991) : Ret 23 #[.int .i64 n] (.int .i64 (-n)) := by
  intro W
  obtain ⟨h1, h2⟩ := h
  go_enter Tryd.func23, Tryd.ntmps23
  go_wp2
  go_ret
  exact ⟨rfl, Below.refl _ _⟩
theorem signed_any (n : Int) : Ret 59 #[.int .i64 n] (.int .i32 (wrap32 n)) := by
  intro W
  go_enter Tryd.func59, Tryd.ntmps59
  go_wp2
  go_ret
  exact ⟨rfl, Below.refl _ _⟩
/-- The number whose 32 digits are turned. -/
def turnP (n : Int) : Int := wrap64 (bits BinOp.xor IntKind.i32 (-1) (wrap32 n))
theorem turned_any (n : Int) : Ret 24 #[.int .i64 n] (.int .i64 (turnP n)) := by
  intro W
  obtain ⟨m, hm⟩ : ∃ m, wrap32 n = m := ⟨_, rfl⟩
  have H := hide (signed_any n)
  unfold turnP
  rw [hm] at H ⊢
  clear hm
  go_enter Tryd.func24, Tryd.ntmps24
  go_wp2_with (go_at_call 59; refine (unhide H _).mono ?_; rintro e w1 ⟨rfl, hb⟩)
  trace_state
  go_ret
  exact ⟨rfl, hb⟩
theorem ofNumber_no (k n : Int) (t : ByteArray) (r : Value) (h : (k == 3) = false) : Ret 22 #[.agg (Vc k n t), r] (Tr 0 0 ByteArray.empty numT 1) := by
  intro W
  unfold Vc
  obtain ⟨W2, hW2, b1, b2, hb, hz⟩ := two_boxes W k n t
  obtain ⟨c0, c1, c2, f0, f1, f2, lt⟩ := b1.all
  have B1 := hide b1
  have B2 := hide b2
  have HB := hide hb
  have HZ := hide hz
  clear b1 b2 hb hz
  go_enter Tryd.func22, Tryd.ntmps22
  go_wp2_with (go_at_call 57; refine (throw_any numT (by decide) _).mono ?_; unfold Tr; rintro e w1 ⟨rfl, hb'⟩; unfold Vc; have hz := unhide HZ; have E2 := hide ((unhide B2).below hb' (by omega)); obtain ⟨d0, d1, d2, g0, g1, g2, lt'⟩ := (unhide E2).all)
  exact ret_vsf Tryd.results22 rfl rfl rfl (unhide E2) rfl ((unhide HB).trans (hb'.mono (by omega))) (by omega) rfl
theorem ofNumber_23 (n : Int) (t : ByteArray) (h : -9007199254740991 ≤ n ∧ n ≤ 9007199254740991) : Ret 22 #[.agg (Vc 3 n t), .func (.func 23) #[] #[]] (Tr 3 (-n) ByteArray.empty ⟨#[]⟩ 0) := by
  intro W
  unfold Vc
  obtain ⟨W2, hW2, b1, b2, hb, hz⟩ := two_boxes W 3 n t
  obtain ⟨c0, c1, c2, f0, f1, f2, lt⟩ := b1.all
  have B1 := hide b1
  have B2 := hide b2
  have HB := hide hb
  have HZ := hide hz
  have HH := hide h
  clear b1 b2 hb hz h
  go_enter Tryd.func22, Tryd.ntmps22
  go_wp2_with (first | (go_at_call 23; refine (opposite_any n (unhide HH) _).mono ?_; rintro e w1 ⟨rfl, hb'⟩; have hz := unhide HZ; have E2 := hide ((unhide B2).below hb' (by omega))) | (go_at_call 58; refine (number_any _ _).mono ?_; unfold Tr; rintro e w2 ⟨rfl, hb''⟩; unfold Vc; have lt2 := hb'.size; have E3 := hide ((unhide E2).below hb'' (by omega)); obtain ⟨d0, d1, d2, g0, g1, g2, lt'⟩ := (unhide E3).all))
  trace_state
  exact ret_vsf Tryd.results22 rfl rfl rfl (unhide E3) rfl ((unhide HB).trans ((hb'.mono (by omega)).trans (hb''.mono (by omega)))) (by omega) rfl
end Go.Proofs.YthjlhdldomfikaaDoor
