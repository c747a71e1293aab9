/- Merged: D1, D2. -/
import Derived.BigQuiet
import Derived.Deep.QuietTactic
import Derived.LoopTactic
import Derived.Test.YtdgocaokmmhenaaGreatDoorHK
import Derived.Test.YtdgocaokmmhenaaGreatDoorVZ
import Derived.Test.YtdgocaokmmhenaaGreatDoorWR
/- One step, done to a Heap that has nothing and to the document's. -/
namespace Go.Proofs.YtdgocaokmmhenaaGreatDoor
set_option linter.unusedSimpArgs false
set_option linter.unusedVariables false
set_option maxRecDepth 100000
set_option maxHeartbeats 2000000
open Go.RowKit Go.Shelf

/-- The cells of a step. -/
def Sc (k n m vk vn : Int) (vt : ByteArray) (wk wn : Int) (wt : ByteArray) (xk xn : Int) (xt key : ByteArray) : Array Value := #[.int .i64 k, .int .i64 n, .int .i64 m, .int .i64 vk, .int .i64 vn, .string vt, .int .i64 wk, .int .i64 wn, .string wt, .int .i64 xk, .int .i64 xn, .string xt, .string key]
def Sb (w : World) (b : Nat) (k n m vk vn : Int) (vt : ByteArray) (wk wn : Int) (wt : ByteArray) (xk xn : Int) (xt key : ByteArray) : Prop := Bx w b (Sc k n m vk vn vt wk wn wt xk xn xt key) 25
variable {k n m vk vn wk wn xk xn : Int} {vt wt xt key : ByteArray}
theorem Sb.all {w : World} {b : Nat} (h : Sb w b k n m vk vn vt wk wn wt xk xn xt key) : w.cell? ⟨b, 0, none⟩ = some (.int .i64 k) ∧ w.cell? ⟨b, 1, none⟩ = some (.int .i64 n) ∧ w.cell? ⟨b, 2, none⟩ = some (.int .i64 m) ∧ w.cell? ⟨b, 3, none⟩ = some (.int .i64 vk) ∧ w.cell? ⟨b, 4, none⟩ = some (.int .i64 vn) ∧ w.cell? ⟨b, 5, none⟩ = some (.string vt) ∧ w.cell? ⟨b, 6, none⟩ = some (.int .i64 wk) ∧ w.cell? ⟨b, 7, none⟩ = some (.int .i64 wn) ∧ w.cell? ⟨b, 8, none⟩ = some (.string wt) ∧ w.cell? ⟨b, 9, none⟩ = some (.int .i64 xk) ∧ w.cell? ⟨b, 10, none⟩ = some (.int .i64 xn) ∧ w.cell? ⟨b, 11, none⟩ = some (.string xt) ∧ w.cell? ⟨b, 12, none⟩ = some (.string key) ∧ b < w.heap.size :=
  ⟨Bx.cell h 0 rfl, Bx.cell h 1 rfl, Bx.cell h 2 rfl, Bx.cell h 3 rfl, Bx.cell h 4 rfl, Bx.cell h 5 rfl, Bx.cell h 6 rfl, Bx.cell h 7 rfl, Bx.cell h 8 rfl, Bx.cell h 9 rfl, Bx.cell h 10 rfl, Bx.cell h 11 rfl, Bx.cell h 12 rfl, Bx.lt h⟩
theorem Sb.up2 {w w' : World} {b : Nat} (h : Sb w b k n m vk vn vt wk wn wt xk xn xt key) (hb : Below w.heap.size w w') : Sb w' b k n m vk vn vt wk wn wt xk xn xt key := Bx.below h hb (Bx.lt h)
theorem new_step (W : World) (k n m vk vn : Int) (vt : ByteArray) (wk wn : Int) (wt : ByteArray) (xk xn : Int) (xt key : ByteArray) : ∃ W2, W.alloc (.cells #[.int .i64 k, .int .i64 n, .int .i64 m, .int .i64 vk, .int .i64 vn, .string vt, .int .i64 wk, .int .i64 wn, .string wt, .int .i64 xk, .int .i64 xn, .string xt, .string key] 25) = W2 ∧ Sb W2 W.heap.size k n m vk vn vt wk wn wt xk xn xt key ∧ Below W.heap.size W W2 :=
  ⟨_, rfl, Bx.new W _ _, below_one W _⟩
theorem new_out54 (w : World) (k n f : Int) (t s : ByteArray) : ∃ W3, w.alloc (.cells #[.int .i64 k, .int .i64 n, .string t, .string s, .int .i64 f] 54) = W3 ∧ Bo W3 w.heap.size k n t s f ∧ Below w.heap.size w W3 ∧ W3.heap.size = w.heap.size + 1 :=
  ⟨_, rfl, Bx.new w _ _, below_one _ _, by simp⟩
theorem same_any (k n : Int) (t s : ByteArray) (f : Int) : Ret 15 #[.agg (Vc k n t), .string s, .int .i64 f, .agg (Oc k n t s f)] (.bool true) := by
  intro W
  obtain ⟨W1, hW1, b1, hb, hz⟩ := new_box W k n t
  obtain ⟨W2, hW2, b2, hb2, hz2⟩ := new_out54 W1 k n f t s
  obtain ⟨c0, c1, c2, f0, f1, f2, lt⟩ := (b1.up2 hb2).all
  obtain ⟨d0, d1, d2, d3, d4, g0, g1, g2, g3, g4, lt'⟩ := b2.all
  have HB := hide (Below.upp hb hb2)
  rw [hz] at d0 d1 d2 d3 d4 g0 g1 g2 g3 g4 lt'
  unfold Vc Oc
  clear b1 b2 hb hb2 hz2
  go_enter Tryz.func15, Tryz.ntmps15
  go_wp2
  go_ret
  exact ⟨rfl, unhide HB⟩
theorem isAbv {A : World} {f : FuncId} {args : Array Value} {v : Value} (h : RetA A f args v) : ∀ w, Below A.heap.size A w → Calls Tryz.prog f args w fun e w' => e = .returned v ∧ Below w.heap.size w w' := h
variable {A : World} {p : Value} {b : Nat}
theorem does_1 (hp : Hp A p) (hr : Rp A b) : RetA A 7 #[p, .pointer (some ⟨b, 0, none⟩), .agg (Sc 1 n m vk vn vt wk wn wt xk xn xt key)] (.bool true) := by
  intro W hA
  obtain ⟨W2, hW2, b1, hb⟩ := new_step W 1 n m vk vn vt wk wn wt xk xn xt key
  obtain ⟨s0, s1, s2, s3, s4, s5, s6, s7, s8, s9, s10, s11, s12, ls⟩ := b1.all
  have H1 := hide ((nMake A p hp n m).abv hA)
  have H2 := hide ((rMake A b hr n m).abv hA)
  have ST := hide b1
  have HB := hide hb
  unfold Sc
  clear b1 hb hA hp hr
  go_enter Tryz.func7, Tryz.ntmps7
  go_wp2_with (first
    | (go_at_call 10; refine (unhide H1 _ (unhide HB)).mono ?_; clear H1; rintro e w1 ⟨rfl, q⟩; have ST := hide ((unhide ST).up2 q); have HB := hide (Below.upp (unhide HB) q); obtain ⟨s0, s1, s2, s3, s4, s5, s6, s7, s8, s9, s10, s11, s12, ls⟩ := (unhide ST).all; clear q)
    | (go_at_call 13; refine (unhide H2 _ (unhide HB)).mono ?_; clear H2; rintro e w1 ⟨rfl, q⟩; have ST := hide ((unhide ST).up2 q); have HB := hide (Below.upp (unhide HB) q); obtain ⟨s0, s1, s2, s3, s4, s5, s6, s7, s8, s9, s10, s11, s12, ls⟩ := (unhide ST).all; clear q))
  go_ret
  exact ⟨rfl, unhide HB⟩
theorem does_3 (hp : Hp A p) (hr : Rp A b) : RetA A 7 #[p, .pointer (some ⟨b, 0, none⟩), .agg (Sc 3 n m vk vn vt wk wn wt xk xn xt key)] (.bool true) := by
  intro W hA
  obtain ⟨W2, hW2, b1, hb⟩ := new_step W 3 n m vk vn vt wk wn wt xk xn xt key
  obtain ⟨s0, s1, s2, s3, s4, s5, s6, s7, s8, s9, s10, s11, s12, ls⟩ := b1.all
  have H1 := hide ((nSet A p hp vk vn wk wn vt key wt).abv hA)
  have H2 := hide ((rSet A b hr vk vn wk wn vt key wt).abv hA)
  have ST := hide b1
  have HB := hide hb
  unfold Vc at H1 H2
  unfold Oc at H2
  unfold Sc
  clear b1 hb hA hp hr
  go_enter Tryz.func7, Tryz.ntmps7
  go_wp2_with (first
    | (go_at_call 11; refine (unhide H1 _ (unhide HB)).mono ?_; clear H1; rintro e w1 ⟨rfl, q⟩; have ST := hide ((unhide ST).up2 q); have HB := hide (Below.upp (unhide HB) q); obtain ⟨s0, s1, s2, s3, s4, s5, s6, s7, s8, s9, s10, s11, s12, ls⟩ := (unhide ST).all; clear q)
    | (go_at_call 17; refine (unhide H2 _ (unhide HB)).mono ?_; clear H2; rintro e w1 ⟨rfl, q⟩; have ST := hide ((unhide ST).up2 q); have HB := hide (Below.upp (unhide HB) q); obtain ⟨s0, s1, s2, s3, s4, s5, s6, s7, s8, s9, s10, s11, s12, ls⟩ := (unhide ST).all; clear q)
    | (go_at_call 15; refine (same_any 0 0 ⟨#[]⟩ noMem 1 _).mono ?_; rintro e w1 ⟨rfl, q⟩; have HB := hide (Below.upp (unhide HB) q); clear q))
  go_ret
  exact ⟨rfl, unhide HB⟩
theorem does_4 (hp : Hp A p) (hr : Rp A b) : RetA A 7 #[p, .pointer (some ⟨b, 0, none⟩), .agg (Sc 4 n m vk vn vt wk wn wt xk xn xt key)] (.bool true) := by
  intro W hA
  obtain ⟨W2, hW2, b1, hb⟩ := new_step W 4 n m vk vn vt wk wn wt xk xn xt key
  obtain ⟨s0, s1, s2, s3, s4, s5, s6, s7, s8, s9, s10, s11, s12, ls⟩ := b1.all
  have H1 := hide ((nHas A p hp vk vn vt key).abv hA)
  have H2 := hide ((rHas A b hr vk vn vt key).abv hA)
  have ST := hide b1
  have HB := hide hb
  unfold Vc at H1 H2
  unfold Oc at H2
  unfold Sc
  clear b1 hb hA hp hr
  go_enter Tryz.func7, Tryz.ntmps7
  go_wp2_with (first
    | (go_at_call 18; refine (unhide H1 _ (unhide HB)).mono ?_; clear H1; rintro e w1 ⟨rfl, q⟩; have ST := hide ((unhide ST).up2 q); have HB := hide (Below.upp (unhide HB) q); obtain ⟨s0, s1, s2, s3, s4, s5, s6, s7, s8, s9, s10, s11, s12, ls⟩ := (unhide ST).all; clear q)
    | (go_at_call 19; refine (unhide H2 _ (unhide HB)).mono ?_; clear H2; rintro e w1 ⟨rfl, q⟩; obtain ⟨W3, hW3, e1, e3, e4⟩ := new_out54 w1 0 0 1 ByteArray.empty noInT; have q := Below.upp q e3; have ST := hide ((unhide ST).up2 q); have HB := hide (Below.upp (unhide HB) q); have Q1 := hide e1; obtain ⟨s0, s1, s2, s3, s4, s5, s6, s7, s8, s9, s10, s11, s12, ls⟩ := (unhide ST).all; obtain ⟨d0, d1, d2, d3, d4, g0, g1, g2, g3, g4, lt'⟩ := (unhide Q1).all; clear q e1 e3 e4)
    | (go_at_call 15; refine (same_any 0 0 ⟨#[]⟩ noInT 1 _).mono ?_; rintro e w1 ⟨rfl, q⟩; have HB := hide (Below.upp (unhide HB) q); clear q))
  go_ret
  exact ⟨rfl, unhide HB⟩
theorem does_6 (hp : Hp A p) (hr : Rp A b) : RetA A 7 #[p, .pointer (some ⟨b, 0, none⟩), .agg (Sc 6 n m vk vn vt wk wn wt xk xn xt key)] (.bool true) := by
  intro W hA
  obtain ⟨W2, hW2, b1, hb⟩ := new_step W 6 n m vk vn vt wk wn wt xk xn xt key
  obtain ⟨s0, s1, s2, s3, s4, s5, s6, s7, s8, s9, s10, s11, s12, ls⟩ := b1.all
  have H1 := hide ((nPut A p hp vk vn wk wn xk xn vt wt xt).abv hA)
  have H2 := hide ((rPut A b hr vk vn wk wn xk xn vt wt xt).abv hA)
  have ST := hide b1
  have HB := hide hb
  generalize putT (sK wk) = s at H1 H2
  unfold Vc at H1 H2
  unfold Oc at H2
  unfold Sc
  clear b1 hb hA hp hr
  go_enter Tryz.func7, Tryz.ntmps7
  go_wp2_with (first
    | (go_at_call 22; refine (unhide H1 _ (unhide HB)).mono ?_; clear H1; rintro e w1 ⟨rfl, q⟩; have ST := hide ((unhide ST).up2 q); have HB := hide (Below.upp (unhide HB) q); obtain ⟨s0, s1, s2, s3, s4, s5, s6, s7, s8, s9, s10, s11, s12, ls⟩ := (unhide ST).all; clear q)
    | (go_at_call 23; refine (unhide H2 _ (unhide HB)).mono ?_; clear H2; rintro e w1 ⟨rfl, q⟩; have ST := hide ((unhide ST).up2 q); have HB := hide (Below.upp (unhide HB) q); obtain ⟨s0, s1, s2, s3, s4, s5, s6, s7, s8, s9, s10, s11, s12, ls⟩ := (unhide ST).all; clear q)
    | (go_at_call 15; refine (same_any 0 0 ⟨#[]⟩ s 1 _).mono ?_; rintro e w1 ⟨rfl, q⟩; have HB := hide (Below.upp (unhide HB) q); clear q))
  go_ret
  exact ⟨rfl, unhide HB⟩
theorem does_7 (hp : Hp A p) (hr : Rp A b) : RetA A 7 #[p, .pointer (some ⟨b, 0, none⟩), .agg (Sc 7 n m vk vn vt wk wn wt xk xn xt key)] (.bool true) := by
  intro W hA
  obtain ⟨W2, hW2, b1, hb⟩ := new_step W 7 n m vk vn vt wk wn wt xk xn xt key
  obtain ⟨s0, s1, s2, s3, s4, s5, s6, s7, s8, s9, s10, s11, s12, ls⟩ := b1.all
  have H1 := hide ((nPush A p hp n vk vn vt).abv hA)
  have H2 := hide ((rPush A b hr n vk vn vt).abv hA)
  have ST := hide b1
  have HB := hide hb
  unfold Vc at H1 H2
  unfold Sc
  clear b1 hb hA hp hr
  go_enter Tryz.func7, Tryz.ntmps7
  go_wp2_with (first
    | (go_at_call 24; refine (unhide H1 _ (unhide HB)).mono ?_; clear H1; rintro e w1 ⟨rfl, q⟩; have ST := hide ((unhide ST).up2 q); have HB := hide (Below.upp (unhide HB) q); obtain ⟨s0, s1, s2, s3, s4, s5, s6, s7, s8, s9, s10, s11, s12, ls⟩ := (unhide ST).all; clear q)
    | (go_at_call 25; refine (unhide H2 _ (unhide HB)).mono ?_; clear H2; rintro e w1 ⟨rfl, q⟩; have ST := hide ((unhide ST).up2 q); have HB := hide (Below.upp (unhide HB) q); obtain ⟨s0, s1, s2, s3, s4, s5, s6, s7, s8, s9, s10, s11, s12, ls⟩ := (unhide ST).all; clear q))
  go_ret
  exact ⟨rfl, unhide HB⟩
theorem does_8 (hp : Hp A p) (hr : Rp A b) : RetA A 7 #[p, .pointer (some ⟨b, 0, none⟩), .agg (Sc 8 n m vk vn vt wk wn wt xk xn xt key)] (.bool true) := by
  intro W hA
  obtain ⟨W2, hW2, b1, hb⟩ := new_step W 8 n m vk vn vt wk wn wt xk xn xt key
  obtain ⟨s0, s1, s2, s3, s4, s5, s6, s7, s8, s9, s10, s11, s12, ls⟩ := b1.all
  have H1 := hide ((nLen A p hp n).abv hA)
  have H2 := hide ((rLen A b hr n).abv hA)
  have H3 := hide ((nKind A p hp n).abv hA)
  have H4 := hide ((rKind A b hr n).abv hA)
  have ST := hide b1
  have HB := hide hb
  unfold Sc
  clear b1 hb hA hp hr
  go_enter Tryz.func7, Tryz.ntmps7
  go_upto_region 27 with fail
  refine region_C (C := fun w' => Below W2.heap.size W2 w') (by kernel_rfl) (by kernel_rfl) (Below.refl _ _).drew ?_
  have HSS := hide (fun w' (hw : Below W2.heap.size W2 w') => ((unhide ST).up2 hw).all)
  repeat (first
    | go_big_quiet_skip
    | (go_big_quiet_want
       go_big_quiet_op
       first
         | go_big_quiet_on
         | (apply Exists.intro
            refine ⟨fun w hw => ?_, ?_⟩
            first
              | rfl
              | with_reducible exact (unhide H1 w (Below.upp (unhide HB) hw)).mono fun e w2 h => ⟨h.1, hw.trans (h.2.mono hw.size)⟩
              | with_reducible exact (unhide H2 w (Below.upp (unhide HB) hw)).mono fun e w2 h => ⟨h.1, hw.trans (h.2.mono hw.size)⟩
              | with_reducible exact (unhide H3 w (Below.upp (unhide HB) hw)).mono fun e w2 h => ⟨h.1, hw.trans (h.2.mono hw.size)⟩
              | with_reducible exact (unhide H4 w (Below.upp (unhide HB) hw)).mono fun e w2 h => ⟨h.1, hw.trans (h.2.mono hw.size)⟩
              | (obtain ⟨a0, a1, a2, a3, a4, a5, a6, a7, a8, a9, a10, a11, a12, -⟩ := unhide HSS w hw
                 go_simp
                 first | done | rfl | exact ⟨rfl, rfl⟩)
            go_big_quiet_on)))
  refine wpQuiet_nil ?_
  intro wz hwz
  have HBZ := hide (Below.upp (unhide HB) hwz)
  clear hwz
  go_wp2
  go_ret
  exact ⟨rfl, unhide HBZ⟩
theorem does_9 (hp : Hp A p) (hr : Rp A b) : RetA A 7 #[p, .pointer (some ⟨b, 0, none⟩), .agg (Sc 9 n m vk vn vt wk wn wt xk xn xt key)] (.bool true) := by
  intro W hA
  obtain ⟨W2, hW2, b1, hb⟩ := new_step W 9 n m vk vn vt wk wn wt xk xn xt key
  obtain ⟨s0, s1, s2, s3, s4, s5, s6, s7, s8, s9, s10, s11, s12, ls⟩ := b1.all
  have H1 := hide ((nTypeof A p hp vk vn vt).abv hA)
  have H2 := hide ((rTypeof A b hr vk vn vt).abv hA)
  have ST := hide b1
  have HB := hide hb
  generalize typT vk = s at H1 H2
  unfold Vc at H1 H2
  unfold Sc
  clear b1 hb hA hp hr
  go_enter Tryz.func7, Tryz.ntmps7
  go_upto_region 29 with fail
  refine region_C (C := fun w' => Below W2.heap.size W2 w') (by kernel_rfl) (by kernel_rfl) (Below.refl _ _).drew ?_
  have HSS := hide (fun w' (hw : Below W2.heap.size W2 w') => ((unhide ST).up2 hw).all)
  repeat (first
    | go_big_quiet_skip
    | (go_big_quiet_want
       go_big_quiet_op
       first
         | go_big_quiet_on
         | (apply Exists.intro
            refine ⟨fun w hw => ?_, ?_⟩
            first
              | rfl
              | with_reducible exact (unhide H1 w (Below.upp (unhide HB) hw)).mono fun e w2 h => ⟨h.1, hw.trans (h.2.mono hw.size)⟩
              | with_reducible exact (unhide H2 w (Below.upp (unhide HB) hw)).mono fun e w2 h => ⟨h.1, hw.trans (h.2.mono hw.size)⟩
              | (obtain ⟨a0, a1, a2, a3, a4, a5, a6, a7, a8, a9, a10, a11, a12, -⟩ := unhide HSS w hw
                 go_simp
                 first | done | rfl | exact ⟨rfl, rfl⟩)
            go_big_quiet_on)))
  refine wpQuiet_nil ?_
  intro wz hwz
  have HBZ := hide (Below.upp (unhide HB) hwz)
  clear hwz
  go_wp2
  go_ret
  exact ⟨rfl, unhide HBZ⟩
theorem does_0 (hp : Hp A p) (hr : Rp A b) (hT : Lib.TabIs Tryz.prog A "internal/strconv.uint64pow10" .u64 Lib.pow10Tab) (hv : vt.size ≤ 1048576) (e1 : (k == 1) = false) (e2 : (k == 2) = false) (e3 : (k == 3) = false) (e4 : (k == 4) = false) (e5 : (k == 5) = false) (e6 : (k == 6) = false) (e7 : (k == 7) = false) (e8 : (k == 8) = false) (e9 : (k == 9) = false) : RetA A 7 #[p, .pointer (some ⟨b, 0, none⟩), .agg (Sc k n m vk vn vt wk wn wt xk xn xt key)] (.bool true) := by
  intro W hA
  obtain ⟨W2, hW2, b1, hb⟩ := new_step W k n m vk vn vt wk wn wt xk xn xt key
  obtain ⟨s0, s1, s2, s3, s4, s5, s6, s7, s8, s9, s10, s11, s12, ls⟩ := b1.all
  have H1 := hide ((nShow A p hp hT vk vn vt (by omega)).abv hA)
  have H2 := hide ((rShow A b hr vk vn vt hv).abv hA)
  have ST := hide b1
  have HB := hide hb
  generalize textP (sK vk) (sN vk vn) (stlT vk vt) = s at H1 H2
  unfold Vc at H1 H2
  clear hT hv
  unfold Sc
  clear b1 hb hA hp hr
  go_enter Tryz.func7, Tryz.ntmps7
  go_upto_region 30 with fail
  refine region_C (C := fun w' => Below W2.heap.size W2 w') (by kernel_rfl) (by kernel_rfl) (Below.refl _ _).drew ?_
  have HSS := hide (fun w' (hw : Below W2.heap.size W2 w') => ((unhide ST).up2 hw).all)
  repeat (first
    | go_big_quiet_skip
    | (go_big_quiet_want
       go_big_quiet_op
       first
         | go_big_quiet_on
         | (apply Exists.intro
            refine ⟨fun w hw => ?_, ?_⟩
            first
              | rfl
              | with_reducible exact (unhide H1 w (Below.upp (unhide HB) hw)).mono fun e w2 h => ⟨h.1, hw.trans (h.2.mono hw.size)⟩
              | with_reducible exact (unhide H2 w (Below.upp (unhide HB) hw)).mono fun e w2 h => ⟨h.1, hw.trans (h.2.mono hw.size)⟩
              | (obtain ⟨a0, a1, a2, a3, a4, a5, a6, a7, a8, a9, a10, a11, a12, -⟩ := unhide HSS w hw
                 go_simp
                 first | done | rfl | exact ⟨rfl, rfl⟩)
            go_big_quiet_on)))
  refine wpQuiet_nil ?_
  intro wz hwz
  have HBZ := hide (Below.upp (unhide HB) hwz)
  clear hwz
  go_wp2
  go_ret
  exact ⟨rfl, unhide HBZ⟩
theorem does_2 (hp : Hp A p) (hr : Rp A b) (hv : vt.size ≤ 1048576) : RetA A 7 #[p, .pointer (some ⟨b, 0, none⟩), .agg (Sc 2 n m vk vn vt wk wn wt xk xn xt key)] (.bool true) := by
  intro W hA
  obtain ⟨W2, hW2, b1, hb⟩ := new_step W 2 n m vk vn vt wk wn wt xk xn xt key
  obtain ⟨s0, s1, s2, s3, s4, s5, s6, s7, s8, s9, s10, s11, s12, ls⟩ := b1.all
  have H1 := hide ((nGet A p hp vk vn vt key hv).abv hA)
  have H2 := hide ((rGet A b hr vk vn vt key hv).abv hA)
  generalize getP (sK vk) (stlT vk vt) key = r at H1 H2
  obtain ⟨rk, rn', rt, rs, rf⟩ := r
  have H3 := hide (((same_any rk rn' rt rs rf).at A).abv hA)
  have ST := hide b1
  have HB := hide hb
  unfold R5.tr Tr Vc at H1
  unfold R5.oc Oc Vc at H2
  unfold Vc Oc at H3
  dsimp only at H1 H2
  unfold Sc
  clear b1 hb hA hp hr hv
  go_enter Tryz.func7, Tryz.ntmps7
  go_upto_region 8 with (go_at_call 14; refine (unhide H1 _ (unhide HB)).mono ?_; clear H1; rintro e w1 ⟨rfl, q⟩; obtain ⟨W3, hW3, e1, e3, e4⟩ := new_box w1 rk rn' rt; have q := Below.upp q e3; have ST := hide ((unhide ST).up2 q); have HB := hide (Below.upp (unhide HB) q); have Q1 := hide e1; obtain ⟨s0, s1, s2, s3, s4, s5, s6, s7, s8, s9, s10, s11, s12, ls⟩ := (unhide ST).all; obtain ⟨c0, c1, c2, f0, f1, f2, lt⟩ := (unhide Q1).all; clear q e1 e3 e4)
  refine region_C (C := fun w' => Below W3.heap.size W3 w') (by kernel_rfl) (by kernel_rfl) (Below.refl _ _).drew ?_
  have HSS := hide (fun w' (hw : Below W3.heap.size W3 w') => And.intro ((unhide ST).up2 hw).all ((unhide Q1).up2 hw).all)
  repeat (first
    | go_big_quiet_skip
    | (go_big_quiet_want
       go_big_quiet_op
       first
         | go_big_quiet_on
         | (apply Exists.intro
            refine ⟨fun w hw => ?_, ?_⟩
            first
              | rfl
              | with_reducible exact (unhide H2 w (Below.upp (unhide HB) hw)).mono fun e w2 h => ⟨h.1, hw.trans (h.2.mono hw.size)⟩
              | with_reducible exact (unhide H3 w (Below.upp (unhide HB) hw)).mono fun e w2 h => ⟨h.1, hw.trans (h.2.mono hw.size)⟩
              | (obtain ⟨⟨a0, a1, a2, a3, a4, a5, a6, a7, a8, a9, a10, a11, a12, -⟩, ⟨u0, u1, u2, -, -, -, -⟩⟩ := unhide HSS w hw
                 go_simp
                 first | done | rfl | exact ⟨rfl, rfl⟩)
            go_big_quiet_on)))
  refine wpQuiet_nil ?_
  intro wz hwz
  have HBZ := hide (Below.upp (unhide HB) hwz)
  clear hwz
  go_wp2
  go_ret
  exact ⟨rfl, unhide HBZ⟩
theorem does_5 (hp : Hp A p) (hr : Rp A b) (hv : vt.size ≤ 1048576) : RetA A 7 #[p, .pointer (some ⟨b, 0, none⟩), .agg (Sc 5 n m vk vn vt wk wn wt xk xn xt key)] (.bool true) := by
  intro W hA
  obtain ⟨W2, hW2, b1, hb⟩ := new_step W 5 n m vk vn vt wk wn wt xk xn xt key
  obtain ⟨s0, s1, s2, s3, s4, s5, s6, s7, s8, s9, s10, s11, s12, ls⟩ := b1.all
  have H1 := hide ((nAt A p hp vk vn wk wn vt wt hv).abv hA)
  have H2 := hide ((rAt A b hr vk vn wk wn vt wt hv).abv hA)
  generalize atQ (sK vk) (stlT vk vt) (sK wk) (sN wk wn) (stlT wk wt) = r at H1 H2
  obtain ⟨rk, rn', rt, rs, rf⟩ := r
  have H3 := hide (((same_any rk rn' rt rs rf).at A).abv hA)
  have ST := hide b1
  have HB := hide hb
  unfold R5.tr Tr Vc at H1
  unfold R5.oc Oc Vc at H2
  unfold Vc Oc at H3
  dsimp only at H1 H2
  unfold Sc
  clear b1 hb hA hp hr hv
  go_enter Tryz.func7, Tryz.ntmps7
  go_upto_region 18 with (go_at_call 20; refine (unhide H1 _ (unhide HB)).mono ?_; clear H1; rintro e w1 ⟨rfl, q⟩; obtain ⟨W3, hW3, e1, e3, e4⟩ := new_box w1 rk rn' rt; have q := Below.upp q e3; have ST := hide ((unhide ST).up2 q); have HB := hide (Below.upp (unhide HB) q); have Q1 := hide e1; obtain ⟨s0, s1, s2, s3, s4, s5, s6, s7, s8, s9, s10, s11, s12, ls⟩ := (unhide ST).all; obtain ⟨c0, c1, c2, f0, f1, f2, lt⟩ := (unhide Q1).all; clear q e1 e3 e4)
  refine region_C (C := fun w' => Below W3.heap.size W3 w') (by kernel_rfl) (by kernel_rfl) (Below.refl _ _).drew ?_
  have HSS := hide (fun w' (hw : Below W3.heap.size W3 w') => And.intro ((unhide ST).up2 hw).all ((unhide Q1).up2 hw).all)
  repeat (first
    | go_big_quiet_skip
    | (go_big_quiet_want
       go_big_quiet_op
       first
         | go_big_quiet_on
         | (apply Exists.intro
            refine ⟨fun w hw => ?_, ?_⟩
            first
              | rfl
              | with_reducible exact (unhide H2 w (Below.upp (unhide HB) hw)).mono fun e w2 h => ⟨h.1, hw.trans (h.2.mono hw.size)⟩
              | with_reducible exact (unhide H3 w (Below.upp (unhide HB) hw)).mono fun e w2 h => ⟨h.1, hw.trans (h.2.mono hw.size)⟩
              | (obtain ⟨⟨a0, a1, a2, a3, a4, a5, a6, a7, a8, a9, a10, a11, a12, -⟩, ⟨u0, u1, u2, -, -, -, -⟩⟩ := unhide HSS w hw
                 go_simp
                 first | done | rfl | exact ⟨rfl, rfl⟩)
            go_big_quiet_on)))
  refine wpQuiet_nil ?_
  intro wz hwz
  have HBZ := hide (Below.upp (unhide HB) hwz)
  clear hwz
  go_wp2
  go_ret
  exact ⟨rfl, unhide HBZ⟩
theorem does_any (hp : Hp A p) (hr : Rp A b) (hT : Lib.TabIs Tryz.prog A "internal/strconv.uint64pow10" .u64 Lib.pow10Tab) (hv : vt.size ≤ 1048576) (k : Int) : RetA A 7 #[p, .pointer (some ⟨b, 0, none⟩), .agg (Sc k n m vk vn vt wk wn wt xk xn xt key)] (.bool true) := by
  by_cases h1 : k = 1
  · subst h1; exact does_1 hp hr
  by_cases h2 : k = 2
  · subst h2; exact does_2 hp hr hv
  by_cases h3 : k = 3
  · subst h3; exact does_3 hp hr
  by_cases h4 : k = 4
  · subst h4; exact does_4 hp hr
  by_cases h5 : k = 5
  · subst h5; exact does_5 hp hr hv
  by_cases h6 : k = 6
  · subst h6; exact does_6 hp hr
  by_cases h7 : k = 7
  · subst h7; exact does_7 hp hr
  by_cases h8 : k = 8
  · subst h8; exact does_8 hp hr
  by_cases h9 : k = 9
  · subst h9; exact does_9 hp hr
  exact does_0 hp hr hT hv (by simpa using h1) (by simpa using h2) (by simpa using h3) (by simpa using h4) (by simpa using h5) (by simpa using h6) (by simpa using h7) (by simpa using h8) (by simpa using h9)
end Go.Proofs.YtdgocaokmmhenaaGreatDoor

/- The law HeapOfNothing, walked. -/
namespace Go.Proofs.YtdgocaokmmhenaaGreatDoor
set_option linter.unusedSimpArgs false
set_option linter.unusedVariables false
set_option maxRecDepth 100000
set_option maxHeartbeats 2000000
open Go.RowKit Go.Shelf

variable {k n m vk vn wk wn xk xn : Int} {vt wt xt key : ByteArray}
theorem heavy_one (W : World) (g : Nat) (h : Sb W g k n m vk vn vt wk wn wt xk xn xt key) (hv : vt.size ≤ 140737488355328) (hw : wt.size ≤ 140737488355328) (hx : xt.size ≤ 140737488355328) (hk : key.size ≤ 140737488355328) (r : Bool) (hr : r = decide (8000 < key.size + vt.size + wt.size + xt.size)) :
    Calls Tryz.prog 4 #[.slice (some ⟨g, 0, none⟩) 1 1] W fun e w' => e = .returned (.bool r) ∧ Below W.heap.size W w' := by
  have ga : (vt.size : Int) ≤ 140737488355328 := by omega
  have gb : (wt.size : Int) ≤ 140737488355328 := by omega
  have gc : (xt.size : Int) ≤ 140737488355328 := by omega
  have gd : (key.size : Int) ≤ 140737488355328 := by omega
  have ST := hide h
  have HR := hide hr
  clear h hr hv hw hx hk
  go_enter Tryz.func4, Tryz.ntmps4
  go_wp2
  go_loopw [3, 4] (fun x3 x4 wr => Below W.heap.size W wr ∧ ((x3 = .int .i64 0 ∧ x4 = .int .i64 0) ∨ (x4 = .int .i64 1 ∧ r = false))) (fun _ x4 _ => 1 - (intOf x4).toNat)
  case atStart => exact ⟨Below.refl _ _, .inl ⟨rfl, rfl⟩⟩
  case round =>
    obtain ⟨hb, hc⟩ := hrel
    have HB := hide hb
    have S2 := hide ((unhide ST).up2 hb)
    clear hb
    rcases hc with ⟨rfl, rfl⟩ | ⟨rfl, rfl⟩
    · obtain ⟨s0, s1, s2, s3, s4, s5, s6, s7, s8, s9, s10, s11, s12, ls⟩ := (unhide S2).all
      by_cases hbig : (8000 : Int) < (key.size : Int) + (vt.size : Int) + (wt.size : Int) + (xt.size : Int)
      · have hr : r = true := by rw [unhide HR]; exact decide_eq_true (by omega)
        subst hr
        go_wp2
        go_quiet (fail)
        go_wp2
        go_ret
        exact ⟨rfl, (unhide HB).trans ⟨rfl, rfl, rfl, Nat.le_refl _, fun _ _ => rfl⟩⟩
      · have hr : r = false := by rw [unhide HR]; exact decide_eq_false (by omega)
        subst hr
        go_wp2
        go_quiet (fail)
        go_wp2
        exact ⟨⟨(unhide HB).trans ⟨rfl, rfl, rfl, Nat.le_refl _, fun _ _ => rfl⟩, .inr ⟨rfl, by first | rfl | trivial⟩⟩, by simp [intOf]⟩
    · go_wp2
      go_ret
      exact ⟨rfl, unhide HB⟩
theorem rNew (W : World) : Calls Tryz.prog 6 #[.int .i64 0] W fun e w' => ∃ b, e = .returned (.tuple #[.pointer (some ⟨b, 0, none⟩), .int .i64 0]) ∧ Rp w' b ∧ Below W.heap.size W w' := by
  obtain ⟨W2, hW2, hx, hb⟩ : ∃ W2, W.alloc (.cells #[.int .i64 0, .int .i64 0, .slice none 0 0] 49) = W2 ∧ Bx W2 W.heap.size #[.int .i64 0, .int .i64 0, .slice none 0 0] 49 ∧ Below W.heap.size W W2 := ⟨_, rfl, Bx.new W _ _, below_one W _⟩
  go_enter Tryz.func6, Tryz.ntmps6
  go_wp2
  go_ret2
  exact ⟨_, rfl, hx, hb⟩
theorem new_heap (W : World) : ∃ W2, W.alloc (.cells #[.int .i64 0, .int .i64 0, .slice none 0 0] 36) = W2 ∧ Hp W2 (.pointer (some ⟨W.heap.size, 0, none⟩)) ∧ Below W.heap.size W W2 := ⟨_, rfl, .inr ⟨_, rfl, Bx.new W _ _⟩, below_one W _⟩
theorem nothing_any (W : World) (hT : Lib.TabIs Tryz.prog W "internal/strconv.uint64pow10" .u64 Lib.pow10Tab) (hv : vt.size ≤ 140737488355328) (hw : wt.size ≤ 140737488355328) (hx : xt.size ≤ 140737488355328) (hk : key.size ≤ 140737488355328) :
    Calls Tryz.prog 3 #[.agg (Sc k n m vk vn vt wk wn wt xk xn xt key)] W fun e w' => e = .returned (.bool true) ∧ Below W.heap.size W w' := by
  obtain ⟨W2, hW2, b1, hb⟩ := new_step W k n m vk vn vt wk wn wt xk xn xt key
  obtain ⟨W3, hW3, b3, hb3⟩ := new_step W2 k n m vk vn vt wk wn wt xk xn xt key
  obtain ⟨s0, s1, s2, s3, s4, s5, s6, s7, s8, s9, s10, s11, s12, ls⟩ := b1.all
  have HH := hide (heavy_one W3 W2.heap.size b3 hv hw hx hk _ rfl)
  have HKN := hide known_any
  have ST := hide (b1.up2 hb3)
  have HB := hide (Below.upp hb hb3)
  have HTT := hide hT
  have hz2 : W2.heap.size = W.heap.size + 1 := by rw [← hW2]; simp
  by_cases hbig : 8000 < key.size + vt.size + wt.size + xt.size
  · rw [decide_eq_true hbig] at HH
    unfold Sc
    clear b1 b3 hb hb3 hT hv hw hx hk hbig
    rw [hz2] at HH
    go_enter Tryz.func3, Tryz.ntmps3
    go_wp2_with (first
      | (go_at_call 4; refine (unhide HH).mono ?_; rintro e w1 ⟨rfl, q⟩; have HB := hide (Below.upp (unhide HB) q); clear q)
      | (go_at_call 5; refine (unhide HKN _).mono ?_; rintro e w2 ⟨rfl, q⟩; have HB := hide (Below.upp (unhide HB) q); clear q))
    go_ret
    exact ⟨rfl, unhide HB⟩
  · rw [decide_eq_false hbig] at HH
    have hv2 : vt.size ≤ 1048576 := by omega
    have DO : Hid (∀ (A : World) (p : Value) (b : Nat), Hp A p → Rp A b → Below W.heap.size W A → Calls Tryz.prog 7 #[p, .pointer (some ⟨b, 0, none⟩), .agg (Sc k n m vk vn vt wk wn wt xk xn xt key)] A fun e w' => e = .returned (.bool true) ∧ Below A.heap.size A w') := fun A p b hp hr hA => does_any hp hr (tab_up hT (by decide) hA) hv2 k A (Below.refl _ _)
    unfold Sc at DO ⊢
    clear b1 b3 hb hb3 hT hv hw hx hk hbig hv2
    rw [hz2] at HH
    go_enter Tryz.func3, Tryz.ntmps3
    go_wp2_with (first
      | (go_at_call 4; refine (unhide HH).mono ?_; clear HH; rintro e w1 ⟨rfl, q⟩; have HB := hide (Below.upp (unhide HB) q); have ST := hide ((unhide ST).up2 q); clear q)
      | (go_at_call 6
         refine (rNew _).mono ?_
         rintro e w2 ⟨b, rfl, hr, q⟩
         obtain ⟨W5, hW5, hp5, q5⟩ := new_heap w2
         have q := Below.upp q q5
         have HB := hide (Below.upp (unhide HB) q)
         have ST := hide ((unhide ST).up2 q)
         have HR := hide (hr.up q5)
         have D1 := hide (unhide DO _ _ b hp5 (hr.up q5) (unhide HB))
         obtain ⟨s0, s1, s2, s3, s4, s5, s6, s7, s8, s9, s10, s11, s12, ls⟩ := (unhide ST).all
         clear q q5 hr hp5)
      | (go_at_call 7
         refine (unhide D1).mono ?_
         clear D1
         rintro e w6 ⟨rfl, q⟩
         have HB := hide (Below.upp (unhide HB) q)
         have ST := hide ((unhide ST).up2 q)
         have D2 := hide (unhide DO _ (.pointer none) b (.inl rfl) ((unhide HR).up q) (unhide HB))
         obtain ⟨s0, s1, s2, s3, s4, s5, s6, s7, s8, s9, s10, s11, s12, ls⟩ := (unhide ST).all
         clear q)
      | (go_at_call 7
         refine (unhide D2).mono ?_
         clear D2
         rintro e w7 ⟨rfl, q⟩
         obtain ⟨W8, hW8, hp8, q8⟩ := new_heap w7
         have HB := hide (Below.upp (unhide HB) (Below.upp q q8))
         have US := hide (nUsed W8 _ hp8 W8 (Below.refl _ _))
         clear q q8 hp8)
      | (go_at_call 8; refine (unhide US).mono ?_; clear US; rintro e w9 ⟨rfl, q⟩; have HB := hide (Below.upp (unhide HB) q); clear q)
      | (go_at_call 5; refine (unhide HKN _).mono ?_; rintro e w10 ⟨rfl, q⟩; have HB := hide (Below.upp (unhide HB) q); clear q))
    go_ret
    exact ⟨rfl, unhide HB⟩
end Go.Proofs.YtdgocaokmmhenaaGreatDoor
