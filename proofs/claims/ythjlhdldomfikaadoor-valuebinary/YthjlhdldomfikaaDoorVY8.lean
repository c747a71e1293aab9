/- The law ValueOrder, walked: two numbers, two good texts. -/
import Derived.LoopTactic
import Derived.Deep.QuietTactic
import Derived.BigQuiet
import Derived.Test.YthjlhdldomfikaaDoorVY6
import Derived.Test.YthjlhdldomfikaaDoorVY7
import Derived.Test.YthjlhdldomfikaaDoorVJ
import Derived.Test.YthjlhdldomfikaaDoorVK
namespace Go.Proofs.YthjlhdldomfikaaDoor
set_option linter.unusedSimpArgs false
set_option linter.unusedVariables false
set_option maxRecDepth 100000
set_option maxHeartbeats 4000000
open Go.RowKit Go.Shelf

/-- A region whose operations only read and whose callees leave a class of worlds: one walk serves every order. -/
theorem region_Q {P : Program} {C : World → Prop} {id : Nat} {Q : Exit → Act → World → Prop} {a : Act} {w : World} {l : List Oper} (hm : P.follows .mixedOrders = true) (hB : Region.lexB .any l.toArray = true) (hC : C { w with drawn := w.drawn + 1 })
    (h : wpQuiet P l.toArray C (fun a' => ∀ w', C w' → Q .normal a' w') l a) : (Code.region id l.toArray true).wp P Q a w :=
  wp_region_quiet (C := C) hm hB hC (by simpa using h)
theorem Ret.all {f : FuncId} {args : Array Value} {v : Value} (h : Ret f args v) : ∀ w, Calls Tryd.prog f args w fun e w' => e = .returned v ∧ Below w.heap.size w w' := h
theorem two_vx (W : World) (k n : Int) (t : ByteArray) (k' n' : Int) (t' : ByteArray) : ∃ W2, (W.alloc (.cells #[.int .i64 k, .int .i64 n, .string t] 23)).alloc (.cells #[.int .i64 k', .int .i64 n', .string t'] 23) = W2 ∧ Bv W2 W.heap.size k n t ∧ Bv W2 (W.heap.size + 1) k' n' t' ∧ Below W.heap.size W W2 := by
  refine ⟨_, rfl, (Bx.new W _ _).alloc _, ?_, below_two _ _ _⟩
  have := Bx.new (W.alloc (.cells #[.int .i64 k, .int .i64 n, .string t] 23)) (Vc k' n' t') 23
  rw [World.size_alloc] at this
  exact this
theorem order_num (n n' : Int) (t t' : ByteArray) (hs : t.size + t'.size ≤ 70000) (l e g : Bool) (hone : (l = true ∧ e = false ∧ g = false) ∨ (l = false ∧ e = true ∧ g = false) ∨ (l = false ∧ e = false ∧ g = true))
    (HL : Ret 12 #[.string ⟨#[60]⟩, .agg (Vc 3 n t), .agg (Vc 3 n' t')] (tB l).tr) (HE : Ret 12 #[.string ⟨#[61, 61, 61]⟩, .agg (Vc 3 n t), .agg (Vc 3 n' t')] (tB e).tr) (HR : Ret 12 #[.string ⟨#[60]⟩, .agg (Vc 3 n' t'), .agg (Vc 3 n t)] (tB g).tr)
    (HLE : Ret 12 #[.string ⟨#[60, 61]⟩, .agg (Vc 3 n t), .agg (Vc 3 n' t')] (tB (!g)).tr) (HGT : Ret 12 #[.string ⟨#[62]⟩, .agg (Vc 3 n t), .agg (Vc 3 n' t')] (tB g).tr) (HGE : Ret 12 #[.string ⟨#[62, 61]⟩, .agg (Vc 3 n t), .agg (Vc 3 n' t')] (tB (!l)).tr) :
    Ret 7 #[.agg (Vc 3 n t), .agg (Vc 3 n' t')] (.bool true) := by
  intro W
  obtain ⟨W2, hW2, b1, b2, hb⟩ := two_vx W 3 n t 3 n' t'
  obtain ⟨c0, c1, c2, f0, f1, f2, lt⟩ := b1.all
  obtain ⟨x0, x1, x2, y0, y1, y2, ly⟩ := b2.all
  have X1 := hide b1
  have X2 := hide b2
  have HB := hide hb
  have HKN := hide known_any
  have HY1 := yes_any l
  have HY2 := yes_any e
  have HY3 := yes_any g
  have HYT : Ret 19 #[.agg #[.int .i64 2, .int .i64 1, .string ByteArray.empty], .string ⟨#[]⟩, .int .i64 0] (.bool true) := yes_any true
  have HYF : Ret 19 #[.agg #[.int .i64 2, .int .i64 0, .string ByteArray.empty], .string ⟨#[]⟩, .int .i64 0] (.bool false) := yes_any false
  replace HYT := hide HYT
  replace HYF := hide HYF
  have gs : ¬ ((70000 : Int) < (t.size : Int) + (t'.size : Int)) := by omega
  have ga : (t.size : Int) ≤ 70000 := by omega
  have gb : (t'.size : Int) ≤ 70000 := by omega
  clear b1 b2 hb hs
  rcases hone with ⟨rfl, rfl, rfl⟩ | ⟨rfl, rfl, rfl⟩ | ⟨rfl, rfl, rfl⟩
  all_goals
    simp only [tB, R5.tr, Tr, bI, Vc, Bool.not_true, Bool.not_false, if_true, if_false, Bool.false_eq_true] at HL HE HR HLE HGT HGE HY1 HY2 HY3
    simp only [Vc]
    have HL2 := hide HL
    replace HL := hide HL
    replace HY1 := hide HY1
    replace HY2 := hide HY2
    replace HY3 := hide HY3
    replace HE := hide HE
    replace HR := hide HR
    replace HLE := hide HLE
    replace HGT := hide HGT
    replace HGE := hide HGE
    go_enter Tryd.func7, Tryd.ntmps7
    go_upto_region 12 with (first
    | (go_at_call 12; refine (unhide HL _).mono ?_; clear HL; rintro e1 w1 ⟨rfl, q⟩; have X1 := hide (Bv.up (unhide X1) q); have X2 := hide (Bv.up (unhide X2) q); have HB := hide (Below.up (unhide HB) q); clear q; obtain ⟨c0, c1, c2, f0, f1, f2, lt⟩ := Bv.all (unhide X1); obtain ⟨x0, x1, x2, y0, y1, y2, ly⟩ := Bv.all (unhide X2))
    | (go_at_call 12; refine (unhide HE _).mono ?_; clear HE; rintro e1 w1 ⟨rfl, q⟩; have X1 := hide (Bv.up (unhide X1) q); have X2 := hide (Bv.up (unhide X2) q); have HB := hide (Below.up (unhide HB) q); clear q; obtain ⟨c0, c1, c2, f0, f1, f2, lt⟩ := Bv.all (unhide X1); obtain ⟨x0, x1, x2, y0, y1, y2, ly⟩ := Bv.all (unhide X2))
    | (go_at_call 12; refine (unhide HR _).mono ?_; clear HR; rintro e1 w1 ⟨rfl, q⟩; have X1 := hide (Bv.up (unhide X1) q); have X2 := hide (Bv.up (unhide X2) q); have HB := hide (Below.up (unhide HB) q); clear q; obtain ⟨c0, c1, c2, f0, f1, f2, lt⟩ := Bv.all (unhide X1); obtain ⟨x0, x1, x2, y0, y1, y2, ly⟩ := Bv.all (unhide X2))
    | (go_at_call 19; refine (unhide HY1 _).mono ?_; clear HY1; rintro e1 w1 ⟨rfl, q⟩; have X1 := hide (Bv.up (unhide X1) q); have X2 := hide (Bv.up (unhide X2) q); have HB := hide (Below.up (unhide HB) q); clear q; obtain ⟨c0, c1, c2, f0, f1, f2, lt⟩ := Bv.all (unhide X1); obtain ⟨x0, x1, x2, y0, y1, y2, ly⟩ := Bv.all (unhide X2))
    | (go_at_call 19; refine (unhide HY2 _).mono ?_; clear HY2; rintro e1 w1 ⟨rfl, q⟩; have X1 := hide (Bv.up (unhide X1) q); have X2 := hide (Bv.up (unhide X2) q); have HB := hide (Below.up (unhide HB) q); clear q; obtain ⟨c0, c1, c2, f0, f1, f2, lt⟩ := Bv.all (unhide X1); obtain ⟨x0, x1, x2, y0, y1, y2, ly⟩ := Bv.all (unhide X2))
    | (go_at_call 19; refine (unhide HY3 _).mono ?_; clear HY3; rintro e1 w1 ⟨rfl, q⟩; have X1 := hide (Bv.up (unhide X1) q); have X2 := hide (Bv.up (unhide X2) q); have HB := hide (Below.up (unhide HB) q); clear q; obtain ⟨c0, c1, c2, f0, f1, f2, lt⟩ := Bv.all (unhide X1); obtain ⟨x0, x1, x2, y0, y1, y2, ly⟩ := Bv.all (unhide X2)))
    have Q1 := hide (Ret.all (unhide HLE))
    have Q2 := hide (Ret.all (unhide HGT))
    have Q3 := hide (Ret.all (unhide HGE))
    have Q4 := hide (Ret.all (unhide HL2))
    have Q5 := hide (Ret.all (unhide HYT))
    have Q6 := hide (Ret.all (unhide HYF))
    have Q7 := hide (Ret.all (unhide HKN))
    clear HLE HGT HGE HL2
    refine region_Q (C := fun w' => Below w1.heap.size w1 w') (by kernel_rfl) (by kernel_rfl) (Below.refl _ _).drew ?_
    have HSS := hide (fun w' (hw : Below w1.heap.size w1 w') => And.intro ((unhide X1).up hw).all ((unhide X2).up hw).all)
    repeat (first
      | go_big_quiet_skip
      | (go_big_quiet_want
         go_big_quiet_op
         first
           | go_big_quiet_on
           | (apply Exists.intro
              refine ⟨fun w hw => ?_, ?_⟩
              first
                | rfl
                | with_reducible exact (unhide Q1 w).mono fun e w2 h => ⟨h.1, hw.trans (h.2.mono hw.size)⟩
                | with_reducible exact (unhide Q2 w).mono fun e w2 h => ⟨h.1, hw.trans (h.2.mono hw.size)⟩
                | with_reducible exact (unhide Q3 w).mono fun e w2 h => ⟨h.1, hw.trans (h.2.mono hw.size)⟩
                | with_reducible exact (unhide Q4 w).mono fun e w2 h => ⟨h.1, hw.trans (h.2.mono hw.size)⟩
                | with_reducible exact (unhide Q5 w).mono fun e w2 h => ⟨h.1, hw.trans (h.2.mono hw.size)⟩
                | with_reducible exact (unhide Q6 w).mono fun e w2 h => ⟨h.1, hw.trans (h.2.mono hw.size)⟩
                | with_reducible exact (unhide Q7 w).mono fun e w2 h => ⟨h.1, hw.trans (h.2.mono hw.size)⟩
                | (obtain ⟨⟨a1, b1, c1, -, -, -, -⟩, ⟨a2, b2, c2, -, -, -, -⟩⟩ := unhide HSS w hw
                   go_simp
                   first | done | rfl | exact ⟨rfl, rfl⟩)
              go_big_quiet_on)))
    refine wpQuiet_nil ?_
    intro wz hwz
    have HWZ := hide hwz
    clear hwz
    go_wp2
    go_ret
    exact ⟨rfl, Below.up (unhide HB) (unhide HWZ)⟩
theorem order_txt (n n' : Int) (t t' : ByteArray) (hs : t.size + t'.size ≤ 70000) (l e g : Bool) (hone : (l = true ∧ e = false ∧ g = false) ∨ (l = false ∧ e = true ∧ g = false) ∨ (l = false ∧ e = false ∧ g = true))
    (HL : Ret 12 #[.string ⟨#[60]⟩, .agg (Vc 4 n t), .agg (Vc 4 n' t')] (tB l).tr) (HE : Ret 12 #[.string ⟨#[61, 61, 61]⟩, .agg (Vc 4 n t), .agg (Vc 4 n' t')] (tB e).tr) (HR : Ret 12 #[.string ⟨#[60]⟩, .agg (Vc 4 n' t'), .agg (Vc 4 n t)] (tB g).tr)
    (HLE : Ret 12 #[.string ⟨#[60, 61]⟩, .agg (Vc 4 n t), .agg (Vc 4 n' t')] (tB (!g)).tr) (HGT : Ret 12 #[.string ⟨#[62]⟩, .agg (Vc 4 n t), .agg (Vc 4 n' t')] (tB g).tr) (HGE : Ret 12 #[.string ⟨#[62, 61]⟩, .agg (Vc 4 n t), .agg (Vc 4 n' t')] (tB (!l)).tr) (HG1 : Ret 18 #[.string t] (.bool true)) (HG2 : Ret 18 #[.string t'] (.bool true)) :
    Ret 7 #[.agg (Vc 4 n t), .agg (Vc 4 n' t')] (.bool true) := by
  intro W
  obtain ⟨W2, hW2, b1, b2, hb⟩ := two_vx W 4 n t 4 n' t'
  obtain ⟨c0, c1, c2, f0, f1, f2, lt⟩ := b1.all
  obtain ⟨x0, x1, x2, y0, y1, y2, ly⟩ := b2.all
  have X1 := hide b1
  have X2 := hide b2
  have HB := hide hb
  have HKN := hide known_any
  have HY1 := yes_any l
  have HY2 := yes_any e
  have HY3 := yes_any g
  have HYT : Ret 19 #[.agg #[.int .i64 2, .int .i64 1, .string ByteArray.empty], .string ⟨#[]⟩, .int .i64 0] (.bool true) := yes_any true
  have HYF : Ret 19 #[.agg #[.int .i64 2, .int .i64 0, .string ByteArray.empty], .string ⟨#[]⟩, .int .i64 0] (.bool false) := yes_any false
  replace HYT := hide HYT
  replace HYF := hide HYF
  replace HG1 := hide HG1
  replace HG2 := hide HG2
  have gs : ¬ ((70000 : Int) < (t.size : Int) + (t'.size : Int)) := by omega
  have ga : (t.size : Int) ≤ 70000 := by omega
  have gb : (t'.size : Int) ≤ 70000 := by omega
  clear b1 b2 hb hs
  rcases hone with ⟨rfl, rfl, rfl⟩ | ⟨rfl, rfl, rfl⟩ | ⟨rfl, rfl, rfl⟩
  all_goals
    simp only [tB, R5.tr, Tr, bI, Vc, Bool.not_true, Bool.not_false, if_true, if_false, Bool.false_eq_true] at HL HE HR HLE HGT HGE HY1 HY2 HY3
    simp only [Vc]
    have HL2 := hide HL
    replace HL := hide HL
    replace HY1 := hide HY1
    replace HY2 := hide HY2
    replace HY3 := hide HY3
    replace HE := hide HE
    replace HR := hide HR
    replace HLE := hide HLE
    replace HGT := hide HGT
    replace HGE := hide HGE
    go_enter Tryd.func7, Tryd.ntmps7
    go_upto_region 12 with (first
    | (go_at_call 12; refine (unhide HL _).mono ?_; clear HL; rintro e1 w1 ⟨rfl, q⟩; have X1 := hide (Bv.up (unhide X1) q); have X2 := hide (Bv.up (unhide X2) q); have HB := hide (Below.up (unhide HB) q); clear q; obtain ⟨c0, c1, c2, f0, f1, f2, lt⟩ := Bv.all (unhide X1); obtain ⟨x0, x1, x2, y0, y1, y2, ly⟩ := Bv.all (unhide X2))
    | (go_at_call 12; refine (unhide HE _).mono ?_; clear HE; rintro e1 w1 ⟨rfl, q⟩; have X1 := hide (Bv.up (unhide X1) q); have X2 := hide (Bv.up (unhide X2) q); have HB := hide (Below.up (unhide HB) q); clear q; obtain ⟨c0, c1, c2, f0, f1, f2, lt⟩ := Bv.all (unhide X1); obtain ⟨x0, x1, x2, y0, y1, y2, ly⟩ := Bv.all (unhide X2))
    | (go_at_call 12; refine (unhide HR _).mono ?_; clear HR; rintro e1 w1 ⟨rfl, q⟩; have X1 := hide (Bv.up (unhide X1) q); have X2 := hide (Bv.up (unhide X2) q); have HB := hide (Below.up (unhide HB) q); clear q; obtain ⟨c0, c1, c2, f0, f1, f2, lt⟩ := Bv.all (unhide X1); obtain ⟨x0, x1, x2, y0, y1, y2, ly⟩ := Bv.all (unhide X2))
    | (go_at_call 19; refine (unhide HY1 _).mono ?_; clear HY1; rintro e1 w1 ⟨rfl, q⟩; have X1 := hide (Bv.up (unhide X1) q); have X2 := hide (Bv.up (unhide X2) q); have HB := hide (Below.up (unhide HB) q); clear q; obtain ⟨c0, c1, c2, f0, f1, f2, lt⟩ := Bv.all (unhide X1); obtain ⟨x0, x1, x2, y0, y1, y2, ly⟩ := Bv.all (unhide X2))
    | (go_at_call 19; refine (unhide HY2 _).mono ?_; clear HY2; rintro e1 w1 ⟨rfl, q⟩; have X1 := hide (Bv.up (unhide X1) q); have X2 := hide (Bv.up (unhide X2) q); have HB := hide (Below.up (unhide HB) q); clear q; obtain ⟨c0, c1, c2, f0, f1, f2, lt⟩ := Bv.all (unhide X1); obtain ⟨x0, x1, x2, y0, y1, y2, ly⟩ := Bv.all (unhide X2))
    | (go_at_call 19; refine (unhide HY3 _).mono ?_; clear HY3; rintro e1 w1 ⟨rfl, q⟩; have X1 := hide (Bv.up (unhide X1) q); have X2 := hide (Bv.up (unhide X2) q); have HB := hide (Below.up (unhide HB) q); clear q; obtain ⟨c0, c1, c2, f0, f1, f2, lt⟩ := Bv.all (unhide X1); obtain ⟨x0, x1, x2, y0, y1, y2, ly⟩ := Bv.all (unhide X2))
    | (go_at_call 18; refine (unhide HG1 _).mono ?_; clear HG1; rintro e1 w1 ⟨rfl, q⟩; have X1 := hide (Bv.up (unhide X1) q); have X2 := hide (Bv.up (unhide X2) q); have HB := hide (Below.up (unhide HB) q); clear q; obtain ⟨c0, c1, c2, f0, f1, f2, lt⟩ := Bv.all (unhide X1); obtain ⟨x0, x1, x2, y0, y1, y2, ly⟩ := Bv.all (unhide X2))
    | (go_at_call 18; refine (unhide HG2 _).mono ?_; clear HG2; rintro e1 w1 ⟨rfl, q⟩; have X1 := hide (Bv.up (unhide X1) q); have X2 := hide (Bv.up (unhide X2) q); have HB := hide (Below.up (unhide HB) q); clear q; obtain ⟨c0, c1, c2, f0, f1, f2, lt⟩ := Bv.all (unhide X1); obtain ⟨x0, x1, x2, y0, y1, y2, ly⟩ := Bv.all (unhide X2)))
    have Q1 := hide (Ret.all (unhide HLE))
    have Q2 := hide (Ret.all (unhide HGT))
    have Q3 := hide (Ret.all (unhide HGE))
    have Q4 := hide (Ret.all (unhide HL2))
    have Q5 := hide (Ret.all (unhide HYT))
    have Q6 := hide (Ret.all (unhide HYF))
    have Q7 := hide (Ret.all (unhide HKN))
    clear HLE HGT HGE HL2
    refine region_Q (C := fun w' => Below w1.heap.size w1 w') (by kernel_rfl) (by kernel_rfl) (Below.refl _ _).drew ?_
    have HSS := hide (fun w' (hw : Below w1.heap.size w1 w') => And.intro ((unhide X1).up hw).all ((unhide X2).up hw).all)
    repeat (first
      | go_big_quiet_skip
      | (go_big_quiet_want
         go_big_quiet_op
         first
           | go_big_quiet_on
           | (apply Exists.intro
              refine ⟨fun w hw => ?_, ?_⟩
              first
                | rfl
                | with_reducible exact (unhide Q1 w).mono fun e w2 h => ⟨h.1, hw.trans (h.2.mono hw.size)⟩
                | with_reducible exact (unhide Q2 w).mono fun e w2 h => ⟨h.1, hw.trans (h.2.mono hw.size)⟩
                | with_reducible exact (unhide Q3 w).mono fun e w2 h => ⟨h.1, hw.trans (h.2.mono hw.size)⟩
                | with_reducible exact (unhide Q4 w).mono fun e w2 h => ⟨h.1, hw.trans (h.2.mono hw.size)⟩
                | with_reducible exact (unhide Q5 w).mono fun e w2 h => ⟨h.1, hw.trans (h.2.mono hw.size)⟩
                | with_reducible exact (unhide Q6 w).mono fun e w2 h => ⟨h.1, hw.trans (h.2.mono hw.size)⟩
                | with_reducible exact (unhide Q7 w).mono fun e w2 h => ⟨h.1, hw.trans (h.2.mono hw.size)⟩
                | (obtain ⟨⟨a1, b1, c1, -, -, -, -⟩, ⟨a2, b2, c2, -, -, -, -⟩⟩ := unhide HSS w hw
                   go_simp
                   first | done | rfl | exact ⟨rfl, rfl⟩)
              go_big_quiet_on)))
    refine wpQuiet_nil ?_
    intro wz hwz
    have HWZ := hide hwz
    clear hwz
    go_wp2
    go_ret
    exact ⟨rfl, Below.up (unhide HB) (unhide HWZ)⟩
end Go.Proofs.YthjlhdldomfikaaDoor
