/- tree.Check in general. -/
import Derived.Laws.AppendOwn
import Derived.Laws.OwnMore
import Derived.LoopN
import Derived.WalkSmall
import Derived.Test.YtnnpkomedpjlcaaGreatDoorTJ
namespace Go.Proofs.YtnnpkomedpjlcaaGreatDoor
set_option linter.unusedSimpArgs false
set_option linter.unusedVariables false
open Go.RowKit Go.Shelf

theorem infoOpen : (Tryz.prog.info? 58).map (fun i => (i.zero, i.size, i.bytes)) = some (some (.agg #[.int .i64 0, .slice none 0 0]), 2, 32) := by kernel_rfl
theorem info_parts {t : TypeId} {z : Value} {s b : Nat} (h : (Tryz.prog.info? t).map (fun i => (i.zero, i.size, i.bytes)) = some (some z, s, b)) : ∃ i, Tryz.prog.info? t = some i ∧ i.zero = some z ∧ i.size = s ∧ i.bytes = b := by
  cases hi : Tryz.prog.info? t with
  | none => rw [hi] at h; cases h
  | some i => rw [hi] at h; simp at h; exact ⟨i, rfl, h.1, h.2.1, h.2.2⟩
theorem size3 (w : World) : (sizeOf 3).run Tryz.prog w = .ok 1 w := by kernel_rfl
theorem under27 : Tryz.prog.underlying 39 = some (.slice (Tryz.prog.elem 39)) := by kernel_rfl
theorem elem27 : Tryz.prog.elem 39 = 3 := by kernel_rfl
theorem size61 (w : World) : (sizeOf 58).run Tryz.prog w = .ok 2 w := by kernel_rfl
theorem under62 : Tryz.prog.underlying 59 = some (.slice (Tryz.prog.elem 59)) := by kernel_rfl
theorem elem62 : Tryz.prog.elem 59 = 58 := by kernel_rfl

theorem kids_tail (M : Nat) (a : Option Addr) (k : Int) (ks : List Int) (cap : Nat) (hc : ks.length + 1 ≤ cap) (hm : cap ≤ maxLen) :
    ∃ a' c', (∀ W', (Instr.slice 39 (.slice a (ks.length + 1) cap) (some (.int .i64 1)) none none).run Tryz.prog W' = .ok (.slice a' ks.length c') W') ∧ ks.length ≤ c' ∧ c' ≤ maxLen ∧ ∀ W', KidsAt W' M a (k :: ks) → KidsAt W' M a' ks := by
  refine ⟨if cap = 1 then a else a.map (·.add 1), cap - 1, fun W' => ?_, by omega, by omega, ?_⟩
  · rw [run_slice_l W' 39 a (ks.length + 1) cap under27 .i64 1 (by omega) (by omega), elem27, size3]
    rfl
  · intro W' h
    by_cases h0 : ks = []
    · exact .inl h0
    · rcases h with h | ⟨b, o, rfl, hb, hk⟩
      · cases h
      · have hl : 0 < ks.length := List.length_pos_iff.2 h0
        refine .inr ⟨b, o + 1, ?_, hb, fun j hj => ?_⟩
        · rw [if_neg (by omega)]
          rfl
        · have := hk (j + 1) (by simp; omega)
          rw [show o + 1 + j = o + (j + 1) from by omega, this]
          simp
theorem stack_pop (g n cap h : Nat) (hh : h ≤ n) (hc : n ≤ cap) (W' : World) : (Instr.slice 59 (.slice (some ⟨g, 0, none⟩) n cap) none (some (.int .i64 (h : Int))) none).run Tryz.prog W' = .ok (.slice (some ⟨g, 0, none⟩) h cap) W' := by
  rw [run_slice_h W' 59 (some ⟨g, 0, none⟩) n cap under62 .i64 h (by omega) (by omega), elem62, size61]
  simp [sliced, Result.andThen]
  intro _; rfl

theorem ownsRow_below {w w' : World} {base : Nat} {e : TypeId} {size : Nat} {v : Value} {n : Nat} {xs : List Value} (h : w.ownsRow base e size v n xs) (hb : Below w.heap.size w w') : w'.ownsRow base e size v n xs :=
  h.kept (row := none) ⟨hb.os, hb.tape, hb.output, hb.size, fun k hk _ => hb.block k hk⟩ (by cases e : v.ownBlock <;> simp)
/-- A place of the stack. -/
structure SE where
  n : Nat
  ks : List Int
  a : Option Addr
  cap : Nat
def flatS (es : List SE) : List Value := es.flatMap fun x => [.int .i64 (x.n : Int), .slice x.a x.ks.length x.cap]
theorem flatS_len (es : List SE) : (flatS es).length = es.length * 2 := by
  induction es with
  | nil => rfl
  | cons x es ih => simp only [flatS, List.flatMap_cons, List.length_append, List.length_cons] at ih ⊢; simp only [ih]; simp; omega
theorem flatS_snoc (es : List SE) (x : SE) : flatS (es ++ [x]) = flatS es ++ [.int .i64 (x.n : Int), .slice x.a x.ks.length x.cap] := by simp [flatS]
def SE.fine (W : World) (M : Nat) (l : List Nd) (x : SE) : Prop := KidsAt W M x.a x.ks ∧ x.ks.length ≤ x.cap ∧ x.cap ≤ maxLen ∧ x.n < l.length ∧ (∀ k ∈ x.ks, ins l k = true) ∧ x.ks.length ≤ 17592186044416
def stk (es : List SE) : List (Nat × List Int) := (es.map fun x => (x.n, x.ks)).reverse
theorem stk_snoc (es : List SE) (x : SE) : stk (es ++ [x]) = (x.n, x.ks) :: stk es := by simp [stk]

set_option maxRecDepth 100000 in
set_option maxHeartbeats 4000000 in
theorem check_ok (W : World) (M : Nat) (v : Value) (l : List Nd) (hN : Nodes W M v l) (hM : M ≤ W.heap.size) :
    Calls Tryz.prog 17 #[.agg #[v]] W fun e w' => e = .returned (.tuple #[.int .i64 (chkP l).1, .int .i64 (chkP l).2]) ∧ Below W.heap.size W w' := by
  obtain ⟨i0, hi, hz0, hz1, hz2⟩ := info_parts infoOpen
  have HN := hide hN
  have hlen := hN.1
  have HF := hide fits_ok
  obtain ⟨va, vc, rfl, hvc, hvm⟩ := hN.len
  have hB0 : Below W.heap.size W (W.alloc (.cells #[.slice va l.length vc] 24)) := (Below.refl _ W).alloc (Nat.le_refl _) _
  by_cases h0 : l.length = 0
  · have HR : Hid (chkP l = (0, 7)) := by show chkP l = (0, 7); simp [chkP, h0]
    rw [h0]
    rw [h0] at hB0
    clear hN
    go_enter Tryz.func17, Tryz.ntmps17
    go_wp2
    go_ret2
    rw [unhide HR]
    exact ⟨rfl, hB0⟩
  have h0' : ((l.length : Int) == 0) = false := by simp only [beq_eq_false_iff_ne]; omega
  have hpos : 0 < l.length := by omega
  cases hf0 : fitP l 0 with
  | false =>
    have HR : Hid (chkP l = (0, 7)) := chk_bad hpos hf0
    have HF0 := hide hf0
    clear hN hf0 h0
    go_enter Tryz.func17, Tryz.ntmps17
    go_wp2_with (go_at_call 32; refine (unhide HF _ M _ l 0 ((unhide HN).keep hB0 hM) hpos (Nat.le_trans hM hB0.size)).mono ?_; rintro e w2 ⟨he, hB2⟩; rw [unhide HF0] at he; subst he)
    go_ret2
    rw [unhide HR]
    exact ⟨rfl, hB0.trans (hB2.mono hB0.size)⟩
  | true =>
    have HST := hide (chk_start hpos hf0)
    have HF0 := hide hf0
    have HI0 := hide (fit_ins hf0)
    have HK0 := hide (hN.2.1 0 hpos).2
    clear hN hf0 h0
    obtain ⟨b, o, cap', ka, kc, hv, _, _, hb, d0, d1, d2, d3, d4, hkc, hkm, hK⟩ := (unhide HN).at hpos
    obtain ⟨rfl, rfl⟩ : va = some ⟨b, o, none⟩ ∧ cap' = vc := by injection hv with h1 _ h3; exact ⟨h1, h3.symm⟩
    have hbW : b < W.heap.size := Nat.lt_of_lt_of_le hb hM
    have hl0 : (0 : Int) < l.length := by omega
    rw [Nat.zero_mul, Nat.add_zero] at d0 d1 d2 d3 d4
    have HKK := hide hK
    clear hv d0 d1 d2 d4 hK
    go_enter Tryz.func17, Tryz.ntmps17
    go_wp2_with (go_at_call 32; refine (unhide HF _ M _ l 0 ((unhide HN).keep hB0 hM) hpos (Nat.le_trans hM hB0.size)).mono ?_; rintro e w2 ⟨he, hB2⟩; rw [unhide HF0] at he; subst he; have hBW2 := hB0.trans (hB2.mono hB0.size); have d3 := (hBW2.cell (p := ⟨b, o + 3, none⟩) hbW).trans d3)
    have hs2 := hBW2.size
    have hBW3 : Below W.heap.size W (w2.alloc (.cells #[.int .i64 0, .slice ka (nd l 0).kids.length kc] 58)) := hBW2.alloc hs2 _
    have hown0 : (w2.alloc (.cells #[.int .i64 0, .slice ka (nd l 0).kids.length kc] 58)).ownsRow W.heap.size 58 2 (.slice (some ⟨w2.heap.size, 0, none⟩) 1 1) 1 (flatS [⟨0, (nd l 0).kids, ka, kc⟩]) :=
      World.ownsRow_lit w2 #[.int .i64 0, .slice ka (nd l 0).kids.length kc] 1 hs2 (by unfold maxLen; omega) rfl
    have HO0 := hide hown0
    clear hown0 d3
    go_loopw [5, 6] (fun t5 t6 wr => ∃ (es : List SE) (next : Nat), t6 = .int .i64 (next : Int) ∧ wr.ownsRow W.heap.size 58 2 t5 es.length (flatS es) ∧ (∀ x ∈ es, x.fine W M l) ∧ next ≤ l.length ∧ es.length ≤ next ∧ outP l (contP l (stk es) next) = chkP l ∧ Below W.heap.size W wr) (fun t5 t6 _ => 2 * (l.length - (intOf t6).toNat) + (match t5 with | .slice _ n _ => n | _ => 0))
    case atStart =>
      refine ⟨[⟨0, (nd l 0).kids, ka, kc⟩], 1, rfl, unhide HO0, fun x hx => ?_, hpos, Nat.le_refl _, (unhide HST).symm, hBW3⟩
      obtain rfl := List.mem_singleton.1 hx
      exact ⟨unhide HKK, hkc, hkm, hpos, unhide HI0, unhide HK0⟩
    case round =>
      obtain ⟨es, next, rfl, hown, hfine, hnl, hel, hout, hB⟩ := hrel
      have HFN := hide hfine
      have HOUT := hide hout
      clear hfine hout
      rcases List.eq_nil_or_concat es with rfl | ⟨es', x, rfl⟩
      · obtain ⟨ao, cp, rfl⟩ : ∃ ao cp, u5 = .slice ao 0 cp := by
          rcases hown.2 with ⟨h, _⟩ | ⟨gw, cap, cur, h, _⟩
          · exact ⟨none, 0, h⟩
          · exact ⟨_, cap, h⟩
        clear hown
        by_cases hnx : next < l.length
        · have hnx' : (next : Int) < l.length := by omega
          have HR : Hid (chkP l = ((next : Int), 7)) := by show chkP l = _; rw [← unhide HOUT]; simp [stk, contP, outP, hnx]
          go_wp2
          go_ret2
          rw [unhide HR]
          exact ⟨rfl, hB⟩
        · have hnx' : ¬ (next : Int) < l.length := by omega
          have HR : Hid (chkP l = (-1, 0)) := by show chkP l = _; rw [← unhide HOUT]; simp [stk, contP, outP, hnx]
          go_wp2
          go_ret2
          rw [unhide HR]
          exact ⟨rfl, hB⟩
      · have hkl : (es' ++ [x]).length = es'.length + 1 := by simp
        rw [List.concat_eq_append, hkl, flatS_snoc] at hown
        rw [List.concat_eq_append, hkl] at hel
        have hx := unhide HFN x (by simp)
        have HES : Hid (∀ y ∈ es', y.fine W M l) := fun y hy => unhide HFN y (by simp [hy])
        have HO2 : Hid (outP l (contP l ((x.n, x.ks) :: stk es') next) = chkP l) := by rw [← stk_snoc, ← List.concat_eq_append]; exact unhide HOUT
        have hfl := flatS_len es'
        clear HFN HOUT hkl
        obtain ⟨k, hk⟩ : ∃ k, es'.length = k := ⟨_, rfl⟩
        rw [hk] at hown hel hfl
        obtain ⟨g, cp, rfl, hgl, hcp⟩ : ∃ g cp, u5 = .slice (some ⟨g, 0, none⟩) (k + 1) cp ∧ g < wr.heap.size ∧ k + 1 ≤ cp := by
          rcases hown.2 with ⟨_, h⟩ | ⟨gw, cap, cur, h, _, hh, h1, _⟩
          · omega
          · exact ⟨gw, cap, h, (Array.getElem?_eq_some_iff.1 hh).1, h1⟩
        have hgb : W.heap.size ≤ g := (hown.lt g rfl).1
        have c0 : wr.cell? ⟨g, k * 2, none⟩ = some (.int .i64 (x.n : Int)) := by
          rw [hown.cellAt (k * 2) (by omega), List.getElem?_append_right (by omega), hfl, Nat.sub_self]; rfl
        have c1 : wr.cell? ⟨g, k * 2 + 1, none⟩ = some (.slice x.a x.ks.length x.cap) := by
          rw [hown.cellAt (k * 2 + 1) (by omega), List.getElem?_append_right (by omega), hfl, show k * 2 + 1 - k * 2 = 1 from by omega]; rfl
        have fz : wr.frozen? ⟨g, k * 2 + 1, none⟩ = false := hown.frozenAt _
        have HOWN := hide hown
        clear hown
        obtain ⟨xn, xks, xa, xc⟩ := x
        obtain ⟨hx1, hx2, hx3, hx4, hx5, hx6⟩ := hx
        simp only at hx1 hx2 hx3 hx4 hx5 hx6 c0 c1
        cases xks with
        | nil =>
          have hpop := stack_pop g (k + 1) cp k (by omega) hcp
          have HR : Hid (outP l (contP l (stk es') next) = chkP l) := by rw [← unhide HO2]; exact congrArg (outP l) (cont_pop l xn (stk es') next).symm
          have HO3 := hide (ownsRow_pop hfl (unhide HOWN))
          simp only [List.length_nil] at c1
          go_wp2
          refine ⟨⟨es', next, rfl, by rw [hk]; exact unhide HO3, unhide HES, hnl, by omega, unhide HR, hB⟩, ?_⟩
          simp [intOf]
        | cons k0 ks =>
          simp only [List.length_cons] at c1 hx2 hx6
          obtain ⟨kb, ko, rfl, hkb, hkc0⟩ : ∃ kb ko, xa = some ⟨kb, ko, none⟩ ∧ kb < M ∧ W.cell? ⟨kb, ko, none⟩ = some (.int .i64 k0) := by
            rcases hx1 with h | ⟨kb, ko, h1, h2, h3⟩
            · cases h
            · exact ⟨kb, ko, h1, h2, by simpa using h3 0 (by simp)⟩
          have dk := (hB.cell (p := ⟨kb, ko, none⟩) (Nat.lt_of_lt_of_le hkb hM)).trans hkc0
          obtain ⟨a', c', hsl, hc1, hc2, hc3⟩ := kids_tail M (some ⟨kb, ko, none⟩) k0 ks xc hx2 hx3
          have hx1' := hc3 W hx1
          obtain ⟨hst, hgr⟩ := (unhide HOWN).stored (k * 2 + 1) (.slice a' ks.length c')
          have hset : (flatS es' ++ [Value.int .i64 (xn : Int), .slice (some ⟨kb, ko, none⟩) (ks.length + 1) xc]).set (k * 2 + 1) (.slice a' ks.length c') = flatS (es' ++ [⟨xn, ks, a', c'⟩]) := by
            rw [flatS_snoc, List.set_append_right _ _ (by omega), hfl, show k * 2 + 1 - k * 2 = 1 from by omega]; rfl
          simp only [List.length_cons] at hst
          rw [hset] at hst
          obtain ⟨wr', hwr'⟩ : ∃ wr', wr.setCell ⟨g, k * 2 + 1, none⟩ (.slice a' ks.length c') = wr' := ⟨_, rfl⟩
          have hBr : Below W.heap.size W wr' := by rw [← hwr']; exact hB.setCell (p := ⟨g, k * 2 + 1, none⟩) hgb _
          rw [hwr'] at hst
          have e0 : wr'.cell? ⟨g, k * 2, none⟩ = some (.int .i64 (xn : Int)) := by
            rw [hst.cellAt (k * 2) (by omega), flatS_snoc, List.getElem?_append_right (by omega), hfl, Nat.sub_self]; rfl
          have hgl' : g < wr'.heap.size := (hst.lt g rfl).2
          have HST := hide hst
          have HC3 := hide hc3
          have hk0 : ins l k0 = true := hx5 k0 (by simp)
          clear hst hgr hset hkc0 hc3 hx1
          by_cases hkn : k0 = (next : Int)
          · subst hkn
            have hnx := (ins_iff'.1 hk0).2
            have hnx' : next < l.length := by omega
            obtain ⟨b2, o2, cap2, kn, kcn, hv, _, _, _, _, _, _, dn3, _, hkcn, hkmn, hKn⟩ := (unhide HN).at hnx'
            obtain ⟨rfl, rfl⟩ : b2 = b ∧ o2 = o := by injection hv with h1 _ h3; injection h1 with h1; injection h1 with h1 h2; exact ⟨h1.symm, h2.symm⟩
            have HKN := hide hKn
            clear hv hKn
            cases hft : fitP l next with
            | false =>
              have HR : Hid (chkP l = ((next : Int), 7)) := by
                show chkP l = _
                have e := unhide HO2
                rw [cont_bad hnx' hft] at e
                rw [← e]; simp [outP]; omega
              have HFT := hide hft
              clear hft
              go_wp2_with (go_at_call 32; refine (unhide HF _ M _ l next ((unhide HN).keep hBr hM) hnx' (Nat.le_trans hM hBr.size)).mono ?_; rintro e w3 ⟨he, hB3⟩; rw [unhide HFT] at he; subst he)
              go_ret2
              rw [unhide HR]
              exact ⟨rfl, hBr.trans (hB3.mono hBr.size)⟩
            | true =>
              have HR : Hid (outP l (contP l (stk (es' ++ [⟨xn, ks, a', c'⟩] ++ [⟨next, (nd l next).kids, kn, kcn⟩])) (next + 1)) = chkP l) := by
                rw [stk_snoc, stk_snoc, ← unhide HO2]
                exact congrArg (outP l) (cont_push hnx' hft).symm
              have HFT := hide hft
              have HIN := hide (fit_ins hft)
              clear hft
              go_wp2_with (first | (go_at_call 32; refine (unhide HF _ M _ l next ((unhide HN).keep hBr hM) hnx' (Nat.le_trans hM hBr.size)).mono ?_; rintro e w3 ⟨he, hB3⟩; rw [unhide HFT] at he; subst he; have hBW3' := hBr.trans (hB3.mono hBr.size); have dn3 := (hBW3'.cell (p := ⟨b2, o2 + next * 5 + 3, none⟩) hbW).trans dn3; have HO3 := hide (ownsRow_below (unhide HST) hB3)) | (at_builtin; refine wpList_append_own _ rfl _ _ 59 rfl W.heap.size 58 i0 _ 2 32 Tryz.underlying59 hi hz0 hz1 hz2 rfl (by decide) _ _ _ rfl ((unhide HO3).alloc _) ⟨w3.heap.size, 0, none⟩ 1 1 [.int .i64 (next : Int), .slice kn (nd l next).kids.length kcn] rfl rfl ?c1 ?c2 ?c3 ?c4 ?c5 ?_))
              case c1 =>
                intro j u hj
                rw [Addr.add_lit, Nat.zero_add, World.cell?_alloc_mark]
                rw [← hj]; simp
              case c2 => intro u hu; simp at hu; rcases hu with rfl | rfl <;> rfl
              case c3 => unfold maxLen; omega
              case c4 => omega
              case c5 => have h1 := hBW3'.size; simp; omega
              intro v' w4 hown4 hg4 _
              have hB4 : Below W.heap.size W w4 := (hBW3'.alloc hBW3'.size _).grown hg4 (by have h1 := hBW3'.size; simp; omega) (fun j hj => by simp [Value.ownBlock] at hj; omega)
              have HO4 : Hid (w4.ownsRow W.heap.size 58 2 v' (k + 1 + 1) (flatS (es' ++ [⟨xn, ks, a', c'⟩] ++ [⟨next, (nd l next).kids, kn, kcn⟩]))) := by
                show w4.ownsRow W.heap.size 58 2 v' (k + 1 + 1) _
                rw [flatS_snoc]; exact hown4
              obtain ⟨g4, cp4, rfl⟩ := ownsRow_succ hown4
              clear hown4 hg4
              go_wp2
              refine ⟨⟨es' ++ [⟨xn, ks, a', c'⟩] ++ [⟨next, (nd l next).kids, kn, kcn⟩], next + 1, by go_num, by simp only [List.length_append, List.length_cons, List.length_nil, hk]; exact unhide HO4, fun y hy => ?_, by omega, by simp only [List.length_append, List.length_cons, List.length_nil, hk]; omega, unhide HR, hB4⟩, ?_⟩
              · simp only [List.mem_append, List.mem_singleton] at hy
                rcases hy with (hy | rfl) | rfl
                · exact unhide HES y hy
                · exact ⟨hx1', hc1, hc2, hx4, fun k hk => hx5 k (by simp [hk]), by simp; omega⟩
                · exact ⟨unhide HKN, hkcn, hkmn, hnx', unhide HIN, ((unhide HN).2.1 next hnx').2⟩
              · simp [intOf]; omega
          · have hkn' : (k0 != (next : Int)) = true := by simpa using hkn
            have HR : Hid (chkP l = ((xn : Int), 7)) := by
              show chkP l = _
              have e := unhide HO2
              rw [cont_off hkn] at e
              rw [← e]; simp [outP]; omega
            clear hkn
            go_wp2
            go_ret2
            rw [unhide HR]
            exact ⟨rfl, hBr⟩
end Go.Proofs.YtnnpkomedpjlcaaGreatDoor
