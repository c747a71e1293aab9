/- Assignable, over types that have no parts. -/
import Derived.Test.YtapnnbgcdijfpaaGreatDoorML
namespace Go.Proofs.YtapnnbgcdijfpaaGreatDoor
set_option linter.unusedSimpArgs false
set_option linter.unusedVariables false
set_option maxRecDepth 100000
set_option maxHeartbeats 4000000
open Go.RowKit Go.Shelf
attribute [local go_sem] Oper.semAt_some

variable {P : Program} {lo M : Nat} {mo : Option Nat} {dv : Value} {L : List Kt} {W : World}
theorem MemAt.made {m n : Nat} (h : W.heap[m]? = some (.map #[] 0)) : MemAt m n W :=
  ⟨.map [], ⟨#[], 0, h, ⟨by simp, MapKept.stamped_empty 0, by simp⟩, Nat.zero_le _, rfl⟩, ⟨⟨_, rfl⟩, fun kl hk => by simp [Maps.has] at hk⟩⟩
theorem enter87 : ∀ args w, (callFunc 87 args).run Tryz.prog w = .ok (.enter 87 args) w := enters_of Tryz.func87 (by kernel_rfl) rfl
/-- What a worklist that is begun leaves. -/
theorem reached_any (b : Nat) (W : World) : Calls Tryz.prog 51 #[.pointer (some ⟨b, 0, none⟩)] W fun e w' => e = .returned (.func (.func 87) #[] #[.pointer (some ⟨W.heap.size, 0, none⟩)]) ∧ w' = W.alloc (.cells #[.pointer (some ⟨b, 0, none⟩)] 93) := by
  go_enter Tryz.func51, Tryz.ntmps51
  go_wp2
  go_ret
  exact ⟨rfl, rfl⟩
theorem asg_any (h : AAt Tryz.prog lo M mo dv L W) (i j : Nat) (s : Int)
    (hin : i < L.length ∧ j < L.length)
    (hask : ∀ b m u, Ru lo M mo dv L b m 0 u → Calls Tryz.prog 88 #[.pointer (some ⟨b, 0, none⟩), .agg #[.int .i64 (i : Int), .int .i64 (j : Int)]] u fun e w' => e = .returned (.agg #[.slice none 0 0, .int .i64 s]) ∧ Ru lo M mo dv L b m (0 + 2) w' ∧ u.grownBy w' (some m)) :
    CallsIn Fence.wide 9 Tryz.prog 24 #[.pointer (some ⟨M, 0, none⟩), .int .i64 (i : Int), .int .i64 (j : Int)] W fun e w' => e = .returned (.tuple #[.bool (decide (0 ≤ s)), .int .i64 0]) ∧ Below W.heap.size W w' := by
  obtain ⟨tv, hM0, hK⟩ := h.row
  obtain ⟨a, cap, htv⟩ : ∃ a cap, tv = .slice a L.length cap := by
    obtain ⟨vs, h1, h2, h3⟩ := hK
    rcases h2.2 with ⟨e, e'⟩ | ⟨g, cap, cur, e, _⟩
    · exact ⟨none, 0, by rw [e, e']⟩
    · exact ⟨_, _, e⟩
  subst htv
  have cM : W.cell? ⟨M, 0, none⟩ = some (.slice a L.length cap) := by simp [World.cell?, hM0]
  have hp : (if inP L.length i && inP L.length j then (0 : Int) else 11) = 0 := by simp [inP]; omega
  have HQ := hide (ask_any W M a L.length cap cM i j)
  rw [hp] at HQ
  have HB := hide (begun_any M (i : Int) (j : Int) W)
  have HH := hide h
  have HAK := hide hask
  have hM := h.lt
  clear hM0 hK cM hp h hask
  refine callsIn_of_wp_marks Tryz.func24 rfl trivial ?_ rfl
  simp only [Tryz.ntmps24, List.size_toArray, List.length_cons, List.length_nil, Nat.reduceAdd, Nat.reduceSub, Array.replicate_succ, Array.replicate_zero, List.push_toArray, List.append_toArray, List.nil_append, List.cons_append]
  gi_wp2_with (first
    | (refine ⟨trivial, ?_⟩
       gi_at_call 49
       refine (callsIn_wide.2 (unhide HQ)).mono ?_
       rintro e w0 ⟨rfl, h0⟩
       rw [h0]
       clear h0)
    | (refine ⟨trivial, ?_⟩
       gi_at_call 50
       refine (callsIn_wide.2 (unhide HB)).mono ?_
       rintro e w1 ⟨b, m, r, k, rfl, hb1, hb2, hb3, hb4, hb5, hb6, hb7⟩)
    | (refine ⟨trivial, ?_⟩
       gi_at_call 51
       refine (callsIn_wide.2 (reached_any b _)).mono ?_
       rintro e w2 ⟨rfl, rfl⟩))
  obtain ⟨W2, hW2⟩ : ∃ W2, (w1.alloc (.cells #[.pointer (some ⟨b, 0, none⟩)] 93)).alloc (.cells #[.pointer (some ⟨b, 0, none⟩)] 93) = W2 := ⟨_, rfl⟩
  have hz2 : W2.heap.size = w1.heap.size + 1 + 1 := by rw [← hW2]; simp
  have hB2 : Below w1.heap.size w1 W2 := by rw [← hW2]; exact ((Below.refl _ w1).alloc (Nat.le_refl _) _).alloc (by simp) _
  have hcb : Bx W2 w1.heap.size #[.pointer (some ⟨b, 0, none⟩)] 93 := by rw [← hW2]; exact (Below.heap_alloc _ _ _ (by simp)).trans (al_at w1 _)
  have hbb : Bx W2 (w1.heap.size + 1) #[.pointer (some ⟨b, 0, none⟩)] 93 := by rw [← hW2]; have := al_at (w1.alloc (.cells #[.pointer (some ⟨b, 0, none⟩)] 93)) (.cells #[.pointer (some ⟨b, 0, none⟩)] 93); simpa [Bx] using this
  rw [hW2]
  clear hW2
  have hBW2 : Below W.heap.size W W2 := hb7.trans (hB2.mono hb7.size)
  have hml : m < w1.heap.size := (Array.getElem?_eq_some_iff.1 hb2).1
  have hwk : Wk M b m r k i j 0 W2 := ⟨hb1.below hB2 hb1.lt, hb3.below hB2 hb3.lt⟩
  have hne : some m ≠ mo := fun e => by
    have hn := (unhide HH).num
    rw [← e] at hn
    obtain ⟨_, _, _, _, ho, _⟩ := hn
    have := map_lt ho
    omega
  have hru : Ru lo M mo dv L b m 0 W2 := ⟨(unhide HH).below hBW2, hwk.bx.cell 0 rfl, hwk.bx.cell 1 rfl, MemAt.made ((hB2.block m hml).trans hb2), hne⟩
  have hRs : Rs lo M mo dv L b m r k (w1.heap.size + 1) i j 0 0 W2 := ⟨hwk, hru, hbb⟩
  have HRS := hide hRs
  have HCB := hide hcb
  have HBW2 := hide hBW2
  have hrl := hb3.lt
  have hbl := hb1.lt
  clear hwk hru hRs hcb hbb hBW2 hB2 hb1 hb2 hb3 hb7 hne
  refine range_enter rfl (by omega) (gf := 87) (lb := #[.pointer (some ⟨w1.heap.size + 1, 0, none⟩)]) rfl trivial enter87 ?_
  intro fn hfn
  generalize hrc : recOf fn _ _ _ _ _ _ _ = rc
  obtain ⟨W3, hW3⟩ : ∃ W3, ranged W2 rc = W3 := ⟨_, rfl⟩
  have hz3 : W3.heap.size = W2.heap.size + 1 + 1 := by rw [← hW3]; exact ranged_size W2 rc
  have hB3 : Below W2.heap.size W2 W3 := by rw [← hW3]; exact ranged_below W2 rc
  have hl3 : W3.heap[W2.heap.size + 1]? = some (.loop rc) := by rw [← hW3]; exact ranged_l W2 rc
  have hd3 : W3.heap[W2.heap.size]? = some (.deferred (some [])) := by rw [← hW3]; exact ranged_d W2 rc
  rw [hW3]
  clear hW3
  refine (reached1_in 8 (by omega) (W2.heap.size + 1) b m r k (w1.heap.size + 1) i j s W3 (fun A => A.heap[W2.heap.size + 1]? = some (.loop rc) ∧ A.heap[W2.heap.size]? = some (.deferred (some [])) ∧ Below W2.heap.size W2 A) ((unhide HRS).below hB3) (unhide HAK b m) (fun A h => (unhide HRS).below h.2.2) ?hY).mono ?post
  case hY =>
    rw [← hrc] at hl3
    refine yield_round (W₁ := W3) hfn hl3 rfl ?a1 hl3 ?hassign ?hbody
    case hassign =>
      intro K hK
      gi_wp2
      exact hK
    case hbody =>
      have hrb : { (recOf fn _ _ _ _ _ .busy none : Loop) with state := .ready, pending := none } = rc := hrc
      generalize recOf fn _ _ _ _ _ .busy none = rb at hrb ⊢
      have hla : W2.heap.size + 1 < W3.heap.size := by omega
      obtain ⟨A1, hA1⟩ : ∃ A1, W3.putObj (W2.heap.size + 1) (.loop rb) = A1 := ⟨_, rfl⟩
      have hkk : ∀ k, k ≠ W2.heap.size + 1 → A1.heap[k]? = W3.heap[k]? := fun k hn => by rw [← hA1]; exact World.putObj_heap_other hn
      have hl1 : A1.heap[W2.heap.size + 1]? = some (.loop rb) := by rw [← hA1]; exact World.putObj_heap_same hla
      have hBA : Below W2.heap.size W2 A1 := by
        rw [← hA1]
        exact hB3.trans ((Below.refl _ W3).grown (grownBy_putObj' W3 (W2.heap.size + 1) _) (by omega) (fun k e => by cases e; omega))
      have hzA : A1.heap.size = W3.heap.size := by rw [← hA1]; simp
      rw [hA1]
      clear hA1
      have hx := (unhide HCB).below hBA (by omega)
      have d0 := hx.cell 0 rfl
      have dl := hx.lt
      have HC := hide (complex_no ((unhide HRS).wk.below hBA))
      have hd1 : A1.heap[W2.heap.size]? = some (.deferred (some [])) := (hkk _ (by omega)).trans hd3
      have HE := hide (And.intro hl1 (And.intro hd1 hBA))
      have HZA := hide hzA
      clear hkk hl1 hBA hzA hx hd1
      gi_wp2_with (first
        | (refine ⟨trivial, ?_⟩
           gi_at_call 52
           refine (callsIn_wide.2 (unhide HC)).mono ?_
           rintro e w5 ⟨rfl, rfl⟩))
      obtain ⟨hl1, hd1, hBA⟩ := unhide HE
      have hzA := unhide HZA
      have e7 : { rb with state := if (none : Option Code).isNone then LoopState.ready else LoopState.done, pending := none } = rc := hrb
      refine ⟨_, _, run_endRound none hl1, ⟨rfl, ?_⟩⟩
      rw [e7]
      exact ⟨World.putObj_heap_same (by omega), (World.putObj_heap_other (by omega)).trans hd1, hBA.trans ((Below.refl _ _).grown (grownBy_putObj' _ (W2.heap.size + 1) _) (by omega) (fun k e => by cases e; omega))⟩
  case post =>
    rintro e W' ⟨⟨u, rfl⟩, A, ⟨a1, a2, a3⟩, hfm, hrs⟩
    have hpe : rc.pending = none := by rw [← hrc]; rfl
    have hne : rc.state ≠ .busy := by rw [← hrc]; simp [recOf]
    have hAl : W2.heap.size + 1 < A.heap.size := (Array.getElem?_eq_some_iff.1 a1).1
    have b1 := (hfm.block (W2.heap.size + 1) hAl (by omega) (by omega)).trans a1
    have b2 := (hfm.block W2.heap.size (by omega) (by omega) (by omega)).trans a2
    have hend := run_endLoop (P := Tryz.prog) b1 hne
    rw [hpe] at hend
    refine ⟨none, _, hend, ?_⟩
    obtain ⟨W7, hW7⟩ : ∃ W7, W'.putObj (W2.heap.size + 1) (.loop { rc with state := .exhausted, pending := none }) = W7 := ⟨_, rfl⟩
    have hk7 : ∀ k, k ≠ W2.heap.size + 1 → W7.heap[k]? = W'.heap[k]? := fun k hk => by rw [← hW7]; exact World.putObj_heap_other hk
    have hz7 : W7.heap.size = W'.heap.size := by rw [← hW7]; simp
    have ho7 : W7.os = W'.os ∧ W7.tape = W'.tape ∧ W7.output = W'.output := by rw [← hW7]; exact ⟨rfl, rfl, rfl⟩
    have hB7 : Below W.heap.size W W7 := ⟨ho7.1.trans (hfm.os.trans (a3.os.trans (unhide HBW2).os)), ho7.2.1.trans (hfm.tape.trans (a3.tape.trans (unhide HBW2).tape)), ho7.2.2.trans (hfm.output.trans (a3.output.trans (unhide HBW2).output)), by rw [hz7]; exact Nat.le_trans (unhide HBW2).size (Nat.le_trans a3.size hfm.size), fun q hq => (hk7 q (by have := (unhide HBW2).size; omega)).trans ((hfm.block q (by have := (unhide HBW2).size; have := a3.size; omega) (by omega) (by omega)).trans ((a3.block q (by have := (unhide HBW2).size; omega)).trans ((unhide HBW2).block q hq)))⟩
    rw [hW7]
    clear hW7 hend
    dsimp only
    have y1 : Bx W7 w1.heap.size #[.pointer (some ⟨b, 0, none⟩)] 93 := (hk7 _ (by omega)).trans ((hfm.block _ (by omega) (by omega) (by omega)).trans ((unhide HCB).below a3 (by omega)))
    have hwk7 : Wk M b m r k i j s W7 := ⟨(hk7 b (by omega)).trans hrs.wk.bx, (hk7 r (by omega)).trans hrs.wk.row⟩
    have hd7 : W7.heap[W2.heap.size]? = some (.deferred (some [])) := (hk7 _ (by omega)).trans b2
    have q1 := y1.cell 0 rfl
    have ql := y1.lt
    have HD7 := hide hd7
    have HB7 := hide hB7
    have HC7 := hide (complex_no hwk7)
    have HS7 := hide (settled_any hwk7)
    have HWW := hide (unhide HBW2).size
    clear hd7 hB7 y1 hwk7 hk7 ho7 hz7 hrs hfm b1 b2 a1 a2 a3
    gi_wp2_with (first
      | (refine ⟨trivial, ?_⟩
         gi_at_call 52
         refine (callsIn_wide.2 (unhide HC7)).mono ?_
         rintro e w5 ⟨rfl, rfl⟩)
      | (refine ⟨trivial, ?_⟩
         gi_at_call 53
         refine (callsIn_wide.2 (unhide HS7)).mono ?_
         rintro e w6 ⟨rfl, hb6⟩))
    have hd6 : w6.heap[W2.heap.size]? = some (.deferred (some [])) := (hb6.block _ (Array.getElem?_eq_some_iff.1 (unhide HD7)).1).trans (unhide HD7)
    refine ⟨by simp, .inl ⟨_, _, rfl, run_takeDeferred (by rw [← hz2]; exact hd6), ?_⟩⟩
    rw [← hz2]
    refine ⟨_, ?_, ⟨rfl, ?_⟩⟩
    · simp [results, Tryz.results24, go_sem]
    · exact ((unhide HB7).trans (hb6.mono (unhide HB7).size)).trans ((Below.refl _ w6).grown (grownBy_putObj' w6 W2.heap.size _) (Nat.le_trans (unhide HB7).size hb6.size) (fun k e => by cases e; have := unhide HWW; omega))
end Go.Proofs.YtapnnbgcdijfpaaGreatDoor
