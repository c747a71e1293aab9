/- Pairs, over types that have no parts. -/
import Derived.Test.YtapnnbgcdijfpaaGreatDoorMM
namespace Go.Proofs.YtapnnbgcdijfpaaGreatDoor
set_option linter.unusedSimpArgs false
set_option linter.unusedVariables false
set_option maxRecDepth 100000
set_option maxHeartbeats 4000000
open Go.RowKit Go.Shelf
attribute [local go_sem] Oper.semAt_some

variable {P : Program} {lo M : Nat} {mo : Option Nat} {dv : Value} {L : List Kt} {W : World}
theorem pairs_any (h : AAt Tryz.prog lo M mo dv L W) (i j : Nat) (s : Int)
    (hin : i < L.length ∧ j < L.length)
    (hask : ∀ b m u, Ru lo M mo dv L b m 0 u → Calls Tryz.prog 88 #[.pointer (some ⟨b, 0, none⟩), .agg #[.int .i64 (i : Int), .int .i64 (j : Int)]] u fun e w' => e = .returned (.agg #[.slice none 0 0, .int .i64 s]) ∧ Ru lo M mo dv L b m (0 + 2) w' ∧ u.grownBy w' (some m)) :
    CallsIn Fence.wide 9 Tryz.prog 56 #[.pointer (some ⟨M, 0, none⟩), .int .i64 (i : Int), .int .i64 (j : Int), .int .i64 9] W fun e w' => e = .returned (.int .i64 1) ∧ Below W.heap.size W w' := by
  obtain ⟨tv, hM0, hK⟩ := h.row
  obtain ⟨a, cap, htv⟩ : ∃ a cap, tv = .slice a L.length cap := by
    obtain ⟨vs, h1, h2, h3⟩ := hK
    rcases h2.2 with ⟨e, e'⟩ | ⟨g, cap, cur, e, _⟩
    · exact ⟨none, 0, by rw [e, e']⟩
    · exact ⟨_, _, e⟩
  subst htv
  have cM : W.cell? ⟨M, 0, none⟩ = some (.slice a L.length cap) := by simp [World.cell?, hM0]
  have hp : (if inP L.length i && inP L.length j then (0 : Int) else 11) = 0 := by simp [inP]; omega
  have hM := h.lt
  obtain ⟨Wa, hWa⟩ : ∃ Wa, W.alloc (.cells #[.int .i64 9] 3) = Wa := ⟨_, rfl⟩
  have hBa : Below W.heap.size W Wa := by rw [← hWa]; exact (Below.refl _ W).alloc (Nat.le_refl _) _
  have hxa : Bx Wa W.heap.size #[.int .i64 9] 3 := by rw [← hWa]; exact al_at W _
  have hza : Wa.heap.size = W.heap.size + 1 := by rw [← hWa]; simp
  obtain ⟨Wb, hWb⟩ : ∃ Wb, Wa.alloc (.cells #[.int .i64 0] 3) = Wb := ⟨_, rfl⟩
  have hBb : Below W.heap.size W Wb := by rw [← hWb]; exact hBa.alloc hBa.size _
  have hxb : Bx Wb W.heap.size #[.int .i64 9] 3 := by rw [← hWb]; exact (Below.heap_alloc _ _ _ hxa.lt).trans hxa
  have hcb : Bx Wb (W.heap.size + 1) #[.int .i64 0] 3 := by rw [← hWb, ← hza]; exact al_at Wa _
  have hzb : Wb.heap.size = W.heap.size + 1 + 1 := by rw [← hWb]; simp [hza]
  have cMa : Wa.cell? ⟨M, 0, none⟩ = some (.slice a L.length cap) := (hBa.cell (p := ⟨M, 0, none⟩) hM).trans cM
  have HQ := hide (ask_any Wa M a L.length cap cMa i j)
  rw [hp] at HQ
  have HB := hide (begun_any M (i : Int) (j : Int) (Wa.alloc (.cells #[.int .i64 0] 3)))
  have HWB := hide hWb
  clear hWb
  have HH := hide h
  have HAK := hide hask
  have ka := hxa.cell 0 rfl
  have kl := hxa.lt
  have HBB := hide hBb
  have HXB := hide hxb
  have HCB := hide hcb
  have HZB := hide hzb
  have HZA := hide hza
  clear hM0 hK cM hp h hask cMa hBa hBb hxa hxb hcb hza hzb
  refine callsIn_of_wp_marks Tryz.func56 rfl trivial ?_ rfl
  simp only [Tryz.ntmps56, List.size_toArray, List.length_cons, List.length_nil, Nat.reduceAdd, Nat.reduceSub, Array.replicate_succ, Array.replicate_zero, List.push_toArray, List.append_toArray, List.nil_append, List.cons_append]
  gi_wp2_with (first
    | (refine ⟨trivial, ?_⟩
       gi_at_call 49
       refine (callsIn_wide.2 (unhide HQ)).mono ?_
       rintro e w0 ⟨rfl, h0⟩
       rw [h0]
       clear h0)
    | (refine ⟨trivial, ?_⟩
       gi_at_call 50
       refine (callsIn_wide.2 (unhide HB)).mono ?_
       rintro e w1 ⟨b, m, r, k, rfl, hb1, hb2, hb3, hb4, hb5, hb6, hb7⟩)
    | (refine ⟨trivial, ?_⟩
       gi_at_call 51
       refine (callsIn_wide.2 (reached_any b _)).mono ?_
       rintro e w2 ⟨rfl, rfl⟩))
  rw [unhide HWB] at hb4 hb5 hb6 hb7
  have hzb := unhide HZB
  have hza := unhide HZA
  have hcb1 := (unhide HCB).below hb7 (unhide HCB).lt
  have hxb1 := (unhide HXB).below hb7 (unhide HXB).lt
  obtain ⟨W2, hW2⟩ : ∃ W2, w1.alloc (.cells #[.pointer (some ⟨b, 0, none⟩)] 93) = W2 := ⟨_, rfl⟩
  have hz2 : W2.heap.size = w1.heap.size + 1 := by rw [← hW2]; simp
  have hB2 : Below w1.heap.size w1 W2 := by rw [← hW2]; exact (Below.refl _ w1).alloc (Nat.le_refl _) _
  have hbb : Bx W2 w1.heap.size #[.pointer (some ⟨b, 0, none⟩)] 93 := by rw [← hW2]; exact al_at w1 _
  rw [hW2]
  clear hW2
  have hcb2 := hcb1.below hB2 hcb1.lt
  have hxb2 := hxb1.below hB2 hxb1.lt
  have hBW2 : Below W.heap.size W W2 := (unhide HBB).trans ((hb7.trans (hB2.mono hb7.size)).mono (by omega))
  have hml : m < w1.heap.size := (Array.getElem?_eq_some_iff.1 hb2).1
  have hm2 : W2.heap[m]? = some (.map #[] 0) := (hB2.block m hml).trans hb2
  have hwk : Wk M b m r k i j 0 W2 := ⟨hb1.below hB2 hb1.lt, hb3.below hB2 hb3.lt⟩
  have hne : some m ≠ mo := fun e => by
    have hn := (unhide HH).num
    rw [← e] at hn
    obtain ⟨_, _, _, _, ho, _⟩ := hn
    have := map_lt ho
    omega
  have hrl := hb3.lt
  have hbl := hb1.lt
  have hAll : ∀ A, Below W.heap.size W A → (∀ q, q < W2.heap.size → q ≠ W.heap.size + 1 → A.heap[q]? = W2.heap[q]?) → Rs lo M mo dv L b m r k w1.heap.size i j 0 0 A := fun A h1 h2 => by
    have hw : Wk M b m r k i j 0 A := ⟨(h2 b (by omega) (by omega)).trans hwk.bx, (h2 r (by omega) (by omega)).trans hwk.row⟩
    exact ⟨hw, ⟨(unhide HH).below h1, hw.bx.cell 0 rfl, hw.bx.cell 1 rfl, MemAt.made ((h2 m (by omega) (by omega)).trans hm2), hne⟩, (h2 _ (by omega) (by omega)).trans hbb⟩
  have HALL := hide hAll
  have HCB2 := hide hcb2
  have HXB2 := hide hxb2
  have HBW2 := hide hBW2
  clear hwk hbb hBW2 hB2 hb1 hb2 hb3 hb7 hne hcb1 hxb1 hcb2 hxb2 hm2 hAll
  refine range_enter rfl (by omega) (gf := 87) (lb := #[.pointer (some ⟨w1.heap.size, 0, none⟩)]) rfl trivial enter87 ?_
  intro fn hfn
  generalize hrc : recOf fn _ _ _ _ _ _ _ = rc
  obtain ⟨W3, hW3⟩ : ∃ W3, ranged W2 rc = W3 := ⟨_, rfl⟩
  have hz3 : W3.heap.size = W2.heap.size + 1 + 1 := by rw [← hW3]; exact ranged_size W2 rc
  have hB3 : Below W2.heap.size W2 W3 := by rw [← hW3]; exact ranged_below W2 rc
  have hl3 : W3.heap[W2.heap.size + 1]? = some (.loop rc) := by rw [← hW3]; exact ranged_l W2 rc
  have hd3 : W3.heap[W2.heap.size]? = some (.deferred (some [])) := by rw [← hW3]; exact ranged_d W2 rc
  rw [hW3]
  clear hW3
  have hW3b : Below W.heap.size W W3 := (unhide HBW2).trans (hB3.mono (unhide HBW2).size)
  refine (reached1_in 8 (by omega) (W2.heap.size + 1) b m r k w1.heap.size i j s W3 (fun A => A.heap[W2.heap.size + 1]? = some (.loop rc) ∧ A.heap[W2.heap.size]? = some (.deferred (some [])) ∧ Bx A (W.heap.size + 1) #[.int .i64 1] 3 ∧ Below W.heap.size W A ∧ W2.heap.size + 1 < A.heap.size ∧ (∀ q, q < W2.heap.size → q ≠ W.heap.size + 1 → A.heap[q]? = W2.heap[q]?)) (unhide HALL W3 hW3b (fun q h1 _ => hB3.block q h1)) (unhide HAK b m) (fun A h => unhide HALL A h.2.2.2.1 h.2.2.2.2.2) ?hY).mono ?post
  case hY =>
    rw [← hrc] at hl3
    refine yield_round (W₁ := W3) hfn hl3 rfl ?a1 hl3 ?hassign ?hbody
    case hassign =>
      intro K hK
      gi_wp2
      exact hK
    case hbody =>
      have hrb : { (recOf fn _ _ _ _ _ .busy none : Loop) with state := .ready, pending := none } = rc := hrc
      generalize recOf fn _ _ _ _ _ .busy none = rb at hrb ⊢
      have hla : W2.heap.size + 1 < W3.heap.size := by omega
      obtain ⟨A1, hA1⟩ : ∃ A1, W3.putObj (W2.heap.size + 1) (.loop rb) = A1 := ⟨_, rfl⟩
      have hkk : ∀ k, k ≠ W2.heap.size + 1 → A1.heap[k]? = W3.heap[k]? := fun k hn => by rw [← hA1]; exact World.putObj_heap_other hn
      have hl1 : A1.heap[W2.heap.size + 1]? = some (.loop rb) := by rw [← hA1]; exact World.putObj_heap_same hla
      have hBA : Below W2.heap.size W2 A1 := by
        rw [← hA1]
        exact hB3.trans ((Below.refl _ W3).grown (grownBy_putObj' W3 (W2.heap.size + 1) _) (by omega) (fun k e => by cases e; omega))
      have hzA : A1.heap.size = W3.heap.size := by rw [← hA1]; simp
      rw [hA1]
      clear hA1
      have hx := (unhide HCB2).below hBA (by omega)
      have hx9 := (unhide HXB2).below hBA (by omega)
      have d0 := hx.cell 0 rfl
      have df := hx.free 0
      have dl := hx.lt
      have d9 := hx9.cell 0 rfl
      have d9l := hx9.lt
      have hd1 : A1.heap[W2.heap.size]? = some (.deferred (some [])) := (hkk _ (by omega)).trans hd3
      have hBW : Below W.heap.size W A1 := (unhide HBW2).trans (hBA.mono (unhide HBW2).size)
      obtain ⟨A2, hA2⟩ : ∃ A2, A1.setCell ⟨W.heap.size + 1, 0, none⟩ (.int .i64 1) = A2 := ⟨_, rfl⟩
      have hk2 : ∀ q, q ≠ W.heap.size + 1 → A2.heap[q]? = A1.heap[q]? := fun q hq => by rw [← hA2]; exact Below.heap_setCell _ _ _ _ hq
      have hs2 : A2.heap.size = A1.heap.size := by rw [← hA2]; exact set_size _ _ _
      have hx2 : Bx A2 (W.heap.size + 1) #[.int .i64 1] 3 := by rw [← hA2]; exact hx.set _
      have hB2' : Below W.heap.size W A2 := by rw [← hA2]; exact hBW.setCell (p := ⟨W.heap.size + 1, 0, none⟩) (Nat.le_succ _) _
      have h29 : Bx A2 W.heap.size #[.int .i64 9] 3 := (hk2 _ (by omega)).trans hx9
      have t0 := hx2.cell 0 rfl
      have tl := hx2.lt
      have t9 := h29.cell 0 rfl
      have t9l := h29.lt
      have HE := hide (And.intro ((hk2 _ (by omega)).trans hl1) (And.intro ((hk2 _ (by omega)).trans hd1) (And.intro hx2 (And.intro hB2' (fun q (h1 : q < W2.heap.size) (h2 : q ≠ W.heap.size + 1) => (hk2 q h2).trans (hBA.block q h1))))))
      have HZA := hide (hs2.trans hzA)
      clear hkk hl1 hBA hzA hx hx9 hd1 hBW hk2 hs2 hx2 hB2' h29
      have HZ := hide (And.intro hz3 (And.intro hz2 (And.intro hzb hza)))
      clear hz3 hz2 hzb hza
      gi_wp2
      obtain ⟨hl1, hd1, hx2, hB2', hq2⟩ := unhide HE
      obtain ⟨hz3, hz2, hzb, hza⟩ := unhide HZ
      have hzA := unhide HZA
      have e7 : { rb with state := if (none : Option Code).isNone then LoopState.ready else LoopState.done, pending := none } = rc := hrb
      refine ⟨_, _, run_endRound none hl1, ⟨rfl, ?_⟩⟩
      rw [e7]
      exact ⟨World.putObj_heap_same (by omega), (World.putObj_heap_other (by omega)).trans hd1, (World.putObj_heap_other (by omega)).trans hx2, hB2'.trans ((Below.refl _ _).grown (grownBy_putObj' _ (W2.heap.size + 1) _) (by omega) (fun k e => by cases e; omega)), by simp; omega, fun q h1 h2 => (World.putObj_heap_other (by omega)).trans (hq2 q h1 h2)⟩
  case post =>
    rintro e W' ⟨⟨u, rfl⟩, A, ⟨a1, a2, a3, a4, a5, a6⟩, hfm, hrs⟩
    have hpe : rc.pending = none := by rw [← hrc]; rfl
    have hne : rc.state ≠ .busy := by rw [← hrc]; simp [recOf]
    have b1 := (hfm.block (W2.heap.size + 1) (by omega) (by omega) (by omega)).trans a1
    have b2 := (hfm.block W2.heap.size (by omega) (by omega) (by omega)).trans a2
    have b3 : Bx W' (W.heap.size + 1) #[.int .i64 1] 3 := (hfm.block _ (by omega) (by omega) (by omega)).trans a3
    have hend := run_endLoop (P := Tryz.prog) b1 hne
    rw [hpe] at hend
    refine ⟨none, _, hend, ?_⟩
    obtain ⟨W7, hW7⟩ : ∃ W7, W'.putObj (W2.heap.size + 1) (.loop { rc with state := .exhausted, pending := none }) = W7 := ⟨_, rfl⟩
    have hk7 : ∀ k, k ≠ W2.heap.size + 1 → W7.heap[k]? = W'.heap[k]? := fun k hk => by rw [← hW7]; exact World.putObj_heap_other hk
    have hz7 : W7.heap.size = W'.heap.size := by rw [← hW7]; simp
    have ho7 : W7.os = W'.os ∧ W7.tape = W'.tape ∧ W7.output = W'.output := by rw [← hW7]; exact ⟨rfl, rfl, rfl⟩
    have hB7 : Below W.heap.size W W7 := ⟨ho7.1.trans (hfm.os.trans a4.os), ho7.2.1.trans (hfm.tape.trans a4.tape), ho7.2.2.trans (hfm.output.trans a4.output), by rw [hz7]; exact Nat.le_trans a4.size hfm.size, fun q hq => (hk7 q (by omega)).trans ((hfm.block q (by omega) (by omega) (by omega)).trans (a4.block q hq))⟩
    rw [hW7]
    clear hW7 hend
    dsimp only
    have y1 : Bx W7 (W.heap.size + 1) #[.int .i64 1] 3 := (hk7 _ (by omega)).trans b3
    have hd7 : W7.heap[W2.heap.size]? = some (.deferred (some [])) := (hk7 _ (by omega)).trans b2
    have q1 := y1.cell 0 rfl
    have ql := y1.lt
    rw [← hza] at q1 ql
    have HD7 := hide hd7
    have HB7 := hide hB7
    have HZ := hide (And.intro hz3 (And.intro hz2 (And.intro hzb hza)))
    clear hd7 hB7 y1 hk7 ho7 hz7 hrs hfm b1 b2 b3 a1 a2 a3 a4 a5 a6 hz3 hz2 hzb hza
    gi_wp2
    obtain ⟨hz3, hz2, hzb, hza⟩ := unhide HZ
    refine ⟨by simp, .inl ⟨_, _, rfl, run_takeDeferred (unhide HD7), ?_⟩⟩
    refine ⟨_, ?_, ⟨rfl, ?_⟩⟩
    · simp [results, Tryz.results56, go_sem]
    · exact (unhide HB7).trans ((Below.refl _ W7).grown (grownBy_putObj' W7 W2.heap.size _) (unhide HB7).size (fun k e => by cases e; omega))
end Go.Proofs.YtapnnbgcdijfpaaGreatDoor
