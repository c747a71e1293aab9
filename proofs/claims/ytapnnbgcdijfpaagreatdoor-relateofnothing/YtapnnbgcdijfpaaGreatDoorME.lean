/- relate's at, Pieces of what has none, isValueOf. -/
import Derived.Test.YtapnnbgcdijfpaaGreatDoorMD
namespace Go.Proofs.YtapnnbgcdijfpaaGreatDoor
set_option linter.unusedSimpArgs false
set_option linter.unusedVariables false
set_option maxRecDepth 100000
set_option maxHeartbeats 4000000
open Go.RowKit Go.Shelf

variable {P : Program} {lo M : Nat} {mo : Option Nat} {dv : Value} {L : List Kt} {W : World}
/-- A type without parts, names and marks. -/
structure Bare (k : Kt) : Prop where
  text : k.text.size ≤ 281474976710656
  parts : k.parts = []
  names : k.names = []
  marks : k.marks = []
theorem pieces_none (h : AAt Tryz.prog lo M mo dv L W) (i : Nat) (k : Kt) (hk : L[i]? = some k) (h14 : k.kind ≠ 14) (h17 : k.kind ≠ 17) : Calls Tryz.prog 16 #[.pointer (some ⟨M, 0, none⟩), .int .i64 (i : Int)] W fun e w' => e = .returned (.tuple #[.slice none 0 0, .int .i64 11]) ∧ Below W.heap.size W w' := by
  obtain ⟨g, cap, v, c0, i1, i2, i3, h4, h5⟩ := h.one hk
  have hM := h.lt
  obtain ⟨va, vb, vc, vd, ve, vf, rfl⟩ := ktC_slices h4
  unfold ktC at h5
  obtain ⟨kk, hkk⟩ : ∃ kk, k.kind = kk := ⟨_, rfl⟩
  rw [hkk] at h5 h14 h17
  have n14 : (kk == 14) = false := by simpa using h14
  have n17 : (kk == 17) = false := by simpa using h17
  have HI : Hid (0 ≤ (i : Int) ∧ (i : Int) < (L.length : Int)) := ⟨by omega, by omega⟩
  have HC0 := hide c0
  have HR : Hid (∀ (j : Nat) (u : Value), [.int .i64 kk, .int .i64 k.num, .string k.text, .slice va k.parts.length vb, .slice vc k.names.length vd, .slice ve k.marks.length vf][j]? = some u → W.cell? ⟨g, i * 8 + j, none⟩ = some u) := fun j u hj => h5 j u (by
    match j, hj with
    | 0, hj => simpa using hj
    | 1, hj => simpa using hj
    | 2, hj => simpa using hj
    | 3, hj => simpa using hj
    | 4, hj => simpa using hj
    | 5, hj => simpa using hj
    | j + 6, hj => simp at hj)
  have hx : Bx ((W.alloc (.cells tyZ 26)).setRow W.heap.size #[.int .i64 kk, .int .i64 k.num, .string k.text, .slice va k.parts.length vb, .slice vc k.names.length vd, .slice ve k.marks.length vf]) W.heap.size #[.int .i64 kk, .int .i64 k.num, .string k.text, .slice va k.parts.length vb, .slice vc k.names.length vd, .slice ve k.marks.length vf] 26 := setRow_heap _ _ _ _ _ _ (al_at W _)
  obtain ⟨W1, hW1⟩ : ∃ W1, (W.alloc (.cells tyZ 26)).setRow W.heap.size #[.int .i64 kk, .int .i64 k.num, .string k.text, .slice va k.parts.length vb, .slice vc k.names.length vd, .slice ve k.marks.length vf] = W1 := ⟨_, rfl⟩
  have hb1 : Below W.heap.size W W1 := by rw [← hW1]; exact below_row ((Below.refl _ W).alloc (Nat.le_refl _) _) (Nat.le_refl _) _
  rw [hW1] at hx
  have d0 := hx.cell 0 rfl
  have dl := hx.lt
  have HB1 := hide hb1
  clear h h4 h5 hk hkk h14 h17 hb1 hx
  unfold tyZ at hW1
  go_enter Tryz.func16, Tryz.ntmps16
  go_wp2_with (first
    | (go_at_call 36
       refine (has_yes W M _ L.length cap (unhide HC0) _ (unhide HI)).mono ?_
       rintro e w2 ⟨rfl, rfl⟩)
    | (refine wpList_load_mid rfl 26 _ rfl g (i * 8) rfl _ _ (unhide HR) Tryz.underlying26 rfl info26 ?_)
    | (refine wpList_store_row rfl 26 _ _ rfl W.heap.size _ rfl rfl 26 _ (al_at W _) info26 rfl (one6 _ _ _ _ _ _ _ _ _ _ _ _) ?_))
  refine bodyPost_ret (v := .tuple #[.slice none 0 0, .int .i64 11]) ?_ rfl ⟨rfl, by first | exact unhide HB1 | exact (Below.refl _ _).alloc (Nat.le_refl _) _⟩
  simp [results, Tryz.results16, go_sem]
theorem rat_any (h : AAt Tryz.prog lo M mo dv L W) (b : Nat) (hb : W.cell? ⟨b, 0, none⟩ = some (.pointer (some ⟨M, 0, none⟩))) (i : Nat) (k : Kt) (hk : L[i]? = some k) (hz : Bare k) : Calls Tryz.prog 118 #[.pointer (some ⟨b, 0, none⟩), .int .i64 (i : Int)] W fun e w' => ∃ pa pc na nc ma mc, e = .returned (.agg #[.int .i64 k.kind, .int .i64 k.num, .string k.text, .slice pa 0 pc, .slice na 0 nc, .slice ma 0 mc]) ∧ Below W.heap.size W w' := by
  have hb1 := (Below.refl _ W).alloc (Nat.le_refl _) (.cells tyZ 26)
  obtain ⟨W1, hW1⟩ : ∃ W1, W.alloc (.cells tyZ 26) = W1 := ⟨_, rfl⟩
  have hx1 : Bx W1 W.heap.size tyZ 26 := by rw [← hW1]; exact al_at W _
  rw [hW1] at hb1
  have hbl := World.block_lt_of_cell? W _ hb
  have hbl' : b < W.heap.size := hbl
  have hc1 : W1.cell? ⟨b, 0, none⟩ = some (.pointer (some ⟨M, 0, none⟩)) := (hb1.cell (p := ⟨b, 0, none⟩) hbl).trans hb
  have hA := at_any (h.below hb1) i k hk hz.text (by rw [hz.names]; simp) (by rw [hz.parts]; simp) (by rw [hz.names]; simp) (by rw [hz.marks]; simp)
  have HA := hide hA
  have HZ := hide hz
  have HX1 := hide hx1
  have HB1 := hide hb1
  have hb1l := hx1.lt
  clear h hb1 hx1 hk hz hA hb hbl
  unfold tyZ at hW1 HX1
  go_enter Tryz.func118, Tryz.ntmps118
  go_wp2_with (first
    | (go_at_call 15
       refine (unhide HA).mono ?_
       rintro e w2 ⟨pv, nv, mv, rfl, hp, hn, hm, hb⟩
       rw [(unhide HZ).parts] at hp
       rw [(unhide HZ).names] at hn
       rw [(unhide HZ).marks] at hm
       obtain ⟨pa, pc, rfl, -⟩ := hp
       obtain ⟨na, nc, rfl, -⟩ := hn
       obtain ⟨ma, mc, rfl, -⟩ := hm
       have HX2 := hide ((unhide HX1).below hb (unhide HX1).lt)
       have HB2 := hide ((unhide HB1).trans (hb.mono (unhide HB1).size))
       have HBB := hide hb
       unfold tyV
       clear hb)
    | (refine wpList_store_row rfl 26 _ _ rfl w2.heap.size _ rfl rfl 26 _ (al_at w2 _) info26 rfl (one6 _ _ _ _ _ _ _ _ _ _ _ _) ?_)
    | (refine wpList_load_row rfl 26 _ rfl w2.heap.size rfl 26 _ (0, 0) _ (setRow_heap _ _ _ _ _ _ (al_at w2 _)) Tryz.underlying26 rfl info26 ?_)
    | (refine wpList_store_row rfl 26 _ _ rfl W.heap.size _ rfl rfl 26 _ ((heap_setRow_ne _ _ _ _ (by have := (unhide HX2).lt; omega)).trans ((Below.heap_alloc _ _ _ (by have := (unhide HX2).lt; omega)).trans (unhide HX2))) info26 rfl (one6 _ _ _ _ _ _ _ _ _ _ _ _) ?_))
  refine bodyPost_ret (results_cell_row rfl _ _ W.heap.size 26 _ (0, 0) _ rfl (setRow_heap _ _ _ _ _ _ ((heap_setRow_ne _ _ _ _ (by have := (unhide HX2).lt; omega)).trans ((Below.heap_alloc _ _ _ (by have := (unhide HX2).lt; omega)).trans (unhide HX2)))) Tryz.underlying26 rfl info26) rfl ?_
  exact ⟨pa, pc, na, nc, ma, mc, rfl, below_row (below_row ((unhide HB2).alloc (unhide HB2).size _) (unhide HB2).size _) (Nat.le_refl _) _⟩
/-- Whose values are some of another's, by kinds alone (of no KCase). -/
def valP (a b : Int) : Bool := if a = 11 then b == 7 else if a = 12 then b == 8 else if a = 5 then b == 4 else if a = 19 then (b == 7 || b == 8) else false
theorem value_any (a n : Int) (s : ByteArray) (pa na ma : Option Addr) (p1 p2 n1 n2 m1 m2 : Nat) (c n' : Int) (s' : ByteArray) (pa' na' ma' : Option Addr) (p1' p2' n1' n2' m1' m2' : Nat) (id : Int) (h20 : a ≠ 20) (W : World) :
    Calls Tryz.prog 124 #[.agg #[.int .i64 a, .int .i64 n, .string s, .slice pa p1 p2, .slice na n1 n2, .slice ma m1 m2], .agg #[.int .i64 c, .int .i64 n', .string s', .slice pa' p1' p2', .slice na' n1' n2', .slice ma' m1' m2'], .int .i64 id] W fun e w' => e = .returned (.bool (valP a c)) ∧ Below W.heap.size W w' := by
  have hb : Below W.heap.size W ((W.alloc (.cells #[.int .i64 a, .int .i64 n, .string s, .slice pa p1 p2, .slice na n1 n2, .slice ma m1 m2] 26)).alloc (.cells #[.int .i64 c, .int .i64 n', .string s', .slice pa' p1' p2', .slice na' n1' n2', .slice ma' m1' m2'] 26)) := ((Below.refl _ W).alloc (Nat.le_refl _) _).alloc (by simp) _
  have HB := hide hb
  clear hb
  have e20 : (a == 20) = false := by simpa using h20
  obtain ⟨d, hd⟩ : ∃ d, valP a c = d := ⟨_, rfl⟩
  rw [hd]
  unfold valP at hd
  cases q7 : (c == 7) <;> cases q8 : (c == 8)
  all_goals
    by_cases a11 : a = 11
    · subst a11
      rw [if_pos rfl] at hd
      subst hd
      go_enter Tryz.func124, Tryz.ntmps124
      go_wp2
      go_ret
      exact ⟨by first | rfl | (rw [q7]; rfl), unhide HB⟩
    · rw [if_neg a11] at hd
      have e11 : (a == 11) = false := by simpa using a11
      by_cases a12 : a = 12
      · subst a12
        rw [if_pos rfl] at hd
        subst hd
        go_enter Tryz.func124, Tryz.ntmps124
        go_wp2
        go_ret
        exact ⟨by first | rfl | (rw [q8]; rfl), unhide HB⟩
      · rw [if_neg a12] at hd
        have e12 : (a == 12) = false := by simpa using a12
        by_cases a5 : a = 5
        · subst a5
          rw [if_pos rfl] at hd
          subst hd
          go_enter Tryz.func124, Tryz.ntmps124
          go_wp2
          go_ret
          exact ⟨rfl, unhide HB⟩
        · rw [if_neg a5] at hd
          have e5 : (a == 5) = false := by simpa using a5
          by_cases a19 : a = 19
          · subst a19
            rw [if_pos rfl] at hd
            subst hd
            go_enter Tryz.func124, Tryz.ntmps124
            go_wp2
            go_ret
            exact ⟨by first | rfl | (rw [q7, q8]; rfl), unhide HB⟩
          · rw [if_neg a19] at hd
            have e19 : (a == 19) = false := by simpa using a19
            subst hd
            go_enter Tryz.func124, Tryz.ntmps124
            go_wp2
            go_ret
            exact ⟨rfl, unhide HB⟩
end Go.Proofs.YtapnnbgcdijfpaaGreatDoor
