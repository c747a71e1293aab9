/- The text of a number's type, of a union. -/
import Derived.Test.YticdaphajanbbaaGreatDoorKJ
namespace Go.Proofs.YticdaphajanbbaaGreatDoor
set_option linter.unusedSimpArgs false
set_option linter.unusedVariables false
set_option maxRecDepth 100000
set_option maxHeartbeats 2000000
open Go.RowKit Go.Shelf

variable {P : Program} {lo M : Nat} {mo : Option Nat} {dv : Value} {L : List Kt} {W : World}
theorem worded_num (n : Int) (s : ByteArray) (W : World) (hI : ItOk W n s) (t : ByteArray) (pa na ma : Option Addr) (a b c d e f : Nat) : Calls Tryz.prog 35 #[.pointer (some ⟨M, 0, none⟩), .agg (tyV 11 n t (.slice pa a b) (.slice na c d) (.slice ma e f))] W fun e w' => e = .returned (.string s) ∧ Below W.heap.size W w' := by
  unfold tyV
  have hb1 := (Below.refl _ W).alloc (Nat.le_refl _) (.cells #[.int .i64 11, .int .i64 n, .string t, .slice pa a b, .slice na c d, .slice ma e f] 36)
  obtain ⟨W1, hW1⟩ : ∃ W1, W.alloc (.cells #[.int .i64 11, .int .i64 n, .string t, .slice pa a b, .slice na c d, .slice ma e f] 36) = W1 := ⟨_, rfl⟩
  have hx1 : Bx W1 W.heap.size #[.int .i64 11, .int .i64 n, .string t, .slice pa a b, .slice na c d, .slice ma e f] 36 := by rw [← hW1]; exact al_at W _
  rw [hW1] at hb1
  have HB1 := hide hb1
  have HX1 := hide hx1
  have HI := hide hI
  have c1 := hx1.cell 1 rfl
  have lt := hx1.lt
  clear hI hb1 hx1
  go_enter Tryz.func35, Tryz.ntmps35
  go_wp2_with (first
    | (go_at_call 55
       refine (unhide HI W1 (unhide HB1)).mono ?_
       rintro e w2 ⟨rfl, hb2⟩
       have HX2 := hide ((unhide HX1).below hb2 (unhide HX1).lt)
       have HB2 := hide ((unhide HB1).trans (hb2.mono (unhide HB1).size))
       have d0 := (unhide HX2).cell 0 rfl
       have dl := (unhide HX2).lt
       clear hb2))
  go_ret
  exact ⟨rfl, unhide HB2⟩
theorem join_any {v : Value} {xs : List ByteArray} (h : RowR 9 W v (sv xs)) (hne : xs ≠ []) (sep : ByteArray) (hl : xs.length ≤ 1000000000) (hj : (Lib.join (xs.map (·.data.toList)) sep.data.toList).length ≤ 140737488355328) :
    Calls Tryz.prog 57 #[v, .string sep] W fun e w' => e = .returned (.string ⟨(Lib.join (xs.map (·.data.toList)) sep.data.toList).toArray⟩) ∧ Below W.heap.size W w' := by
  obtain ⟨a, c, rfl, h1, h2, h3⟩ := h
  rw [sv_len] at *
  rcases h3 with h3 | ⟨b, o, cur, fr, rfl, hh, hc⟩
  · exfalso; apply hne; simpa [sv] using h3
  · exact Tryz.strings_Join b o c xs sep W (fun j x hx => by
      have := hc j (.string x) (by simp [sv, hx])
      simp [World.cell?, hh, this]) (Array.getElem?_eq_some_iff.1 hh).1 (by omega) h1 hj
/-- The text of a union of these. -/
def unionW (L : List Kt) (ps : List Int) : ByteArray := ⟨(Lib.join ((allW L ps [15]).map (·.data.toList)) [32, 124, 32]).toArray⟩
theorem worded_union (h : AAt Tryz.prog lo M mo dv L W) (hs : SzOk L) (hw : WdOk L) (ps : List Int) (pa na ma : Option Addr) (b c d e f : Nat) (hp : RowR 3 W (.slice pa ps.length b) (iv ps)) (hv : ∀ p ∈ ps, Is L p) (hl : ps.length ≤ 1000000000) (hne : ps ≠ []) (hj : (Lib.join ((allW L ps [15]).map (·.data.toList)) [32, 124, 32]).length ≤ 140737488355328) :
    Calls Tryz.prog 35 #[.pointer (some ⟨M, 0, none⟩), .agg (tyV 16 0 ⟨#[]⟩ (.slice pa ps.length b) (.slice na c d) (.slice ma e f))] W fun e w' => e = .returned (.string (unionW L ps)) ∧ Below W.heap.size W w' := by
  unfold tyV
  have hb1 := (Below.refl _ W).alloc (Nat.le_refl _) (.cells #[.int .i64 16, .int .i64 0, .string ⟨#[]⟩, .slice pa ps.length b, .slice na c d, .slice ma e f] 36)
  obtain ⟨W1, hW1⟩ : ∃ W1, W.alloc (.cells #[.int .i64 16, .int .i64 0, .string ⟨#[]⟩, .slice pa ps.length b, .slice na c d, .slice ma e f] 36) = W1 := ⟨_, rfl⟩
  have hx1 : Bx W1 W.heap.size #[.int .i64 16, .int .i64 0, .string ⟨#[]⟩, .slice pa ps.length b, .slice na c d, .slice ma e f] 36 := by rw [← hW1]; exact al_at W _
  rw [hW1] at hb1
  have HB1 := hide hb1
  have HX1 := hide hx1
  have HI := hide (itoa_small W 0 (by omega))
  have HA : Hid (∀ w', Below W.heap.size W w' → AAt Tryz.prog lo M mo dv L w') := fun w' hb => h.below hb
  have HP : Hid (∀ w', Below W.heap.size W w' → RowR 3 w' (.slice pa ps.length b) (iv ps)) := fun w' hb => hp.below hb
  have HV := hide hv
  have HS := hide hs
  have HW := hide hw
  have HL := hide hl
  have HJ := hide hj
  have HNE := hide hne
  have c1 := hx1.cell 1 rfl
  have lt := hx1.lt
  clear h hs hw hp hv hl hj hb1 hx1 hne
  go_enter Tryz.func35, Tryz.ntmps35
  go_wp2_with (first
    | (go_at_call 55
       refine (unhide HI W1 (unhide HB1)).mono ?_
       rintro e w2 ⟨rfl, hb2⟩
       have HX2 := hide ((unhide HX1).below hb2 (unhide HX1).lt)
       have HB2 := hide ((unhide HB1).trans (hb2.mono (unhide HB1).size))
       have d0 := (unhide HX2).cell 0 rfl
       have d3 := (unhide HX2).cell 3 rfl
       have dl := (unhide HX2).lt
       clear hb2)
    | (go_at_call 60
       have hb3 := (unhide HB2).alloc (unhide HB2).size (.cells #[.int .i64 15] 3)
       have hk3 : RowR 3 (w2.alloc (.cells #[.int .i64 15] 3)) (.slice (some ⟨w2.heap.size, 0, none⟩) 1 1) (iv [15]) := ⟨_, 1, rfl, Nat.le_refl _, by decide, .inr ⟨_, 0, _, (0, 0), rfl, al_at w2 _, fun j x hx => by
         have : j = 0 := by
           have := (List.getElem?_eq_some_iff.1 hx).1
           simp [iv] at this
           omega
         subst this
         simpa [iv] using hx⟩⟩
       refine (allWords_any (unhide HA _ hb3) (unhide HS) (unhide HW) _ _ ps [15] (unhide HP _ hb3) hk3 (unhide HV) (unhide HL) (by simp)).mono ?_
       rintro e w4 ⟨v4, rfl, ho4, hb4⟩
       have HB4 := hide (hb3.trans (hb4.mono hb3.size))
       have HO4 := hide ho4
       clear hb3 hk3 hb4 ho4
       obtain ⟨sa, sc, rfl, -⟩ := own_rowR (unhide HO4))
    | (go_at_call 57
       refine (join_any (own_rowR (unhide HO4)) (by simp [allW]; exact unhide HNE) _ (by simp [allW]; exact unhide HL) (unhide HJ)).mono ?_
       rintro e w5 ⟨rfl, hb5⟩))
  go_ret
  exact ⟨rfl, (unhide HB4).trans (hb5.mono (unhide HB4).size)⟩
end Go.Proofs.YticdaphajanbbaaGreatDoor
