/- A union is made: of types of which none has another, in order. -/
import Derived.Test.YticdaphajanbbaaGreatDoorLC
namespace Go.Proofs.YticdaphajanbbaaGreatDoor
set_option linter.unusedSimpArgs false
set_option linter.unusedVariables false
set_option maxRecDepth 100000
set_option maxHeartbeats 4000000
open Go.RowKit Go.Shelf

variable {P : Program} {lo M : Nat} {mo : Option Nat} {dv : Value} {L : List Kt} {W : World}
/-- What is asked of the types of a union that is walked here. -/
structure UOk (L : List Kt) (ids : List Int) : Prop where
  flat : Flat L ids
  wide : Wide L ids
  top : ∀ p ∈ ids, kindP L p ≠ 1 ∧ kindP L p ≠ 2
  ne : ids ≠ []
  len : ids.length ≤ 1000
  one : (onceP ids).length ≤ 1000
  two : 2 ≤ (restP L ids).length
  few : (restP L ids).length < 20
  are : ∀ p ∈ restP L ids, Is L p
  sz : sizeP L (restP L ids) 1 ≤ 500
  ord : ∀ j, j + 1 < (restP L ids).length → Op.bytesLess (keyF L (restP L ids) (j + 1)).1.toList (keyF L (restP L ids) j).1.toList = false
  new : pos L (unionW L (restP L ids)) = none
  wl : (Lib.join ((allW L (restP L ids) [15]).map (·.data.toList)) [32, 124, 32]).length ≤ 140737488355328
def unionKt (L : List Kt) (ps : List Int) : Kt := ⟨16, 0, ⟨#[]⟩, ps, [], [], unionW L ps, sizeP L ps 1⟩
theorem joined_ok (b : Nat) (h : AAt Tryz.prog lo M (some b) dv L W) (hs : SzOk L) (hw : WdOk L) (hL : L.length + 1 ≤ 1000000) (ids : List Int) (pa : Option Addr) (pc : Nat) (hp : RowR 3 W (.slice pa ids.length pc) (iv ids)) (U : UOk L ids) :
    Calls Tryz.prog 32 #[.pointer (some ⟨M, 0, none⟩), .slice pa ids.length pc] W (LaidQ lo M (some b) dv (L ++ [unionKt L (restP L ids)]) (L.length : Int) W) := by
  have hb1 := (Below.refl _ W).alloc (Nat.le_refl _) (.cells #[.pointer (some ⟨M, 0, none⟩)] 28)
  obtain ⟨W1, hW1⟩ : ∃ W1, W.alloc (.cells #[.pointer (some ⟨M, 0, none⟩)] 28) = W1 := ⟨_, rfl⟩
  rw [hW1] at hb1
  have hx1 : Bx W1 W.heap.size #[.pointer (some ⟨M, 0, none⟩)] 28 := by rw [← hW1]; exact al_at W _
  have HA : Hid (∀ w', Below W.heap.size W w' → AAt Tryz.prog lo M (some b) dv L w') := fun w' hb => h.below hb
  have HP : Hid (∀ w', Below W.heap.size W w' → RowR 3 w' (.slice pa ids.length pc) (iv ids)) := fun w' hb => hp.below hb
  have HXW : Hid (∀ w', Below W1.heap.size W1 w' → Bx w' W.heap.size #[.pointer (some ⟨M, 0, none⟩)] 28) := fun w' hb => hx1.below hb hx1.lt
  have HU := hide U
  have HS := hide hs
  have HW := hide hw
  have HL := hide hL
  have HB1 := hide hb1
  obtain ⟨R, hR⟩ : ∃ R, restP L ids = R := ⟨_, rfl⟩
  have HRR := hide hR
  have h2 : 2 ≤ R.length := hR ▸ U.two
  have hf20 : R.length < 20 := hR ▸ U.few
  have hsz : sizeP L R 1 ≤ 500 := hR ▸ U.sz
  have c1 := hx1.cell 0 rfl
  have l1 := hx1.lt
  have n0 : ((R.length : Int) == 0) = false := by rw [beq_eq_false_iff_ne]; omega
  have n1 : ((R.length : Int) == 1) = false := by rw [beq_eq_false_iff_ne]; omega
  have hng : ¬ sizeP L R 1 > 500 := by omega
  obtain ⟨z, hz⟩ : ∃ z, sizeP L R 1 = z := ⟨_, rfl⟩
  have HZ := hide hz
  rw [hz] at hng hsz
  rw [hR]
  clear h hs hw hL hp U hb1 hx1 hR hz
  go_enter Tryz.func32, Tryz.ntmps32
  go_wp2_with (first
    | (go_at_call 45
       refine (callsIn_wide.1 (top_none W1 ids pa pc (unhide HA _ (unhide HB1)) (unhide HP _ (unhide HB1)) (unhide HU).flat (by have := (unhide HU).len; omega) (unhide HU).top)).mono ?_
       rintro e w2 ⟨rfl, hb2⟩
       have HC2 := hide hb2
       have HB2 := hide ((unhide HB1).trans (hb2.mono (unhide HB1).size))
       have c2 := (unhide HXW w2 hb2).cell 0 rfl
       have l2 := (unhide HXW w2 hb2).lt
       clear hb2)
    | (go_at_call 46
       refine (left_flat w2 ids pa pc (unhide HA _ (unhide HB2)) (unhide HP _ (unhide HB2)) (unhide HU).flat (unhide HU).wide (unhide HU).ne (by have := (unhide HU).len; omega) (by have := (unhide HU).one; omega)).mono ?_
       rw [unhide HRR]
       rintro e w3 ⟨v3, rfl, ho3, hb3⟩
       have hC3 := (unhide HC2).trans (hb3.mono (unhide HC2).size)
       have HC3 := hide hC3
       have HB3 := hide ((unhide HB2).trans (hb3.mono (unhide HB2).size))
       have HO3 := hide ho3
       obtain ⟨g3, c3, cu3, hv3, hg3, hc3, hm3, hx3⟩ : ∃ (g3 c3 : Nat) (cu3 : Array Value), v3 = .slice (some ⟨g3, 0, none⟩) R.length c3 ∧ w3.heap[g3]? = some (.cells cu3 3) ∧ R.length ≤ c3 ∧ c3 ≤ maxLen ∧ ∀ (j : Nat) (x : Int), R[j]? = some x → cu3[j]? = some (.int .i64 x) := (by
         have ho := ho3
         rw [iv_len] at ho
         rcases ho.2 with ⟨_, e⟩ | ⟨g, cap, cur, e, _, hh, hn, hc, _⟩
         · omega
         · refine ⟨g, cap, cur, e, hh, hn, hc, fun j x hjx => ?_⟩
           have := ho.cells (g := g) (by rw [e]; rfl) j _ (iv_get hjx)
           rw [Addr.add_lit] at this
           simpa [World.cell?, hh] using this)
       subst hv3
       have d3 := (unhide HXW w3 hC3).cell 0 rfl
       have e3 := (unhide HXW w3 hC3).lt
       have HG3 := hide hg3
       have HX3 := hide hx3
       have HM3 := hide hm3
       clear hb3 hC3 ho3 hg3 hx3 hm3)
    | (go_at_call 34
       refine (sizeOver_any (unhide HA w3 (unhide HB3)) _ R (own_rowR (unhide HO3)) (fun p hp => .inr ((unhide HU).are p (by rw [unhide HRR]; exact hp))) (unhide HS) (by omega)).mono ?_
       rw [unhide HZ]
       rintro e w4 ⟨rfl, rfl⟩)
    | (go_at_call 47
       refine (sortBy_sorted (unhide HA _ (unhide HB3)) (unhide HS) (unhide HW) W.heap.size (unhide HXW _ (unhide HC3)) g3 c3 R cu3 (unhide HG3) (unhide HX3) (fun p hp => (unhide HU).are p (by rw [unhide HRR]; exact hp)) (by omega) hf20 hc3 (by have := unhide HM3; unfold maxLen at this; omega) (by have := (unhide HU).ord; rw [unhide HRR] at this; exact this)).mono ?_
       rintro e w5 ⟨rfl, hb5⟩
       have hC5 := (unhide HC3).trans (hb5.mono (unhide HC3).size)
       have HB5 := hide ((unhide HB3).trans (hb5.mono (unhide HB3).size))
       have HR5 := hide ((own_rowR (unhide HO3)).below hb5)
       have d5 := (unhide HXW w5 hC5).cell 0 rfl
       have e5 := (unhide HXW w5 hC5).lt
       clear hb5 hC5)
    | (go_at_call 17
       have hA5 := unhide HA w5 (unhide HB5)
       have hsz5 : (unionW L R).size ≤ 140737488355328 := (by have := (unhide HU).wl; rw [unhide HRR] at this; simpa [unionW, ByteArray.size] using this)
       have hwd : WdIs M (.agg (tyV 16 0 ⟨#[]⟩ (.slice (some ⟨g3, 0, none⟩) R.length c3) (.slice none ([] : List ByteArray).length 0) (.slice none ([] : List Bool).length 0))) w5 (unionW L R) := fun w' hb => worded_union (hA5.below hb) (unhide HS) (unhide HW) R _ _ _ _ _ _ _ _ ((unhide HR5).below hb) (fun p hp => (unhide HU).are p (by rw [unhide HRR]; exact hp)) (by omega) (by intro e; rw [e] at h2; simp at h2) (by have := (unhide HU).wl; rw [unhide HRR] at this; exact this)
       refine (laid_new b hA5 (unhide HS) 16 0 ⟨#[]⟩ (unionW L R) (some ⟨g3, 0, none⟩) none none c3 0 0 R [] [] (unhide HR5) (RowR.nil _ _) (RowR.nil _ _) (fun p hp => .inr ((unhide HU).are p (by rw [unhide HRR]; exact hp))) (by omega) (by simp) (by simp) (Nat.zero_le _) (fun x hx => by cases hx) (by rw [unhide HZ]; exact hsz) hwd (Nat.le_trans hsz5 (by unfold maxLen; omega)) (by have := (unhide HU).new; rw [unhide HRR] at this; exact this) (unhide HL)).mono ?_
       rintro e w6 ⟨rfl, mo6, hA6, hF6, hm6⟩
       have HA6 := hide hA6
       have HF6 := hide ((below_fa (unhide HB5)).trans hF6 (.inl rfl))
       have HM6 := hide hm6
       clear hA5 hsz5 hwd hA6 hF6 hm6))
  go_ret
  refine ⟨rfl, mo6, unhide HA6, unhide HF6, ?_⟩
  rcases unhide HM6 with hm | ⟨b', hm, hb'⟩
  · exact .inl hm
  · exact .inr ⟨b', hm, Nat.le_trans (unhide HB5).size hb'⟩
theorem union_ok (b : Nat) (h : AAt Tryz.prog lo M (some b) dv L W) (hs : SzOk L) (hw : WdOk L) (hL : L.length + 1 ≤ 1000000) (ids : List Int) (pa : Option Addr) (pc : Nat) (hp : RowR 3 W (.slice pa ids.length pc) (iv ids)) (U : UOk L ids) (hid : ∀ p ∈ ids, Is L p) :
    Calls Tryz.prog 14 #[.pointer (some ⟨M, 0, none⟩), .slice pa ids.length pc] W fun e w' => e = .returned (.tuple #[.int .i64 (L.length : Int), .int .i64 0]) ∧ ∃ mo', AAt Tryz.prog lo M mo' dv (L ++ [unionKt L (restP L ids)]) w' ∧ Fa M (some b) lo W w' := by
  have HJ := hide (joined_ok b h hs hw hL ids pa pc hp U)
  have HH := hide (hasAll_yes h pa pc ids hp hid (by have := U.len; omega))
  clear h hs hw hL hp U hid
  go_enter Tryz.func14, Tryz.ntmps14
  go_wp2_with (first
    | (go_at_call 30
       refine (unhide HH).mono ?_
       rintro e w2 ⟨rfl, rfl⟩)
    | (go_at_call 32
       refine (unhide HJ).mono ?_
       rintro e w3 ⟨rfl, mo3, hA3, hF3, -⟩
       have HA3 := hide hA3
       have HF3 := hide hF3
       clear hA3 hF3)
    | (go_at_call 31
       refine (told_ok _ (by omega) _).mono ?_
       rintro e w4 ⟨rfl, rfl⟩))
  refine bodyPost_ret (v := .tuple #[.int .i64 (L.length : Int), .int .i64 0]) ?_ rfl ⟨rfl, mo3, unhide HA3, unhide HF3⟩
  simp [results, Tryz.results14, go_sem]
end Go.Proofs.YticdaphajanbbaaGreatDoor
