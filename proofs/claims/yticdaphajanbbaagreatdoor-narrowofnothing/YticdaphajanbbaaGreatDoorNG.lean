/- A union of one type, or of none. -/
import Derived.Test.YticdaphajanbbaaGreatDoorLD
import Derived.Test.YticdaphajanbbaaGreatDoorNF
namespace Go.Proofs.YticdaphajanbbaaGreatDoor
set_option linter.unusedSimpArgs false
set_option linter.unusedVariables false
set_option maxRecDepth 100000
set_option maxHeartbeats 4000000
open Go.RowKit Go.Shelf

variable {P : Program} {lo M : Nat} {mo : Option Nat} {dv : Value} {L : List Kt} {W : World}
theorem index_nil (va : Option Addr) (vc : Nat) (fv : Fn) (ca : Array Value) (W : World) : Calls Tryz.prog 103 #[.slice va 0 vc, .func fv #[] ca] W fun e w' => e = .returned (.int .i64 (-1)) ∧ w' = W := by
  go_enter Tryz.func103, Tryz.ntmps103
  go_wp2
  go_loop [8] (fun u => u = .int .i64 0) (fun _ => 0)
  case atStart => rfl
  case round =>
    subst hrel
    go_wp2
    go_ret
    exact ⟨rfl, rfl⟩
theorem delete_nil (va : Option Addr) (vc : Nat) (fv : Fn) (ca : Array Value) (W : World) : Calls Tryz.prog 76 #[.slice va 0 vc, .func fv #[] ca] W fun e w' => e = .returned (.slice va 0 vc) ∧ w' = W := by
  have HI := hide (index_nil va vc fv ca W)
  go_enter Tryz.func76, Tryz.ntmps76
  go_wp2_with (first
    | (go_at_call 103
       refine (unhide HI).mono ?_
       rintro e w2 ⟨rfl, h2⟩
       rw [h2]
       clear h2))
  go_ret
  exact ⟨rfl, rfl⟩
/-- What a union of nothing has. -/
theorem left_nil (W : World) (pa : Option Addr) (pc : Nat) (hA : AAt Tryz.prog lo M mo dv L W) (hp : RowR 3 W (.slice pa 0 pc) (iv [])) : Calls Tryz.prog 46 #[.pointer (some ⟨M, 0, none⟩), .slice pa 0 pc] W (CloneQ 3 (iv []) W) := by
  obtain ⟨W1, hW1⟩ : ∃ W1, W.alloc (.cells #[.pointer (some ⟨M, 0, none⟩)] 28) = W1 := ⟨_, rfl⟩
  have hb1 : Below W.heap.size W W1 := by rw [← hW1]; exact (Below.refl _ W).alloc (Nat.le_refl _) _
  have hx1 : Bx W1 W.heap.size #[.pointer (some ⟨M, 0, none⟩)] 28 := by rw [← hW1]; exact al_at W _
  have HA : Hid (∀ w', Below W.heap.size W w' → AAt Tryz.prog lo M mo dv L w') := fun w' hb => hA.below hb
  have HP : Hid (∀ w', Below W.heap.size W w' → RowR 3 w' (.slice pa ([] : List Int).length pc) (iv [])) := fun w' hb => hp.below hb
  have HB1 := hide hb1
  have hM := hA.lt
  have c1 := hx1.cell 0 rfl
  have l1 := hx1.lt
  have hmm := @run_makeMap Tryz.prog
  clear hA hb1 hx1 hp
  go_enter Tryz.func46, Tryz.ntmps46
  go_wp2_with (first
    | (go_at_call 73
       refine (apart_any M pa 0 pc _).mono ?_
       rintro e w2 ⟨rfl, h21, h22, hb2⟩
       have HX2 := hide h21
       have HY2 := hide h22
       have HB2 := hide ((unhide HB1).trans (hb2.mono (unhide HB1).size))
       clear h21 h22 hb2)
    | (go_at_call 75
       refine (collect_flat w2 _ _ [] pa pc (unhide HA _ (unhide HB2)) (unhide HP _ (unhide HB2)) (fun p hp => by cases hp) (by simp) (by simp [onceP]) (unhide HX2) (unhide HY2)).mono ?_
       rintro e w3 ⟨v3, rfl, ho3, hb3⟩
       have HO3 := hide ho3
       have HB3 := hide ((unhide HB2).trans (hb3.mono (unhide HB2).size))
       obtain ⟨va, vc, rfl, -⟩ := own_rowR ho3
       clear ho3 hb3))
  have e0 : (iv (onceP [])).length = 0 := rfl
  rw [e0] at HO3 ⊢
  obtain ⟨X, hX⟩ : ∃ X, (w3.alloc (.map #[] 0)).alloc (.cells #[.map (some w3.heap.size)] 118) = X := ⟨_, rfl⟩
  have hbX : Below w3.heap.size w3 X := by rw [← hX]; exact ((Below.refl _ w3).alloc (Nat.le_refl _) _).alloc (by simp) _
  have HBX := hide ((unhide HB3).trans (hbX.mono (unhide HB3).size))
  have HOX : Hid (X.ownsRow w2.heap.size 3 1 (.slice va 0 vc) 0 []) := row_keep (unhide HO3) fun k e => hbX.block k (row_ty (unhide HO3) e).2.1
  have hle := (unhide HB2).size
  rw [hX]
  clear hX hbX hmm e0 c1 l1
  go_loopw [16] (fun u wr => u = .int .i64 0 ∧ wr = X) (fun _ _ => 0)
  case atStart => exact ⟨rfl, rfl⟩
  case round =>
    obtain ⟨rfl, rfl⟩ := hrel
    go_wp2_with (first
      | (go_at_call 76
         refine (delete_nil va vc _ _ _).mono ?_
         rintro e w6 ⟨rfl, h6⟩
         rw [h6]
         clear h6))
    go_ret
    refine ⟨_, rfl, ?_, unhide HBX⟩
    have h := unhide HOX
    refine ⟨h.1, ?_⟩
    rcases h.2 with h0 | ⟨g, cap, cur, hv, hg, hh, hr⟩
    · exact .inl h0
    · exact .inr ⟨g, cap, cur, hv, Nat.le_trans hle hg, hh, hr⟩
/-- joined, where top answers. -/
theorem joined_top (i : Int) (pa : Option Addr) (pc : Nat) (hA : AAt Tryz.prog lo M mo dv L W) (hp : RowR 3 W (.slice pa 1 pc) (iv [i])) (hf : Flat L [i]) (hk : kindP L i = 1 ∨ kindP L i = 2) :
    Calls Tryz.prog 32 #[.pointer (some ⟨M, 0, none⟩), .slice pa 1 pc] W fun e w' => e = .returned (.int .i64 i) ∧ Below W.heap.size W w' := by
  obtain ⟨W1, hW1⟩ : ∃ W1, W.alloc (.cells #[.pointer (some ⟨M, 0, none⟩)] 28) = W1 := ⟨_, rfl⟩
  have hb1 : Below W.heap.size W W1 := by rw [← hW1]; exact (Below.refl _ W).alloc (Nat.le_refl _) _
  have hx1 : Bx W1 W.heap.size #[.pointer (some ⟨M, 0, none⟩)] 28 := by rw [← hW1]; exact al_at W _
  have HT : Hid (Calls Tryz.prog 45 #[.pointer (some ⟨M, 0, none⟩), .slice pa 1 pc] W1 fun e w' => e = .returned (.tuple #[.int .i64 i, .bool true]) ∧ Below W1.heap.size W1 w') := by
    rcases hk with hk | hk
    · exact callsIn_wide.1 (top_any W1 i pa pc (hA.below hb1) (hp.below hb1) hf hk)
    · exact callsIn_wide.1 (top_unknown W1 i pa pc (hA.below hb1) (hp.below hb1) hf hk)
  have HB1 := hide hb1
  have c1 := hx1.cell 0 rfl
  have l1 := hx1.lt
  clear hA hp hf hk hb1 hx1
  go_enter Tryz.func32, Tryz.ntmps32
  go_wp2_with (first
    | (go_at_call 45
       refine (unhide HT).mono ?_
       rintro e w2 ⟨rfl, hb2⟩
       have HB2 := hide ((unhide HB1).trans (hb2.mono (unhide HB1).size))
       clear hb2))
  go_ret
  exact ⟨rfl, unhide HB2⟩
/-- joined, where one part is left, or none: then never's number. -/
theorem joined_left (b : Nat) (ids : List Int) (pa : Option Addr) (pc : Nat) (R : List Int) (r : Int) (j : Nat) (hA : AAt Tryz.prog lo M (some b) dv L W) (hs : SzOk L) (hp : RowR 3 W (.slice pa ids.length pc) (iv ids)) (hf : Flat L ids) (hl : ids.length ≤ 1000) (hno : ∀ p ∈ ids, kindP L p ≠ 1 ∧ kindP L p ≠ 2)
    (hL : ∀ w, Below W.heap.size W w → Calls Tryz.prog 46 #[.pointer (some ⟨M, 0, none⟩), .slice pa ids.length pc] w (CloneQ 3 (iv R) w)) (hnv : pos L (bareW 3) = some j) (hR : (R = [] ∧ r = (j : Int)) ∨ R = [r]) :
    Calls Tryz.prog 32 #[.pointer (some ⟨M, 0, none⟩), .slice pa ids.length pc] W fun e w' => e = .returned (.int .i64 r) ∧ Below W.heap.size W w' := by
  obtain ⟨W1, hW1⟩ : ∃ W1, W.alloc (.cells #[.pointer (some ⟨M, 0, none⟩)] 28) = W1 := ⟨_, rfl⟩
  have hb1 : Below W.heap.size W W1 := by rw [← hW1]; exact (Below.refl _ W).alloc (Nat.le_refl _) _
  have hx1 : Bx W1 W.heap.size #[.pointer (some ⟨M, 0, none⟩)] 28 := by rw [← hW1]; exact al_at W _
  have HT := hide (callsIn_wide.1 (top_none W1 ids pa pc (hA.below hb1) (hp.below hb1) hf (by omega) hno))
  have HA : Hid (∀ w', Below W.heap.size W w' → AAt Tryz.prog lo M (some b) dv L w') := fun w' hb => hA.below hb
  have HXW : Hid (∀ w', Below W1.heap.size W1 w' → Bx w' W.heap.size #[.pointer (some ⟨M, 0, none⟩)] 28) := fun w' hb => hx1.below hb hx1.lt
  have HL := hide hL
  have HS := hide hs
  have HN := hide hnv
  have HB1 := hide hb1
  have c1 := hx1.cell 0 rfl
  have l1 := hx1.lt
  clear hA hp hf hno hb1 hx1 hL hs hnv
  rcases hR with ⟨rfl, rfl⟩ | rfl
  · go_enter Tryz.func32, Tryz.ntmps32
    go_wp2_with (first
      | (go_at_call 45
         refine (unhide HT).mono ?_
         rintro e w2 ⟨rfl, hb2⟩
         have HC2 := hide hb2
         have HB2 := hide ((unhide HB1).trans (hb2.mono (unhide HB1).size))
         have c2 := (unhide HXW w2 hb2).cell 0 rfl
         have l2 := (unhide HXW w2 hb2).lt
         clear hb2)
      | (go_at_call 46
         refine (unhide HL w2 (unhide HB2)).mono ?_
         rintro e w3 ⟨v3, rfl, ho3, hb3⟩
         have hC3 := (unhide HC2).trans (hb3.mono (unhide HC2).size)
         have HB3 := hide ((unhide HB2).trans (hb3.mono (unhide HB2).size))
         obtain ⟨va, vc, rfl, -⟩ := own_rowR ho3
         have c3 := (unhide HXW w3 hC3).cell 0 rfl
         have l3 := (unhide HXW w3 hC3).lt
         have e0 : (iv ([] : List Int)).length = 0 := rfl
         rw [e0]
         clear hb3 hC3 ho3 e0)
      | (go_at_call 17
         have hA3 := unhide HA w3 (unhide HB3)
         have hwd : WdIs M (.agg (tyV 3 0 ⟨#[]⟩ (.slice none ([] : List Int).length 0) (.slice none 0 0) (.slice none 0 0))) w3 (bareW 3) := fun w' _ => worded_bare 3 (by omega) (by omega) w' _ _ _ _ _ _ _ _ _
         have hq := laid_there b hA3 (unhide HS) 3 0 ⟨#[]⟩ (bareW 3) none 0 (.slice none 0 0) (.slice none 0 0) [] (RowR.nil _ _) (fun p hp => by cases hp) (by simp) (by simp [sizeP]) none none 0 0 0 0 rfl rfl hwd (Nat.le_trans (bareW_le _) (by decide)) j (unhide HN)
         refine hq.mono ?_
         rintro e w4 ⟨rfl, hb4⟩
         have HB4 := hide ((unhide HB3).trans (hb4.mono (unhide HB3).size))
         clear hb4 hq hwd hA3))
    go_ret
    exact ⟨rfl, unhide HB4⟩
  · go_enter Tryz.func32, Tryz.ntmps32
    go_wp2_with (first
      | (go_at_call 45
         refine (unhide HT).mono ?_
         rintro e w2 ⟨rfl, hb2⟩
         have HC2 := hide hb2
         have HB2 := hide ((unhide HB1).trans (hb2.mono (unhide HB1).size))
         have c2 := (unhide HXW w2 hb2).cell 0 rfl
         have l2 := (unhide HXW w2 hb2).lt
         clear hb2)
      | (go_at_call 46
         refine (unhide HL w2 (unhide HB2)).mono ?_
         rintro e w3 ⟨v3, rfl, ho3, hb3⟩
         have HB3 := hide ((unhide HB2).trans (hb3.mono (unhide HB2).size))
         have hr3 := own_rowR ho3
         obtain ⟨va, vc, rfl, -⟩ := id hr3
         obtain ⟨g3, o3, rfl, d3, b3⟩ := RowR.int (ps := [r]) (i := 0) hr3 rfl
         have e0 : (iv [r]).length = 1 := rfl
         rw [e0]
         rw [Nat.add_zero] at d3
         clear hb3 ho3 e0 hr3))
    go_ret
    exact ⟨rfl, unhide HB3⟩
/-- What the union of a type of the ten is: itself; of never and of nothing never. -/
theorem union_few (b : Nat) (ids : List Int) (pa : Option Addr) (pc : Nat) (r : Int) (hA : AAt Tryz.prog lo M (some b) dv L W) (hp : RowR 3 W (.slice pa ids.length pc) (iv ids)) (hl : ids.length ≤ 1000) (hi : ∀ p ∈ ids, Is L p) (hr : r ≠ -1)
    (hJ : Calls Tryz.prog 32 #[.pointer (some ⟨M, 0, none⟩), .slice pa ids.length pc] W fun e w' => e = .returned (.int .i64 r) ∧ Below W.heap.size W w') :
    Calls Tryz.prog 14 #[.pointer (some ⟨M, 0, none⟩), .slice pa ids.length pc] W fun e w' => e = .returned (.tuple #[.int .i64 r, .int .i64 0]) ∧ Below W.heap.size W w' := by
  have HJ := hide hJ
  have HH := hide (hasAll_yes hA pa pc ids hp hi (by omega))
  clear hA hp hi hJ
  go_enter Tryz.func14, Tryz.ntmps14
  go_wp2_with (first
    | (go_at_call 30
       refine (unhide HH).mono ?_
       rintro e w2 ⟨rfl, h2⟩
       rw [h2]
       clear h2)
    | (go_at_call 32
       refine (unhide HJ).mono ?_
       rintro e w3 ⟨rfl, hb3⟩
       have HB3 := hide hb3
       clear hb3)
    | (go_at_call 31
       refine (told_ok _ hr _).mono ?_
       rintro e w4 ⟨rfl, rfl⟩))
  refine bodyPost_ret (v := .tuple #[.int .i64 r, .int .i64 0]) ?_ rfl ⟨rfl, unhide HB3⟩
  simp [results, Tryz.results14, go_sem]
/-- Types among which the ten come first. -/
structure Ten (L : List Kt) : Prop where
  sz : SzOk L
  nv : pos L (bareW 3) = some 2
  at_ : ∀ i : Nat, i < 10 → L[i]? = some (bareKt (i + 1))
theorem Ten.kind (T : Ten L) (i : Nat) (h : i < 10) : kindP L (i : Int) = ((i + 1 : Nat) : Int) ∧ Is L (i : Int) := by
  have h1 := T.at_ i h
  have h2 := (List.getElem?_eq_some_iff.1 h1).1
  refine ⟨?_, by omega, by omega⟩
  simp only [kindP, Int.toNat_natCast, h1]
  rw [if_neg (by omega)]
  simp [bareKt]
theorem union_ten (b : Nat) (i : Nat) (hi : i < 10) (T : Ten L) (pa : Option Addr) (pc : Nat) (hA : AAt Tryz.prog lo M (some b) dv L W) (hp : RowR 3 W (.slice pa 1 pc) (iv [(i : Int)])) :
    Calls Tryz.prog 14 #[.pointer (some ⟨M, 0, none⟩), .slice pa 1 pc] W fun e w' => e = .returned (.tuple #[.int .i64 (i : Int), .int .i64 0]) ∧ Below W.heap.size W w' := by
  obtain ⟨hk, his⟩ := T.kind i hi
  have hflat : Flat L [(i : Int)] := fun p hp => by
    simp only [List.mem_cons, List.not_mem_nil, or_false] at hp
    subst hp
    exact ⟨.inr his, by rw [hk]; omega⟩
  refine union_few b [(i : Int)] pa pc (i : Int) hA hp (by simp) (fun p hp => by simp only [List.mem_cons, List.not_mem_nil, or_false] at hp; subst hp; exact his) (by omega) ?_
  by_cases h2 : i < 2
  · exact joined_top (i : Int) pa pc hA hp hflat (by rw [hk]; omega)
  · have hno : ∀ p ∈ [(i : Int)], kindP L p ≠ 1 ∧ kindP L p ≠ 2 := fun p hp => by
      simp only [List.mem_cons, List.not_mem_nil, or_false] at hp
      subst hp
      rw [hk]; omega
    have hw : Wide L [(i : Int)] := fun p hp => by
      simp only [List.mem_cons, List.not_mem_nil, or_false] at hp
      subst hp
      rw [hk]; omega
    have h1 : onceP [(i : Int)] = [(i : Int)] := by simp [onceP, addP]
    refine joined_left b [(i : Int)] pa pc (restP L [(i : Int)]) (i : Int) 2 hA T.sz hp hflat (by simp) hno (fun w hb => left_flat w [(i : Int)] pa pc (hA.below hb) (hp.below hb) hflat hw (by simp) (by simp) (by rw [h1]; simp)) T.nv ?_
    unfold restP
    rw [h1]
    by_cases h3 : i = 2
    · subst h3
      left
      have : kindP L 2 = 3 := hk
      simp [this]
    · right
      have : (kindP L (i : Int) == 3) = false := by rw [hk, beq_eq_false_iff_ne]; omega
      simp [this]
theorem union_none (b : Nat) (T : Ten L) (pa : Option Addr) (pc : Nat) (hA : AAt Tryz.prog lo M (some b) dv L W) (hp : RowR 3 W (.slice pa 0 pc) (iv [])) :
    Calls Tryz.prog 14 #[.pointer (some ⟨M, 0, none⟩), .slice pa 0 pc] W fun e w' => e = .returned (.tuple #[.int .i64 2, .int .i64 0]) ∧ Below W.heap.size W w' := by
  refine union_few b [] pa pc 2 hA hp (by simp) (fun p hp => by cases hp) (by omega) ?_
  exact joined_left b [] pa pc [] 2 2 hA T.sz hp (fun p hp => by cases hp) (by simp) (fun p hp => by cases hp) (fun w hb => left_nil w pa pc (hA.below hb) (hp.below hb)) T.nv (.inl ⟨rfl, rfl⟩)
end Go.Proofs.YticdaphajanbbaaGreatDoor
