/- Towards the law: S2t. -/
import Derived.Test.YtdliannkiijeiaaGreatDoorMSA
set_option linter.unusedSimpArgs false
set_option linter.unusedVariables false
set_option maxRecDepth 100000
set_option maxHeartbeats 8000000
namespace Go.Proofs.YtdliannkiijeiaaGreatDoor
section
theorem St.nc {c : Cx} {B : Nat} {s : PS} (h : St c B s) (z : List Bool) : St c B { s with nc := z } := ⟨h.lt, h.tk, h.nd⟩
theorem st_typeArgs {c : Cx} {B g : Nat} (hC : CxOk c B) (IH : ∀ y, Spec c B g y) : Spec c B (g + 1) .typeArgs := by
 intro s p z L hS hE hA hf hN;have hb0 := hS.bd hC;simp only [Arg, rank] at hA hf hN;show Wp (bodyP c (parP c g) .typeArgs) s _
 simp only [bodyP, one1];refine wp_btest ?_;refine wp_ite (fun hd => ?_) (fun hd => ?_)
 · refine wp_blist hS hE (by omega) (by simp) lh_nil ?_
   rintro s1 ⟨a1, a2, a3, a4, a5, a6⟩;exact wp_rt (pq_end a1 a2 (fun e he => List.mem_cons_of_mem _ he) (lh_here (by simp only [qOf]; omega)) (by omega) (by simp) (by intro _; simp) (by omega) (by omega) (by simp only [adv, rank, nl, if_true, Bool.false_eq_true, if_false]; omega))
 · have h10 : s.tk.1 ≠ 10 := ned_p (x := [60]) (by simpa using hd) (by decide)
   suffices hh : Wp (bd (nextP c) fun _ => bd (parP c g (.several .anyType)) fun l => bd (wantAngleP c) fun _ => fun s' => bd (listP l) (fun x => rt [x]) { s' with nc := s'.nc.set s.n (isP [40] s' == false) }) ({ s with nc := s.nc.set s.n true } : PS) (Pq c B L s .typeArgs (qOf .typeArgs s p) z) from hh
   generalize hz : s.nc.set s.n true = zz;have hS' := hS.nc zz;refine wp_bnext (s := { s with nc := zz }) (L := L) hC hS' h10 hE ?_;rintro s1 ⟨a1, a2, a3, a4, a5, a6⟩;have e1 : mea c ({ s with nc := zz } : PS) = mea c s := rfl;have e2 : ({ s with nc := zz } : PS).nodes.length = s.nodes.length := rfl;have e3 : ({ s with nc := zz } : PS).tk.2.2.1 = s.tk.2.2.1 := rfl;rw [e1] at a4;rw [e2] at a3;rw [e3] at a5;refine wp_pR (p := 0) IH a1 a2 ⟨rfl, rfl⟩ (by simp only [rank]; omega) (by simp only [rank]; omega) rfl ?_;intro l s2 z2 b1 b2 bz b3 b4 b5 b6 b7;simp only [rank] at b7;refine wp_bangle hC b1 b2 ?_;rintro s3 ⟨d1, d2, d3, d4, d5, d6⟩;have := wp_blist (k := fun x => rt [x]) (Q := Pq c B L s .typeArgs (qOf .typeArgs s p) z) (d1.nc (s3.nc.set s.n (isP [40] s3 == false))) d2 (show s3.nodes.length < 1000000 by omega) (show l.length ≤ 1000000 by omega) (lh_here (Nat.zero_le _)) ?_
   · exact this
   · rintro s4 ⟨f1, f2, f3, f4, f5, f6⟩
     have g1 : mea c ({ s3 with nc := (s3.nc.set s.n (isP [40] s3 == false)) } : PS) = mea c s3 := rfl;have g2 : ({ s3 with nc := (s3.nc.set s.n (isP [40] s3 == false)) } : PS).nodes.length = s3.nodes.length := rfl;have g3 : ({ s3 with nc := (s3.nc.set s.n (isP [40] s3 == false)) } : PS).tk.2.2.1 = s3.tk.2.2.1 := rfl;rw [g1] at f4;rw [g2] at f2 f3 ⊢;rw [g3] at f6;exact wp_rt (pq_end f1 f2 (fun e he => List.mem_cons_of_mem _ (List.mem_cons_of_mem _ he)) (lh_here (by simp only [qOf]; omega)) (by omega) (by simp) (by intro _; simp) (by omega) (by omega) (by simp only [adv, rank, nl, if_true, Bool.false_eq_true, if_false]; omega))
theorem st_callTypes {c : Cx} {B g : Nat} (hC : CxOk c B) (IH : ∀ y, Spec c B g y) : Spec c B (g + 1) .callTypes := by
 intro s p z L hS hE hA hf hN;have hb0 := hS.bd hC;simp only [Arg, rank] at hA hf hN;have hT := IH .typeArgs s p z L hS hE hA (by simp only [rank]; omega) (by simp only [rank]; omega);show Wp (bodyP c (parP c g) .callTypes) s _
 simp only [bodyP];have he : ∀ z', Pq c B L s .callTypes (qOf .callTypes s p) z [] { s with nc := z' } := fun z' => ⟨hS.nc z', hE, ⟨(by intro k hk; cases hk), (by show 0 + s.nodes.length ≤ s.nodes.length + z; omega)⟩, by simp, (by intro h; cases h), NL, hb0, by simp only [adv, rank, nl, if_true, Bool.false_eq_true, if_false]; exact ⟨NL, Nat.le_succ _⟩⟩
 unfold Wp at hT ⊢;simp only;split
 · rename_i h
   split at h
   · cases h; exact he s.nc
   · split at h
     · rename_i l s' e
       rw [e] at hT;simp only at hT;split at h
       · cases h
         obtain ⟨a1, a2, a3, a4, a5, a6, a7, a8⟩ := hT;exact ⟨a1, a2, a3, a4, (by intro h; cases h), a6, a7, by simp only [adv, rank, nl, if_true, Bool.false_eq_true, if_false] at a8 ⊢; exact a8⟩
       · cases h
         exact he s'.nc
     · cases h
       exact he _
     · cases h
 · trivial
 · rename_i h
   split at h
   · cases h
   · split at h
     · split at h <;> cases h
     · cases h
     · rename_i e
       rw [e] at hT;exact hT
end
end Go.Proofs.YtdliannkiijeiaaGreatDoor
