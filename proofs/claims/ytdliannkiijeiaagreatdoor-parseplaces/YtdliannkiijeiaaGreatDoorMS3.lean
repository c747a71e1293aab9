/- Towards the law: S3. -/
import Derived.Test.YtdliannkiijeiaaGreatDoorMSA
set_option linter.unusedSimpArgs false
set_option linter.unusedVariables false
set_option maxRecDepth 100000
set_option maxHeartbeats 8000000
namespace Go.Proofs.YtdliannkiijeiaaGreatDoor
section
set_option maxRecDepth 100000
set_option maxHeartbeats 8000000
def gr1 : Cmd → Bool
 | .template | .tempLoop .. | .pair | .newThing | .newLoop .. | .super | .several .. | .sevLoop .. | .enclosed .. | .braced .. | .braLoop .. | .filled .. | .filLoop .. | .maybe .. | .until .. | .typeParams | .typeParam | .params .. | .param | .memberParam | .marked .. => true
 | _ => false
theorem st_1 {c : Cx} {B g : Nat} (hC : CxOk c B) (IH : ∀ y, Spec c B g y) (x : Cmd) (hx : gr1 x = true) : Spec c B (g + 1) x := by
 intro s p z L hS hE hA hf hN;have hb0 := hS.bd hC;obtain ⟨P, hP⟩ : ∃ P, P = qOf x s p := ⟨_, rfl⟩;rw [← hP];show Wp (bodyP c (parP c g) x) s _
 cases x
 all_goals first
  | (exfalso; revert hx; simp only [gr1, Bool.false_eq_true]; exact id)
  | (simp only [qOf] at hP
     try simp only [Arg] at hA
     try simp only [rank] at hf hN
     repeat (have hA' := hA.1; replace hA := hA.2)
     simp only [bodyP, one1, show levelsL.length = 10 from rfl]
     repeat' (first
      | (intro l s1 z1 hS1 hE1 hz1 hl1 hk1 hp1 hb1 hm1 hn1; try simp only [rank, nl] at hn1)
      | (intro l s1 z1 hS1 hE1 hz1 hk1 hp1 hb1 hm1 hn1; try simp only [rank, nl] at hn1)
      | rintro s1 ⟨hS1, hE1, hn1, hm1, hp1, hb1⟩
      | exact wp_refuse
      | ((with_reducible refine wp_rt ?_); exact pq_end (by assumption) (by assumption) (by intro e he; repeat (first | exact he | apply List.mem_cons_of_mem)) (by (repeat' (first | exact lh_nil | assumption | exact lh_here (by first | omega | (simp only [qOf]; omega)) | exact lh_hd (by assumption) (lh_here (by first | omega | (simp only [qOf]; omega))) | exact lh_hd (by assumption) (lh_low (by assumption) (by omega)) | exact lh_low (by assumption) (by omega) | with_reducible apply lh_app | with_reducible apply lh_two | with_reducible apply lh_there))) (by omega) (by first | omega | (simp only [List.length_append, List.length_cons, List.length_nil]; omega)) (by first | (intro h; cases h; done) | (intro _; assumption) | (intro _; simp; done)) (by omega) (by omega) (by simp only [adv, rank, nl, if_true, Bool.false_eq_true, if_false]; omega))
      | refine wp_bat ?_
      | refine wp_bkind ?_
      | refine wp_bmark ?_
      | refine wp_btest ?_
      | refine wp_bcap (by first | omega | (simp only [List.length_append, List.length_cons, List.length_nil]; omega)) ?_
      | refine wp_t ?_
      | refine wp_f ?_
      | refine wp_tf ?_
      | refine wp_ff ?_
      | refine wp_bnext hC (by assumption) (by first | assumption | omega | exact sa_mark (by assumption) (by decide) | exact ned_p (by assumption) (by decide) | exact ned_or (by assumption) (by decide) (by decide) | exact ned_c (by assumption) (by first | decide | assumption) | exact ned_n (by assumption) (by first | decide | assumption)) (by assumption) ?_
      | refine wp_btake hC (by assumption) (by assumption) (by first | decide | assumption) ?_ ?_
      | refine wp_bwant hC (by assumption) (by assumption) (by first | decide | assumption) ?_
      | refine wp_bname hC (by assumption) (by assumption) ?_
      | refine wp_bnum hC (by assumption) (by assumption) ?_
      | refine wp_bangle hC (by assumption) (by assumption) ?_
      | refine wp_bstr hC (by assumption) (by first | assumption | omega | exact sa_mark (by assumption) (by decide) | exact ned_p (by assumption) (by decide) | exact ned_or (by assumption) (by decide) (by decide) | exact ned_c (by assumption) (by first | decide | assumption) | exact ned_n (by assumption) (by first | decide | assumption)) (by assumption) (by omega) ?_
      | refine wp_balone hC (by assumption) (by first | assumption | omega | exact sa_mark (by assumption) (by decide) | exact ned_p (by assumption) (by decide) | exact ned_or (by assumption) (by decide) (by decide) | exact ned_c (by assumption) (by first | decide | assumption) | exact ned_n (by assumption) (by first | decide | assumption)) (by assumption) (by omega) ?_
      | refine wp_bnone (by assumption) (by assumption) (by omega) ?_
      | refine wp_blist (by assumption) (by assumption) (by omega) (by first | omega | (simp only [List.length_append, List.length_cons, List.length_nil]; omega)) (by (repeat' (first | exact lh_nil | assumption | exact lh_here (by first | omega | (simp only [qOf]; omega)) | exact lh_hd (by assumption) (lh_here (by first | omega | (simp only [qOf]; omega))) | exact lh_hd (by assumption) (lh_low (by assumption) (by omega)) | exact lh_low (by assumption) (by omega) | with_reducible apply lh_app | with_reducible apply lh_two | with_reducible apply lh_there))) ?_
      | refine wp_bput (by assumption) (by assumption) (by omega) (by first | omega | (simp only [List.length_append, List.length_cons, List.length_nil]; omega)) (by omega) (by (repeat' (first | exact lh_nil | assumption | exact lh_here (by first | omega | (simp only [qOf]; omega)) | exact lh_hd (by assumption) (lh_here (by first | omega | (simp only [qOf]; omega))) | exact lh_hd (by assumption) (lh_low (by assumption) (by omega)) | exact lh_low (by assumption) (by omega) | with_reducible apply lh_app | with_reducible apply lh_two | with_reducible apply lh_there))) ?_
      | refine wp_p1 IH (by assumption) (by assumption) (by assumption) (by omega) (by omega) ?_
      | refine wp_pA (p := P) IH (by assumption) (by assumption) (by simp only [Arg]; repeat' (first | exact rfl | exact lh_nil | exact lh_here (by first | omega | (simp only [qOf]; omega)) | exact lh_hd (by assumption) (lh_here (by first | omega | (simp only [qOf]; omega))) | exact lh_hd (by assumption) (lh_low (by assumption) (by omega)) | exact lh_low (by assumption) (by omega) | with_reducible apply lh_app | with_reducible apply lh_two | with_reducible apply lh_there | assumption | refine And.intro ?_ ?_ | omega | decide | exact List.cons_ne_nil _ _ | exact app_ne | exact (by first | assumption | omega | exact sa_mark (by assumption) (by decide) | exact ned_p (by assumption) (by decide) | exact ned_or (by assumption) (by decide) (by decide) | exact ned_c (by assumption) (by first | decide | assumption) | exact ned_n (by assumption) (by first | decide | assumption)) | (simp only [List.length_append, List.length_cons, List.length_nil]; omega))) (by simp only [rank]; omega) (by simp only [rank]; omega) rfl rfl ?_
      | refine wp_pN (p := P) IH (by assumption) (by assumption) (by simp only [Arg]; repeat' (first | exact rfl | exact lh_nil | exact lh_here (by first | omega | (simp only [qOf]; omega)) | exact lh_hd (by assumption) (lh_here (by first | omega | (simp only [qOf]; omega))) | exact lh_hd (by assumption) (lh_low (by assumption) (by omega)) | exact lh_low (by assumption) (by omega) | with_reducible apply lh_app | with_reducible apply lh_two | with_reducible apply lh_there | assumption | refine And.intro ?_ ?_ | omega | decide | exact List.cons_ne_nil _ _ | exact app_ne | exact (by first | assumption | omega | exact sa_mark (by assumption) (by decide) | exact ned_p (by assumption) (by decide) | exact ned_or (by assumption) (by decide) (by decide) | exact ned_c (by assumption) (by first | decide | assumption) | exact ned_n (by assumption) (by first | decide | assumption)) | (simp only [List.length_append, List.length_cons, List.length_nil]; omega))) (by simp only [rank]; omega) (by simp only [rank]; omega) rfl rfl ?_
      | refine wp_pR (p := P) IH (by assumption) (by assumption) (by simp only [Arg]; repeat' (first | exact rfl | exact lh_nil | exact lh_here (by first | omega | (simp only [qOf]; omega)) | exact lh_hd (by assumption) (lh_here (by first | omega | (simp only [qOf]; omega))) | exact lh_hd (by assumption) (lh_low (by assumption) (by omega)) | exact lh_low (by assumption) (by omega) | with_reducible apply lh_app | with_reducible apply lh_two | with_reducible apply lh_there | assumption | refine And.intro ?_ ?_ | omega | decide | exact List.cons_ne_nil _ _ | exact app_ne | exact (by first | assumption | omega | exact sa_mark (by assumption) (by decide) | exact ned_p (by assumption) (by decide) | exact ned_or (by assumption) (by decide) (by decide) | exact ned_c (by assumption) (by first | decide | assumption) | exact ned_n (by assumption) (by first | decide | assumption)) | (simp only [List.length_append, List.length_cons, List.length_nil]; omega))) (by simp only [rank]; omega) (by simp only [rank]; omega) rfl ?_
      | refine wp_pS (p := P) IH (by assumption) (by assumption) (by simp only [Arg]; repeat' (first | exact rfl | exact lh_nil | exact lh_here (by first | omega | (simp only [qOf]; omega)) | exact lh_hd (by assumption) (lh_here (by first | omega | (simp only [qOf]; omega))) | exact lh_hd (by assumption) (lh_low (by assumption) (by omega)) | exact lh_low (by assumption) (by omega) | with_reducible apply lh_app | with_reducible apply lh_two | with_reducible apply lh_there | assumption | refine And.intro ?_ ?_ | omega | decide | exact List.cons_ne_nil _ _ | exact app_ne | exact (by first | assumption | omega | exact sa_mark (by assumption) (by decide) | exact ned_p (by assumption) (by decide) | exact ned_or (by assumption) (by decide) (by decide) | exact ned_c (by assumption) (by first | decide | assumption) | exact ned_n (by assumption) (by first | decide | assumption)) | (simp only [List.length_append, List.length_cons, List.length_nil]; omega))) (by simp only [rank]; omega) (by simp only [rank]; omega) rfl ?_
      | refine wp_last ?_
      | refine wp_ite (fun hd => ?_) (fun hd => ?_)
      | refine wp_look (by assumption) (by (repeat' (first | exact lh_nil | assumption | exact lh_here (by first | omega | (simp only [qOf]; omega)) | exact lh_hd (by assumption) (lh_here (by first | omega | (simp only [qOf]; omega))) | exact lh_hd (by assumption) (lh_low (by assumption) (by omega)) | exact lh_low (by assumption) (by omega) | with_reducible apply lh_app | with_reducible apply lh_two | with_reducible apply lh_there))) ?_
      | refine wp_all (by assumption) (by (repeat' (first | exact lh_nil | assumption | exact lh_here (by first | omega | (simp only [qOf]; omega)) | exact lh_hd (by assumption) (lh_here (by first | omega | (simp only [qOf]; omega))) | exact lh_hd (by assumption) (lh_low (by assumption) (by omega)) | exact lh_low (by assumption) (by omega) | with_reducible apply lh_app | with_reducible apply lh_two | with_reducible apply lh_there))) ?_))
end
end Go.Proofs.YtdliannkiijeiaaGreatDoor
