/- At of a type that is kept; relate's at, isValueOf. -/
import Derived.Test.YticdaphajanbbaaGreatDoorKW
namespace Go.Proofs.YticdaphajanbbaaGreatDoor
set_option linter.unusedSimpArgs false
set_option linter.unusedVariables false
set_option maxRecDepth 100000
set_option maxHeartbeats 4000000
open Go.RowKit Go.Shelf

variable {P : Program} {lo M : Nat} {mo : Option Nat} {dv : Value} {L : List Kt} {W : World}
/-- A type that is handed out: its kind, its parts. -/
def AtQ (k : Kt) (W : World) (e : Ending) (w' : World) : Prop := ∃ pv nv mv, e = .returned (.tuple #[.agg (tyV k.kind k.num k.text pv nv mv), .int .i64 0]) ∧ RowR 3 w' pv (iv k.parts) ∧ RowR 9 w' nv (sv k.names) ∧ RowR 4 w' mv (bv k.marks) ∧ Below W.heap.size W w'
theorem at_any (h : AAt Tryz.prog lo M mo dv L W) (i : Nat) (k : Kt) (hk : L[i]? = some k) (hs : k.text.size ≤ 281474976710656) (hns : ∀ x ∈ k.names, x.size ≤ 281474976710656) (l1 : k.parts.length ≤ 1000000000) (l2 : k.names.length ≤ 1000000000) (l3 : k.marks.length ≤ 1000000000) : Calls Tryz.prog 37 #[.pointer (some ⟨M, 0, none⟩), .int .i64 (i : Int)] W (AtQ k W) := by
  have hb1 := (Below.refl _ W).alloc (Nat.le_refl _) (.cells tyZ 36)
  obtain ⟨W1, hW1⟩ : ∃ W1, W.alloc (.cells tyZ 36) = W1 := ⟨_, rfl⟩
  have hx1 : Bx W1 W.heap.size tyZ 36 := by rw [← hW1]; exact al_at W _
  rw [hW1] at hb1
  have h1 := h.below hb1
  obtain ⟨g, cap, v, c0, i1, i2, i3, h4, h5⟩ := h1.one hk
  have hM := h1.lt
  have HCO := hide (copied_any k.kind k.num k.text v.1 v.2.1 v.2.2 k.parts k.names k.marks W1 h4.p h4.n h4.m hs hns l1 l2 l3)
  obtain ⟨va, vb, vc, vd, ve, vf, rfl⟩ := ktC_slices h4
  unfold ktC at h5
  have HI : Hid (0 ≤ (i : Int) ∧ (i : Int) < (L.length : Int)) := ⟨by omega, by omega⟩
  have HC0 := hide c0
  have HR : Hid (∀ (j : Nat) (u : Value), [.int .i64 k.kind, .int .i64 k.num, .string k.text, .slice va k.parts.length vb, .slice vc k.names.length vd, .slice ve k.marks.length vf][j]? = some u → W1.cell? ⟨g, i * 8 + j, none⟩ = some u) := fun j u hj => h5 j u (by
    match j, hj with
    | 0, hj => simpa using hj
    | 1, hj => simpa using hj
    | 2, hj => simpa using hj
    | 3, hj => simpa using hj
    | 4, hj => simpa using hj
    | 5, hj => simpa using hj
    | j + 6, hj => simp at hj)
  have HX1 := hide hx1
  have HB1 := hide hb1
  clear h h1 h4 h5 hb1 hx1 hs hns hk l1 l2 l3
  unfold tyV at HCO
  unfold tyZ at hW1 HX1
  go_enter Tryz.func37, Tryz.ntmps37
  go_wp2_with (first
    | (go_at_call 44
       refine (has_yes W1 M _ L.length cap (unhide HC0) _ (unhide HI)).mono ?_
       rintro e w2 ⟨rfl, rfl⟩)
    | (refine wpList_load_mid rfl 36 _ rfl g (i * 8) rfl _ _ (unhide HR) Tryz.underlying36 rfl info26 ?_)
    | (go_at_call 36
       refine (unhide HCO).mono ?_
       rintro e w2 ⟨pv, nv, mv, rfl, hp, hn, hm, hb⟩
       have HX2 := hide ((unhide HX1).below hb (unhide HX1).lt)
       have HB2 := hide ((unhide HB1).trans (hb.mono (unhide HB1).size))
       have HP := hide hp
       have HN := hide hn
       have HM := hide hm
       obtain ⟨pa, pc, rfl, -⟩ := hp
       obtain ⟨na, nc, rfl, -⟩ := hn
       obtain ⟨ma, mc, rfl, -⟩ := hm
       clear hb)
    | (refine wpList_store_row rfl 36 _ _ rfl W.heap.size _ rfl rfl 36 _ (unhide HX2) info26 rfl (one6 _ _ _ _ _ _ _ _ _ _ _ _) ?_))
  refine bodyPost_ret (results_cell2 rfl _ _ W.heap.size 36 _ (0, 0) _ rfl (setRow_heap _ _ _ _ _ _ (unhide HX2)) Tryz.underlying36 rfl rfl) rfl ?_
  refine ⟨_, _, _, rfl, (unhide HP).row (unhide HX2) (by omega) _, (unhide HN).row (unhide HX2) (by omega) _, (unhide HM).row (unhide HX2) (by omega) _, below_row (unhide HB2) (Nat.le_refl _) _⟩
end Go.Proofs.YticdaphajanbbaaGreatDoor
