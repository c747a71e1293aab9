/- Get of a thing of kind 1. -/
import Derived.Test.YtojbkohgngnlaaaDoorHC0
namespace Go.Proofs.YtojbkohgngnlaaaDoor
set_option linter.unusedSimpArgs false
set_option linter.unusedVariables false
set_option maxRecDepth 100000
set_option maxHeartbeats 2000000
open Go.RowKit Go.Shelf

variable {w W : World} {l : Ly} {hb : Nat} {H : PH}
theorem Get_1 (h : HAt W l hb H) (i : Nat) (t : Th) (hi : H.ths[i]? = some t) (hk : t.kind = 1) (key : ByteArray) (hs : key.size ≤ maxLen) (k1 n1 : Int) (t1 : ByteArray) (bo : Bool) (hr : (fndP H i key).getD PV.und = ⟨k1, n1, t1⟩) (hbo : (fndP H i key).isSome = bo) (ht : t1.size ≤ 281474976710656) (s : ByteArray) :
    Calls Tryd.prog 10 #[ptr hb, .agg (Vc 5 i s), .string key] W fun e w' => e = .returned (Tr k1 n1 t1 ⟨#[]⟩ 0) ∧ Below W.heap.size W w' := by
  obtain ⟨W2, hW2, b1, b2, hb', hz⟩ := two_boxes W 5 i s
  obtain ⟨c0, c1, c2, f0, f1, f2, lt⟩ := b1.all
  have B1 := hide b1
  have B2 := hide b2
  have HB := hide hb'
  have HZ := hide hz
  have HS1 : Hid (∀ w1, Below W.heap.size W w1 → Calls Tryd.prog 25 #[ptr hb, .agg (Vc 5 i s)] w1 fun e w' => e = .returned (.agg (Vc 5 i ByteArray.empty)) ∧ Below w1.heap.size w1 w') := fun w1 hb1 => by
    have := settled_any (h.below hb1) ⟨5, i, s⟩
    rw [stl_ref H i t hi] at this
    exact this
  obtain ⟨b, hbb⟩ : ∃ b, l.bx i = b := ⟨_, rfl⟩
  have HF : Hid (∀ w1, Below W.heap.size W w1 → Calls Tryd.prog 80 #[ptr b, .string key] w1 fun e w' => e = .returned (.tuple #[.agg (Vc k1 n1 t1), .bool bo]) ∧ Below w1.heap.size w1 w') := fun w1 hb1 => by
    have := find_one (h.below hb1) i t hi key hs
    rw [hk, hr, hbo, hbb] at this
    exact this
  have HC : Hid (∀ w1, Below W.heap.size W w1 → ∃ g c, w1.cell? ⟨hb, 2, none⟩ = some (.slice (some ⟨g, 0, none⟩) H.ths.length c) ∧ w1.cell? ⟨g, i, none⟩ = some (.iface 53 (.pointer (some ⟨b, 0, none⟩)))) := fun w1 hb1 => by
    obtain ⟨a, c, _, _, c2, _, hc⟩ := (h.below hb1).cells
    obtain ⟨g, rfl, cg⟩ := hc i t hi
    exact ⟨g, c, c2, by rw [cg]; simp [ifv, ptr, hbb, hk, tyP]⟩
  have m1 : ∀ w, (method 257 53 (.pointer (some ⟨b, 0, none⟩)) "shuck/heap.find").run Tryd.prog w = .ok (80, .pointer (some ⟨b, 0, none⟩)) w := fun _ => by kernel_rfl
  have HT := hide (told_any k1 n1 t1 ht)
  have hl := (List.getElem?_eq_some_iff.1 hi).1
  have hm := h.len
  unfold Tr at HT ⊢
  unfold Vc at HT HF HS1 ⊢
  unfold ptr at HF HS1 ⊢
  clear h hi hk hr hs b1 b2 hb' hz hbb hbo ht
  go_enter Tryd.func10, Tryd.ntmps10
  go_wp2_with (first | (go_at_call 25; refine (unhide HS1 W2 (unhide HB)).mono ?_; rintro e w3 ⟨rfl, hb3⟩; have hz := unhide HZ; have E1 := hide ((unhide B1).below hb3 (by omega)); have E2 := hide ((unhide B2).below hb3 (by omega)); have HB3 := hide ((unhide HB).trans (hb3.mono (by omega))); have hz3 := hb3.size; obtain ⟨c0, c1, c2, f0, f1, f2, lt⟩ := (unhide E1).all; clear hb3; obtain ⟨W5, hW5, e1, e2, e3, e4⟩ := over w3 W.heap.size 5 i 5 i s ByteArray.empty (unhide E1); have F2 := hide (e3 _ _ _ _ (unhide E2) (by omega)); have FB := hide (e2 _ _ (unhide HB3) (Nat.le_refl _)); have F1 := hide e1; have E4 := hide e4; clear e1 e2 e3 e4; obtain ⟨c0, c1, c2, f0, f1, f2, lt⟩ := (unhide F1).all; obtain ⟨g, c, d2, dg⟩ := unhide HC W5 (unhide FB)))
  have FBd : Below W.heap.size W W5.drew := (unhide FB).drew
  obtain ⟨W6, hW6, ⟨na, nb, nc, o0, o1, o2⟩, hx6, hb6, hz6⟩ := new3 W5.drew (.int .i64 0) (.int .i64 0) (.string ⟨#[]⟩) 32
  have HB6 := hide (FBd.trans (hb6.mono FBd.size))
  have HBD := hide FBd
  have HX6 := hide (show Bv W6 W5.heap.size 0 0 ⟨#[]⟩ from hx6)
  have F26 := hide ((unhide F2).below (B := W5.heap.size) ⟨hb6.os, hb6.tape, hb6.output, hb6.size, hb6.block⟩ (unhide F2).lt)
  have HZ6 := hide (show W6.heap.size = W5.heap.size + 1 from hz6)
  have hq6 : Below W5.heap.size W5 W6 := ⟨hb6.os, hb6.tape, hb6.output, hb6.size, hb6.block⟩
  have d26 := (hq6.cell (p := ⟨hb, 2, none⟩) (World.block_lt_of_cell? W5 _ d2)).trans d2
  have dg6 := (hq6.cell (p := ⟨g, i, none⟩) (World.block_lt_of_cell? W5 _ dg)).trans dg
  have c16 := (hq6.cell (p := ⟨W.heap.size, 1, none⟩) (World.block_lt_of_cell? W5 _ c1)).trans c1
  clear FBd hx6 hb6 hz6 hq6
  go_region_law (first
    | (go_simp; go_at_call 80; refine (unhide HF W6 (unhide HB6)).mono ?_; rintro e w7 ⟨rfl, hb7⟩; have hz6 := unhide HZ6; have HZ7 : Hid (W5.heap.size ≤ w7.heap.size) := Nat.le_trans (show W5.heap.size ≤ W6.heap.size by omega) hb7.size; have X7 := hide ((unhide HX6).below hb7 (by omega)); have F7 := hide ((unhide F26).below hb7 (by have := (unhide F26).lt; omega)); have HB7 := hide ((unhide HB6).trans (hb7.mono (unhide HB6).size)); obtain ⟨x0, x1, x2, y0, y1, y2, ly⟩ := (unhide X7).all; clear hb7)
    | (go_simp; go_at_call 80; refine (unhide HF W5.drew (unhide HBD)).mono ?_; rintro e w7 ⟨rfl, hb7⟩; have hb7' : Below W5.heap.size W5 w7 := (Below.refl _ W5).drew.trans hb7; have HZ7 := hide hb7'.size; have F7 := hide ((unhide F2).below hb7' (unhide F2).lt); have HB7 := hide ((unhide HBD).trans (hb7.mono (unhide HBD).size)); clear hb7'; obtain ⟨W8, hW8, ⟨p0, p1, p2, q0, q1, q2⟩, hx8, hb8, hz8⟩ := new3 w7 (.int .i64 0) (.int .i64 0) (.string ⟨#[]⟩) 32; have X8 := hide (show Bv W8 w7.heap.size 0 0 ⟨#[]⟩ from hx8); have F8 := hide ((unhide F7).below hb8 (unhide F7).lt); have HB8 := hide ((unhide HB7).trans (hb8.mono (unhide HB7).size)); clear hb7 hx8 hb8 hz8))
  all_goals (
    have HSZ : Hid (W.heap.size + 1 < W5.heap.size ∧ W5.heap.size ≤ w7.heap.size) := ⟨(unhide F2).lt, unhide HZ7⟩
    first
    | (obtain ⟨W9, hW9, u1, u2, u3, u4⟩ := over W8 w7.heap.size 0 0 k1 n1 ⟨#[]⟩ t1 (unhide X8)
       have hl9 := (unhide F2).lt
       have hs9 := (unhide HB7).size
       have hsx := hide u4
       have G9 := hide (u3 _ _ _ _ (unhide F8) (by have := unhide HSZ; omega))
       have GB9 := hide (u2 _ _ (unhide HB8) (by have := unhide HSZ; omega))
       have U1 := hide u1
       clear u1 u2 u3 u4 hl9 hs9
       obtain ⟨z0, z1, z2, s0, s1, s2, lz⟩ := (unhide U1).all
       clear lz
       go_wp2_with (go_at_call 27; refine (unhide HT _).mono ?_; rintro e wz ⟨rfl, hbz⟩; have Gz := hide ((unhide G9).below hbz (unhide G9).lt); have GBz := hide ((unhide GB9).trans (hbz.mono (unhide GB9).size)); obtain ⟨z0, z1, z2, s0, s1, s2, lz⟩ := (unhide Gz).all; clear hbz lz)
       exact ret_vsf Tryd.results10 rfl rfl rfl (unhide Gz) rfl (unhide GBz) (Nat.le_succ _) rfl)
    | (obtain ⟨W9, hW9, u1, u2, u3, u4⟩ := over w7 W5.heap.size 0 0 k1 n1 ⟨#[]⟩ t1 (unhide X7)
       have hl9 := (unhide F2).lt
       have hs9 := (unhide HB7).size
       have hsx := hide u4
       have G9 := hide (u3 _ _ _ _ (unhide F7) (by have := unhide HSZ; omega))
       have GB9 := hide (u2 _ _ (unhide HB7) (by have := unhide HSZ; omega))
       have U1 := hide u1
       clear u1 u2 u3 u4 hl9 hs9
       obtain ⟨z0, z1, z2, s0, s1, s2, lz⟩ := (unhide U1).all
       clear lz
       go_wp2_with (go_at_call 27; refine (unhide HT _).mono ?_; rintro e wz ⟨rfl, hbz⟩; have Gz := hide ((unhide G9).below hbz (unhide G9).lt); have GBz := hide ((unhide GB9).trans (hbz.mono (unhide GB9).size)); obtain ⟨z0, z1, z2, s0, s1, s2, lz⟩ := (unhide Gz).all; clear hbz lz)
       exact ret_vsf Tryd.results10 rfl rfl rfl (unhide Gz) rfl (unhide GBz) (Nat.le_succ _) rfl))
end Go.Proofs.YtojbkohgngnlaaaDoor
