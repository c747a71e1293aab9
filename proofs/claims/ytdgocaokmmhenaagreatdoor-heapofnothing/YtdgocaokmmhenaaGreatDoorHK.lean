/- Show of an object with the one member a: 3; known answers true. -/
import Derived.Test.YtdgocaokmmhenaaGreatDoorHJ
namespace Go.Proofs.YtdgocaokmmhenaaGreatDoor
set_option linter.unusedSimpArgs false
set_option linter.unusedVariables false
set_option maxRecDepth 100000
set_option maxHeartbeats 2000000
open Go.RowKit Go.Shelf

theorem look_map {A : World} {m : Nat} {s : List (ByteArray × PV)} (h : MapAt A m s) (key : ByteArray) (hs : key.size ≤ maxLen) : (Instr.lookup 119 (.map (some m)) (.string key) false).run Tryz.prog A = .ok ((look s key).getD PV.und).agg A := by
  obtain ⟨D, ho, hD⟩ := h
  obtain ⟨v, ps, hrun, hv⟩ := ho.lookup law9 Tryz.underlying119 (zero32 A) vElem_zero (key9 hs)
  rw [hrun]
  congr 1
  cases hl : look s key with
  | none =>
    have : Maps.has D (keyL key) = false := by rw [hD.has, hl]; rfl
    rw [Maps.atKey_of_not_has this] at hv
    rw [vElem_inv hv]; rfl
  | some x =>
    rw [hD.at' key x hl] at hv
    rw [vElem_inv hv]; rfl
/-- The heap that known builds. -/
def H1 : PH := ⟨9, 2, [⟨1, none, [(⟨#[97]⟩, ⟨3, 3, ByteArray.empty⟩)], []⟩]⟩
theorem show_83 (W : World) (M : Nat → Nat) (sb hb : Nat) (hs : ShAt W M sb hb (.pointer none) (.slice none 0 0) [] false) (b g cap m : Nat)
    (hob : b < W.heap.size ∧ M b = 0 ∧ W.cell? ⟨b, 2, none⟩ = some (.slice (some ⟨g, 0, none⟩) 1 cap) ∧ W.cell? ⟨b, 1, none⟩ = some (.map (some m))) (hg : g < W.heap.size ∧ M g = 0 ∧ W.cell? ⟨g, 0, none⟩ = some (.string ⟨#[97]⟩)) (hm : m < W.heap.size ∧ M m = 0)
    (hmap : MapAt W m [(⟨#[97]⟩, ⟨3, 3, ByteArray.empty⟩)]) :
    Calls Tryz.prog 117 #[ptr b, ptr sb, .int .i64 0] W fun e W' => e = .returned (.tuple #[]) ∧ ∃ M' p' bv', ShAt W' M' sb hb p' bv' (Lib.strCells ⟨#[123, 97, 58, 32, 51, 125]⟩) false ∧ St M M' W W' := by
  have HE := hide (each_any b W)
  have HW : Hid (∀ w1, Bx w1 W.heap.size #[ptr b] 70 → Below W.heap.size W w1 → Calls Tryz.prog 119 #[.pointer (some ⟨sb, 0, none⟩), .string ⟨#[123]⟩, .func (.func 123) #[] #[.pointer (some ⟨W.heap.size, 0, none⟩)], .string ⟨#[125]⟩, .int .i64 0] w1 fun e W' => e = .returned (.tuple #[]) ∧ ∃ M' p' bv', ShAt W' M' sb hb p' bv' (Lib.strCells ⟨#[123, 97, 58, 32, 51, 125]⟩) false ∧ St M M' W W') := fun w1 hx hb1 => by
    obtain ⟨b1, b2, b3, b4⟩ := hob
    obtain ⟨g1, g2, g3⟩ := hg
    have := whole_one w1 M sb hb (hs.below hb1) W.heap.size b g cap m ⟨hx.lt, hs.fr _ (Nat.le_refl _), hx.cell 0 rfl⟩ ⟨Nat.lt_of_lt_of_le b1 hb1.size, b2, (hb1.cell (p := ⟨b, 2, none⟩) b1).trans b3, (hb1.cell (p := ⟨b, 1, none⟩) b1).trans b4⟩ ⟨Nat.lt_of_lt_of_le g1 hb1.size, g2, (hb1.cell (p := ⟨g, 0, none⟩) g1).trans g3⟩ ⟨Nat.lt_of_lt_of_le hm.1 hb1.size, hm.2⟩ (fun A hA => look_map (map_keep hmap (hA.trans (hb1.block m hm.1))) ⟨#[97]⟩ (by decide))
    refine (callsIn_wide.1 this).mono ?_
    rintro e W' ⟨rfl, M', p', bv', h1, h2⟩
    exact ⟨rfl, M', p', bv', h1, (St.of_below hb1).trans h2⟩
  unfold ptr at HE ⊢
  clear hs hob hg hm hmap
  go_enter Tryz.func117, Tryz.ntmps117
  go_wp2_with (first
    | (go_at_call 120; refine (unhide HE).mono ?_; rintro e w1 ⟨rfl, hx1, hb1⟩; have HX1 := hide hx1; have HB1 := hide hb1; clear hx1 hb1)
    | (go_at_call 119; refine (unhide HW w1 (unhide HX1) (unhide HB1)).mono ?_; rintro e w2 ⟨rfl, M', p', bv', h2, s2⟩; have H2 := hide h2; have S2 := hide s2; clear h2 s2))
  exact bodyPost_end (by simp [results, Tryz.results117, go_sem]) rfl ⟨rfl, M', p', bv', unhide H2, unhide S2⟩
theorem Show_1 (W : World) (l : Ly) (hb : Nat) (h : HAt W l hb H1) : Calls Tryz.prog 12 #[ptr hb, .agg (Vc 5 0 ⟨#[]⟩)] W fun e w' => e = .returned (.string ⟨#[123, 97, 58, 32, 51, 125]⟩) ∧ Below W.heap.size W w' := by
  have hth := h.th 0 _ rfl
  obtain ⟨_, mv, kv, ob⟩ := hth.obj (by decide)
  obtain ⟨m, rfl⟩ : ∃ m, mv = some m := by
    cases mv with
    | none => have := ob.nomap rfl; cases this
    | some m => exact ⟨m, rfl⟩
  obtain ⟨g, cap, rfl, hgc⟩ : ∃ g cap, kv = .slice (some ⟨g, 0, none⟩) 1 cap ∧ W.cell? ⟨g, 0, none⟩ = some (.string ⟨#[97]⟩) := by
    rcases ob.row.2 with ⟨_, h2⟩ | ⟨g, cap, cur, h1, _, h3, h4, _, h6, h7⟩
    · cases h2
    · refine ⟨g, cap, h1, ?_⟩
      rw [cell_of_row W g 0 cur 9 (0, 0) h3]
      have := congrArg (fun x => x[0]?) h7
      simp [List.getElem?_take] at this
      simpa using this
  obtain ⟨b, hbb⟩ : ∃ b, l.bx 0 = b := ⟨_, rfl⟩
  have hbx := ob.box
  rw [hbb] at hbx
  have HT : Hid (∀ w1, Below W.heap.size W w1 → Calls Tryz.prog 42 #[ptr hb, .agg (Vc 5 0 ⟨#[]⟩)] w1 fun e w' => e = .returned (.tuple #[.iface 70 (.pointer (some ⟨b, 0, none⟩)), .bool true]) ∧ Below w1.heap.size w1 w') := fun w1 hb1 => by
    have := thingOf_ref (h.below hb1) 0 ⟨#[]⟩
    rw [show thR l H1 0 = .tuple #[.iface 70 (.pointer (some ⟨b, 0, none⟩)), .bool true] from by rw [← hbb]; rfl] at this
    exact this
  have m1 : ∀ w, (method 290 70 (.pointer (some ⟨b, 0, none⟩)) "shuck/heap.show").run Tryz.prog w = .ok (117, .pointer (some ⟨b, 0, none⟩)) w := fun _ => by kernel_rfl
  have HS : Hid (∀ (w1 : World) (sb : Nat), Below W.heap.size W w1 → W.heap.size ≤ sb → Bx w1 sb #[ptr hb, .pointer none, .slice none 0 0, .bool false] 86 → Calls Tryz.prog 117 #[ptr b, ptr sb, .int .i64 0] w1 fun e w' => e = .returned (.tuple #[]) ∧ Below W.heap.size W w' ∧ ∃ M' p' bv', (∀ k, k < W.heap.size → M' k = 0) ∧ ShAt w' M' sb hb p' bv' (Lib.strCells ⟨#[123, 97, 58, 32, 51, 125]⟩) false) := fun w1 sb hb1 hsb hx => by
    have ob1 := ob.below hth.lb hb1
    have hbl := hbx.lt
    have hgl : g < W.heap.size := row_lt ob.row rfl
    have hml := (ob.map m rfl).1.lt
    have hsl := hx.lt
    have hM : ∀ k, k < W.heap.size → (if k = sb then 1 else 0) = 0 := fun k hk => if_neg (by omega)
    have hbx1 : Bx w1 b _ _ := (hb1.block b hbl).trans hbx
    have := show_83 w1 (fun k => if k = sb then 1 else 0) sb hb ⟨hx, World.ownsRow_nil _ _ _ _, if_pos rfl, fun g hg => by simp [Value.ownBlock] at hg, fun k hk => if_neg (by omega), .inl rfl⟩ b g cap m ⟨hbx1.lt, hM b hbl, hbx1.cell 2 rfl, hbx1.cell 1 rfl⟩ ⟨Nat.lt_of_lt_of_le hgl hb1.size, hM g hgl, (hb1.cell (p := ⟨g, 0, none⟩) hgl).trans hgc⟩ ⟨Nat.lt_of_lt_of_le hml hb1.size, hM m hml⟩ (map_keep (ob.map m rfl).1 (hb1.block m hml))
    refine this.mono ?_
    rintro e w' ⟨rfl, M', p', bv', h1, s1⟩
    exact ⟨rfl, hb1.trans (s1.below hb1.size hM), M', p', bv', fun k hk => (s1.ext k (Nat.lt_of_lt_of_le hk hb1.size)).trans (hM k hk), h1⟩
  have HB0 := hide (below_one W (.cells #[.int .i64 5, .int .i64 0, .string ⟨#[]⟩] 23))
  clear h hth ob hgc hbb hbx
  unfold Vc at HT ⊢
  unfold ptr at HT HS ⊢
  go_enter Tryz.func12, Tryz.ntmps12
  go_wp2_with (first
    | (go_at_call 42
       refine (unhide HT _ (unhide HB0)).mono ?_
       rintro e w1 ⟨rfl, hb1⟩
       have HB1 := hide (Below.up (unhide HB0) hb1)
       obtain ⟨w2, hw2, hx2, hb2⟩ : ∃ w2, w1.alloc (.cells #[.pointer (some ⟨hb, 0, none⟩), .pointer none, .slice none 0 0, .bool false] 86) = w2 ∧ Bx w2 w1.heap.size #[.pointer (some ⟨hb, 0, none⟩), .pointer none, .slice none 0 0, .bool false] 86 ∧ Below W.heap.size W w2 := ⟨_, rfl, Bx.new _ _ _, Below.up (unhide HB1) (below_one _ _)⟩
       have HX2 := hide hx2
       have HB2 := hide hb2
       clear hb1 hx2 hb2)
    | (go_at_call 117; refine (unhide HS w2 w1.heap.size (unhide HB2) (unhide HB1).size (unhide HX2)).mono ?_; rintro e w3 ⟨rfl, hb3, M', p', bv', hM', h3⟩; have HB3 := hide hb3; have HM3 := hide hM'; have H3 := hide h3; have c3 := h3.box.cell 3 rfl; have HST := hide (string_any (l := [123, 97, 58, 32, 51, 125]) h3 (by decide)); clear hb3 hM' h3)
    | (go_at_call 44; refine (unhide HST).mono ?_; rintro e w4 ⟨rfl, g4, hg4, rfl⟩; have HG4 := hide hg4; clear hg4))
  go_ret
  exact ⟨rfl, Lib.below_freeze (Below.drew (unhide HB3)) (p := ⟨g4, 0, none⟩) (by
    rcases Nat.lt_or_ge g4 W.heap.size with h | h
    · have h1 := unhide HM3 g4 h
      have h2 := unhide HG4
      omega
    · exact h) _⟩
def H00 : PH := ⟨9, 0, []⟩
def H01 : PH := ⟨9, 1, [⟨1, none, [], []⟩]⟩
theorem make_eq : H00.make 1 (-1) = H01 := rfl
theorem set_eq : H01.used1.setTh 0 ⟨1, none, [], []⟩ ⟨#[97]⟩ (stl H01 ⟨3, 3, ByteArray.empty⟩) = H1 := rfl
theorem known_any : Ret 5 #[] (.bool true) := by
  intro W
  have HN := hide (New_ok 9 (by decide) W)
  obtain ⟨w1, hw1, h1, hB1⟩ : ∃ w1, W.alloc (.cells #[.int .i64 (9 : Nat), .int .i64 0, .slice none 0 0] 36) = w1 ∧ HAt w1 (newLy W.heap.size) W.heap.size H00 ∧ Below W.heap.size W w1 := ⟨_, rfl, new_at W 9 (by decide), below_one _ _⟩
  rw [hw1] at HN
  have HM := hide (Make_ok h1 (Nat.le_refl _) (by decide) 1 (-1))
  rw [make_eq] at HM
  have HS : Hid (∀ w2 l2, HAt w2 l2 W.heap.size H01 → Calls Tryz.prog 11 #[ptr W.heap.size, .agg (Vc 5 0 ⟨#[]⟩), .string ⟨#[97]⟩, .agg (Vc 3 3 ⟨#[]⟩)] w2 fun e w' => e = .returned (.tuple #[.string ⟨#[]⟩, .int .i64 0]) ∧ ∃ l', HAt w' l' W.heap.size H1 ∧ St l2.L l'.L w2 w' ∧ l'.bx = l2.bx) := fun w2 l2 h2 => by
    have := Set_new h2 0 ⟨1, none, [], []⟩ rfl (by decide) ⟨#[97]⟩ (by decide) ⟨#[]⟩ ⟨3, 3, ByteArray.empty⟩ (by decide) rfl (by decide) (by decide)
    rw [set_eq] at this
    exact this
  have HH : Hid (∀ w3 l3, HAt w3 l3 W.heap.size H1 → Calls Tryz.prog 12 #[ptr W.heap.size, .agg (Vc 5 0 ⟨#[]⟩)] w3 fun e w' => e = .returned (.string ⟨#[123, 97, 58, 32, 51, 125]⟩) ∧ Below w3.heap.size w3 w') := fun w3 l3 h3 => Show_1 w3 l3 _ h3
  have HU : Hid (∀ w3 l3, HAt w3 l3 W.heap.size H1 → Calls Tryz.prog 8 #[ptr W.heap.size] w3 fun e w' => e = .returned (.int .i64 2) ∧ w' = w3) := fun w3 l3 h3 => Used_any h3
  have HL : Hid (∀ k, k < W.heap.size → (newLy W.heap.size).L k = 0) := fun k hk => by simp [newLy]; omega
  have HB1 := hide hB1
  unfold Vc at HS HH
  unfold ptr at HN HM HS HH HU
  clear h1 hB1 hw1
  go_enter Tryz.func5, Tryz.ntmps5
  go_wp2_with (first
    | (go_at_call 9
       refine (unhide HN).mono ?_
       rintro e w1' ⟨rfl, hw⟩
       have hw' := hw.symm
       subst hw'
       clear hw)
    | (go_at_call 10
       refine (unhide HM).mono ?_
       rintro e w2 ⟨rfl, l2, h2, s2⟩
       have H2 := hide h2
       have S2 := hide s2
       clear h2 s2)
    | (go_at_call 11
       refine (unhide HS w2 l2 (unhide H2)).mono ?_
       rintro e w3 ⟨rfl, l3, h3, s3, x3⟩
       have H3 := hide h3
       have S3 := hide ((unhide S2).trans s3)
       clear h3 s3 x3)
    | (go_at_call 12
       refine (unhide HH w3 l3 (unhide H3)).mono ?_
       rintro e w4 ⟨rfl, hb4⟩
       have H4 := hide ((unhide H3).below hb4)
       have S4 := hide ((unhide S3).trans (St.of_below hb4))
       clear hb4)
    | (go_at_call 8
       refine (unhide HU w4 l3 (unhide H4)).mono ?_
       rintro e w5 ⟨rfl, rfl⟩))
  go_ret
  exact ⟨rfl, (unhide HB1).trans ((unhide S4).below (unhide HB1).size (unhide HL))⟩
end Go.Proofs.YtdgocaokmmhenaaGreatDoor
