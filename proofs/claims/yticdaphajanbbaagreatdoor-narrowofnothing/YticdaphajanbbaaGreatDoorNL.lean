/- Keep and Assigned, as the statement asks them; known. -/
import Derived.Test.YticdaphajanbbaaGreatDoorNJ19
import Derived.Test.YticdaphajanbbaaGreatDoorNJ21
import Derived.Test.YticdaphajanbbaaGreatDoorNK
import Derived.Test.YticdaphajanbbaaGreatDoorND
namespace Go.Proofs.YticdaphajanbbaaGreatDoor
set_option linter.unusedSimpArgs false
set_option linter.unusedVariables false
set_option maxRecDepth 100000
set_option maxHeartbeats 4000000
open Go.RowKit Go.Shelf

variable {P : Program} {lo M : Nat} {mo : Option Nat} {dv : Value} {L : List Kt} {W : World}
theorem keep_of_nil (id tk ty : Int) (tt : ByteArray) (yes : Bool) (W : World) : Calls Tryz.prog 4 #[.pointer none, .int .i64 id, .agg #[.int .i64 tk, .string tt, .int .i64 ty], .bool yes] W fun e w' => e = .returned (.tuple #[.int .i64 0, .int .i64 1]) ∧ Below W.heap.size W w' := by
  have hA : ∀ w, Below W.heap.size W w → Calls Tryz.prog 8 #[.pointer none, .agg #[.int .i64 tk, .string tt, .int .i64 ty]] w (AskQ tk tt ty none k0 w) := fun w _ => ask_of none tk ty tt k0 fun w' _ => partAt_of none k0 ty fun w'' _ => ty_nil ty w''
  by_cases h1 : tk = 1
  · subst h1
    exact keep_nil 19 id 1 ty tt yes k0 W hA fun p _ w => rule_of ⟨1, tt, ty, none, p⟩ 19 (.inl ⟨rfl, rfl⟩) w
  · by_cases h3 : tk = 3
    · subst h3
      exact keep_nil 21 id 3 ty tt yes k0 W hA fun p _ w => rule_of ⟨3, tt, ty, none, p⟩ 21 (.inr (.inl ⟨rfl, rfl⟩)) w
    · by_cases h4 : tk = 4
      · subst h4
        exact keep_nil 22 id 4 ty tt yes k0 W hA fun p _ w => rule_of ⟨4, tt, ty, none, p⟩ 22 (.inr (.inr ⟨rfl, rfl⟩)) w
      · by_cases h2 : tk = 2 ∨ tk = 5
        · exact keep_bad none id tk ty tt yes k0 W hA fun p hp w => rule_no ⟨tk, tt, ty, none, p⟩ h2 (.inl hp) w
        · exact keep_bad none id tk ty tt yes k0 W hA fun p hp w => rule_out ⟨tk, tt, ty, none, p⟩ (by show tk < 1 ∨ 6 ≤ tk; omega) w
theorem bare_ok (k : Nat) : Okt (bareKt k) := ⟨by simp [bareKt, ByteArray.size], fun x hx => by simp [bareKt] at hx, by simp [bareKt], by simp [bareKt], by simp [bareKt]⟩
theorem ask_ten (T : Ten L) (tk : Int) (j : Nat) (hj : j < 10) (tt : ByteArray) (hA : AAt Tryz.prog lo M mo dv L W) : ∀ w, Below W.heap.size W w → Calls Tryz.prog 8 #[.pointer (some ⟨M, 0, none⟩), .agg #[.int .i64 tk, .string tt, .int .i64 (j : Int)]] w (AskQ tk tt (j : Int) (some ⟨M, 0, none⟩) (bareKt (j + 1)) w) := fun w hb =>
  ask_of (some ⟨M, 0, none⟩) tk (j : Int) tt (bareKt (j + 1)) fun w' hb' => partAt_of (some ⟨M, 0, none⟩) (bareKt (j + 1)) (j : Int) fun w'' hb'' => ty_at (((hA.below hb).below hb').below hb'') j (bareKt (j + 1)) (T.at_ j hj) (bare_ok _)
/-- A test of one value that no type of the ten but some is: number. -/
theorem keep_is (T : Ten L) (yes : Bool) (hA : AAt Tryz.prog lo M mo dv L W) : Calls Tryz.prog 4 #[.pointer (some ⟨M, 0, none⟩), .int .i64 0, .agg #[.int .i64 2, .string ⟨#[]⟩, .int .i64 6], .bool yes] W fun e w' => e = .returned (.tuple #[.int .i64 0, .int .i64 1]) ∧ Below W.heap.size W w' :=
  keep_bad (some ⟨M, 0, none⟩) 0 2 6 ⟨#[]⟩ yes (bareKt 7) W (ask_ten T 2 6 (by omega) ⟨#[]⟩ hA) fun p hp w => rule_no ⟨2, ⟨#[]⟩, 6, some ⟨M, 0, none⟩, p⟩ (.inl rfl) (.inr hp) w
theorem has_of (x : Int) (b : Bool) (hA : AAt Tryz.prog lo M mo dv L W) (hb : decide (0 ≤ x ∧ x < (L.length : Int)) = b) : ∀ w, Below W.heap.size W w → Calls Tryz.prog 10 #[.pointer (some ⟨M, 0, none⟩), .int .i64 x] w fun e w' => e = .returned (.bool b) ∧ w' = w := fun w hbw => by
  obtain ⟨ta, tc, m0, -⟩ := (hA.below hbw).cells
  refine (nhas_any (some ⟨M, 0, none⟩) L.length x (len_any w M ta L.length tc m0)).mono fun e w' ⟨h1, h2⟩ => ⟨?_, h2⟩
  rw [h1, hb]
/-- Numbers that are none. -/
theorem keep_far (T : Ten L) (x : Int) (yes : Bool) (hx : ¬ (0 ≤ x ∧ x < (L.length : Int))) (hA : AAt Tryz.prog lo M mo dv L W) : Calls Tryz.prog 4 #[.pointer (some ⟨M, 0, none⟩), .int .i64 x, .agg #[.int .i64 3, .string ⟨#[]⟩, .int .i64 0], .bool yes] W fun e w' => e = .returned (.tuple #[.int .i64 0, .int .i64 11]) ∧ Below W.heap.size W w' :=
  keep_out 21 x 3 0 ⟨#[]⟩ yes (bareKt 1) W (ask_ten T 3 0 (by omega) ⟨#[]⟩ hA) (fun p _ w => rule_of ⟨3, ⟨#[]⟩, 0, some ⟨M, 0, none⟩, p⟩ 21 (.inr (.inl ⟨rfl, rfl⟩)) w) (has_of x false hA (decide_eq_false hx))
theorem assigned_far (x : Int) (hx : ¬ (0 ≤ x ∧ x < (L.length : Int))) (hA : AAt Tryz.prog lo M mo dv L W) : Calls Tryz.prog 5 #[.pointer (some ⟨M, 0, none⟩), .int .i64 x, .int .i64 0] W fun e w' => e = .returned (.tuple #[.int .i64 0, .int .i64 11]) ∧ Below W.heap.size W w' := assigned_out x W (has_of x false hA (decide_eq_false hx))
theorem assigned_ten (T : Ten L) (i : Nat) (hi : i < 10) (hA : AAt Tryz.prog lo M mo dv L W) : Calls Tryz.prog 5 #[.pointer (some ⟨M, 0, none⟩), .int .i64 (i : Int), .int .i64 0] W fun e w' => e = .returned (.tuple #[.int .i64 (i : Int), .int .i64 0]) ∧ Below W.heap.size W w' := by
  have h1 := (T.kind i hi).2
  have h0 := (T.kind 0 (by omega)).2
  refine assigned_plain (i : Int) ((i + 1 : Nat) : Int) W (by omega) (fun w y hy hb => ?_) (fun w hb => ?_)
  · refine has_of y true hA (decide_eq_true ?_) w hb
    rcases hy with rfl | rfl
    · exact h1
    · exact h0
  · exact kindOf_of (some ⟨M, 0, none⟩) (bareKt (i + 1)) (i : Int) (partAt_of (some ⟨M, 0, none⟩) (bareKt (i + 1)) (i : Int) fun w' hb' => ty_at ((hA.below hb).below hb') i (bareKt (i + 1)) (T.at_ i hi) (bare_ok _))
theorem truth_says (k : Int) : truthP k = 0 ∨ truthP k = 1 ∨ truthP k = 2 := by
  unfold truthP
  split
  · exact .inr (.inl rfl)
  · split
    · exact .inr (.inr rfl)
    · exact .inl rfl
/-- What a test for truth leaves of one of the ten. -/
theorem keep_truth (T : Ten L) (b i : Nat) (hi : i < 10) (yes : Bool) (hA : AAt Tryz.prog lo M (some b) dv L W) : ∃ r : Int, Calls Tryz.prog 4 #[.pointer (some ⟨M, 0, none⟩), .int .i64 (i : Int), .agg #[.int .i64 3, .string ⟨#[]⟩, .int .i64 0], .bool yes] W fun e w' => e = .returned (.tuple #[.int .i64 r, .int .i64 0]) ∧ Below W.heap.size W w' := by
  have hk : keptP truthP yes [(i : Int)] = [] ∨ keptP truthP yes [(i : Int)] = [(i : Int)] := by
    unfold keptP
    rw [List.filter_cons]
    split
    · exact .inr rfl
    · exact .inl rfl
  have hU : ∃ r : Int, ∀ w pa pc, AAt Tryz.prog lo M (some b) dv L w → RowR 3 w (.slice pa (keptP truthP yes [(i : Int)]).length pc) (iv (keptP truthP yes [(i : Int)])) → Calls Tryz.prog 14 #[.pointer (some ⟨M, 0, none⟩), .slice pa (keptP truthP yes [(i : Int)]).length pc] w fun e w' => e = .returned (.tuple #[.int .i64 r, .int .i64 0]) ∧ Below w.heap.size w w' := by
    rcases hk with hk | hk
    · rw [hk]
      exact ⟨2, fun w pa pc hA hp => union_none b T pa pc hA hp⟩
    · rw [hk]
      exact ⟨(i : Int), fun w pa pc hA hp => union_ten b i hi T pa pc hA hp⟩
  obtain ⟨r, hU⟩ := hU
  refine ⟨r, callsIn_wide.1 (keep_ok21 i 3 0 ⟨#[]⟩ yes (bareKt 1) (bareKt (i + 1)) b [(i : Int)] truthP r W hA (T.at_ i hi) (bare_ok _) (ask_ten T 3 0 (by omega) ⟨#[]⟩ hA) (fun p _ w => rule_of ⟨3, ⟨#[]⟩, 0, some ⟨M, 0, none⟩, p⟩ 21 (.inr (.inl ⟨rfl, rfl⟩)) w) (.inl ⟨by simp only [bareKt]; omega, rfl⟩) (by simp) (fun p hp => ?_) (fun p hp => truth_says _) (fun Q q h1 h2 h3 w => ?_) (fun _ Q q h1 w => place_any Q q (by rw [h1]; omega) (by rw [h1]; omega) w) hU)⟩
  · simp only [List.mem_cons, List.not_mem_nil, or_false] at hp
    subst hp
    exact ⟨i, bareKt (i + 1), rfl, T.at_ i hi, bare_ok _, by simp only [bareKt]; omega⟩
  · obtain ⟨p, hp, hq⟩ := h3
    simp only [List.mem_cons, List.not_mem_nil, or_false] at hp
    subst hp
    exact truth_any Q q (by omega) w
theorem ten_ten : Ten (tenL 10) := ⟨ten_sz 10, by decide +kernel, fun i h => by
  match i, h with
  | 0, _ => rfl
  | 1, _ => rfl
  | 2, _ => rfl
  | 3, _ => rfl
  | 4, _ => rfl
  | 5, _ => rfl
  | 6, _ => rfl
  | 7, _ => rfl
  | 8, _ => rfl
  | 9, _ => rfl
  | i + 10, h => omega⟩
def kn10 : List Int := [6, 7]
theorem kn10_rest : restP (tenL 10) kn10 = [6, 7] := by decide +kernel
theorem kn10_ok : UOk (tenL 10) kn10 where
  flat := fun p hp => by
    simp only [kn10, List.mem_cons, List.not_mem_nil, or_false] at hp
    rcases hp with rfl | rfl <;> exact ⟨.inr ⟨by decide +kernel, by decide +kernel⟩, by decide +kernel⟩
  wide := fun p hp => by
    simp only [kn10, List.mem_cons, List.not_mem_nil, or_false] at hp
    rcases hp with rfl | rfl <;> exact ⟨by decide +kernel, by decide +kernel, by decide +kernel⟩
  top := fun p hp => by
    simp only [kn10, List.mem_cons, List.not_mem_nil, or_false] at hp
    rcases hp with rfl | rfl <;> exact ⟨by decide +kernel, by decide +kernel⟩
  ne := by simp [kn10]
  len := by simp [kn10]
  one := by decide +kernel
  two := by rw [kn10_rest]; simp
  few := by rw [kn10_rest]; simp
  are := fun p hp => by
    rw [kn10_rest] at hp
    simp only [List.mem_cons, List.not_mem_nil, or_false] at hp
    rcases hp with rfl | rfl <;> exact ⟨by decide +kernel, by decide +kernel⟩
  sz := by decide +kernel
  ord := fun j hj => by
    rw [kn10_rest] at hj ⊢
    have : j = 0 := by simp at hj; omega
    subst this
    decide +kernel
  new := by decide +kernel
  wl := by decide +kernel
def kn10L : List Kt := tenL 10 ++ [unionKt (tenL 10) [6, 7]]
theorem kn10_sz : sizeP (tenL 10) [6, 7] 1 = 3 := by decide +kernel
theorem ten_kn : Ten kn10L := ⟨fun k hk => by
    unfold kn10L at hk
    rcases List.mem_append.1 hk with h | h
    · exact ten_sz 10 k h
    · simp only [List.mem_cons, List.not_mem_nil, or_false] at h
      subst h
      exact ⟨by simp only [unionKt]; rw [kn10_sz]; omega, by simp only [unionKt]; rw [kn10_sz]; omega⟩, by decide +kernel, fun i h => by
  unfold kn10L
  rw [List.getElem?_append_left (by rw [tenL_len]; exact h)]
  exact ten_ten.at_ i h⟩
theorem keep_known (b : Nat) (hA : AAt Tryz.prog lo M (some b) dv kn10L W) : Calls Tryz.prog 4 #[.pointer (some ⟨M, 0, none⟩), .int .i64 ((10 : Nat) : Int), .agg #[.int .i64 1, .string strS, .int .i64 ((0 : Nat) : Int)], .bool false] W fun e w' => e = .returned (.tuple #[.int .i64 ((6 : Nat) : Int), .int .i64 0]) ∧ Below W.heap.size W w' := by
  have hkp : keptP kindSays false [6, 7] = [((6 : Nat) : Int)] := by decide +kernel
  refine callsIn_wide.1 (keep_ok19 10 1 ((0 : Nat) : Int) strS false (bareKt 1) (unionKt (tenL 10) [6, 7]) b [6, 7] kindSays ((6 : Nat) : Int) W hA rfl ⟨by simp [unionKt, ByteArray.size], fun x hx => by simp [unionKt] at hx, by simp [unionKt], by simp [unionKt], by simp [unionKt]⟩ (ask_ten ten_kn 1 0 (by omega) strS hA) (fun p _ w => rule_of ⟨1, strS, ((0 : Nat) : Int), some ⟨M, 0, none⟩, p⟩ 19 (.inl ⟨rfl, rfl⟩) w) (.inr ⟨rfl, rfl⟩) (by simp) (fun p hp => ?_) (fun p hp => ?_) (fun Q q h1 h2 h3 w => ?_) (fun h => by cases h) (fun w pa pc hA hp => ?_))
  · simp only [List.mem_cons, List.not_mem_nil, or_false] at hp
    rcases hp with rfl | rfl
    · exact ⟨6, bareKt 7, rfl, ten_kn.at_ 6 (by omega), bare_ok _, rfl⟩
    · exact ⟨7, bareKt 8, rfl, ten_kn.at_ 7 (by omega), bare_ok _, rfl⟩
  · simp only [List.mem_cons, List.not_mem_nil, or_false] at hp
    rcases hp with rfl | rfl
    · exact .inr (.inl rfl)
    · exact .inr (.inr rfl)
  · obtain ⟨p, hp, hq⟩ := h3
    simp only [List.mem_cons, List.not_mem_nil, or_false] at hp
    exact ofKind_any Q q h2 (by rcases hp with rfl | rfl <;> omega) w
  · rw [hkp] at hp ⊢
    exact union_ten b 6 (by omega) ten_kn pa pc hA hp
theorem known10_any (W : World) : Calls Tryz.prog 7 #[] W fun e w' => e = .returned (.bool true) ∧ Below W.heap.size W w' := by
  have HN := hide (new_any W)
  have HK : Hid (∀ M b w, AAt Tryz.prog M M (some b) (.map none) kn10L w → Calls Tryz.prog 4 #[.pointer (some ⟨M, 0, none⟩), .int .i64 10, .agg #[.int .i64 1, .string ⟨#[115, 116, 114, 105, 110, 103]⟩, .int .i64 0], .bool false] w fun e w' => e = .returned (.tuple #[.int .i64 6, .int .i64 0]) ∧ Below w.heap.size w w') := fun M b w h => keep_known b h
  go_enter Tryz.func7, Tryz.ntmps7
  go_wp2_with (first
    | (go_at_call 6
       refine (unhide HN).mono ?_
       rintro e w2 ⟨b, rfl, hA2, hb2⟩
       have HA2 := hide hA2
       have HB2 := hide hb2
       clear hA2 hb2)
    | (go_at_call 14
       have hb3 := (Below.refl _ w2).alloc (Nat.le_refl _) (.cells #[.int .i64 6, .int .i64 7] 3)
       have hr3 : RowR 3 (w2.alloc (.cells #[.int .i64 6, .int .i64 7] 3)) (.slice (some ⟨w2.heap.size, 0, none⟩) 2 2) (iv kn10) := ⟨_, 2, rfl, Nat.le_refl _, by decide, .inr ⟨_, 0, _, (0, 0), rfl, al_at w2 _, fun j x hx => by
         match j, hx with
         | 0, hx => simpa [iv, kn10] using hx
         | 1, hx => simpa [iv, kn10] using hx
         | j + 2, hx => simp [iv, kn10] at hx⟩⟩
       refine (union_ok b ((unhide HA2).below hb3) (ten_sz 10) (ten_wd 10) (by rw [tenL_len]; omega) kn10 (some ⟨w2.heap.size, 0, none⟩) 2 hr3 kn10_ok (fun p hp => by
         simp only [kn10, List.mem_cons, List.not_mem_nil, or_false] at hp
         rcases hp with rfl | rfl <;> exact ⟨by decide +kernel, by decide +kernel⟩)).mono ?_
       rw [kn10_rest]
       rw [tenL_len]
       rintro e w4 ⟨rfl, mo4, hA4, hF4⟩
       have hA4' : AAt Tryz.prog W.heap.size W.heap.size mo4 (.map none) kn10L w4 := hA4
       obtain ⟨b4, hb4⟩ : ∃ b4, mo4 = some b4 := (by
         cases mo4 with
         | some b4 => exact ⟨b4, rfl⟩
         | none => have h0 := hA4'.num; exact absurd (show kn10L = [] from h0) (by simp [kn10L]))
       subst hb4
       have HA4 := hide hA4'
       have HB4 := hide ((unhide HB2).trans ((hb3.mono (unhide HB2).size).trans (fa_below hF4 (Nat.le_trans (unhide HB2).size hb3.size))))
       clear hb3 hr3 hA4 hA4' hF4)
    | (go_at_call 4
       refine (unhide HK _ _ w4 (unhide HA4)).mono ?_
       rintro e w5 ⟨rfl, hb5⟩
       have HB5 := hide ((unhide HB4).trans (hb5.mono (unhide HB4).size))
       clear hb5))
  go_ret
  exact ⟨rfl, unhide HB5⟩
end Go.Proofs.YticdaphajanbbaaGreatDoor
