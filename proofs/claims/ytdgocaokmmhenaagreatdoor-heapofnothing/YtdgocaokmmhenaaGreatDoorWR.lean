/- Merged: R1, R2, R3. -/
import Derived.Test.YtdgocaokmmhenaaGreatDoorWC
/- The document's Heap that has nothing: its small functions. -/
namespace Go.Proofs.YtdgocaokmmhenaaGreatDoor
set_option linter.unusedSimpArgs false
set_option linter.unusedVariables false
set_option maxRecDepth 100000
set_option maxHeartbeats 2000000
open Go.RowKit Go.Shelf

/-- The document's Heap, empty. -/
def Rp (A : World) (b : Nat) : Prop := Bx A b #[.int .i64 0, .int .i64 0, .slice none 0 0] 49
theorem Rp.up {A W : World} {b : Nat} (h : Rp A b) (hA : Below A.heap.size A W) : Rp W b := Bx.below h hA (Bx.lt h)
theorem Bo.up2 {w w' : World} {b : Nat} {k n f : Int} {t s : ByteArray} (h : Bo w b k n t s f) (hb : Below w.heap.size w w') : Bo w' b k n t s f := Bx.below h hb (Bx.lt h)
theorem rthere (A : World) (b : Nat) (h : Rp A b) (n : Int) : RetA A 45 #[.pointer (some ⟨b, 0, none⟩), .int .i64 n] (.bool false) := by
  intro W hA
  have hx := h.up hA
  have c2 := Bx.cell hx 2 rfl
  clear h hA hx
  by_cases e1 : 0 ≤ n
  · have e2 : decide (n < 0) = false := by simp; omega
    go_enter Tryz.func45, Tryz.ntmps45
    go_wp2
    go_ret
    exact ⟨rfl, Below.refl _ _⟩
  · go_enter Tryz.func45, Tryz.ntmps45
    go_wp2
    go_ret
    exact ⟨rfl, Below.refl _ _⟩
theorem rKind (A : World) (b : Nat) (h : Rp A b) (n : Int) : RetA A 29 #[.pointer (some ⟨b, 0, none⟩), .int .i64 n] (.int .i64 0) := by
  intro W hA
  have HT := hide (rthere A b h n W hA)
  clear h hA
  go_enter Tryz.func29, Tryz.ntmps29
  go_wp2_with (go_at_call 45; refine (unhide HT).mono ?_; rintro e w1 ⟨rfl, q⟩; have HQ := hide q; clear q)
  go_ret
  exact ⟨rfl, unhide HQ⟩
theorem rLen (A : World) (b : Nat) (h : Rp A b) (n : Int) : RetA A 27 #[.pointer (some ⟨b, 0, none⟩), .int .i64 n] (.int .i64 0) := by
  intro W hA
  have HT := hide (rKind A b h n W hA)
  clear h hA
  go_enter Tryz.func27, Tryz.ntmps27
  go_wp2_with (go_at_call 29; refine (unhide HT).mono ?_; rintro e w1 ⟨rfl, q⟩; have HQ := hide q; clear q)
  go_ret
  exact ⟨rfl, unhide HQ⟩
theorem rMake (A : World) (b : Nat) (h : Rp A b) (k r : Int) : RetA A 13 #[.pointer (some ⟨b, 0, none⟩), .int .i64 k, .int .i64 r] (.tuple #[.int .i64 (-1), .int .i64 3]) := by
  intro W hA
  have hx := h.up hA
  have c0 := Bx.cell hx 0 rfl
  have c1 := Bx.cell hx 1 rfl
  clear h hA hx
  go_enter Tryz.func13, Tryz.ntmps13
  go_wp2
  go_quiet (fail)
  go_wp2
  go_ret2
  exact ⟨rfl, (Below.refl _ _).trans ⟨rfl, rfl, rfl, Nat.le_refl _, fun _ _ => rfl⟩⟩
theorem rPush (A : World) (b : Nat) (h : Rp A b) (r k n : Int) (t : ByteArray) : RetA A 25 #[.pointer (some ⟨b, 0, none⟩), .int .i64 r, .agg (Vc k n t)] (.tuple #[.int .i64 (-1), .int .i64 1]) := by
  intro W hA
  obtain ⟨W2, hW2, b1, hb, hz⟩ := new_box W k n t
  have HT := hide (rKind A b h r W2 (Below.upp hA hb))
  have HB := hide hb
  unfold Vc
  clear h hA b1 hb hz
  go_enter Tryz.func25, Tryz.ntmps25
  go_wp2_with (go_at_call 29; refine (unhide HT).mono ?_; rintro e w1 ⟨rfl, q⟩; have HQ := hide (Below.upp (unhide HB) q); clear q)
  go_ret2
  exact ⟨rfl, unhide HQ⟩
theorem rarray (A : World) (b : Nat) (h : Rp A b) (k n : Int) (t : ByteArray) : RetA A 53 #[.pointer (some ⟨b, 0, none⟩), .agg (Vc k n t)] (.bool false) := by
  intro W hA
  obtain ⟨W2, hW2, b1, hb, hz⟩ := new_box W k n t
  obtain ⟨c0, c1, c2, f0, f1, f2, lt⟩ := b1.all
  have HT := hide (rKind A b h n W2 (Below.upp hA hb))
  have HB := hide hb
  unfold Vc
  clear h hA b1 hb hz
  cases e5 : (k == 5)
  · go_enter Tryz.func53, Tryz.ntmps53
    go_wp2
    go_ret
    exact ⟨rfl, unhide HB⟩
  · go_enter Tryz.func53, Tryz.ntmps53
    go_wp2_with (go_at_call 29; refine (unhide HT).mono ?_; rintro e w1 ⟨rfl, q⟩; have HQ := hide (Below.upp (unhide HB) q); clear q)
    go_ret
    exact ⟨rfl, unhide HQ⟩
theorem rSane15 (A : World) (b : Nat) (h : Rp A b) (k n : Int) (t : ByteArray) : RetA A 49 #[.pointer (some ⟨b, 0, none⟩), .agg (Vc k n t)] (.agg (Vc (sK k) (sN k n) (stlT k t))) := by
  intro W hA
  obtain ⟨W2, hW2, b1, b2, hb, hz⟩ := two_boxes W k n t
  obtain ⟨c0, c1, c2, f0, f1, f2, lt⟩ := b1.all
  have HS : Hid (Ret 72 #[.agg (Vc k n t)] (.agg (Vc (stlK k) (stlN k n) (stlT k t)))) := rSane_any k n t
  have HTH : Hid (∀ w m, Below W.heap.size W w → Calls Tryz.prog 45 #[.pointer (some ⟨b, 0, none⟩), .int .i64 m] w fun e w' => e = .returned (.bool false) ∧ Below w.heap.size w w') := fun w m hw => rthere A b h m w (Below.upp hA hw)
  have B2 := hide b2
  have HB := hide hb
  have HZ := hide hz
  by_cases h5 : k = 5
  · subst h5
    rw [show sK 5 = 0 from rfl, show sN 5 n = 0 by simp [sN], show stlT 5 t = ByteArray.empty by simp [stlT]]
    rw [show stlK 5 = 5 from rfl, show stlN 5 n = n by simp [stlN], show stlT 5 t = ByteArray.empty by simp [stlT]] at HS
    unfold Vc at HS ⊢
    clear b1 b2 hb hz h hA
    go_enter Tryz.func49, Tryz.ntmps49
    go_wp2_with (first
      | (go_at_call 72
         refine (unhide HS _).mono ?_
         rintro e w1 ⟨rfl, hb1⟩
         obtain ⟨W3, hW3, e1, e3, e4⟩ := new_box w1 5 n ByteArray.empty
         have hb4 := Below.upp hb1 e3
         have X2 := hide ((unhide B2).up2 hb4)
         have HB3 := hide (Below.upp (unhide HB) hb4)
         obtain ⟨x0, x1, x2, y0, y1, y2, ly⟩ := e1.all
         clear hb1 e1 e3 e4 hb4)
      | (go_at_call 45; refine (unhide HTH _ _ (unhide HB3)).mono ?_; rintro e w4 ⟨rfl, q4⟩; have X4 := hide ((unhide X2).up2 q4); have HB4 := hide (Below.upp (unhide HB3) q4); obtain ⟨d0, d1, d2, g0, g1, g2, lt'⟩ := (unhide X4).all))
    exact ret_v Tryz.results49 rfl (unhide X4) rfl (unhide HB4) (by omega) rfl
  · have e1 : sK k = stlK k := by simp [sK, h5]
    have e2 : sN k n = stlN k n := by simp [sN, h5]
    have hne : (stlK k == 5) = false := by
      have : stlK k ≠ 5 := by unfold stlK; split <;> omega
      simpa using this
    rw [e1, e2]
    clear e1 e2 h5
    generalize stlK k = K at *
    generalize stlN k n = N at *
    generalize stlT k t = T at *
    unfold Vc at HS ⊢
    clear b1 b2 hb hz h hA
    go_enter Tryz.func49, Tryz.ntmps49
    go_wp2_with (go_at_call 72
                 refine (unhide HS _).mono ?_
                 rintro e w1 ⟨rfl, hb1⟩
                 obtain ⟨W3, hW3, e1, e3, e4⟩ := new_box w1 K N T
                 have hb4 := Below.upp hb1 e3
                 have X4 := hide ((unhide B2).up2 hb4)
                 have HB4 := hide (Below.upp (unhide HB) hb4)
                 obtain ⟨x0, x1, x2, y0, y1, y2, ly⟩ := e1.all
                 obtain ⟨d0, d1, d2, g0, g1, g2, lt'⟩ := (unhide X4).all
                 clear hb1 e1 e3 e4 hb4)
    exact ret_v Tryz.results49 rfl (unhide X4) rfl (unhide HB4) (by omega) rfl
end Go.Proofs.YtdgocaokmmhenaaGreatDoor

/- The document's Heap that has nothing: Typeof, Show, Get, Set, Has. -/
namespace Go.Proofs.YtdgocaokmmhenaaGreatDoor
set_option linter.unusedSimpArgs false
set_option linter.unusedVariables false
set_option maxRecDepth 100000
set_option maxHeartbeats 2000000
open Go.RowKit Go.Shelf

theorem up_at {A w w' : World} (h : Below A.heap.size A w) (k : Below w.heap.size w w') : Below A.heap.size A w' := Below.upp h k
/-- What the function answers in whatever world above W. -/
theorem RetA.abv {A W : World} {f : FuncId} {args : Array Value} {v : Value} (h : RetA A f args v) (hA : Below A.heap.size A W) : ∀ w, Below W.heap.size W w → Calls Tryz.prog f args w fun e w' => e = .returned v ∧ Below w.heap.size w w' := fun w hw => h w (Below.upp hA hw)
theorem typ_K (k : Int) : (sK k = 0 ∧ typT k = undefT) ∨ (sK k = 1 ∧ typT k = objT) ∨ (sK k = 2 ∧ typT k = blnT) ∨ (sK k = 3 ∧ typT k = nmbT) ∨ (sK k = 4 ∧ typT k = strT) := by
  by_cases h1 : k = 1
  · subst h1; exact .inr (.inl ⟨rfl, rfl⟩)
  by_cases h2 : k = 2
  · subst h2; exact .inr (.inr (.inl ⟨rfl, rfl⟩))
  by_cases h3 : k = 3
  · subst h3; exact .inr (.inr (.inr (.inl ⟨rfl, rfl⟩)))
  by_cases h4 : k = 4
  · subst h4; exact .inr (.inr (.inr (.inr ⟨rfl, rfl⟩)))
  refine .inl ⟨?_, by simp [typT, h1, h2, h3, h4]⟩
  unfold sK stlK
  split
  · rfl
  · rw [if_neg (by omega)]
theorem rTypeof (A : World) (b : Nat) (h : Rp A b) (k n : Int) (t : ByteArray) : RetA A 31 #[.pointer (some ⟨b, 0, none⟩), .agg (Vc k n t)] (.string (typT k)) := by
  intro W hA
  obtain ⟨W2, hW2, b1, hb, hz⟩ := new_box W k n t
  obtain ⟨c0, c1, c2, f0, f1, f2, lt⟩ := b1.all
  have HS := hide (rSane15 A b h k n t W2 (Below.upp hA hb))
  have HB := hide hb
  have hk := typ_K k
  generalize sK k = K at *
  generalize sN k n = N at *
  generalize stlT k t = T at *
  generalize typT k = s at *
  clear b1 hb hz h hA
  rcases hk with ⟨rfl, rfl⟩ | ⟨rfl, rfl⟩ | ⟨rfl, rfl⟩ | ⟨rfl, rfl⟩ | ⟨rfl, rfl⟩
  · unfold Vc at HS ⊢
    go_enter Tryz.func31, Tryz.ntmps31
    go_wp2_with (go_at_call 49; refine (unhide HS).mono ?_; rintro e w1 ⟨rfl, hb1⟩; obtain ⟨W3, hW3, e1, e3, e4⟩ := new_box w1 0 N T; have HB3 := hide (Below.upp (unhide HB) (Below.upp hb1 e3)); obtain ⟨x0, x1, x2, y0, y1, y2, ly⟩ := e1.all; clear hb1 e1 e3 e4)
    go_ret
    exact ⟨rfl, unhide HB3⟩
  · unfold Vc at HS ⊢
    go_enter Tryz.func31, Tryz.ntmps31
    go_wp2_with (go_at_call 49; refine (unhide HS).mono ?_; rintro e w1 ⟨rfl, hb1⟩; obtain ⟨W3, hW3, e1, e3, e4⟩ := new_box w1 1 N T; have HB3 := hide (Below.upp (unhide HB) (Below.upp hb1 e3)); obtain ⟨x0, x1, x2, y0, y1, y2, ly⟩ := e1.all; clear hb1 e1 e3 e4)
    go_ret
    exact ⟨rfl, unhide HB3⟩
  · unfold Vc at HS ⊢
    go_enter Tryz.func31, Tryz.ntmps31
    go_wp2_with (go_at_call 49; refine (unhide HS).mono ?_; rintro e w1 ⟨rfl, hb1⟩; obtain ⟨W3, hW3, e1, e3, e4⟩ := new_box w1 2 N T; have HB3 := hide (Below.upp (unhide HB) (Below.upp hb1 e3)); obtain ⟨x0, x1, x2, y0, y1, y2, ly⟩ := e1.all; clear hb1 e1 e3 e4)
    go_ret
    exact ⟨rfl, unhide HB3⟩
  · unfold Vc at HS ⊢
    go_enter Tryz.func31, Tryz.ntmps31
    go_wp2_with (go_at_call 49; refine (unhide HS).mono ?_; rintro e w1 ⟨rfl, hb1⟩; obtain ⟨W3, hW3, e1, e3, e4⟩ := new_box w1 3 N T; have HB3 := hide (Below.upp (unhide HB) (Below.upp hb1 e3)); obtain ⟨x0, x1, x2, y0, y1, y2, ly⟩ := e1.all; clear hb1 e1 e3 e4)
    go_ret
    exact ⟨rfl, unhide HB3⟩
  · unfold Vc at HS ⊢
    go_enter Tryz.func31, Tryz.ntmps31
    go_wp2_with (go_at_call 49; refine (unhide HS).mono ?_; rintro e w1 ⟨rfl, hb1⟩; obtain ⟨W3, hW3, e1, e3, e4⟩ := new_box w1 4 N T; have HB3 := hide (Below.upp (unhide HB) (Below.upp hb1 e3)); obtain ⟨x0, x1, x2, y0, y1, y2, ly⟩ := e1.all; clear hb1 e1 e3 e4)
    go_ret
    exact ⟨rfl, unhide HB3⟩
theorem itoa_65536 (n : Int) (h0 : -9007199254740991 ≤ n) (h1 : n ≤ 9007199254740991) : (itoaT n).size ≤ 65536 := by
  show (Lib.itoa n).toArray.size ≤ _
  unfold Lib.itoa
  split
  · have := digs_len 16 n.natAbs (by have : (10 : Nat) ^ 16 = 10000000000000000 := by decide
                                     omega)
    simp
    omega
  · have := digs_len 16 n.toNat (by have : (10 : Nat) ^ 16 = 10000000000000000 := by decide
                                    omega)
    simp
    omega
theorem textP_few (K N : Int) (T : ByteArray) (hK : 0 ≤ K ∧ K ≤ 4) (h4 : ¬ K = 4) (hN : K = 3 → -9007199254740991 ≤ N ∧ N ≤ 9007199254740991) : (textP K N T).size ≤ 65536 := by
  unfold textP
  split
  · show undefT.size ≤ 65536; decide
  · split
    · show nullT.size ≤ 65536; decide
    · split
      · show (boolT (N != 0)).size ≤ 65536
        cases N != 0 <;> decide
      · split
        · rename_i h
          exact itoa_65536 N (hN h).1 (hN h).2
        · omega
theorem sN_num (k n : Int) (h : sK k = 3) : -9007199254740991 ≤ sN k n ∧ sN k n ≤ 9007199254740991 := by
  have hk : k = 3 := by
    unfold sK at h
    split at h
    · cases h
    · unfold stlK at h; split at h <;> omega
  subst hk
  have e2 : sN 3 n = clampN n := by simp [sN, stlN]
  rw [e2]
  exact clamp_in n
theorem rwithin (A : World) (b : Nat) (K N : Int) (T s : ByteArray) (h4 : (K == 4) = false) (h5 : (K != 5) = true) (HX : Ret 75 #[.agg (Vc K N T)] (.string s)) : RetA A 63 #[.pointer (some ⟨b, 0, none⟩), .agg (Vc K N T), .int .i64 0] (.string s) := by
  intro W hA
  obtain ⟨W2, hW2, b1, hb, hz⟩ := new_box W K N T
  obtain ⟨c0, c1, c2, f0, f1, f2, lt⟩ := b1.all
  have HXX := hide HX
  have HB := hide hb
  unfold Vc at HXX ⊢
  clear b1 hb hz hA HX
  go_enter Tryz.func63, Tryz.ntmps63
  go_wp2_with (go_at_call 75; refine (unhide HXX _).mono ?_; rintro e w1 ⟨rfl, q⟩; have HQ := hide (Below.upp (unhide HB) q); clear q)
  go_ret
  exact ⟨rfl, unhide HQ⟩
theorem rShow (A : World) (b : Nat) (h : Rp A b) (k n : Int) (t : ByteArray) (ht : t.size ≤ 1048576) : RetA A 32 #[.pointer (some ⟨b, 0, none⟩), .agg (Vc k n t)] (.string (textP (sK k) (sN k n) (stlT k t))) := by
  intro W hA
  obtain ⟨W2, hW2, b1, hb, hz⟩ := new_box W k n t
  obtain ⟨c0, c1, c2, f0, f1, f2, lt⟩ := b1.all
  have HS := hide (rSane15 A b h k n t W2 (Below.upp hA hb))
  have HX := rText_any (sK k) (sN k n) (stlT k t)
  rw [sK_id, sN_id, sT_id] at HX
  have hK := sK_in k
  have hN := sN_num k n
  have HB := hide hb
  have HA := hide (Below.upp hA hb)
  generalize sK k = K at *
  generalize sN k n = N at *
  generalize stlT k t = T at *
  clear b1 hb hz hA
  by_cases h4 : K = 4
  · subst h4
    rw [show textP 4 N T = T by simp [textP]]
    clear HX hN hK
    unfold Vc at HS ⊢
    go_enter Tryz.func32, Tryz.ntmps32
    go_wp2_with (go_at_call 49; refine (unhide HS).mono ?_; rintro e w1 ⟨rfl, hb1⟩; obtain ⟨W3, hW3, e1, e3, e4⟩ := new_box w1 4 N T; have HB3 := hide (Below.upp (unhide HB) (Below.upp hb1 e3)); obtain ⟨x0, x1, x2, y0, y1, y2, ly⟩ := e1.all; clear hb1 e1 e3 e4)
    go_ret
    exact ⟨rfl, unhide HB3⟩
  · have q4 : (K == 4) = false := by simpa using h4
    have q5 : (K != 5) = true := by
      have : ¬ K = 5 := by omega
      simpa using this
    have hf := textP_few K N T hK h4 hN
    obtain ⟨s, hs⟩ : ∃ s, textP K N T = s := ⟨_, rfl⟩
    rw [hs] at HX hf ⊢
    have HW := hide (rwithin A b K N T s q4 q5 HX)
    have gs : ¬ (65536 : Int) < (s.size : Int) := by omega
    have gs2 : (s.size : Int) ≤ 65536 := by omega
    clear HX hs hf hN hK h4 q5
    unfold Vc at HS HW ⊢
    go_enter Tryz.func32, Tryz.ntmps32
    go_wp2_with (first
      | (go_at_call 49; refine (unhide HS).mono ?_; rintro e w1 ⟨rfl, hb1⟩; obtain ⟨W3, hW3, e1, e3, e4⟩ := new_box w1 K N T; have HB3 := hide (Below.upp (unhide HB) (Below.upp hb1 e3)); have HA3 := hide (Below.upp (unhide HA) (Below.upp hb1 e3)); obtain ⟨x0, x1, x2, y0, y1, y2, ly⟩ := e1.all; clear hb1 e1 e3 e4)
      | (go_at_call 63; refine (unhide HW _ (unhide HA3)).mono ?_; rintro e w4 ⟨rfl, q4⟩; have HB4 := hide (Below.upp (unhide HB3) q4); clear q4))
    go_ret
    exact ⟨rfl, unhide HB4⟩
theorem box_out54 (W : World) (k n : Int) (t : ByteArray) : ∃ W2, (W.alloc (.cells #[.int .i64 k, .int .i64 n, .string t] 23)).alloc (.cells #[.int .i64 0, .int .i64 0, .string ⟨#[]⟩, .string ⟨#[]⟩, .int .i64 0] 54) = W2 ∧ Bv W2 W.heap.size k n t ∧ Bo W2 (W.heap.size + 1) 0 0 ⟨#[]⟩ ⟨#[]⟩ 0 ∧ Below W.heap.size W W2 ∧ W2.heap.size = W.heap.size + 2 := box_out W k n t
theorem rGet (A : World) (b : Nat) (h : Rp A b) (k n : Int) (t key : ByteArray) (ht : t.size ≤ 1048576) : RetA A 16 #[.pointer (some ⟨b, 0, none⟩), .agg (Vc k n t), .string key] (getP (sK k) (stlT k t) key).oc := by
  intro W hA
  obtain ⟨W2, hW2, b1, b3, hb, hz⟩ := box_out54 W k n t
  obtain ⟨c0, c1, c2, f0, f1, f2, lt⟩ := b1.all
  have HS := hide ((rSane15 A b h k n t).abv (Below.upp hA hb))
  have HAR := hide ((fun K N T => (rarray A b h K N T).abv hA : ∀ K N T, ∀ w, Below W.heap.size W w → Calls Tryz.prog 53 #[.pointer (some ⟨b, 0, none⟩), .agg (Vc K N T)] w fun e w' => e = .returned (.bool false) ∧ Below w.heap.size w w'))
  have B3 := hide b3
  have HB := hide hb
  have HA := hide (Below.refl W2.heap.size W2)
  have hK := sK_in k
  have HTL := hide (stlT_le k t _ ht)
  generalize sK k = K at *
  generalize sN k n = N at *
  generalize stlT k t = T at *
  clear b1 b3 hb hz h hA ht
  have c : (K = 0 ∨ K = 1) ∨ (K = 4 ∧ key = lenT) ∨ (K = 4 ∧ ¬ key = lenT) ∨ (K = 2 ∨ K = 3) := by
    by_cases e : key = lenT
    · have : K = 0 ∨ K = 1 ∨ K = 2 ∨ K = 3 ∨ K = 4 := by omega
      rcases this with h | h | h | h | h <;> simp [h, e]
    · have : K = 0 ∨ K = 1 ∨ K = 2 ∨ K = 3 ∨ K = 4 := by omega
      rcases this with h | h | h | h | h <;> simp [h, e]
  clear hK
  rcases c with (rfl | rfl) | ⟨rfl, rfl⟩ | ⟨rfl, h⟩ | (rfl | rfl)
  · rw [show getP 0 T key = ⟨0, 0, ByteArray.empty, noMem, 1⟩ by simp [getP]]
    unfold Vc at HS HAR ⊢
    go_enter Tryz.func16, Tryz.ntmps16
    go_wp2_with (first
    | (go_at_call 49
       refine (unhide HS _ (unhide HA)).mono ?_
       clear HS
       rintro e w1 ⟨rfl, hb1⟩
       obtain ⟨W3, hW3, e1, e3, e4⟩ := new_box w1 0 N T
       have hb4 := Below.upp hb1 e3
       have B3 := hide ((unhide B3).up2 hb4); have HB := hide (Below.upp (unhide HB) hb4); have HA := hide (Below.upp (unhide HA) hb4)
       have Z1 := hide e1
       obtain ⟨c0, c1, c2, f0, f1, f2, lt⟩ := (unhide Z1).all
       clear hb1 e1 e3 e4 hb4)
    | (go_at_call 50; refine (rThrow_any noMem _).mono ?_; rintro e w4 ⟨rfl, hb4⟩; unfold Oc; have HB := hide (Below.upp (unhide HB) hb4); have B3 := hide ((unhide B3).up2 hb4); obtain ⟨d0, d1, d2, d3, d4, g0, g1, g2, g3, g4, lt'⟩ := (unhide B3).all; clear hb4)
    )
    exact ret_o Tryz.results16 rfl (unhide B3) rfl (unhide HB) (by omega) rfl
  · rw [show getP 1 T key = ⟨0, 0, ByteArray.empty, noMem, 1⟩ by simp [getP]]
    unfold Vc at HS HAR ⊢
    go_enter Tryz.func16, Tryz.ntmps16
    go_wp2_with (first
    | (go_at_call 49
       refine (unhide HS _ (unhide HA)).mono ?_
       clear HS
       rintro e w1 ⟨rfl, hb1⟩
       obtain ⟨W3, hW3, e1, e3, e4⟩ := new_box w1 1 N T
       have hb4 := Below.upp hb1 e3
       have B3 := hide ((unhide B3).up2 hb4); have HB := hide (Below.upp (unhide HB) hb4); have HA := hide (Below.upp (unhide HA) hb4)
       have Z1 := hide e1
       obtain ⟨c0, c1, c2, f0, f1, f2, lt⟩ := (unhide Z1).all
       clear hb1 e1 e3 e4 hb4)
    | (go_at_call 50; refine (rThrow_any noMem _).mono ?_; rintro e w4 ⟨rfl, hb4⟩; unfold Oc; have HB := hide (Below.upp (unhide HB) hb4); have B3 := hide ((unhide B3).up2 hb4); obtain ⟨d0, d1, d2, d3, d4, g0, g1, g2, g3, g4, lt'⟩ := (unhide B3).all; clear hb4)
    )
    exact ret_o Tryz.results16 rfl (unhide B3) rfl (unhide HB) (by omega) rfl
  · obtain ⟨m, hm, _⟩ := runes_exist (gS T) T.size
    rw [show getP 4 T lenT = ⟨3, m, ByteArray.empty, ⟨#[]⟩, 0⟩ by simp [getP, count_is T m hm]]
    have HM := hide hm
    have gm : (m : Int) ≤ 1048576 := by have := hm.le; have := unhide HTL; omega
    clear hm
    unfold lenT
    unfold Vc at HS HAR ⊢
    go_enter Tryz.func16, Tryz.ntmps16
    go_wp2_with (first
    | (go_at_call 49
       refine (unhide HS _ (unhide HA)).mono ?_
       clear HS
       rintro e w1 ⟨rfl, hb1⟩
       obtain ⟨W3, hW3, e1, e3, e4⟩ := new_box w1 4 N T
       have hb4 := Below.upp hb1 e3
       have B3 := hide ((unhide B3).up2 hb4); have HB := hide (Below.upp (unhide HB) hb4)
       have Z1 := hide e1
       obtain ⟨c0, c1, c2, f0, f1, f2, lt⟩ := (unhide Z1).all
       obtain ⟨cap2, C2, fr2, hcv2, hR2⟩ := runes_of T W3 (unhide HTL)
       have HR2 := hide hR2
       clear hb1 e1 e3 e4 hb4 hR2)
    | (go_at_call 52
       refine (unhide HR2).mono ?_
       clear HR2
       rintro e w5 ⟨m2, ao2, cp2, rfl, hRm2, hrow2, hb5⟩
       obtain rfl := Runes.unique hRm2 (unhide HM)
       have B3 := hide ((unhide B3).up2 hb5); have HB := hide (Below.upp (unhide HB) hb5)
       clear hRm2 hrow2 hb5)
    | (go_at_call 51; refine (rNumber_any _ _).mono ?_; rintro e w6 ⟨rfl, hb6⟩; unfold Vc; have B3 := hide ((unhide B3).up2 hb6); have HB := hide (Below.upp (unhide HB) hb6); obtain ⟨d0, d1, d2, d3, d4, g0, g1, g2, g3, g4, lt'⟩ := (unhide B3).all; clear hb6))
    exact ret_o Tryz.results16 rfl (unhide B3) rfl (unhide HB) (by omega) rfl
  · rw [show getP 4 T key = ⟨0, 0, ByteArray.empty, ⟨#[]⟩, 0⟩ by simp [getP, h]]
    have hne := key_ne h
    clear h
    unfold Vc at HS HAR ⊢
    go_enter Tryz.func16, Tryz.ntmps16
    go_wp2_with (first
    | (go_at_call 49
       refine (unhide HS _ (unhide HA)).mono ?_
       clear HS
       rintro e w1 ⟨rfl, hb1⟩
       obtain ⟨W3, hW3, e1, e3, e4⟩ := new_box w1 4 N T
       have hb4 := Below.upp hb1 e3
       have B3 := hide ((unhide B3).up2 hb4); have HB := hide (Below.upp (unhide HB) hb4); have HA := hide (Below.upp (unhide HA) hb4)
       have Z1 := hide e1
       obtain ⟨c0, c1, c2, f0, f1, f2, lt⟩ := (unhide Z1).all
       clear hb1 e1 e3 e4 hb4)
    | (go_at_call 53; refine (unhide HAR _ _ _ _ (unhide HB)).mono ?_; rintro e w4 ⟨rfl, hb4⟩; have HB := hide (Below.upp (unhide HB) hb4); have Z1 := hide ((unhide Z1).up2 hb4); have B3 := hide ((unhide B3).up2 hb4); obtain ⟨c0, c1, c2, f0, f1, f2, lt⟩ := (unhide Z1).all; obtain ⟨d0, d1, d2, d3, d4, g0, g1, g2, g3, g4, lt'⟩ := (unhide B3).all; clear hb4)
    )
    exact ret_o Tryz.results16 rfl (unhide B3) rfl (unhide HB) (by omega) rfl
  · rw [show getP 2 T key = ⟨0, 0, ByteArray.empty, ⟨#[]⟩, 0⟩ by simp [getP]]
    unfold Vc at HS HAR ⊢
    go_enter Tryz.func16, Tryz.ntmps16
    go_wp2_with (first
    | (go_at_call 49
       refine (unhide HS _ (unhide HA)).mono ?_
       clear HS
       rintro e w1 ⟨rfl, hb1⟩
       obtain ⟨W3, hW3, e1, e3, e4⟩ := new_box w1 2 N T
       have hb4 := Below.upp hb1 e3
       have B3 := hide ((unhide B3).up2 hb4); have HB := hide (Below.upp (unhide HB) hb4); have HA := hide (Below.upp (unhide HA) hb4)
       have Z1 := hide e1
       obtain ⟨c0, c1, c2, f0, f1, f2, lt⟩ := (unhide Z1).all
       clear hb1 e1 e3 e4 hb4)
    | (go_at_call 53; refine (unhide HAR _ _ _ _ (unhide HB)).mono ?_; rintro e w4 ⟨rfl, hb4⟩; have HB := hide (Below.upp (unhide HB) hb4); have Z1 := hide ((unhide Z1).up2 hb4); have B3 := hide ((unhide B3).up2 hb4); obtain ⟨c0, c1, c2, f0, f1, f2, lt⟩ := (unhide Z1).all; obtain ⟨d0, d1, d2, d3, d4, g0, g1, g2, g3, g4, lt'⟩ := (unhide B3).all; clear hb4)
    )
    exact ret_o Tryz.results16 rfl (unhide B3) rfl (unhide HB) (by omega) rfl
  · rw [show getP 3 T key = ⟨0, 0, ByteArray.empty, ⟨#[]⟩, 0⟩ by simp [getP]]
    unfold Vc at HS HAR ⊢
    go_enter Tryz.func16, Tryz.ntmps16
    go_wp2_with (first
    | (go_at_call 49
       refine (unhide HS _ (unhide HA)).mono ?_
       clear HS
       rintro e w1 ⟨rfl, hb1⟩
       obtain ⟨W3, hW3, e1, e3, e4⟩ := new_box w1 3 N T
       have hb4 := Below.upp hb1 e3
       have B3 := hide ((unhide B3).up2 hb4); have HB := hide (Below.upp (unhide HB) hb4); have HA := hide (Below.upp (unhide HA) hb4)
       have Z1 := hide e1
       obtain ⟨c0, c1, c2, f0, f1, f2, lt⟩ := (unhide Z1).all
       clear hb1 e1 e3 e4 hb4)
    | (go_at_call 53; refine (unhide HAR _ _ _ _ (unhide HB)).mono ?_; rintro e w4 ⟨rfl, hb4⟩; have HB := hide (Below.upp (unhide HB) hb4); have Z1 := hide ((unhide Z1).up2 hb4); have B3 := hide ((unhide B3).up2 hb4); obtain ⟨c0, c1, c2, f0, f1, f2, lt⟩ := (unhide Z1).all; obtain ⟨d0, d1, d2, d3, d4, g0, g1, g2, g3, g4, lt'⟩ := (unhide B3).all; clear hb4)
    )
    exact ret_o Tryz.results16 rfl (unhide B3) rfl (unhide HB) (by omega) rfl
end Go.Proofs.YtdgocaokmmhenaaGreatDoor

/- The document's Heap that has nothing: Set, Has, At, Put. -/
namespace Go.Proofs.YtdgocaokmmhenaaGreatDoor
set_option linter.unusedSimpArgs false
set_option linter.unusedVariables false
set_option maxRecDepth 100000
set_option maxHeartbeats 2000000
open Go.RowKit Go.Shelf

theorem res_bo {P : Program} {fn : Func} {u p : Tmp} {ty : TypeId} (h : fn.results = #[.tmp u, .cell p ty]) (tmps : Array Value) (w : World) (g : Nat) (t : TypeId) (cs : Array Value) (fr : Nat × Nat) (d : TypeDesc)
    (hp : tmps.getD p undef = .pointer (some ⟨g, 0, none⟩)) (hg : w.heap[g]? = some (.cells cs t fr))
    (hu : P.underlying ty = some d) (hd : (match d with | .struct _ | .array _ _ => true | _ => false) = true) (hi : (P.info? ty).map (·.size) = some cs.size) :
    (results fn tmps).run P w = .ok (.tuple #[tmps.getD u undef, .agg cs]) w := by
  have hp' : tmps[p]?.getD undef = .pointer (some ⟨g, 0, none⟩) := by simpa using hp
  simp [results, h, hp', asAddr, run_loadVar_row w g t ty cs fr d hg hu hd hi]
theorem ret_bo {fn : Func} {u p : Tmp} (h : fn.results = #[.tmp u, .cell p 54]) {a : Act} {w W : World} {g : Nat} {B : Nat} {k n f k0 n0 f0 : Int} {t s t0 s0 : ByteArray} {x y z u5 v v0 : Value} (hu : a.tmps.getD u undef = v0) (hp : a.tmps.getD p undef = .pointer (some ⟨g, 0, none⟩)) (hg : Bo w g k0 n0 t0 s0 f0) (hx : #[x, y, z, u5, v] = Oc k n t s f) (hb : Below B W w) (hB : B ≤ g) (hd : a.defers = []) :
    bodyPost Tryz.prog fn (fun e w' => e = .returned (.tuple #[v0, .agg (Oc k n t s f)]) ∧ Below B W w') .ret a (put5 w g x y z u5 v) := by
  refine bodyPost_ret ((res_bo h _ _ g 54 (Oc k n t s f) (0, 0) _ hp (by rw [← hx]; exact Bx.puts5 hg x y z u5 v) Tryz.underlying54 rfl (by rw [info28]; rfl)).trans (by rw [hu])) hd ⟨rfl, below_put5 hb hB _ _ _ _ _⟩
theorem bbo54 (W : World) (k n : Int) (t : ByteArray) (k' n' : Int) (t' : ByteArray) : ∃ W2, ((W.alloc (.cells #[.int .i64 k, .int .i64 n, .string t] 23)).alloc (.cells #[.int .i64 k', .int .i64 n', .string t'] 23)).alloc (.cells #[.int .i64 0, .int .i64 0, .string ⟨#[]⟩, .string ⟨#[]⟩, .int .i64 0] 54) = W2 ∧ Bv W2 W.heap.size k n t ∧ Bv W2 (W.heap.size + 1) k' n' t' ∧ Bo W2 (W.heap.size + 2) 0 0 ⟨#[]⟩ ⟨#[]⟩ 0 ∧ Below W.heap.size W W2 ∧ W2.heap.size = W.heap.size + 3 := by
  refine ⟨_, rfl, ((Bx.new W _ _).alloc _).alloc _, ?_, ?_, below_three _ _ _ _, by simp⟩
  · have := Bx.new (W.alloc (.cells #[.int .i64 k, .int .i64 n, .string t] 23)) (Vc k' n' t') 23
    rw [World.size_alloc] at this
    exact this.alloc _
  · have := Bx.new ((W.alloc (.cells #[.int .i64 k, .int .i64 n, .string t] 23)).alloc (.cells #[.int .i64 k', .int .i64 n', .string t'] 23)) (Oc 0 0 ⟨#[]⟩ ⟨#[]⟩ 0) 54
    rw [World.size_alloc, World.size_alloc] at this
    exact this
theorem bbbo54 (W : World) (k n : Int) (t : ByteArray) (k' n' : Int) (t' : ByteArray) (k2 n2 : Int) (t2 : ByteArray) : ∃ W2, (((W.alloc (.cells #[.int .i64 k, .int .i64 n, .string t] 23)).alloc (.cells #[.int .i64 k', .int .i64 n', .string t'] 23)).alloc (.cells #[.int .i64 k2, .int .i64 n2, .string t2] 23)).alloc (.cells #[.int .i64 0, .int .i64 0, .string ⟨#[]⟩, .string ⟨#[]⟩, .int .i64 0] 54) = W2 ∧ Bv W2 W.heap.size k n t ∧ Bv W2 (W.heap.size + 1) k' n' t' ∧ Bv W2 (W.heap.size + 2) k2 n2 t2 ∧ Bo W2 (W.heap.size + 3) 0 0 ⟨#[]⟩ ⟨#[]⟩ 0 ∧ Below W.heap.size W W2 := by
  obtain ⟨W2, hW2, b1, b2, b3, hb, hz⟩ := boxes3 W k n k' n' k2 n2 t t' t2
  rw [hW2]
  refine ⟨_, rfl, b1.alloc _, b2.alloc _, b3.alloc _, ?_, Below.upp hb (below_one W2 _)⟩
  have := Bx.new W2 (Oc 0 0 ⟨#[]⟩ ⟨#[]⟩ 0) 54
  rw [hz] at this
  exact this
theorem sK_ne5 (k : Int) : (sK k != 5) = true := by
  have := sK_in k
  have h : ¬ sK k = 5 := by omega
  simpa using h
theorem rSet (A : World) (b : Nat) (h : Rp A b) (k n k2 n2 : Int) (t key t2 : ByteArray) : RetA A 17 #[.pointer (some ⟨b, 0, none⟩), .agg (Vc k n t), .string key, .agg (Vc k2 n2 t2)] (.agg (Oc 0 0 ByteArray.empty noMem 1)) := by
  intro W hA
  obtain ⟨W2, hW2, b1, b2, b3, hb, hz⟩ := bbo54 W k n t k2 n2 t2
  obtain ⟨c0, c1, c2, f0, f1, f2, lt⟩ := b1.all
  have HS := hide ((rSane15 A b h k n t).abv (Below.upp hA hb))
  have B3 := hide b3
  have HB := hide hb
  have HA := hide (Below.refl W2.heap.size W2)
  have hne := sK_ne5 k
  generalize sK k = K at *
  generalize sN k n = N at *
  generalize stlT k t = T at *
  clear b1 b2 b3 hb hz h hA
  unfold Vc at HS ⊢
  go_enter Tryz.func17, Tryz.ntmps17
  go_wp2_with (first
    | (go_at_call 49
       refine (unhide HS _ (unhide HA)).mono ?_
       clear HS
       rintro e w1 ⟨rfl, hb1⟩
       obtain ⟨W3, hW3, e1, e3, e4⟩ := new_box w1 K N T
       have hb4 := Below.upp hb1 e3
       have B3 := hide ((unhide B3).up2 hb4); have HB := hide (Below.upp (unhide HB) hb4); have HA := hide (Below.upp (unhide HA) hb4)
       have Z1 := hide e1
       obtain ⟨c0, c1, c2, f0, f1, f2, lt⟩ := (unhide Z1).all
       clear hb1 e1 e3 e4 hb4)
    | (go_at_call 50; refine (rThrow_any noMem _).mono ?_; rintro e w4 ⟨rfl, hb4⟩; unfold Oc; have HB := hide (Below.upp (unhide HB) hb4); have B3 := hide ((unhide B3).up2 hb4); obtain ⟨d0, d1, d2, d3, d4, g0, g1, g2, g3, g4, lt'⟩ := (unhide B3).all; clear hb4))
  exact ret_o Tryz.results17 rfl (unhide B3) rfl (unhide HB) (by omega) rfl
theorem rHas (A : World) (b : Nat) (h : Rp A b) (k n : Int) (t key : ByteArray) : RetA A 19 #[.pointer (some ⟨b, 0, none⟩), .agg (Vc k n t), .string key] (.tuple #[.bool false, .agg (Oc 0 0 ByteArray.empty noInT 1)]) := by
  intro W hA
  obtain ⟨W2, hW2, b1, b3, hb, hz⟩ := box_out54 W k n t
  obtain ⟨c0, c1, c2, f0, f1, f2, lt⟩ := b1.all
  have HS := hide ((rSane15 A b h k n t).abv (Below.upp hA hb))
  have B3 := hide b3
  have HB := hide hb
  have HA := hide (Below.refl W2.heap.size W2)
  have hne := sK_ne5 k
  generalize sK k = K at *
  generalize sN k n = N at *
  generalize stlT k t = T at *
  clear b1 b3 hb hz h hA
  unfold Vc at HS ⊢
  go_enter Tryz.func19, Tryz.ntmps19
  go_wp2_with (first
    | (go_at_call 49
       refine (unhide HS _ (unhide HA)).mono ?_
       clear HS
       rintro e w1 ⟨rfl, hb1⟩
       obtain ⟨W3, hW3, e1, e3, e4⟩ := new_box w1 K N T
       have hb4 := Below.upp hb1 e3
       have B3 := hide ((unhide B3).up2 hb4); have HB := hide (Below.upp (unhide HB) hb4); have HA := hide (Below.upp (unhide HA) hb4)
       have Z1 := hide e1
       obtain ⟨c0, c1, c2, f0, f1, f2, lt⟩ := (unhide Z1).all
       clear hb1 e1 e3 e4 hb4)
    | (go_at_call 50; refine (rThrow_any noInT _).mono ?_; rintro e w4 ⟨rfl, hb4⟩; unfold Oc; have HB := hide (Below.upp (unhide HB) hb4); have B3 := hide ((unhide B3).up2 hb4); obtain ⟨d0, d1, d2, d3, d4, g0, g1, g2, g3, g4, lt'⟩ := (unhide B3).all; clear hb4))
  exact ret_bo Tryz.results19 rfl rfl (unhide B3) rfl (unhide HB) (by omega) rfl
theorem rAt_gen (A : World) (b : Nat) (h : Rp A b) (k n k' n' K N K' N' : Int) (t t' T T' : ByteArray) (r : R5) (HA0 : RetA A 49 #[.pointer (some ⟨b, 0, none⟩), .agg (Vc k n t)] (.agg (Vc K N T))) (HB0 : RetA A 49 #[.pointer (some ⟨b, 0, none⟩), .agg (Vc k' n' t')] (.agg (Vc K' N' T'))) (hz : T.size ≤ 1048576)
    (hr : (K = 0 ∧ r = ⟨0, 0, ByteArray.empty, noMem, 1⟩) ∨ (K = 1 ∧ r = ⟨0, 0, ByteArray.empty, noMem, 1⟩) ∨ ((K == 0) = false ∧ (K == 1) = false ∧ K' = 4 ∧ RetA A 16 #[.pointer (some ⟨b, 0, none⟩), .agg (Vc K N T), .string T'] r.oc) ∨ ((K == 0) = false ∧ (K == 1) = false ∧ (K' == 4) = false ∧ (K' != 3) = true ∧ r = ⟨0, 0, ByteArray.empty, noIdx, 1⟩) ∨
      (K = 4 ∧ K' = 3 ∧ r = runeQ T N') ∨ ((K == 0) = false ∧ (K == 1) = false ∧ (K == 4) = false ∧ K' = 3 ∧ r = zeroR)) :
    RetA A 21 #[.pointer (some ⟨b, 0, none⟩), .agg (Vc k n t), .agg (Vc k' n' t')] r.oc := by
  intro W hA0
  obtain ⟨W2, hW2, b1, b2, b3, hb, hzz⟩ := bbo54 W k n t k' n' t'
  obtain ⟨c0, c1, c2, f0, f1, f2, lt⟩ := b1.all
  have HS := hide (HA0.abv (Below.upp hA0 hb))
  have HT := hide (HB0.abv (Below.upp hA0 hb))
  have HAR := hide ((rarray A b h K N T).abv hA0)
  have HAA := hide hA0
  have B2 := hide b2
  have B3 := hide b3
  have HB := hide hb
  have HA := hide (Below.refl W2.heap.size W2)
  have HTZ := hide hz
  clear b1 b2 b3 hb hzz h HA0 HB0 hA0 hz
  rcases hr with ⟨rfl, rfl⟩ | ⟨rfl, rfl⟩ | ⟨e0, e1, rfl, hG⟩ | ⟨e0, e1, e2, e3, rfl⟩ | ⟨rfl, rfl, rfl⟩ | ⟨e0, e1, e2, rfl, rfl⟩
  · unfold Vc at HS HT HAR ⊢
    go_enter Tryz.func21, Tryz.ntmps21
    go_wp2_with (first
    | (go_at_call 49
       refine (unhide HS _ (unhide HA)).mono ?_
       clear HS
       rintro e w1 ⟨rfl, hb1⟩
       obtain ⟨W3, hW3, e1, e3, e4⟩ := new_box w1 0 N T
       have hb4 := Below.upp hb1 e3
       have B2 := hide ((unhide B2).up2 hb4); have B3 := hide ((unhide B3).up2 hb4); have HB := hide (Below.upp (unhide HB) hb4); have HA := hide (Below.upp (unhide HA) hb4)
       have Z1 := hide e1
       obtain ⟨x0, x1, x2, y0, y1, y2, ly⟩ := (unhide B2).all
       clear hb1 e1 e3 e4 hb4)
    | (go_at_call 49
       refine (unhide HT _ (unhide HA)).mono ?_
       clear HT
       rintro e w1 ⟨rfl, hb1⟩
       obtain ⟨W3, hW3, e1, e3, e4⟩ := new_box w1 K' N' T'
       have hb4 := Below.upp hb1 e3
       have Z1 := hide ((unhide Z1).up2 hb4); have B3 := hide ((unhide B3).up2 hb4); have HB := hide (Below.upp (unhide HB) hb4); have HA := hide (Below.upp (unhide HA) hb4)
       have Z2 := hide e1
       obtain ⟨c0, c1, c2, f0, f1, f2, lt⟩ := (unhide Z1).all; obtain ⟨x0, x1, x2, y0, y1, y2, ly⟩ := (unhide Z2).all; obtain ⟨d0, d1, d2, d3, d4, g0, g1, g2, g3, g4, lt'⟩ := (unhide B3).all
       clear hb1 e1 e3 e4 hb4)
    | (go_at_call 50; refine (rThrow_any noMem _).mono ?_; rintro e w4 ⟨rfl, hb4⟩; unfold Oc; have HB := hide (Below.upp (unhide HB) hb4); have B3 := hide ((unhide B3).up2 hb4); obtain ⟨d0, d1, d2, d3, d4, g0, g1, g2, g3, g4, lt'⟩ := (unhide B3).all; clear hb4)
    )
    exact ret_o Tryz.results21 rfl (unhide B3) rfl (unhide HB) (by omega) rfl
  · unfold Vc at HS HT HAR ⊢
    go_enter Tryz.func21, Tryz.ntmps21
    go_wp2_with (first
    | (go_at_call 49
       refine (unhide HS _ (unhide HA)).mono ?_
       clear HS
       rintro e w1 ⟨rfl, hb1⟩
       obtain ⟨W3, hW3, e1, e3, e4⟩ := new_box w1 1 N T
       have hb4 := Below.upp hb1 e3
       have B2 := hide ((unhide B2).up2 hb4); have B3 := hide ((unhide B3).up2 hb4); have HB := hide (Below.upp (unhide HB) hb4); have HA := hide (Below.upp (unhide HA) hb4)
       have Z1 := hide e1
       obtain ⟨x0, x1, x2, y0, y1, y2, ly⟩ := (unhide B2).all
       clear hb1 e1 e3 e4 hb4)
    | (go_at_call 49
       refine (unhide HT _ (unhide HA)).mono ?_
       clear HT
       rintro e w1 ⟨rfl, hb1⟩
       obtain ⟨W3, hW3, e1, e3, e4⟩ := new_box w1 K' N' T'
       have hb4 := Below.upp hb1 e3
       have Z1 := hide ((unhide Z1).up2 hb4); have B3 := hide ((unhide B3).up2 hb4); have HB := hide (Below.upp (unhide HB) hb4); have HA := hide (Below.upp (unhide HA) hb4)
       have Z2 := hide e1
       obtain ⟨c0, c1, c2, f0, f1, f2, lt⟩ := (unhide Z1).all; obtain ⟨x0, x1, x2, y0, y1, y2, ly⟩ := (unhide Z2).all; obtain ⟨d0, d1, d2, d3, d4, g0, g1, g2, g3, g4, lt'⟩ := (unhide B3).all
       clear hb1 e1 e3 e4 hb4)
    | (go_at_call 50; refine (rThrow_any noMem _).mono ?_; rintro e w4 ⟨rfl, hb4⟩; unfold Oc; have HB := hide (Below.upp (unhide HB) hb4); have B3 := hide ((unhide B3).up2 hb4); obtain ⟨d0, d1, d2, d3, d4, g0, g1, g2, g3, g4, lt'⟩ := (unhide B3).all; clear hb4)
    )
    exact ret_o Tryz.results21 rfl (unhide B3) rfl (unhide HB) (by omega) rfl
  · have HG := hide (hG.abv (unhide HAA))
    clear hG
    unfold R5.oc Oc Vc at HG
    unfold Vc at HS HT HAR ⊢
    go_enter Tryz.func21, Tryz.ntmps21
    go_wp2_with (first
    | (go_at_call 49
       refine (unhide HS _ (unhide HA)).mono ?_
       clear HS
       rintro e w1 ⟨rfl, hb1⟩
       obtain ⟨W3, hW3, e1, e3, e4⟩ := new_box w1 K N T
       have hb4 := Below.upp hb1 e3
       have B2 := hide ((unhide B2).up2 hb4); have B3 := hide ((unhide B3).up2 hb4); have HB := hide (Below.upp (unhide HB) hb4); have HA := hide (Below.upp (unhide HA) hb4)
       have Z1 := hide e1
       obtain ⟨x0, x1, x2, y0, y1, y2, ly⟩ := (unhide B2).all
       clear hb1 e1 e3 e4 hb4)
    | (go_at_call 49
       refine (unhide HT _ (unhide HA)).mono ?_
       clear HT
       rintro e w1 ⟨rfl, hb1⟩
       obtain ⟨W3, hW3, e1, e3, e4⟩ := new_box w1 4 N' T'
       have hb4 := Below.upp hb1 e3
       have Z1 := hide ((unhide Z1).up2 hb4); have B3 := hide ((unhide B3).up2 hb4); have HB := hide (Below.upp (unhide HB) hb4); have HA := hide (Below.upp (unhide HA) hb4)
       have Z2 := hide e1
       obtain ⟨c0, c1, c2, f0, f1, f2, lt⟩ := (unhide Z1).all; obtain ⟨x0, x1, x2, y0, y1, y2, ly⟩ := (unhide Z2).all; obtain ⟨d0, d1, d2, d3, d4, g0, g1, g2, g3, g4, lt'⟩ := (unhide B3).all
       clear hb1 e1 e3 e4 hb4)
    | (go_at_call 16; refine (unhide HG _ (unhide HB)).mono ?_; rintro e w4 ⟨rfl, hb4⟩; have HB := hide (Below.upp (unhide HB) hb4); have B3 := hide ((unhide B3).up2 hb4); obtain ⟨d0, d1, d2, d3, d4, g0, g1, g2, g3, g4, lt'⟩ := (unhide B3).all; clear hb4)
    )
    exact ret_o Tryz.results21 rfl (unhide B3) rfl (unhide HB) (by omega) rfl
  · unfold Vc at HS HT HAR ⊢
    go_enter Tryz.func21, Tryz.ntmps21
    go_wp2_with (first
    | (go_at_call 49
       refine (unhide HS _ (unhide HA)).mono ?_
       clear HS
       rintro e w1 ⟨rfl, hb1⟩
       obtain ⟨W3, hW3, e1, e3, e4⟩ := new_box w1 K N T
       have hb4 := Below.upp hb1 e3
       have B2 := hide ((unhide B2).up2 hb4); have B3 := hide ((unhide B3).up2 hb4); have HB := hide (Below.upp (unhide HB) hb4); have HA := hide (Below.upp (unhide HA) hb4)
       have Z1 := hide e1
       obtain ⟨x0, x1, x2, y0, y1, y2, ly⟩ := (unhide B2).all
       clear hb1 e1 e3 e4 hb4)
    | (go_at_call 49
       refine (unhide HT _ (unhide HA)).mono ?_
       clear HT
       rintro e w1 ⟨rfl, hb1⟩
       obtain ⟨W3, hW3, e1, e3, e4⟩ := new_box w1 K' N' T'
       have hb4 := Below.upp hb1 e3
       have Z1 := hide ((unhide Z1).up2 hb4); have B3 := hide ((unhide B3).up2 hb4); have HB := hide (Below.upp (unhide HB) hb4); have HA := hide (Below.upp (unhide HA) hb4)
       have Z2 := hide e1
       obtain ⟨c0, c1, c2, f0, f1, f2, lt⟩ := (unhide Z1).all; obtain ⟨x0, x1, x2, y0, y1, y2, ly⟩ := (unhide Z2).all; obtain ⟨d0, d1, d2, d3, d4, g0, g1, g2, g3, g4, lt'⟩ := (unhide B3).all
       clear hb1 e1 e3 e4 hb4)
    | (go_at_call 50; refine (rThrow_any noIdx _).mono ?_; rintro e w4 ⟨rfl, hb4⟩; unfold Oc; have HB := hide (Below.upp (unhide HB) hb4); have B3 := hide ((unhide B3).up2 hb4); obtain ⟨d0, d1, d2, d3, d4, g0, g1, g2, g3, g4, lt'⟩ := (unhide B3).all; clear hb4)
    )
    exact ret_o Tryz.results21 rfl (unhide B3) rfl (unhide HB) (by omega) rfl
  · obtain ⟨m, hm, _⟩ := runes_exist (gS T) T.size
    have hc := count_is T m hm
    have HM := hide hm
    have gm : (m : Int) ≤ 1048576 := by have := hm.le; have := unhide HTZ; omega
    by_cases hin : 0 ≤ N' ∧ N' < (m : Int)
    · have hq : runeQ T N' = ⟨4, 0, Utf8.encode (rn T N'.toNat), ⟨#[]⟩, 0⟩ := by unfold runeQ; rw [hc, if_pos hin]
      rw [hq]
      obtain ⟨j, rfl⟩ : ∃ j : Nat, N' = j := ⟨N'.toNat, by omega⟩
      have hj : j < m := by omega
      have gj : (j : Int) < (m : Int) := hin.2
      have gj2 : (j : Int) ≤ 1048576 := by omega
      obtain ⟨u, hu⟩ : ∃ u, Utf8.encode (rn T j) = u := ⟨_, rfl⟩
      have hu' : Utf8.encode (rn T (j : Int).toNat) = u := by rw [Int.toNat_natCast]; exact hu
      rw [hu']
      have HU := hide hu
      clear hq hu hu' hin hm hc
      unfold Vc at HS HT HAR ⊢
      go_enter Tryz.func21, Tryz.ntmps21
      go_wp2_with (first
      | (go_at_call 49
         refine (unhide HS _ (unhide HA)).mono ?_
         clear HS
         rintro e w1 ⟨rfl, hb1⟩
         obtain ⟨W3, hW3, e1, e3, e4⟩ := new_box w1 4 N T
         have hb4 := Below.upp hb1 e3
         have B2 := hide ((unhide B2).up2 hb4); have B3 := hide ((unhide B3).up2 hb4); have HB := hide (Below.upp (unhide HB) hb4); have HA := hide (Below.upp (unhide HA) hb4)
         have Z1 := hide e1
         obtain ⟨x0, x1, x2, y0, y1, y2, ly⟩ := (unhide B2).all
         clear hb1 e1 e3 e4 hb4)
      | (go_at_call 49
         refine (unhide HT _ (unhide HA)).mono ?_
         clear HT
         rintro e w1 ⟨rfl, hb1⟩
         obtain ⟨W3, hW3, e1, e3, e4⟩ := new_box w1 3 j T'
         have hb4 := Below.upp hb1 e3
         have Z1 := hide ((unhide Z1).up2 hb4); have B3 := hide ((unhide B3).up2 hb4); have HB := hide (Below.upp (unhide HB) hb4)
         have Z2 := hide e1
         obtain ⟨c0, c1, c2, f0, f1, f2, lt⟩ := (unhide Z1).all
         obtain ⟨x0, x1, x2, y0, y1, y2, ly⟩ := (unhide Z2).all
         obtain ⟨cap2, C2, fr2, hcv2, hR2⟩ := runes_of T W3 (unhide HTZ)
         have HR2 := hide hR2
         clear hb1 e1 e3 e4 hb4 hR2)
      | (go_at_call 52
         refine (unhide HR2).mono ?_
         clear HR2
         rintro e w5 ⟨m2, ao2, cp2, rfl, hRm2, hrow2, hb5⟩
         obtain rfl := Runes.unique hRm2 (unhide HM)
         obtain ⟨gg, rfl, _, hcell⟩ := hrow2 j hj
         have Z2 := hide ((unhide Z2).up2 hb5); have B3 := hide ((unhide B3).up2 hb5); have HB := hide (Below.upp (unhide HB) hb5)
         obtain ⟨x0, x1, x2, y0, y1, y2, ly⟩ := (unhide Z2).all
         obtain ⟨d0, d1, d2, d3, d4, g0, g1, g2, g3, g4, lt'⟩ := (unhide B3).all
         clear hRm2 hrow2 hb5)
      | (go_at_call 59; rw [unhide HU]; refine (rString_any u _).mono ?_; rintro e w6 ⟨rfl, hb6⟩; unfold Vc; have HB := hide (Below.upp (unhide HB) hb6); have B3 := hide ((unhide B3).up2 hb6); obtain ⟨d0, d1, d2, d3, d4, g0, g1, g2, g3, g4, lt'⟩ := (unhide B3).all; clear hb6))
      exact ret_o Tryz.results21 rfl (unhide B3) rfl (unhide HB) (by omega) rfl
    · have hq : runeQ T N' = zeroR := by unfold runeQ; rw [hc, if_neg hin]
      rw [hq]
      unfold zeroR
      clear hq hm hc
      by_cases hn : 0 ≤ N'
      · have q1 : ¬ N' < (m : Int) := fun h => hin ⟨hn, h⟩
        have q2 : (m : Int) ≤ N' := by omega
        clear hin
        unfold Vc at HS HT HAR ⊢
        go_enter Tryz.func21, Tryz.ntmps21
        go_wp2_with (first
        | (go_at_call 49
           refine (unhide HS _ (unhide HA)).mono ?_
           clear HS
           rintro e w1 ⟨rfl, hb1⟩
           obtain ⟨W3, hW3, e1, e3, e4⟩ := new_box w1 4 N T
           have hb4 := Below.upp hb1 e3
           have B2 := hide ((unhide B2).up2 hb4); have B3 := hide ((unhide B3).up2 hb4); have HB := hide (Below.upp (unhide HB) hb4); have HA := hide (Below.upp (unhide HA) hb4)
           have Z1 := hide e1
           obtain ⟨x0, x1, x2, y0, y1, y2, ly⟩ := (unhide B2).all
           clear hb1 e1 e3 e4 hb4)
        | (go_at_call 49
           refine (unhide HT _ (unhide HA)).mono ?_
           clear HT
           rintro e w1 ⟨rfl, hb1⟩
           obtain ⟨W3, hW3, e1, e3, e4⟩ := new_box w1 3 N' T'
           have hb4 := Below.upp hb1 e3
           have Z1 := hide ((unhide Z1).up2 hb4); have B3 := hide ((unhide B3).up2 hb4); have HB := hide (Below.upp (unhide HB) hb4)
           have Z2 := hide e1
           obtain ⟨c0, c1, c2, f0, f1, f2, lt⟩ := (unhide Z1).all
           obtain ⟨x0, x1, x2, y0, y1, y2, ly⟩ := (unhide Z2).all
           obtain ⟨cap2, C2, fr2, hcv2, hR2⟩ := runes_of T W3 (unhide HTZ)
           have HR2 := hide hR2
           clear hb1 e1 e3 e4 hb4 hR2)
        | (go_at_call 52
           refine (unhide HR2).mono ?_
           clear HR2
           rintro e w5 ⟨m2, ao2, cp2, rfl, hRm2, hrow2, hb5⟩
           obtain rfl := Runes.unique hRm2 (unhide HM)
           have HROW := hide hrow2
           have Z2 := hide ((unhide Z2).up2 hb5); have B3 := hide ((unhide B3).up2 hb5); have HB := hide (Below.upp (unhide HB) hb5)
           obtain ⟨x0, x1, x2, y0, y1, y2, ly⟩ := (unhide Z2).all
           obtain ⟨d0, d1, d2, d3, d4, g0, g1, g2, g3, g4, lt'⟩ := (unhide B3).all
           clear hRm2 hrow2 hb5))
        exact ret_o Tryz.results21 rfl (unhide B3) rfl (unhide HB) (by omega) rfl
      · have q2 : N' < 0 := by omega
        clear hin hn
        unfold Vc at HS HT HAR ⊢
        go_enter Tryz.func21, Tryz.ntmps21
        go_wp2_with (first
        | (go_at_call 49
           refine (unhide HS _ (unhide HA)).mono ?_
           clear HS
           rintro e w1 ⟨rfl, hb1⟩
           obtain ⟨W3, hW3, e1, e3, e4⟩ := new_box w1 4 N T
           have hb4 := Below.upp hb1 e3
           have B2 := hide ((unhide B2).up2 hb4); have B3 := hide ((unhide B3).up2 hb4); have HB := hide (Below.upp (unhide HB) hb4); have HA := hide (Below.upp (unhide HA) hb4)
           have Z1 := hide e1
           obtain ⟨x0, x1, x2, y0, y1, y2, ly⟩ := (unhide B2).all
           clear hb1 e1 e3 e4 hb4)
        | (go_at_call 49
           refine (unhide HT _ (unhide HA)).mono ?_
           clear HT
           rintro e w1 ⟨rfl, hb1⟩
           obtain ⟨W3, hW3, e1, e3, e4⟩ := new_box w1 3 N' T'
           have hb4 := Below.upp hb1 e3
           have Z1 := hide ((unhide Z1).up2 hb4); have B3 := hide ((unhide B3).up2 hb4); have HB := hide (Below.upp (unhide HB) hb4)
           have Z2 := hide e1
           obtain ⟨c0, c1, c2, f0, f1, f2, lt⟩ := (unhide Z1).all
           obtain ⟨x0, x1, x2, y0, y1, y2, ly⟩ := (unhide Z2).all
           obtain ⟨cap2, C2, fr2, hcv2, hR2⟩ := runes_of T W3 (unhide HTZ)
           have HR2 := hide hR2
           clear hb1 e1 e3 e4 hb4 hR2)
        | (go_at_call 52
           refine (unhide HR2).mono ?_
           clear HR2
           rintro e w5 ⟨m2, ao2, cp2, rfl, hRm2, hrow2, hb5⟩
           obtain rfl := Runes.unique hRm2 (unhide HM)
           have HROW := hide hrow2
           have Z2 := hide ((unhide Z2).up2 hb5); have B3 := hide ((unhide B3).up2 hb5); have HB := hide (Below.upp (unhide HB) hb5)
           obtain ⟨x0, x1, x2, y0, y1, y2, ly⟩ := (unhide Z2).all
           obtain ⟨d0, d1, d2, d3, d4, g0, g1, g2, g3, g4, lt'⟩ := (unhide B3).all
           clear hRm2 hrow2 hb5))
        exact ret_o Tryz.results21 rfl (unhide B3) rfl (unhide HB) (by omega) rfl
  · unfold Vc at HS HT HAR ⊢
    go_enter Tryz.func21, Tryz.ntmps21
    go_wp2_with (first
    | (go_at_call 49
       refine (unhide HS _ (unhide HA)).mono ?_
       clear HS
       rintro e w1 ⟨rfl, hb1⟩
       obtain ⟨W3, hW3, e1, e3, e4⟩ := new_box w1 K N T
       have hb4 := Below.upp hb1 e3
       have B2 := hide ((unhide B2).up2 hb4); have B3 := hide ((unhide B3).up2 hb4); have HB := hide (Below.upp (unhide HB) hb4); have HA := hide (Below.upp (unhide HA) hb4)
       have Z1 := hide e1
       obtain ⟨x0, x1, x2, y0, y1, y2, ly⟩ := (unhide B2).all
       clear hb1 e1 e3 e4 hb4)
    | (go_at_call 49
       refine (unhide HT _ (unhide HA)).mono ?_
       clear HT
       rintro e w1 ⟨rfl, hb1⟩
       obtain ⟨W3, hW3, e1, e3, e4⟩ := new_box w1 3 N' T'
       have hb4 := Below.upp hb1 e3
       have Z1 := hide ((unhide Z1).up2 hb4); have B3 := hide ((unhide B3).up2 hb4); have HB := hide (Below.upp (unhide HB) hb4); have HA := hide (Below.upp (unhide HA) hb4)
       have Z2 := hide e1
       obtain ⟨c0, c1, c2, f0, f1, f2, lt⟩ := (unhide Z1).all; obtain ⟨x0, x1, x2, y0, y1, y2, ly⟩ := (unhide Z2).all; obtain ⟨d0, d1, d2, d3, d4, g0, g1, g2, g3, g4, lt'⟩ := (unhide B3).all
       clear hb1 e1 e3 e4 hb4)
    | (go_at_call 53; refine (unhide HAR _ (unhide HB)).mono ?_; rintro e w4 ⟨rfl, hb4⟩; have HB := hide (Below.upp (unhide HB) hb4); have B3 := hide ((unhide B3).up2 hb4); obtain ⟨d0, d1, d2, d3, d4, g0, g1, g2, g3, g4, lt'⟩ := (unhide B3).all; clear hb4)
    )
    exact ret_o Tryz.results21 rfl (unhide B3) rfl (unhide HB) (by omega) rfl
theorem rAt (A : World) (b : Nat) (h : Rp A b) (k n k' n' : Int) (t t' : ByteArray) (ht : t.size ≤ 1048576) : RetA A 21 #[.pointer (some ⟨b, 0, none⟩), .agg (Vc k n t), .agg (Vc k' n' t')] (atQ (sK k) (stlT k t) (sK k') (sN k' n') (stlT k' t')).oc := by
  have HA := rSane15 A b h k n t
  have HB := rSane15 A b h k' n' t'
  have hK := sK_in k
  have hz := stlT_le k t _ ht
  have HG := rGet A b h (sK k) (sN k n) (stlT k t) (stlT k' t') hz
  rw [sK_sK, sT_id] at HG
  generalize sK k = K at *
  generalize sN k n = N at *
  generalize stlT k t = T at *
  generalize sK k' = K' at *
  generalize sN k' n' = N' at *
  generalize stlT k' t' = T' at *
  refine rAt_gen A b h k n k' n' K N K' N' t t' T T' _ HA HB hz ?_
  unfold atQ
  by_cases h0 : K = 0
  · exact .inl ⟨h0, by rw [if_pos (.inl h0)]⟩
  by_cases h1 : K = 1
  · exact .inr (.inl ⟨h1, by rw [if_pos (.inr h1)]⟩)
  have q0 : (K == 0) = false := by simpa using h0
  have q1 : (K == 1) = false := by simpa using h1
  rw [if_neg (by omega)]
  by_cases h4 : K' = 4
  · rw [if_pos h4]; exact .inr (.inr (.inl ⟨q0, q1, h4, HG⟩))
  rw [if_neg h4]
  have q4 : (K' == 4) = false := by simpa using h4
  by_cases h3 : K' = 3
  · rw [if_pos h3]
    by_cases hk : K = 4
    · rw [if_pos hk]
      exact .inr (.inr (.inr (.inr (.inl ⟨hk, h3, rfl⟩))))
    · rw [if_neg hk]
      exact .inr (.inr (.inr (.inr (.inr ⟨q0, q1, by simpa using hk, h3, rfl⟩))))
  · rw [if_neg h3]
    exact .inr (.inr (.inr (.inl ⟨q0, q1, q4, by simpa using h3, rfl⟩)))
theorem rPut (A : World) (b : Nat) (h : Rp A b) (k n k' n' k2 n2 : Int) (t t' t2 : ByteArray) : RetA A 23 #[.pointer (some ⟨b, 0, none⟩), .agg (Vc k n t), .agg (Vc k' n' t'), .agg (Vc k2 n2 t2)] (.agg (Oc 0 0 ByteArray.empty (putT (sK k')) 1)) := by
  intro W hA
  obtain ⟨W2, hW2, b1, b2, b4, b3, hb⟩ := bbbo54 W k n t k' n' t' k2 n2 t2
  obtain ⟨c0, c1, c2, f0, f1, f2, lt⟩ := b1.all
  have HS := hide ((rSane15 A b h k n t).abv (Below.upp hA hb))
  have HT := hide ((rSane15 A b h k' n' t').abv (Below.upp hA hb))
  have HAR := hide ((rarray A b h (sK k) (sN k n) (stlT k t)).abv hA)
  have HST := hide ((rSet A b h (sK k) (sN k n) k2 n2 (stlT k t) (stlT k' t') t2).abv hA)
  have B2 := hide b2
  have B3 := hide b3
  have B4 := hide b4
  have HB := hide hb
  have HA := hide (Below.refl W2.heap.size W2)
  generalize sK k = K at *
  generalize sN k n = N at *
  generalize stlT k t = T at *
  generalize sK k' = K' at *
  generalize sN k' n' = N' at *
  generalize stlT k' t' = T' at *
  clear b1 b2 b3 b4 hb h hA
  by_cases h4 : K' = 4
  · subst h4
    rw [show putT 4 = noMem from rfl]
    unfold Vc at HS HT HAR HST ⊢
    unfold Oc at HST
    go_enter Tryz.func23, Tryz.ntmps23
    go_wp2_with (first
    | (go_at_call 49
       refine (unhide HS _ (unhide HA)).mono ?_
       clear HS
       rintro e w1 ⟨rfl, hb1⟩
       obtain ⟨W3, hW3, e1, e3, e4⟩ := new_box w1 K N T
       have hb4 := Below.upp hb1 e3
       have B2 := hide ((unhide B2).up2 hb4); have B3 := hide ((unhide B3).up2 hb4); have B4 := hide ((unhide B4).up2 hb4); have HB := hide (Below.upp (unhide HB) hb4); have HA := hide (Below.upp (unhide HA) hb4)
       have Z1 := hide e1
       obtain ⟨x0, x1, x2, y0, y1, y2, ly⟩ := (unhide B2).all
       clear hb1 e1 e3 e4 hb4)
    | (go_at_call 49
       refine (unhide HT _ (unhide HA)).mono ?_
       clear HT
       rintro e w1 ⟨rfl, hb1⟩
       obtain ⟨W3, hW3, e1, e3, e4⟩ := new_box w1 4 N' T'
       have hb4 := Below.upp hb1 e3
       have Z1 := hide ((unhide Z1).up2 hb4); have B3 := hide ((unhide B3).up2 hb4); have B4 := hide ((unhide B4).up2 hb4); have HB := hide (Below.upp (unhide HB) hb4); have HA := hide (Below.upp (unhide HA) hb4)
       have Z2 := hide e1
       obtain ⟨c0, c1, c2, f0, f1, f2, lt⟩ := (unhide Z1).all; obtain ⟨x0, x1, x2, y0, y1, y2, ly⟩ := (unhide Z2).all; obtain ⟨d0, d1, d2, d3, d4, g0, g1, g2, g3, g4, lt'⟩ := (unhide B3).all
       clear hb1 e1 e3 e4 hb4)
    | (go_at_call 53; refine (unhide HAR _ (unhide HB)).mono ?_; rintro e w4 ⟨rfl, hb4⟩; have HB := hide (Below.upp (unhide HB) hb4); have Z1 := hide ((unhide Z1).up2 hb4); have Z2 := hide ((unhide Z2).up2 hb4); have B3 := hide ((unhide B3).up2 hb4); have B4 := hide ((unhide B4).up2 hb4); obtain ⟨c0, c1, c2, f0, f1, f2, lt⟩ := (unhide Z1).all; obtain ⟨x0, x1, x2, y0, y1, y2, ly⟩ := (unhide Z2).all; obtain ⟨d0, d1, d2, d3, d4, g0, g1, g2, g3, g4, lt'⟩ := (unhide B3).all; obtain ⟨m0, m1, m2, o0, o1, o2, lm⟩ := (unhide B4).all; clear hb4)
    | (go_at_call 17; refine (unhide HST _ (unhide HB)).mono ?_; rintro e w5 ⟨rfl, hb5⟩; have HB := hide (Below.upp (unhide HB) hb5); have B3 := hide ((unhide B3).up2 hb5); obtain ⟨d0, d1, d2, d3, d4, g0, g1, g2, g3, g4, lt'⟩ := (unhide B3).all; clear hb5))
    exact ret_o Tryz.results23 rfl (unhide B3) rfl (unhide HB) (by omega) rfl
  · have hK : (K' == 4) = false := by simpa using h4
    rw [show putT K' = noIdx by simp [putT, h4]]
    clear h4
    unfold Vc at HS HT HAR HST ⊢
    go_enter Tryz.func23, Tryz.ntmps23
    go_wp2_with (first
    | (go_at_call 49
       refine (unhide HS _ (unhide HA)).mono ?_
       clear HS
       rintro e w1 ⟨rfl, hb1⟩
       obtain ⟨W3, hW3, e1, e3, e4⟩ := new_box w1 K N T
       have hb4 := Below.upp hb1 e3
       have B2 := hide ((unhide B2).up2 hb4); have B3 := hide ((unhide B3).up2 hb4); have B4 := hide ((unhide B4).up2 hb4); have HB := hide (Below.upp (unhide HB) hb4); have HA := hide (Below.upp (unhide HA) hb4)
       have Z1 := hide e1
       obtain ⟨x0, x1, x2, y0, y1, y2, ly⟩ := (unhide B2).all
       clear hb1 e1 e3 e4 hb4)
    | (go_at_call 49
       refine (unhide HT _ (unhide HA)).mono ?_
       clear HT
       rintro e w1 ⟨rfl, hb1⟩
       obtain ⟨W3, hW3, e1, e3, e4⟩ := new_box w1 K' N' T'
       have hb4 := Below.upp hb1 e3
       have Z1 := hide ((unhide Z1).up2 hb4); have B3 := hide ((unhide B3).up2 hb4); have B4 := hide ((unhide B4).up2 hb4); have HB := hide (Below.upp (unhide HB) hb4); have HA := hide (Below.upp (unhide HA) hb4)
       have Z2 := hide e1
       obtain ⟨c0, c1, c2, f0, f1, f2, lt⟩ := (unhide Z1).all; obtain ⟨x0, x1, x2, y0, y1, y2, ly⟩ := (unhide Z2).all; obtain ⟨d0, d1, d2, d3, d4, g0, g1, g2, g3, g4, lt'⟩ := (unhide B3).all
       clear hb1 e1 e3 e4 hb4)
    | (go_at_call 53; refine (unhide HAR _ (unhide HB)).mono ?_; rintro e w4 ⟨rfl, hb4⟩; have HB := hide (Below.upp (unhide HB) hb4); have Z1 := hide ((unhide Z1).up2 hb4); have Z2 := hide ((unhide Z2).up2 hb4); have B3 := hide ((unhide B3).up2 hb4); have B4 := hide ((unhide B4).up2 hb4); obtain ⟨c0, c1, c2, f0, f1, f2, lt⟩ := (unhide Z1).all; obtain ⟨x0, x1, x2, y0, y1, y2, ly⟩ := (unhide Z2).all; obtain ⟨d0, d1, d2, d3, d4, g0, g1, g2, g3, g4, lt'⟩ := (unhide B3).all; obtain ⟨m0, m1, m2, o0, o1, o2, lm⟩ := (unhide B4).all; clear hb4)
    | (go_at_call 50; refine (rThrow_any noIdx _).mono ?_; rintro e w4 ⟨rfl, hb4⟩; unfold Oc; have HB := hide (Below.upp (unhide HB) hb4); have B3 := hide ((unhide B3).up2 hb4); obtain ⟨d0, d1, d2, d3, d4, g0, g1, g2, g3, g4, lt'⟩ := (unhide B3).all; clear hb4))
    exact ret_o Tryz.results23 rfl (unhide B3) rfl (unhide HB) (by omega) rfl
end Go.Proofs.YtdgocaokmmhenaaGreatDoor
