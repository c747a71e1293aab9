/- Merged: N1, N2, N3. -/
import Derived.BigQuiet
import Derived.Test.YtdgocaokmmhenaaGreatDoorH7
import Derived.Test.YtdgocaokmmhenaaGreatDoorHA
import Derived.Test.YtdgocaokmmhenaaGreatDoorVUB
import Derived.Test.YtdgocaokmmhenaaGreatDoorVX
import Derived.Test.YtdgocaokmmhenaaGreatDoorVY1
/- A Heap that has nothing, nil or a new one: what its small functions answer. -/
namespace Go.Proofs.YtdgocaokmmhenaaGreatDoor
set_option linter.unusedSimpArgs false
set_option linter.unusedVariables false
set_option maxRecDepth 100000
set_option maxHeartbeats 1000000
open Go.RowKit Go.Shelf

/-- A Heap that has nothing. -/
def Hp (A : World) (p : Value) : Prop := p = .pointer none ∨ ∃ b, p = .pointer (some ⟨b, 0, none⟩) ∧ Bx A b #[.int .i64 0, .int .i64 0, .slice none 0 0] 36
theorem Hp.up {A W : World} {p : Value} (h : Hp A p) (hA : Below A.heap.size A W) : Hp W p := by
  rcases h with h | ⟨b, e, hx⟩
  · exact .inl h
  · exact .inr ⟨b, e, Bx.below hx hA (Bx.lt hx)⟩
theorem nthing (A : World) (p : Value) (h : Hp A p) (n : Int) : RetA A 61 #[p, .int .i64 n] (.tuple #[.nilIface, .bool false]) := by
  intro W hA
  have h' := h.up hA
  clear h hA
  rcases h' with rfl | ⟨b, rfl, hx⟩
  · go_enter Tryz.func61, Tryz.ntmps61
    go_wp2
    refine bodyPost_ret (by simp [results, Tryz.results61, go_sem]) rfl ⟨rfl, Below.refl _ _⟩
  · have c2 := Bx.cell hx 2 rfl
    by_cases e1 : n < 0
    · go_enter Tryz.func61, Tryz.ntmps61
      go_wp2
      refine bodyPost_ret (by simp [results, Tryz.results61, go_sem]) rfl ⟨rfl, Below.refl _ _⟩
    · have e2 : (0 : Int) ≤ n := by omega
      go_enter Tryz.func61, Tryz.ntmps61
      go_wp2
      refine bodyPost_ret (by simp [results, Tryz.results61, go_sem]) rfl ⟨rfl, Below.refl _ _⟩
theorem nthingOf (A : World) (p : Value) (h : Hp A p) (k n : Int) (t : ByteArray) : RetA A 42 #[p, .agg (Vc k n t)] (.tuple #[.nilIface, .bool false]) := by
  intro W hA
  by_cases hk : k = 5
  · subst hk
    obtain ⟨W2, hW2, b1, hb, hz⟩ := new_box W 5 n t
    obtain ⟨c0, c1, c2, f0, f1, f2, lt⟩ := b1.all
    have HT := hide (nthing A p h n W2 (Below.upp hA hb))
    have HB := hide hb
    unfold Vc
    clear h hA b1 hb hz
    go_enter Tryz.func42, Tryz.ntmps42
    go_wp2_with (go_at_call 61; refine (unhide HT).mono ?_; rintro e w1 ⟨rfl, q⟩; have HB1 := hide (Below.upp (unhide HB) q); clear q)
    refine bodyPost_ret (by simp [results, Tryz.results42, go_sem]) rfl ⟨rfl, unhide HB1⟩
  · exact thingOf_no k n t hk p W
/-- A value as it counts where there is no thing. -/
def sK (k : Int) : Int := if k = 5 then 0 else stlK k
def sN (k n : Int) : Int := if k = 5 then 0 else stlN k n
theorem nsettled_5 (A : World) (p : Value) (h : Hp A p) (n : Int) (t : ByteArray) : RetA A 41 #[p, .agg (Vc 5 n t)] (.agg (Vc 0 0 ByteArray.empty)) := by
  intro W hA
  unfold Vc
  obtain ⟨W2, hW2, b1, b2, hb', hz⟩ := two_boxes W 5 n t
  obtain ⟨c0, c1, c2, f0, f1, f2, lt⟩ := b1.all
  have HT := hide (nthing A p h n W2 (Below.upp hA hb'))
  have B1 := hide b1
  have B2 := hide b2
  have HB := hide hb'
  have HZ := hide hz
  clear b1 b2 hb' hz h hA
  go_enter Tryz.func41, Tryz.ntmps41
  go_wp2_with (go_at_call 61; refine (unhide HT).mono ?_; rintro e w1 ⟨rfl, hb'⟩; have hz := unhide HZ; have E1 := hide ((unhide B1).below hb' (by omega)); have E2 := hide ((unhide B2).below hb' (by omega)); obtain ⟨d0, d1, d2, g0, g1, g2, lt'⟩ := (unhide E2).all; obtain ⟨x0, x1, x2, y0, y1, y2, ly⟩ := (unhide E1).all)
  have hz := unhide HZ
  exact ret_v Tryz.results41 rfl (unhide E2) rfl ((unhide HB).trans (hb'.mono (by omega))) (by omega) rfl
theorem nsettled (A : World) (p : Value) (h : Hp A p) (k n : Int) (t : ByteArray) : RetA A 41 #[p, .agg (Vc k n t)] (.agg (Vc (sK k) (sN k n) (stlT k t))) := by
  by_cases h5 : k = 5
  · subst h5
    rw [show sK 5 = 0 from rfl, show sN 5 n = 0 by simp [sN], show stlT 5 t = ByteArray.empty by simp [stlT]]
    exact nsettled_5 A p h n t
  · have e1 : sK k = stlK k := by simp [sK, h5]
    have e2 : sN k n = stlN k n := by simp [sN, h5]
    rw [e1, e2]
    by_cases h1 : k = 1
    · subst h1
      have q := (settled_1 p n t).at A
      rw [show stlK 1 = 1 from rfl, show stlN 1 n = 0 by simp [stlN], show stlT 1 t = ByteArray.empty by simp [stlT]]
      exact q
    · by_cases h2 : k = 2
      · subst h2
        have q := (settled_2 p n t _ rfl).at A
        rw [show stlK 2 = 2 from rfl, show stlN 2 n = bI (n != 0) by simp [stlN], show stlT 2 t = ByteArray.empty by simp [stlT]]
        exact q
      · by_cases h3 : k = 3
        · subst h3
          have q := (settled_3 p n t (clampN n) rfl).at A
          rw [show stlK 3 = 3 from rfl, show stlN 3 n = clampN n by simp [stlN], show stlT 3 t = ByteArray.empty by simp [stlT]]
          exact q
        · by_cases h4 : k = 4
          · subst h4
            have q := (settled_4 p n t).at A
            rw [show stlK 4 = 4 from rfl, show stlN 4 n = 0 by simp [stlN], show stlT 4 t = t by simp [stlT]]
            exact q
          · have q1 : stlK k = 0 := by simp [stlK, h1, h2, h3, h4, h5]
            have q2 : stlN k n = 0 := by simp [stlN, h2, h3, h5]
            have q3 : stlT k t = ByteArray.empty := by simp [stlT, h4]
            rw [q1, q2, q3]
            exact (settled_none p ⟨h1, h2, h3, h4, h5⟩).at A
theorem nobject (A : World) (p : Value) (h : Hp A p) (k n : Int) (t : ByteArray) : RetA A 36 #[p, .agg (Vc k n t)] (.tuple #[.pointer none, .bool false]) := by
  intro W hA
  obtain ⟨W2, hW2, b1, hb, hz⟩ := new_box W k n t
  obtain ⟨c0, c1, c2, f0, f1, f2, lt⟩ := b1.all
  have HT := hide (nthingOf A p h k n t W2 (Below.upp hA hb))
  have HB := hide hb
  unfold Vc at HT ⊢
  clear h hA b1 hb hz
  go_enter Tryz.func36, Tryz.ntmps36
  go_wp2_with (go_at_call 42; refine (unhide HT).mono ?_; rintro e w1 ⟨rfl, q⟩; have HB1 := hide (Below.upp (unhide HB) q); clear q)
  refine bodyPost_ret (by simp [results, Tryz.results36, go_sem]) rfl ⟨rfl, unhide HB1⟩
theorem narray (A : World) (p : Value) (h : Hp A p) (k n : Int) (t : ByteArray) : RetA A 57 #[p, .agg (Vc k n t)] (.tuple #[.pointer none, .bool false]) := by
  intro W hA
  obtain ⟨W2, hW2, b1, hb, hz⟩ := new_box W k n t
  obtain ⟨c0, c1, c2, f0, f1, f2, lt⟩ := b1.all
  have HT := hide (nthingOf A p h k n t W2 (Below.upp hA hb))
  have HB := hide hb
  unfold Vc at HT ⊢
  clear h hA b1 hb hz
  have ta0 : ∀ w, (Instr.typeAssert .nilIface 68 109 true).run Tryz.prog w = .ok (.tuple #[.pointer none, .bool false]) w := fun _ => by kernel_rfl
  go_enter Tryz.func57, Tryz.ntmps57
  go_wp2_with (go_at_call 42; refine (unhide HT).mono ?_; rintro e w1 ⟨rfl, q⟩; have HB1 := hide (Below.upp (unhide HB) q); clear q)
  refine bodyPost_ret (by simp [results, Tryz.results57, go_sem]) rfl ⟨rfl, unhide HB1⟩
theorem ntake (A : World) (p : Value) (h : Hp A p) : RetA A 33 #[p] (.bool false) := by
  intro W hA
  have h' := h.up hA
  clear h hA
  rcases h' with rfl | ⟨b, rfl, hx⟩
  · go_enter Tryz.func33, Tryz.ntmps33
    go_wp2
    go_quiet (fail)
    go_wp2
    go_ret
    exact ⟨rfl, (Below.refl _ _).trans ⟨rfl, rfl, rfl, Nat.le_refl _, fun _ _ => rfl⟩⟩
  · have c0 := Bx.cell hx 0 rfl
    have c1 := Bx.cell hx 1 rfl
    go_enter Tryz.func33, Tryz.ntmps33
    go_wp2
    go_quiet (fail)
    go_wp2
    go_ret
    exact ⟨rfl, (Below.refl _ _).trans ⟨rfl, rfl, rfl, Nat.le_refl _, fun _ _ => rfl⟩⟩
theorem nUsed (A : World) (p : Value) (h : Hp A p) : RetA A 8 #[p] (.int .i64 0) := by
  intro W hA
  have h' := h.up hA
  clear h hA
  rcases h' with rfl | ⟨b, rfl, hx⟩
  · go_enter Tryz.func8, Tryz.ntmps8
    go_wp2
    go_ret
    exact ⟨rfl, Below.refl _ _⟩
  · have c1 := Bx.cell hx 1 rfl
    go_enter Tryz.func8, Tryz.ntmps8
    go_wp2
    go_ret
    exact ⟨rfl, Below.refl _ _⟩
theorem nMake (A : World) (p : Value) (h : Hp A p) (k r : Int) : RetA A 10 #[p, .int .i64 k, .int .i64 r] (.tuple #[.int .i64 (-1), .int .i64 3]) := by
  intro W hA
  have HT := hide (ntake A p h W hA)
  clear h hA
  go_enter Tryz.func10, Tryz.ntmps10
  go_wp2_with (go_at_call 33; refine (unhide HT).mono ?_; rintro e w1 ⟨rfl, q⟩; have HQ := hide q; clear q)
  go_ret2
  exact ⟨rfl, unhide HQ⟩
theorem nKind (A : World) (p : Value) (h : Hp A p) (r : Int) : RetA A 28 #[p, .int .i64 r] (.int .i64 0) := by
  intro W hA
  have HT := hide (nthing A p h r W hA)
  clear h hA
  go_enter Tryz.func28, Tryz.ntmps28
  go_wp2_with (go_at_call 61; refine (unhide HT).mono ?_; rintro e w1 ⟨rfl, q⟩; have HQ := hide q; clear q)
  go_ret
  exact ⟨rfl, unhide HQ⟩
theorem nLen (A : World) (p : Value) (h : Hp A p) (r : Int) : RetA A 26 #[p, .int .i64 r] (.int .i64 0) := by
  intro W hA
  have HT := hide (narray A p h 5 r ⟨#[]⟩ W hA)
  unfold Vc at HT
  clear h hA
  go_enter Tryz.func26, Tryz.ntmps26
  go_wp2_with (go_at_call 57; refine (unhide HT).mono ?_; rintro e w1 ⟨rfl, q⟩; have HQ := hide q; clear q)
  go_ret
  exact ⟨rfl, unhide HQ⟩
theorem nPush (A : World) (p : Value) (h : Hp A p) (r k n : Int) (t : ByteArray) : RetA A 24 #[p, .int .i64 r, .agg (Vc k n t)] (.tuple #[.int .i64 (-1), .int .i64 1]) := by
  intro W hA
  obtain ⟨W2, hW2, b1, hb, hz⟩ := new_box W k n t
  have HT := hide (narray A p h 5 r ⟨#[]⟩ W2 (Below.upp hA hb))
  have HB := hide hb
  unfold Vc at HT ⊢
  clear h hA b1 hb hz
  go_enter Tryz.func24, Tryz.ntmps24
  go_wp2_with (go_at_call 57; refine (unhide HT).mono ?_; rintro e w1 ⟨rfl, q⟩; have HQ := hide (Below.upp (unhide HB) q); clear q)
  go_ret2
  exact ⟨rfl, unhide HQ⟩
def noMem : ByteArray := ⟨#[84, 121, 112, 101, 69, 114, 114, 111, 114, 58, 32, 110, 111, 32, 109, 101, 109, 98, 101, 114, 115]⟩
def noInT : ByteArray := ⟨#[84, 121, 112, 101, 69, 114, 114, 111, 114, 58, 32, 105, 110]⟩
def noIdx : ByteArray := ⟨#[84, 121, 112, 101, 69, 114, 114, 111, 114, 58, 32, 105, 110, 100, 101, 120]⟩
theorem nSet (A : World) (p : Value) (h : Hp A p) (k n k' n' : Int) (t key t' : ByteArray) : RetA A 11 #[p, .agg (Vc k n t), .string key, .agg (Vc k' n' t')] (.tuple #[.string noMem, .int .i64 1]) := by
  intro W hA
  obtain ⟨W2, hW2, b1, b2, hb⟩ : ∃ W2, (W.alloc (.cells #[.int .i64 k, .int .i64 n, .string t] 23)).alloc (.cells #[.int .i64 k', .int .i64 n', .string t'] 23) = W2 ∧ Bv W2 W.heap.size k n t ∧ Below W.heap.size W W2 ∧ True := ⟨_, rfl, (Bx.new W _ _).alloc _, below_two _ _ _, trivial⟩
  obtain ⟨c0, c1, c2, f0, f1, f2, lt⟩ := b1.all
  have HT := hide (nobject A p h k n t W2 (Below.upp hA b2))
  have HB := hide b2
  unfold Vc at HT ⊢
  clear h hA b1 b2 hb
  go_enter Tryz.func11, Tryz.ntmps11
  go_wp2_with (first
    | (go_at_call 36; refine (unhide HT).mono ?_; rintro e w1 ⟨rfl, q⟩; have HQ := hide (Below.upp (unhide HB) q); clear q)
    | (go_at_call 37; refine (clone21 noMem _ (by decide)).mono ?_; rintro e w2 ⟨rfl, q⟩; have HQ2 := hide (Below.upp (unhide HQ) q); clear q))
  go_ret2
  exact ⟨rfl, unhide HQ2⟩
theorem nHas (A : World) (p : Value) (h : Hp A p) (k n : Int) (t key : ByteArray) : RetA A 18 #[p, .agg (Vc k n t), .string key] (.tuple #[.bool false, .string noInT, .int .i64 1]) := by
  intro W hA
  obtain ⟨W2, hW2, b1, hb, hz⟩ := new_box W k n t
  obtain ⟨c0, c1, c2, f0, f1, f2, lt⟩ := b1.all
  have HT := hide (nthingOf A p h k n t W2 (Below.upp hA hb))
  have HB := hide hb
  unfold Vc at HT ⊢
  clear h hA b1 hb hz
  go_enter Tryz.func18, Tryz.ntmps18
  go_wp2_with (first
    | (go_at_call 42; refine (unhide HT).mono ?_; rintro e w1 ⟨rfl, q⟩; have HQ := hide (Below.upp (unhide HB) q); clear q)
    | (go_at_call 55; refine (threwB_any noInT (by decide) _).mono ?_; rintro e w2 ⟨rfl, q⟩; have HQ2 := hide (Below.upp (unhide HQ) q); clear q))
  refine bodyPost_ret (by simp [results, Tryz.results18, go_sem]) rfl ⟨rfl, unhide HQ2⟩
end Go.Proofs.YtdgocaokmmhenaaGreatDoor

/- A Heap that has nothing: Typeof, Show, Get, Put. -/
namespace Go.Proofs.YtdgocaokmmhenaaGreatDoor
set_option linter.unusedSimpArgs false
set_option linter.unusedVariables false
set_option maxRecDepth 100000
set_option maxHeartbeats 2000000
open Go.RowKit Go.Shelf

def objT : ByteArray := ⟨#[111, 98, 106, 101, 99, 116]⟩
def blnT : ByteArray := ⟨#[98, 111, 111, 108, 101, 97, 110]⟩
def nmbT : ByteArray := ⟨#[110, 117, 109, 98, 101, 114]⟩
def strT : ByteArray := ⟨#[115, 116, 114, 105, 110, 103]⟩
def typT (k : Int) : ByteArray := if k = 1 then objT else if k = 2 then blnT else if k = 3 then nmbT else if k = 4 then strT else undefT
theorem typ_small (k : Int) : (typT k).size ≤ 281474976710656 := by
  unfold typT
  split
  · show objT.size ≤ _; decide
  · split
    · show blnT.size ≤ _; decide
    · split
      · show nmbT.size ≤ _; decide
      · split
        · show strT.size ≤ _; decide
        · show undefT.size ≤ _; decide
theorem ntypeof (A : World) (p : Value) (h : Hp A p) (k n : Int) (t : ByteArray) : RetA A 62 #[p, .agg (Vc k n t)] (.string (typT k)) := by
  intro W hA
  obtain ⟨W2, hW2, b1, hb, hz⟩ := new_box W k n t
  obtain ⟨c0, c1, c2, f0, f1, f2, lt⟩ := b1.all
  have HT := hide (nthingOf A p h k n t W2 (Below.upp hA hb))
  have HB := hide hb
  clear h hA b1 hb hz
  by_cases h1 : k = 1
  · subst h1
    unfold Vc at HT ⊢
    go_enter Tryz.func62, Tryz.ntmps62
    go_wp2
    go_ret
    exact ⟨rfl, unhide HB⟩
  · by_cases h2 : k = 2
    · subst h2
      unfold Vc at HT ⊢
      go_enter Tryz.func62, Tryz.ntmps62
      go_wp2
      go_ret
      exact ⟨rfl, unhide HB⟩
    · by_cases h3 : k = 3
      · subst h3
        unfold Vc at HT ⊢
        go_enter Tryz.func62, Tryz.ntmps62
        go_wp2
        go_ret
        exact ⟨rfl, unhide HB⟩
      · by_cases h4 : k = 4
        · subst h4
          unfold Vc at HT ⊢
          go_enter Tryz.func62, Tryz.ntmps62
          go_wp2
          go_ret
          exact ⟨rfl, unhide HB⟩
        · rw [show typT k = undefT by simp [typT, h1, h2, h3, h4]]
          have q1 : (k == 1) = false := by simpa using h1
          have q2 : (k == 2) = false := by simpa using h2
          have q3 : (k == 3) = false := by simpa using h3
          have q4 : (k == 4) = false := by simpa using h4
          unfold Vc at HT ⊢
          clear h1 h2 h3 h4
          go_enter Tryz.func62, Tryz.ntmps62
          go_wp2_with (go_at_call 42; refine (unhide HT).mono ?_; rintro e w1 ⟨rfl, q⟩; have HQ := hide (Below.upp (unhide HB) q); clear q)
          go_ret
          exact ⟨rfl, unhide HQ⟩
theorem nTypeof (A : World) (p : Value) (h : Hp A p) (k n : Int) (t : ByteArray) : RetA A 30 #[p, .agg (Vc k n t)] (.string (typT k)) := by
  intro W hA
  obtain ⟨W2, hW2, b1, hb, hz⟩ := new_box W k n t
  obtain ⟨c0, c1, c2, f0, f1, f2, lt⟩ := b1.all
  have HT := hide (ntypeof A p h k n t W2 (Below.upp hA hb))
  have HB := hide hb
  have HS := hide (typ_small k)
  generalize typT k = s at HT HS ⊢
  unfold Vc at HT ⊢
  clear h hA b1 hb hz
  go_enter Tryz.func30, Tryz.ntmps30
  go_wp2_with (first
    | (go_at_call 62; refine (unhide HT).mono ?_; rintro e w1 ⟨rfl, q⟩; have HQ := hide (Below.upp (unhide HB) q); clear q)
    | (go_at_call 37; refine (clone21 s _ (unhide HS)).mono ?_; rintro e w2 ⟨rfl, q⟩; have HQ2 := hide (Below.upp (unhide HQ) q); clear q))
  go_ret
  exact ⟨rfl, unhide HQ2⟩
theorem sK_id (k : Int) : stlK (sK k) = sK k := by
  unfold sK
  split
  · rfl
  · exact stlK_id k
theorem sN_id (k n : Int) : stlN (sK k) (sN k n) = sN k n := by
  unfold sK sN
  split
  · rfl
  · exact stlN_id k n
theorem sT_id (k : Int) (t : ByteArray) : stlT (sK k) (stlT k t) = stlT k t := by
  unfold sK
  split
  · rename_i h; subst h; rfl
  · exact stlT_id k t
theorem stlT_le (k : Int) (t : ByteArray) (m : Nat) (h : t.size ≤ m) : (stlT k t).size ≤ m := by
  unfold stlT
  split
  · exact h
  · exact Nat.zero_le _
theorem Bv.up2 {w w' : World} {b : Nat} {k n : Int} {t : ByteArray} (h : Bv w b k n t) (hb : Below w.heap.size w w') : Bv w' b k n t := Bx.below h hb (Bx.lt h)
theorem nShow (A : World) (p : Value) (h : Hp A p) (hT : Lib.TabIs Tryz.prog A "internal/strconv.uint64pow10" .u64 Lib.pow10Tab) (k n : Int) (t : ByteArray) (ht : t.size ≤ 281474976710656) : RetA A 12 #[p, .agg (Vc k n t)] (.string (textP (sK k) (sN k n) (stlT k t))) := by
  intro W hA
  obtain ⟨W2, hW2, b1, hb, hz⟩ := new_box W k n t
  obtain ⟨c0, c1, c2, f0, f1, f2, lt⟩ := b1.all
  have HT := hide (nthingOf A p h k n t W2 (Below.upp hA hb))
  have HS := hide (nsettled A p h k n t)
  have HX := pText_any A (sK k) (sN k n) (stlT k t) (stlT_le k t _ ht) hT
  rw [sK_id, sN_id, sT_id] at HX
  have HXX := hide HX
  have HB := hide hb
  have B1 := hide b1
  have HA := hide (Below.upp hA hb)
  clear HX
  generalize textP (sK k) (sN k n) (stlT k t) = s at HXX ⊢
  generalize sK k = K at *
  generalize sN k n = N at *
  generalize stlT k t = T at *
  unfold Vc at HT HS HXX ⊢
  clear h hA b1 hb hz hT ht
  go_enter Tryz.func12, Tryz.ntmps12
  go_wp2_with (first
    | (go_at_call 42; refine (unhide HT).mono ?_; clear HT; rintro e w1 ⟨rfl, q⟩; have HQ := hide (Below.upp (unhide HB) q); have HA1 := hide (Below.upp (unhide HA) q); obtain ⟨c0, c1, c2, f0, f1, f2, lt⟩ := ((unhide B1).up2 q).all)
    | (go_at_call 41; refine (unhide HS _ (unhide HA1)).mono ?_; clear HS; rintro e w2 ⟨rfl, q2⟩; have HQ2 := hide (Below.upp (unhide HQ) q2); have HA2 := hide (Below.upp (unhide HA1) q2))
    | (go_at_call 43; refine (unhide HXX _ (unhide HA2)).mono ?_; rintro e w3 ⟨rfl, q3⟩; have HQ3 := hide (Below.upp (unhide HQ2) q3)))
  go_ret
  exact ⟨rfl, unhide HQ3⟩
end Go.Proofs.YtdgocaokmmhenaaGreatDoor

/- A Heap that has nothing: Get and Put. -/
namespace Go.Proofs.YtdgocaokmmhenaaGreatDoor
set_option linter.unusedSimpArgs false
set_option linter.unusedVariables false
set_option maxRecDepth 100000
set_option maxHeartbeats 2000000
open Go.RowKit Go.Shelf

theorem below_iter (w : World) (s : ByteArray) (pos : Nat) : Below w.heap.size w (w.iter s pos) := below_one w _
theorem runesOf_any (s : ByteArray) (hs : s.size ≤ 1048576) : Ret 48 #[.string s] (.agg (Vc 3 (Lib.runeCount s) ByteArray.empty)) := by
  intro W
  obtain ⟨W2, hW2, b2, hb, hz⟩ := one_box W
  have B2 := hide b2
  have HB := hide hb
  have HZ := hide hz
  have HS : Hid (s.size < 9223372036854775807) := (by omega : s.size < 9223372036854775807)
  obtain ⟨m, hm⟩ : ∃ m, Lib.runeCount s = m := ⟨_, rfl⟩
  have HM := hide hm
  rw [hm]
  clear b2 hb hz hm hs
  go_enter Tryz.func48, Tryz.ntmps48
  go_wp2_with (first
    | (go_at_call 71
       refine (Tryz.utf8_RuneCountInString s _ (unhide HS)).mono ?_
       rintro e w1 ⟨rfl, pos, rfl⟩
       rw [unhide HM]
       obtain ⟨w1, hw1⟩ : ∃ w1, W2.iter s pos = w1 := ⟨_, rfl⟩
       have q := below_iter W2 s pos
       rw [hw1] at q ⊢
       have hz := unhide HZ
       have E1 := hide ((unhide B2).below q (by omega))
       have HB1 := hide (Below.upp (unhide HB) q)
       have HZ1 := hide q.size
       clear q hw1 hz)
    | (go_at_call 67
       refine (number_any _ _).mono ?_
       rintro e w2 ⟨rfl, q2⟩
       unfold Vc
       have E2 := hide (Bx.below (unhide E1) q2 (Bx.lt (unhide E1)))
       have HB2 := hide (Below.upp (unhide HB1) q2)
       obtain ⟨d0, d1, d2, g0, g1, g2, lt'⟩ := Bv.all (unhide E2)
       clear q2))
  exact ret_v Tryz.results48 rfl (unhide E2) rfl (unhide HB2) (Nat.le_refl _) rfl
def lenT : ByteArray := ⟨#[108, 101, 110, 103, 116, 104]⟩
/-- What Get answers of a value as it counts. -/
def getP (K : Int) (T key : ByteArray) : R5 := if K = 0 ∨ K = 1 then ⟨0, 0, ByteArray.empty, noMem, 1⟩ else if K = 4 ∧ key = lenT then ⟨3, Lib.runeCount T, ByteArray.empty, ⟨#[]⟩, 0⟩ else ⟨0, 0, ByteArray.empty, ⟨#[]⟩, 0⟩
theorem key_ne {key : ByteArray} (h : ¬ key = lenT) : (key.toList == [108, 101, 110, 103, 116, 104]) = false := by
  rw [beq_eq_false_iff_ne]
  intro e
  apply h
  have : key.data.toList = [108, 101, 110, 103, 116, 104] := by rw [← e]; exact (ByteArray.toList_eq key).symm
  exact ByteArray.ext (by rw [← Array.toArray_toList (xs := key.data), this]; rfl)
theorem sK_in (k : Int) : 0 ≤ sK k ∧ sK k ≤ 4 := by
  unfold sK stlK
  split
  · omega
  · split <;> omega
theorem nGet (A : World) (p : Value) (h : Hp A p) (k n : Int) (t key : ByteArray) (ht : t.size ≤ 1048576) : RetA A 14 #[p, .agg (Vc k n t), .string key] (getP (sK k) (stlT k t) key).tr := by
  intro W hA
  obtain ⟨W2, hW2, b1, b2, hb', hz⟩ := two_boxes W k n t
  obtain ⟨c0, c1, c2, f0, f1, f2, lt⟩ := b1.all
  have HS := hide (nsettled A p h k n t W2 (Below.upp hA hb'))
  have B1 := hide b1
  have B2 := hide b2
  have HB := hide hb'
  have HZ := hide hz
  have HTL := hide (stlT_le k t _ ht)
  have hK := sK_in k
  generalize sK k = K at *
  generalize sN k n = N at *
  generalize stlT k t = T at *
  clear b1 b2 hb' hz h hA ht
  have c : (K = 0 ∨ K = 1) ∨ (K = 4 ∧ key = lenT) ∨ (K = 4 ∧ ¬ key = lenT) ∨ (K = 2 ∨ K = 3) := by
    by_cases e : key = lenT
    · have : K = 0 ∨ K = 1 ∨ K = 2 ∨ K = 3 ∨ K = 4 := by omega
      rcases this with h | h | h | h | h <;> simp [h, e]
    · have : K = 0 ∨ K = 1 ∨ K = 2 ∨ K = 3 ∨ K = 4 := by omega
      rcases this with h | h | h | h | h <;> simp [h, e]
  clear hK
  rcases c with (rfl | rfl) | ⟨rfl, rfl⟩ | ⟨rfl, h⟩ | (rfl | rfl)
  · rw [show getP 0 T key = ⟨0, 0, ByteArray.empty, noMem, 1⟩ by simp [getP]]
    unfold R5.tr Tr
    unfold Vc at HS ⊢
    go_enter Tryz.func14, Tryz.ntmps14
    go_wp2_with (first
      | (go_at_call 41; refine (unhide HS).mono ?_; rintro e w1 ⟨rfl, hb1⟩; have hz := unhide HZ; have E1 := hide ((unhide B1).below hb1 (by omega)); have E2 := hide ((unhide B2).below hb1 (by omega)); obtain ⟨c0, c1, c2, f0, f1, f2, lt⟩ := (unhide E1).all; obtain ⟨W3, hW3, e1, e2, e3, e4⟩ := over w1 W.heap.size k n 0 N t T (unhide E1); have s1 := hb1.size; have X2 := hide (e3 _ _ _ _ (unhide E2) (by omega)); have HB3 := hide (e2 _ _ ((unhide HB).trans (hb1.mono (by omega))) (by omega)); have HZ3 := hide e4; obtain ⟨x0, x1, x2, y0, y1, y2, ly⟩ := e1.all; clear e1 e2 e3 e4)
      | (go_at_call 46; refine (threw_any noMem (by decide) _).mono ?_; unfold Tr; rintro e w4 ⟨rfl, hb4⟩; unfold Vc; have hz3 := unhide HZ3; have X4 := hide ((unhide X2).below hb4 (by omega)); obtain ⟨d0, d1, d2, g0, g1, g2, lt'⟩ := (unhide X4).all))
    exact ret_vsf Tryz.results14 rfl rfl rfl (unhide X4) rfl ((unhide HB3).trans (hb4.mono (by omega))) (by omega) rfl
  · rw [show getP 1 T key = ⟨0, 0, ByteArray.empty, noMem, 1⟩ by simp [getP]]
    unfold R5.tr Tr
    unfold Vc at HS ⊢
    go_enter Tryz.func14, Tryz.ntmps14
    go_wp2_with (first
      | (go_at_call 41; refine (unhide HS).mono ?_; rintro e w1 ⟨rfl, hb1⟩; have hz := unhide HZ; have E1 := hide ((unhide B1).below hb1 (by omega)); have E2 := hide ((unhide B2).below hb1 (by omega)); obtain ⟨c0, c1, c2, f0, f1, f2, lt⟩ := (unhide E1).all; obtain ⟨W3, hW3, e1, e2, e3, e4⟩ := over w1 W.heap.size k n 1 N t T (unhide E1); have s1 := hb1.size; have X2 := hide (e3 _ _ _ _ (unhide E2) (by omega)); have HB3 := hide (e2 _ _ ((unhide HB).trans (hb1.mono (by omega))) (by omega)); have HZ3 := hide e4; obtain ⟨x0, x1, x2, y0, y1, y2, ly⟩ := e1.all; clear e1 e2 e3 e4)
      | (go_at_call 46; refine (threw_any noMem (by decide) _).mono ?_; unfold Tr; rintro e w4 ⟨rfl, hb4⟩; unfold Vc; have hz3 := unhide HZ3; have X4 := hide ((unhide X2).below hb4 (by omega)); obtain ⟨d0, d1, d2, g0, g1, g2, lt'⟩ := (unhide X4).all))
    exact ret_vsf Tryz.results14 rfl rfl rfl (unhide X4) rfl ((unhide HB3).trans (hb4.mono (by omega))) (by omega) rfl
  · rw [show getP 4 T lenT = ⟨3, Lib.runeCount T, ByteArray.empty, ⟨#[]⟩, 0⟩ by simp [getP]]
    have HR := hide (runesOf_any T (unhide HTL))
    generalize Lib.runeCount T = m at HR ⊢
    have HL := hide (told_any 3 m ByteArray.empty (by decide))
    unfold R5.tr Tr
    unfold Tr at HL
    unfold lenT
    unfold Vc at HS HR HL ⊢
    go_enter Tryz.func14, Tryz.ntmps14
    go_wp2_with (first
      | (go_at_call 41; refine (unhide HS).mono ?_; rintro e w1 ⟨rfl, hb1⟩; have hz := unhide HZ; have E1 := hide ((unhide B1).below hb1 (by omega)); have E2 := hide ((unhide B2).below hb1 (by omega)); obtain ⟨c0, c1, c2, f0, f1, f2, lt⟩ := (unhide E1).all; obtain ⟨W3, hW3, e1, e2, e3, e4⟩ := over w1 W.heap.size k n 4 N t T (unhide E1); have s1 := hb1.size; have X2 := hide (e3 _ _ _ _ (unhide E2) (by omega)); have HB3 := hide (e2 _ _ ((unhide HB).trans (hb1.mono (by omega))) (by omega)); have HZ3 := hide e4; obtain ⟨x0, x1, x2, y0, y1, y2, ly⟩ := e1.all; clear e1 e2 e3 e4)
      | (go_at_call 48; refine (unhide HR _).mono ?_; rintro e w3 ⟨rfl, hb3⟩; have hz3 := unhide HZ3; have X3 := hide ((unhide X2).below hb3 (by omega)); have HBQ := hide ((unhide HB3).trans (hb3.mono (by omega))); have HZ5 := hide hb3.size)
      | (go_at_call 47; refine (unhide HL _).mono ?_; rintro e w4 ⟨rfl, hb4⟩; have hz3 := unhide HZ3; have hz5 := unhide HZ5; have X4 := hide ((unhide X3).below hb4 (by omega)); obtain ⟨d0, d1, d2, g0, g1, g2, lt'⟩ := (unhide X4).all))
    exact ret_vsf Tryz.results14 rfl rfl rfl (unhide X4) rfl ((unhide HBQ).trans (hb4.mono (by omega))) (by omega) rfl
  · rw [show getP 4 T key = ⟨0, 0, ByteArray.empty, ⟨#[]⟩, 0⟩ by simp [getP, h]]
    have hne := key_ne h
    clear h
    have HL := hide (told_any 0 0 ⟨#[]⟩ (by decide))
    unfold R5.tr Tr
    unfold Tr at HL
    unfold Vc at HS HL ⊢
    go_enter Tryz.func14, Tryz.ntmps14
    go_wp2_with (first
      | (go_at_call 41; refine (unhide HS).mono ?_; rintro e w1 ⟨rfl, hb1⟩; have hz := unhide HZ; have E1 := hide ((unhide B1).below hb1 (by omega)); have E2 := hide ((unhide B2).below hb1 (by omega)); obtain ⟨c0, c1, c2, f0, f1, f2, lt⟩ := (unhide E1).all; obtain ⟨W3, hW3, e1, e2, e3, e4⟩ := over w1 W.heap.size k n 4 N t T (unhide E1); have s1 := hb1.size; have X2 := hide (e3 _ _ _ _ (unhide E2) (by omega)); have HB3 := hide (e2 _ _ ((unhide HB).trans (hb1.mono (by omega))) (by omega)); have HZ3 := hide e4; obtain ⟨x0, x1, x2, y0, y1, y2, ly⟩ := e1.all; clear e1 e2 e3 e4)
      | (go_at_call 47; refine (unhide HL _).mono ?_; rintro e w4 ⟨rfl, hb4⟩; have hz3 := unhide HZ3; have X4 := hide ((unhide X2).below hb4 (by omega)); obtain ⟨d0, d1, d2, g0, g1, g2, lt'⟩ := (unhide X4).all))
    exact ret_vsf Tryz.results14 rfl rfl rfl (unhide X4) rfl ((unhide HB3).trans (hb4.mono (by omega))) (by omega) rfl
  · rw [show getP 2 T key = ⟨0, 0, ByteArray.empty, ⟨#[]⟩, 0⟩ by simp [getP]]
    have HL := hide (told_any 0 0 ⟨#[]⟩ (by decide))
    unfold R5.tr Tr
    unfold Tr at HL
    unfold Vc at HS HL ⊢
    go_enter Tryz.func14, Tryz.ntmps14
    go_wp2_with (first
      | (go_at_call 41; refine (unhide HS).mono ?_; rintro e w1 ⟨rfl, hb1⟩; have hz := unhide HZ; have E1 := hide ((unhide B1).below hb1 (by omega)); have E2 := hide ((unhide B2).below hb1 (by omega)); obtain ⟨c0, c1, c2, f0, f1, f2, lt⟩ := (unhide E1).all; obtain ⟨W3, hW3, e1, e2, e3, e4⟩ := over w1 W.heap.size k n 2 N t T (unhide E1); have s1 := hb1.size; have X2 := hide (e3 _ _ _ _ (unhide E2) (by omega)); have HB3 := hide (e2 _ _ ((unhide HB).trans (hb1.mono (by omega))) (by omega)); have HZ3 := hide e4; obtain ⟨x0, x1, x2, y0, y1, y2, ly⟩ := e1.all; clear e1 e2 e3 e4)
      | (go_at_call 47; refine (unhide HL _).mono ?_; rintro e w4 ⟨rfl, hb4⟩; have hz3 := unhide HZ3; have X4 := hide ((unhide X2).below hb4 (by omega)); obtain ⟨d0, d1, d2, g0, g1, g2, lt'⟩ := (unhide X4).all))
    exact ret_vsf Tryz.results14 rfl rfl rfl (unhide X4) rfl ((unhide HB3).trans (hb4.mono (by omega))) (by omega) rfl
  · rw [show getP 3 T key = ⟨0, 0, ByteArray.empty, ⟨#[]⟩, 0⟩ by simp [getP]]
    have HL := hide (told_any 0 0 ⟨#[]⟩ (by decide))
    unfold R5.tr Tr
    unfold Tr at HL
    unfold Vc at HS HL ⊢
    go_enter Tryz.func14, Tryz.ntmps14
    go_wp2_with (first
      | (go_at_call 41; refine (unhide HS).mono ?_; rintro e w1 ⟨rfl, hb1⟩; have hz := unhide HZ; have E1 := hide ((unhide B1).below hb1 (by omega)); have E2 := hide ((unhide B2).below hb1 (by omega)); obtain ⟨c0, c1, c2, f0, f1, f2, lt⟩ := (unhide E1).all; obtain ⟨W3, hW3, e1, e2, e3, e4⟩ := over w1 W.heap.size k n 3 N t T (unhide E1); have s1 := hb1.size; have X2 := hide (e3 _ _ _ _ (unhide E2) (by omega)); have HB3 := hide (e2 _ _ ((unhide HB).trans (hb1.mono (by omega))) (by omega)); have HZ3 := hide e4; obtain ⟨x0, x1, x2, y0, y1, y2, ly⟩ := e1.all; clear e1 e2 e3 e4)
      | (go_at_call 47; refine (unhide HL _).mono ?_; rintro e w4 ⟨rfl, hb4⟩; have hz3 := unhide HZ3; have X4 := hide ((unhide X2).below hb4 (by omega)); obtain ⟨d0, d1, d2, g0, g1, g2, lt'⟩ := (unhide X4).all))
    exact ret_vsf Tryz.results14 rfl rfl rfl (unhide X4) rfl ((unhide HB3).trans (hb4.mono (by omega))) (by omega) rfl
end Go.Proofs.YtdgocaokmmhenaaGreatDoor
