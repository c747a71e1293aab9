/- The reference's kid, bare, free and Plain (chapter 5). -/
import Derived.BigRegion
import Derived.Deep.RegionWith
import Derived.LoopN
import Derived.Test.YtnnpkomedpjlcaaGreatDoorG1
import Derived.Test.YtnnpkomedpjlcaaGreatDoorK0
/- The reference's kid, bare and free (chapter 5). -/
namespace Go.Proofs.YtnnpkomedpjlcaaGreatDoor
set_option linter.unusedSimpArgs false
set_option linter.unusedVariables false
open Go.RowKit

theorem setK {W : World} {R : Nat} {C : Array Value} {t : TypeId} (h : W.heap[R]? = some (.cells C t)) (j : Nat) (y : Value) : (W.setCell ⟨R, j, none⟩ y).heap[R]? = some (.cells (C.setIfInBounds j y) t) := by
  simp [World.setCell, Array.getElem?_modify, h]
theorem fld3 (k : Int) (t : ByteArray) (m : Int) (a : Option Addr) (len c : Nat) (at' : Int) (w : World) : (Instr.field 41 (.agg #[.int .i64 k, .string t, .int .i64 m, .slice a len c, .int .i64 at']) 3).run Tryz.prog w = .ok (.slice a len c) w := by kernel_rfl
/-- Five cells set anew. -/
theorem set5 {W : World} {R : Nat} {x0 x1 x2 x3 x4 : Value} {t : TypeId} (h : W.heap[R]? = some (.cells #[x0, x1, x2, x3, x4] t)) (y0 y1 y2 y3 y4 : Value) :
    (((((W.setCell ⟨R, 0, none⟩ y0).setCell ⟨R, 1, none⟩ y1).setCell ⟨R, 2, none⟩ y2).setCell ⟨R, 3, none⟩ y3).setCell ⟨R, 4, none⟩ y4).heap[R]? = some (.cells #[y0, y1, y2, y3, y4] t) :=
  setK (setK (setK (setK (setK h 0 y0) 1 y1) 2 y2) 3 y3) 4 y4

set_option maxRecDepth 100000 in
set_option maxHeartbeats 4000000 in
theorem kid5_any (W : World) (M : Nat) (v : Value) (l : List Nd) (n i : Nat) (hN : Nodes W M v l) (hM : M ≤ W.heap.size) (hn : n < l.length) (hi : i < (nd l n).kids.length) (hin : ins l ((nd l n).kids.getD i 0) = true) :
    Calls Tryz.prog 57 #[.agg #[v], .int .i64 (n : Int), .int .i64 (i : Int)] W (KidQ (kd l n i) M W) := by
  obtain ⟨W1, hW1⟩ : ∃ W1, (W.alloc (.cells #[v] 24)).alloc (.cells #[.int .i64 0, .string ⟨#[]⟩, .int .i64 0, .slice none 0 0, .int .i64 0] 41) = W1 := ⟨_, rfl⟩
  obtain ⟨k1, k2, k3, k4⟩ := kid_boxes (v := v) (w := W1) (by rw [hW1]; exact Below.refl _ _)
  have hl1 := hN.1
  have hkk : (nd l n).kids.length ≤ 17592186044416 := (hN.2.1 n hn).2
  obtain ⟨q, hq1⟩ : ∃ q : Nat, (nd l n).kids.getD i 0 = (q : Int) := ⟨((nd l n).kids.getD i 0).toNat, by have := ins_iff'.1 hin; omega⟩
  have hql : q < l.length := by have := ins_iff'.1 hin; omega
  have hkd : kd l n i = nd l q := by unfold kd; rw [hq1]; rfl
  obtain ⟨b, o, cap, qa3, qc3, rfl, _, _, hb, _, _, _, g3, _, hqc, hqm, hQ3⟩ := hN.at hql
  obtain ⟨b1, o1, cap1, ka, kc, hv1, hc1, hc2, _, d0, d1, d2, d3, d4, hkc, hkm, hK⟩ := (hN.keep k1 hM).at hn
  cases hv1
  obtain ⟨b2, o2, cap2, qa, qc, hv, _, _, _, e0, e1, e2, e3, e4, _, _, _⟩ := (hN.keep k1 hM).at hql
  cases hv
  have hbW : b < W.heap.size := by omega
  have g3' := (k1.cell (p := ⟨b, o + q * 5 + 3, none⟩) hbW).trans g3
  rw [e3] at g3'
  obtain ⟨rfl, rfl⟩ : qa = qa3 ∧ qc = qc3 := by injection g3' with h; injection h with h1 _ h3; exact ⟨h1, h3⟩
  rcases hK with h | ⟨kb, ko, rfl, hkb, hkc0⟩
  · rw [h] at hi; simp at hi
  have dk := hkc0 i hi
  rw [hq1] at dk
  rw [hkd]
  obtain ⟨x, hx⟩ : ∃ x, nd l q = x := ⟨_, rfl⟩
  rw [hx] at e0 e1 e2 e3 e4 hqc hQ3 ⊢
  obtain ⟨kl, hkl⟩ : ∃ kl, (nd l n).kids.length = kl := ⟨_, rfl⟩
  rw [hkl] at d3 hi hkk
  obtain ⟨r0, r1, r2, r3, r4⟩ := rcells5 k3
  have f0 := rfrozen_at k3 0
  have f1 := rfrozen_at k3 1
  have f2 := rfrozen_at k3 2
  have f3 := rfrozen_at k3 3
  have f4 := rfrozen_at k3 4
  have t1 : (n : Int) < l.length := by omega
  have t2 : (0 : Int) ≤ (n : Int) := by omega
  have t3 : (i : Int) < kl := by omega
  have t4 : (0 : Int) ≤ (i : Int) := by omega
  have t5 : (q : Int) < l.length := by omega
  have t6 : (0 : Int) ≤ (q : Int) := by omega
  have t7 : b < W1.heap.size := by have := k1.size; omega
  have t8 : kb < W1.heap.size := by have := k1.size; omega
  have s1 : W.heap.size < W1.heap.size := by omega
  have s2 : W.heap.size + 1 < W1.heap.size := by omega
  have HK1 := hide k1
  have HK3 := hide k3
  have HQ := hide hQ3
  have HW1 := hide hW1
  clear hN d0 d1 d2 d4 hkc0 hin hkd hq1 hkc hkm g3 g3' hx k1 k3 k4 hW1 hQ3
  go_enter Tryz.func57, Tryz.ntmps57
  go_wp2
  rw [unhide HW1]
  go_region
  go_wp2
  have h5 := set5 (unhide HK3) (.int .i64 x.kind) (.string x.text) (.int .i64 x.num) (.slice qa x.kids.length qc) (.int .i64 x.at')
  obtain ⟨W2, hW2⟩ : ∃ W2, ((((W1.setCell ⟨W.heap.size + 1, 0, none⟩ (.int .i64 x.kind)).setCell ⟨W.heap.size + 1, 1, none⟩ (.string x.text)).setCell ⟨W.heap.size + 1, 2, none⟩ (.int .i64 x.num)).setCell ⟨W.heap.size + 1, 3, none⟩ (.slice qa x.kids.length qc)).setCell ⟨W.heap.size + 1, 4, none⟩ (.int .i64 x.at') = W2 := ⟨_, rfl⟩
  have hB2 : Below W.heap.size W W2 := by
    rw [← hW2]
    exact ((((((unhide HK1).setCell (p := ⟨W.heap.size + 1, 0, none⟩) (by show W.heap.size ≤ W.heap.size + 1; omega) _).setCell (p := ⟨W.heap.size + 1, 1, none⟩) (by show W.heap.size ≤ W.heap.size + 1; omega) _).setCell (p := ⟨W.heap.size + 1, 2, none⟩) (by show W.heap.size ≤ W.heap.size + 1; omega) _).setCell (p := ⟨W.heap.size + 1, 3, none⟩) (by show W.heap.size ≤ W.heap.size + 1; omega) _).setCell (p := ⟨W.heap.size + 1, 4, none⟩) (by show W.heap.size ≤ W.heap.size + 1; omega) _)
  rw [hW2] at h5 ⊢
  obtain ⟨u0, u1, u2, u3, u4⟩ := rcells5 h5
  exact bodyPost_ret (v := ndV x qa qc) (by simp [results, Tryz.results57, go_sem, ndV, u0, u1, u2, u3, u4]) rfl ⟨qa, qc, rfl, hqc, hqm, unhide HQ, hB2.drew⟩

set_option maxRecDepth 100000 in
set_option maxHeartbeats 4000000 in
theorem bare5_any (W : World) (M : Nat) (v : Value) (l : List Nd) (n i : Nat) (hN : Nodes W M v l) (hM : M ≤ W.heap.size) (hn : n < l.length) (hi : i < (nd l n).kids.length) (hin : ins l ((nd l n).kids.getD i 0) = true) :
    Calls Tryz.prog 39 #[.agg #[v], .int .i64 (n : Int), .int .i64 (i : Int)] W fun e w' => e = .returned (.bool (emptyK l n i)) ∧ Below W.heap.size W w' := by
  obtain ⟨W1, hW1⟩ : ∃ W1, W.alloc (.cells #[v] 24) = W1 := ⟨_, rfl⟩
  have hB1 : Below W.heap.size W W1 := by rw [← hW1]; exact (Below.refl _ W).alloc (Nat.le_refl _) _
  have HK := hide (kid5_any W1 M v l n i (hN.keep hB1 hM) (Nat.le_trans hM hB1.size) hn hi hin)
  have hE : emptyK l n i = (((kd l n i).kids.length : Int) == 0) := by
    unfold emptyK
    by_cases h : (kd l n i).kids.length = 0
    · rw [h]; rfl
    · have h2 : ¬ (((kd l n i).kids.length : Int) = 0) := by omega
      rw [beq_eq_false_iff_ne.2 h, beq_eq_false_iff_ne.2 h2]
  rw [hE]
  obtain ⟨x, hx⟩ : ∃ x, kd l n i = x := ⟨_, rfl⟩
  rw [hx] at HK ⊢
  obtain ⟨va, vc, rfl, _, _⟩ := hN.len
  have HW1 := hide hW1
  have HB1 := hide hB1
  clear hN hE hx hB1 hW1
  go_enter Tryz.func39, Tryz.ntmps39
  go_wp2_with (go_at_call 57; rw [unhide HW1]; refine (unhide HK).mono ?_; rintro e w2 ⟨qa, qc, he, _, _, _, hB2⟩; unfold ndV at he; subst he; have q3 := fld3 x.kind x.text x.num qa x.kids.length qc x.at')
  go_ret
  exact ⟨rfl, (unhide HB1).trans (hB2.mono (unhide HB1).size)⟩
set_option maxRecDepth 100000 in
set_option maxHeartbeats 4000000 in
theorem free5_any (W : World) (M : Nat) (v : Value) (l : List Nd) (n i : Nat) (hN : Nodes W M v l) (hM : M ≤ W.heap.size) (hn : n < l.length) (hi : i < (nd l n).kids.length) (hin : ins l ((nd l n).kids.getD i 0) = true) :
    Calls Tryz.prog 40 #[.agg #[v], .int .i64 (n : Int), .int .i64 (i : Int)] W fun e w' => e = .returned (.bool (noneK l n i)) ∧ Below W.heap.size W w' := by
  obtain ⟨W1, hW1⟩ : ∃ W1, W.alloc (.cells #[v] 24) = W1 := ⟨_, rfl⟩
  have hB1 : Below W.heap.size W W1 := by rw [← hW1]; exact (Below.refl _ W).alloc (Nat.le_refl _) _
  have HK := hide (kid5_any W1 M v l n i (hN.keep hB1 hM) (Nat.le_trans hM hB1.size) hn hi hin)
  unfold noneK
  obtain ⟨x, hx⟩ : ∃ x, kd l n i = x := ⟨_, rfl⟩
  rw [hx] at HK ⊢
  obtain ⟨va, vc, rfl, _, _⟩ := hN.len
  have HW1 := hide hW1
  have HB1 := hide hB1
  clear hN hx hB1 hW1
  go_enter Tryz.func40, Tryz.ntmps40
  go_wp2_with (go_at_call 57; rw [unhide HW1]; refine (unhide HK).mono ?_; rintro e w2 ⟨qa, qc, he, _, _, _, hB2⟩; unfold ndV at he; subst he; have q3 := fld0 x.kind x.text x.num qa x.kids.length qc x.at')
  go_ret
  exact ⟨rfl, (unhide HB1).trans (hB2.mono (unhide HB1).size)⟩
end Go.Proofs.YtnnpkomedpjlcaaGreatDoor

/- The reference's Plain in general. -/
namespace Go.Proofs.YtnnpkomedpjlcaaGreatDoor
set_option linter.unusedSimpArgs false
set_option linter.unusedVariables false
open Go.RowKit

theorem plain_setup (W : World) (M : Nat) (v : Value) (l : List Nd) (n : Nat) (hN : Nodes W M v l) (hM : M ≤ W.heap.size) (hn : n < l.length) (hk : need (nd l n).kind ≤ (nd l n).kids.length) (hins : ∀ k ∈ (nd l n).kids, ins l k = true) :
    ∃ W2 b o cap ka kc, v = .slice (some ⟨b, o, none⟩) l.length cap ∧ (W.alloc (.cells #[v] 24)).alloc (.cells #[.int .i64 (nd l n).kind, .string (nd l n).text, .int .i64 (nd l n).num, .slice ka (nd l n).kids.length kc, .int .i64 (nd l n).at'] 41) = W2 ∧
      Hid (∀ (i : Nat) (C : World), Below W2.heap.size W2 C → i < need (nd l n).kind → Calls Tryz.prog 39 #[.agg #[v], .int .i64 (n : Int), .int .i64 (i : Int)] C fun e w' => e = .returned (.bool (emptyK l n i)) ∧ Below W2.heap.size W2 w') ∧
      Hid (∀ (i : Nat) (C : World), Below W2.heap.size W2 C → i < need (nd l n).kind → Calls Tryz.prog 40 #[.agg #[v], .int .i64 (n : Int), .int .i64 (i : Int)] C fun e w' => e = .returned (.bool (noneK l n i)) ∧ Below W2.heap.size W2 w') ∧
      Hid (∀ C, Below W2.heap.size W2 C → Below W.heap.size W C) ∧
      Hid (∀ C, Below W2.heap.size W2 C → C.cell? ⟨W.heap.size, 0, none⟩ = some v ∧ C.cell? ⟨W.heap.size + 1, 2, none⟩ = some (.int .i64 (nd l n).num) ∧ W.heap.size < C.heap.size ∧ W.heap.size + 1 < C.heap.size) ∧
      W.cell? ⟨b, o + n * 5, none⟩ = some (.int .i64 (nd l n).kind) ∧ W.cell? ⟨b, o + n * 5 + 1, none⟩ = some (.string (nd l n).text) ∧ W.cell? ⟨b, o + n * 5 + 2, none⟩ = some (.int .i64 (nd l n).num) ∧ W.cell? ⟨b, o + n * 5 + 3, none⟩ = some (.slice ka (nd l n).kids.length kc) ∧ W.cell? ⟨b, o + n * 5 + 4, none⟩ = some (.int .i64 (nd l n).at') ∧
      b < W.heap.size ∧ l.length ≤ 2199023255552 := by
  have hin : ∀ i, i < (nd l n).kids.length → ins l ((nd l n).kids.getD i 0) = true := fun i hi => hins _ (by rw [List.getD_eq_getElem?_getD, List.getElem?_eq_getElem hi]; exact List.getElem_mem hi)
  obtain ⟨b, o, cap, ka, kc, hv, hc1, hc2, hb, d0, d1, d2, d3, d4, hkc, hkm, hK⟩ := hN.at hn
  obtain ⟨W2, hW2⟩ : ∃ W2, (W.alloc (.cells #[v] 24)).alloc (.cells #[.int .i64 (nd l n).kind, .string (nd l n).text, .int .i64 (nd l n).num, .slice ka (nd l n).kids.length kc, .int .i64 (nd l n).at'] 41) = W2 := ⟨_, rfl⟩
  have hB2 : Below W.heap.size W W2 := by rw [← hW2]; exact ((Below.refl _ W).alloc (Nat.le_refl _) _).alloc (by simp) _
  have hz2 : W2.heap.size = W.heap.size + 1 + 1 := by rw [← hW2]; simp
  have hx1 : W2.heap[W.heap.size]? = some (.cells #[v] 24) := by rw [← hW2]; exact rat_a2 W _ _
  have hx2 : W2.heap[W.heap.size + 1]? = some (.cells #[.int .i64 (nd l n).kind, .string (nd l n).text, .int .i64 (nd l n).num, .slice ka (nd l n).kids.length kc, .int .i64 (nd l n).at'] 41) := by
    rw [← hW2]
    have := World.alloc_heap_new (W.alloc (.cells #[v] 24)) (.cells #[.int .i64 (nd l n).kind, .string (nd l n).text, .int .i64 (nd l n).num, .slice ka (nd l n).kids.length kc, .int .i64 (nd l n).at'] 41)
    rw [World.size_alloc] at this
    exact this
  refine ⟨W2, b, o, cap, ka, kc, hv, hW2, ?_, ?_, ?_, ?_, d0, d1, d2, d3, d4, by omega, hN.1⟩
  · intro i C hC hi
    have hBC := hB2.trans (hC.mono (by omega))
    exact (bare5_any C M v l n i (hN.keep hBC hM) (Nat.le_trans hM hBC.size) hn (by omega) (hin i (by omega))).mono fun e w' h => ⟨h.1, hC.trans (h.2.mono hC.size)⟩
  · intro i C hC hi
    have hBC := hB2.trans (hC.mono (by omega))
    exact (free5_any C M v l n i (hN.keep hBC hM) (Nat.le_trans hM hBC.size) hn (by omega) (hin i (by omega))).mono fun e w' h => ⟨h.1, hC.trans (h.2.mono hC.size)⟩
  · intro C hC
    exact hB2.trans (hC.mono (by omega))
  · intro C hC
    have hs := hC.size
    have h1 := (hC.block W.heap.size (by omega)).trans hx1
    have h2 := (hC.block (W.heap.size + 1) (by omega)).trans hx2
    exact ⟨by rw [Lib.cell_of_heap h1]; rfl, (rcells5 h2).2.2.1, by omega, by omega⟩

set_option maxRecDepth 100000 in
set_option maxHeartbeats 4000000 in
theorem plain_22 (W : World) (M : Nat) (v : Value) (l : List Nd) (n : Nat) (hN : Nodes W M v l) (hM : M ≤ W.heap.size) (hn : n < l.length) (hk : need (nd l n).kind ≤ (nd l n).kids.length) (hins : ∀ k ∈ (nd l n).kids, ins l k = true) (hkd : (nd l n).kind = 22) :
    Calls Tryz.prog 22 #[.agg #[v], .int .i64 (n : Int)] W fun e w' => e = .returned (.bool (plainP l n)) ∧ Below W.heap.size W w' := by
  obtain ⟨W2, b, o, cap, ka, kc, rfl, hW2, H1, H2, HD, HCE, d0, d1, d2, d3, d4, t6, hl1⟩ := plain_setup W M v l n hN hM hn hk hins
  have H0 : Hid (Below W2.heap.size W2 W2) := Below.refl _ _
  have t1 : (n : Int) < l.length := by omega
  have t2 : (0 : Int) ≤ (n : Int) := by omega
  have HW2 := hide hW2
  have hv : plainP l n = emptyK l n 0 := by simp [plainP, bareP, hkd, typedK, typeK]
  rw [hkd] at d0 H1 H2 HW2
  rw [hv]
  obtain ⟨tx, htx⟩ : ∃ tx, (nd l n).text = tx := ⟨_, rfl⟩
  obtain ⟨kl, hkl⟩ : ∃ kl, (nd l n).kids.length = kl := ⟨_, rfl⟩
  obtain ⟨aa, haa⟩ : ∃ aa, (nd l n).at' = aa := ⟨_, rfl⟩
  obtain ⟨nu, hnu⟩ : ∃ nu, (nd l n).num = nu := ⟨_, rfl⟩
  rw [htx] at d1 HW2
  rw [hkl] at d3 HW2
  rw [haa] at d4 HW2
  rw [hnu] at d2 HW2 HCE
  have q : True := trivial
  have H1' : Hid (∀ C, Below W2.heap.size W2 C → _) := fun C hC => unhide H1 0 C hC (by decide)
  clear q hv hkd hN hk hins hW2 htx hkl haa hnu
  go_enter Tryz.func22, Tryz.ntmps22
  go_wp2_with (go_at_call 39; rw [unhide HW2]; refine (unhide H1' _ (unhide H0)).mono ?_; rintro e w1 ⟨rfl, hm1⟩; have HM1 := hide hm1; clear hm1; obtain ⟨y1, z1, r1, p1⟩ := unhide HCE w1 (unhide HM1))
  go_ret
  exact ⟨rfl, unhide HD _ (unhide HM1)⟩

set_option maxRecDepth 100000 in
set_option maxHeartbeats 4000000 in
theorem plain_43 (W : World) (M : Nat) (v : Value) (l : List Nd) (n : Nat) (hN : Nodes W M v l) (hM : M ≤ W.heap.size) (hn : n < l.length) (hk : need (nd l n).kind ≤ (nd l n).kids.length) (hins : ∀ k ∈ (nd l n).kids, ins l k = true) (hkd : (nd l n).kind = 43) :
    Calls Tryz.prog 22 #[.agg #[v], .int .i64 (n : Int)] W fun e w' => e = .returned (.bool (plainP l n)) ∧ Below W.heap.size W w' := by
  obtain ⟨W2, b, o, cap, ka, kc, rfl, hW2, H1, H2, HD, HCE, d0, d1, d2, d3, d4, t6, hl1⟩ := plain_setup W M v l n hN hM hn hk hins
  have H0 : Hid (Below W2.heap.size W2 W2) := Below.refl _ _
  have t1 : (n : Int) < l.length := by omega
  have t2 : (0 : Int) ≤ (n : Int) := by omega
  have HW2 := hide hW2
  have hv : plainP l n = emptyK l n 0 := by simp [plainP, bareP, hkd, typedK, typeK]
  rw [hkd] at d0 H1 H2 HW2
  rw [hv]
  obtain ⟨tx, htx⟩ : ∃ tx, (nd l n).text = tx := ⟨_, rfl⟩
  obtain ⟨kl, hkl⟩ : ∃ kl, (nd l n).kids.length = kl := ⟨_, rfl⟩
  obtain ⟨aa, haa⟩ : ∃ aa, (nd l n).at' = aa := ⟨_, rfl⟩
  obtain ⟨nu, hnu⟩ : ∃ nu, (nd l n).num = nu := ⟨_, rfl⟩
  rw [htx] at d1 HW2
  rw [hkl] at d3 HW2
  rw [haa] at d4 HW2
  rw [hnu] at d2 HW2 HCE
  have q : True := trivial
  have H1' : Hid (∀ C, Below W2.heap.size W2 C → _) := fun C hC => unhide H1 0 C hC (by decide)
  clear q hv hkd hN hk hins hW2 htx hkl haa hnu
  go_enter Tryz.func22, Tryz.ntmps22
  go_wp2_with (go_at_call 39; rw [unhide HW2]; refine (unhide H1' _ (unhide H0)).mono ?_; rintro e w1 ⟨rfl, hm1⟩; have HM1 := hide hm1; clear hm1; obtain ⟨y1, z1, r1, p1⟩ := unhide HCE w1 (unhide HM1))
  go_ret
  exact ⟨rfl, unhide HD _ (unhide HM1)⟩

set_option maxRecDepth 100000 in
set_option maxHeartbeats 4000000 in
theorem plain_41 (W : World) (M : Nat) (v : Value) (l : List Nd) (n : Nat) (hN : Nodes W M v l) (hM : M ≤ W.heap.size) (hn : n < l.length) (hk : need (nd l n).kind ≤ (nd l n).kids.length) (hins : ∀ k ∈ (nd l n).kids, ins l k = true) (hkd : (nd l n).kind = 41) :
    Calls Tryz.prog 22 #[.agg #[v], .int .i64 (n : Int)] W fun e w' => e = .returned (.bool (plainP l n)) ∧ Below W.heap.size W w' := by
  obtain ⟨W2, b, o, cap, ka, kc, rfl, hW2, H1, H2, HD, HCE, d0, d1, d2, d3, d4, t6, hl1⟩ := plain_setup W M v l n hN hM hn hk hins
  have H0 : Hid (Below W2.heap.size W2 W2) := Below.refl _ _
  have t1 : (n : Int) < l.length := by omega
  have t2 : (0 : Int) ≤ (n : Int) := by omega
  have HW2 := hide hW2
  have hv : plainP l n = (emptyK l n 0 && noneK l n 2) := by simp [plainP, bareP, hkd, typedK, typeK]
  rw [hkd] at d0 H1 H2 HW2
  rw [hv]
  obtain ⟨tx, htx⟩ : ∃ tx, (nd l n).text = tx := ⟨_, rfl⟩
  obtain ⟨kl, hkl⟩ : ∃ kl, (nd l n).kids.length = kl := ⟨_, rfl⟩
  obtain ⟨aa, haa⟩ : ∃ aa, (nd l n).at' = aa := ⟨_, rfl⟩
  obtain ⟨nu, hnu⟩ : ∃ nu, (nd l n).num = nu := ⟨_, rfl⟩
  rw [htx] at d1 HW2
  rw [hkl] at d3 HW2
  rw [haa] at d4 HW2
  rw [hnu] at d2 HW2 HCE
  have q : True := trivial
  have H1' : Hid (∀ C, Below W2.heap.size W2 C → _) := fun C hC => unhide H1 0 C hC (by decide)
  clear q hv hkd hN hk hins hW2 htx hkl haa hnu
  obtain ⟨eb, hE⟩ : ∃ eb, emptyK l n 0 = eb := ⟨_, rfl⟩
  rw [hE] at H1' ⊢
  have HE := hide hE
  clear hE
  cases eb with
  | true =>
    rw [Bool.true_and]
    go_enter Tryz.func22, Tryz.ntmps22
    go_wp2_with (first | (go_at_call 39; rw [unhide HW2]; refine (unhide H1' _ (unhide H0)).mono ?_; rintro e w1 ⟨rfl, hm1⟩; have HM1 := hide hm1; clear hm1; obtain ⟨y1, z1, r1, p1⟩ := unhide HCE w1 (unhide HM1)) | (go_at_call 40; refine (unhide H2 2 _ (unhide HM1) (by decide)).mono ?_; rintro e w2 ⟨rfl, hm2⟩; have HM2 := hide hm2; clear hm2; obtain ⟨y2, z2, r2, p2⟩ := unhide HCE w2 (unhide HM2)))
    go_ret
    exact ⟨rfl, unhide HD _ (unhide HM2)⟩
  | false =>
    rw [Bool.false_and]
    go_enter Tryz.func22, Tryz.ntmps22
    go_wp2_with (go_at_call 39; rw [unhide HW2]; refine (unhide H1' _ (unhide H0)).mono ?_; rintro e w1 ⟨rfl, hm1⟩; have HM1 := hide hm1; clear hm1; obtain ⟨y1, z1, r1, p1⟩ := unhide HCE w1 (unhide HM1))
    go_ret
    exact ⟨rfl, unhide HD _ (unhide HM1)⟩

set_option maxRecDepth 100000 in
set_option maxHeartbeats 4000000 in
theorem plain_45 (W : World) (M : Nat) (v : Value) (l : List Nd) (n : Nat) (hN : Nodes W M v l) (hM : M ≤ W.heap.size) (hn : n < l.length) (hk : need (nd l n).kind ≤ (nd l n).kids.length) (hins : ∀ k ∈ (nd l n).kids, ins l k = true) (hkd : (nd l n).kind = 45) :
    Calls Tryz.prog 22 #[.agg #[v], .int .i64 (n : Int)] W fun e w' => e = .returned (.bool (plainP l n)) ∧ Below W.heap.size W w' := by
  obtain ⟨W2, b, o, cap, ka, kc, rfl, hW2, H1, H2, HD, HCE, d0, d1, d2, d3, d4, t6, hl1⟩ := plain_setup W M v l n hN hM hn hk hins
  have H0 : Hid (Below W2.heap.size W2 W2) := Below.refl _ _
  have t1 : (n : Int) < l.length := by omega
  have t2 : (0 : Int) ≤ (n : Int) := by omega
  have HW2 := hide hW2
  have hv : plainP l n = (emptyK l n 0 && noneK l n 2) := by simp [plainP, bareP, hkd, typedK, typeK]
  rw [hkd] at d0 H1 H2 HW2
  rw [hv]
  obtain ⟨tx, htx⟩ : ∃ tx, (nd l n).text = tx := ⟨_, rfl⟩
  obtain ⟨kl, hkl⟩ : ∃ kl, (nd l n).kids.length = kl := ⟨_, rfl⟩
  obtain ⟨aa, haa⟩ : ∃ aa, (nd l n).at' = aa := ⟨_, rfl⟩
  obtain ⟨nu, hnu⟩ : ∃ nu, (nd l n).num = nu := ⟨_, rfl⟩
  rw [htx] at d1 HW2
  rw [hkl] at d3 HW2
  rw [haa] at d4 HW2
  rw [hnu] at d2 HW2 HCE
  have q : True := trivial
  have H1' : Hid (∀ C, Below W2.heap.size W2 C → _) := fun C hC => unhide H1 0 C hC (by decide)
  clear q hv hkd hN hk hins hW2 htx hkl haa hnu
  obtain ⟨eb, hE⟩ : ∃ eb, emptyK l n 0 = eb := ⟨_, rfl⟩
  rw [hE] at H1' ⊢
  have HE := hide hE
  clear hE
  cases eb with
  | true =>
    rw [Bool.true_and]
    go_enter Tryz.func22, Tryz.ntmps22
    go_wp2_with (first | (go_at_call 39; rw [unhide HW2]; refine (unhide H1' _ (unhide H0)).mono ?_; rintro e w1 ⟨rfl, hm1⟩; have HM1 := hide hm1; clear hm1; obtain ⟨y1, z1, r1, p1⟩ := unhide HCE w1 (unhide HM1)) | (go_at_call 40; refine (unhide H2 2 _ (unhide HM1) (by decide)).mono ?_; rintro e w2 ⟨rfl, hm2⟩; have HM2 := hide hm2; clear hm2; obtain ⟨y2, z2, r2, p2⟩ := unhide HCE w2 (unhide HM2)))
    go_ret
    exact ⟨rfl, unhide HD _ (unhide HM2)⟩
  | false =>
    rw [Bool.false_and]
    go_enter Tryz.func22, Tryz.ntmps22
    go_wp2_with (go_at_call 39; rw [unhide HW2]; refine (unhide H1' _ (unhide H0)).mono ?_; rintro e w1 ⟨rfl, hm1⟩; have HM1 := hide hm1; clear hm1; obtain ⟨y1, z1, r1, p1⟩ := unhide HCE w1 (unhide HM1))
    go_ret
    exact ⟨rfl, unhide HD _ (unhide HM1)⟩

set_option maxRecDepth 100000 in
set_option maxHeartbeats 4000000 in
theorem plain_42 (W : World) (M : Nat) (v : Value) (l : List Nd) (n : Nat) (hN : Nodes W M v l) (hM : M ≤ W.heap.size) (hn : n < l.length) (hk : need (nd l n).kind ≤ (nd l n).kids.length) (hins : ∀ k ∈ (nd l n).kids, ins l k = true) (hkd : (nd l n).kind = 42) :
    Calls Tryz.prog 22 #[.agg #[v], .int .i64 (n : Int)] W fun e w' => e = .returned (.bool (plainP l n)) ∧ Below W.heap.size W w' := by
  obtain ⟨W2, b, o, cap, ka, kc, rfl, hW2, H1, H2, HD, HCE, d0, d1, d2, d3, d4, t6, hl1⟩ := plain_setup W M v l n hN hM hn hk hins
  have H0 : Hid (Below W2.heap.size W2 W2) := Below.refl _ _
  have t1 : (n : Int) < l.length := by omega
  have t2 : (0 : Int) ≤ (n : Int) := by omega
  have HW2 := hide hW2
  have hv : plainP l n = (emptyK l n 0 && emptyK l n 2) := by simp [plainP, bareP, hkd, typedK, typeK]
  rw [hkd] at d0 H1 H2 HW2
  rw [hv]
  obtain ⟨tx, htx⟩ : ∃ tx, (nd l n).text = tx := ⟨_, rfl⟩
  obtain ⟨kl, hkl⟩ : ∃ kl, (nd l n).kids.length = kl := ⟨_, rfl⟩
  obtain ⟨aa, haa⟩ : ∃ aa, (nd l n).at' = aa := ⟨_, rfl⟩
  obtain ⟨nu, hnu⟩ : ∃ nu, (nd l n).num = nu := ⟨_, rfl⟩
  rw [htx] at d1 HW2
  rw [hkl] at d3 HW2
  rw [haa] at d4 HW2
  rw [hnu] at d2 HW2 HCE
  have q : True := trivial
  have H1' : Hid (∀ C, Below W2.heap.size W2 C → _) := fun C hC => unhide H1 0 C hC (by decide)
  clear q hv hkd hN hk hins hW2 htx hkl haa hnu
  obtain ⟨eb, hE⟩ : ∃ eb, emptyK l n 0 = eb := ⟨_, rfl⟩
  rw [hE] at H1' ⊢
  have HE := hide hE
  clear hE
  cases eb with
  | true =>
    rw [Bool.true_and]
    go_enter Tryz.func22, Tryz.ntmps22
    go_wp2_with (first | (go_at_call_of 39 (Value.int .i64 (0 : Int)); rw [unhide HW2]; refine (unhide H1' _ (unhide H0)).mono ?_; rintro e w1 ⟨rfl, hm1⟩; have HM1 := hide hm1; clear hm1; obtain ⟨y1, z1, r1, p1⟩ := unhide HCE w1 (unhide HM1)) | (go_at_call_of 39 (Value.int .i64 (2 : Int)); refine (unhide H1 2 _ (unhide HM1) (by decide)).mono ?_; rintro e w2 ⟨rfl, hm2⟩; have HM2 := hide hm2; clear hm2; obtain ⟨y2, z2, r2, p2⟩ := unhide HCE w2 (unhide HM2)))
    go_ret
    exact ⟨rfl, unhide HD _ (unhide HM2)⟩
  | false =>
    rw [Bool.false_and]
    go_enter Tryz.func22, Tryz.ntmps22
    go_wp2_with (go_at_call 39; rw [unhide HW2]; refine (unhide H1' _ (unhide H0)).mono ?_; rintro e w1 ⟨rfl, hm1⟩; have HM1 := hide hm1; clear hm1; obtain ⟨y1, z1, r1, p1⟩ := unhide HCE w1 (unhide HM1))
    go_ret
    exact ⟨rfl, unhide HD _ (unhide HM1)⟩

set_option maxRecDepth 100000 in
set_option maxHeartbeats 4000000 in
theorem plain_27 (W : World) (M : Nat) (v : Value) (l : List Nd) (n : Nat) (hN : Nodes W M v l) (hM : M ≤ W.heap.size) (hn : n < l.length) (hk : need (nd l n).kind ≤ (nd l n).kids.length) (hins : ∀ k ∈ (nd l n).kids, ins l k = true) (hkd : (nd l n).kind = 27) :
    Calls Tryz.prog 22 #[.agg #[v], .int .i64 (n : Int)] W fun e w' => e = .returned (.bool (plainP l n)) ∧ Below W.heap.size W w' := by
  obtain ⟨W2, b, o, cap, ka, kc, rfl, hW2, H1, H2, HD, HCE, d0, d1, d2, d3, d4, t6, hl1⟩ := plain_setup W M v l n hN hM hn hk hins
  have H0 : Hid (Below W2.heap.size W2 W2) := Below.refl _ _
  have t1 : (n : Int) < l.length := by omega
  have t2 : (0 : Int) ≤ (n : Int) := by omega
  have HW2 := hide hW2
  have hv : plainP l n = emptyK l n 1 := by simp [plainP, bareP, hkd, typedK, typeK]
  rw [hkd] at d0 H1 H2 HW2
  rw [hv]
  obtain ⟨tx, htx⟩ : ∃ tx, (nd l n).text = tx := ⟨_, rfl⟩
  obtain ⟨kl, hkl⟩ : ∃ kl, (nd l n).kids.length = kl := ⟨_, rfl⟩
  obtain ⟨aa, haa⟩ : ∃ aa, (nd l n).at' = aa := ⟨_, rfl⟩
  obtain ⟨nu, hnu⟩ : ∃ nu, (nd l n).num = nu := ⟨_, rfl⟩
  rw [htx] at d1 HW2
  rw [hkl] at d3 HW2
  rw [haa] at d4 HW2
  rw [hnu] at d2 HW2 HCE
  have q : True := trivial
  have H1' : Hid (∀ C, Below W2.heap.size W2 C → _) := fun C hC => unhide H1 1 C hC (by decide)
  clear q hv hkd hN hk hins hW2 htx hkl haa hnu
  go_enter Tryz.func22, Tryz.ntmps22
  go_wp2_with (go_at_call 39; rw [unhide HW2]; refine (unhide H1' _ (unhide H0)).mono ?_; rintro e w1 ⟨rfl, hm1⟩; have HM1 := hide hm1; clear hm1; obtain ⟨y1, z1, r1, p1⟩ := unhide HCE w1 (unhide HM1))
  go_ret
  exact ⟨rfl, unhide HD _ (unhide HM1)⟩

set_option maxRecDepth 100000 in
set_option maxHeartbeats 4000000 in
theorem plain_28 (W : World) (M : Nat) (v : Value) (l : List Nd) (n : Nat) (hN : Nodes W M v l) (hM : M ≤ W.heap.size) (hn : n < l.length) (hk : need (nd l n).kind ≤ (nd l n).kids.length) (hins : ∀ k ∈ (nd l n).kids, ins l k = true) (hkd : (nd l n).kind = 28) :
    Calls Tryz.prog 22 #[.agg #[v], .int .i64 (n : Int)] W fun e w' => e = .returned (.bool (plainP l n)) ∧ Below W.heap.size W w' := by
  obtain ⟨W2, b, o, cap, ka, kc, rfl, hW2, H1, H2, HD, HCE, d0, d1, d2, d3, d4, t6, hl1⟩ := plain_setup W M v l n hN hM hn hk hins
  have H0 : Hid (Below W2.heap.size W2 W2) := Below.refl _ _
  have t1 : (n : Int) < l.length := by omega
  have t2 : (0 : Int) ≤ (n : Int) := by omega
  have HW2 := hide hW2
  have hv : plainP l n = emptyK l n 1 := by simp [plainP, bareP, hkd, typedK, typeK]
  rw [hkd] at d0 H1 H2 HW2
  rw [hv]
  obtain ⟨tx, htx⟩ : ∃ tx, (nd l n).text = tx := ⟨_, rfl⟩
  obtain ⟨kl, hkl⟩ : ∃ kl, (nd l n).kids.length = kl := ⟨_, rfl⟩
  obtain ⟨aa, haa⟩ : ∃ aa, (nd l n).at' = aa := ⟨_, rfl⟩
  obtain ⟨nu, hnu⟩ : ∃ nu, (nd l n).num = nu := ⟨_, rfl⟩
  rw [htx] at d1 HW2
  rw [hkl] at d3 HW2
  rw [haa] at d4 HW2
  rw [hnu] at d2 HW2 HCE
  have q : True := trivial
  have H1' : Hid (∀ C, Below W2.heap.size W2 C → _) := fun C hC => unhide H1 1 C hC (by decide)
  clear q hv hkd hN hk hins hW2 htx hkl haa hnu
  go_enter Tryz.func22, Tryz.ntmps22
  go_wp2_with (go_at_call 39; rw [unhide HW2]; refine (unhide H1' _ (unhide H0)).mono ?_; rintro e w1 ⟨rfl, hm1⟩; have HM1 := hide hm1; clear hm1; obtain ⟨y1, z1, r1, p1⟩ := unhide HCE w1 (unhide HM1))
  go_ret
  exact ⟨rfl, unhide HD _ (unhide HM1)⟩

set_option maxRecDepth 100000 in
set_option maxHeartbeats 4000000 in
theorem plain_40 (W : World) (M : Nat) (v : Value) (l : List Nd) (n : Nat) (hN : Nodes W M v l) (hM : M ≤ W.heap.size) (hn : n < l.length) (hk : need (nd l n).kind ≤ (nd l n).kids.length) (hins : ∀ k ∈ (nd l n).kids, ins l k = true) (hkd : (nd l n).kind = 40) :
    Calls Tryz.prog 22 #[.agg #[v], .int .i64 (n : Int)] W fun e w' => e = .returned (.bool (plainP l n)) ∧ Below W.heap.size W w' := by
  obtain ⟨W2, b, o, cap, ka, kc, rfl, hW2, H1, H2, HD, HCE, d0, d1, d2, d3, d4, t6, hl1⟩ := plain_setup W M v l n hN hM hn hk hins
  have H0 : Hid (Below W2.heap.size W2 W2) := Below.refl _ _
  have t1 : (n : Int) < l.length := by omega
  have t2 : (0 : Int) ≤ (n : Int) := by omega
  have HW2 := hide hW2
  have hv : plainP l n = noneK l n 0 := by simp [plainP, bareP, hkd, typedK, typeK]
  rw [hkd] at d0 H1 H2 HW2
  rw [hv]
  obtain ⟨tx, htx⟩ : ∃ tx, (nd l n).text = tx := ⟨_, rfl⟩
  obtain ⟨kl, hkl⟩ : ∃ kl, (nd l n).kids.length = kl := ⟨_, rfl⟩
  obtain ⟨aa, haa⟩ : ∃ aa, (nd l n).at' = aa := ⟨_, rfl⟩
  obtain ⟨nu, hnu⟩ : ∃ nu, (nd l n).num = nu := ⟨_, rfl⟩
  rw [htx] at d1 HW2
  rw [hkl] at d3 HW2
  rw [haa] at d4 HW2
  rw [hnu] at d2 HW2 HCE
  have q : True := trivial
  have H2' : Hid (∀ C, Below W2.heap.size W2 C → _) := fun C hC => unhide H2 0 C hC (by decide)
  clear q hv hkd hN hk hins hW2 htx hkl haa hnu
  go_enter Tryz.func22, Tryz.ntmps22
  go_wp2_with (go_at_call 40; rw [unhide HW2]; refine (unhide H2' _ (unhide H0)).mono ?_; rintro e w1 ⟨rfl, hm1⟩; have HM1 := hide hm1; clear hm1; obtain ⟨y1, z1, r1, p1⟩ := unhide HCE w1 (unhide HM1))
  go_ret
  exact ⟨rfl, unhide HD _ (unhide HM1)⟩

set_option maxRecDepth 100000 in
set_option maxHeartbeats 4000000 in
theorem plain_66 (W : World) (M : Nat) (v : Value) (l : List Nd) (n : Nat) (hN : Nodes W M v l) (hM : M ≤ W.heap.size) (hn : n < l.length) (hk : need (nd l n).kind ≤ (nd l n).kids.length) (hins : ∀ k ∈ (nd l n).kids, ins l k = true) (hkd : (nd l n).kind = 66) :
    Calls Tryz.prog 22 #[.agg #[v], .int .i64 (n : Int)] W fun e w' => e = .returned (.bool (plainP l n)) ∧ Below W.heap.size W w' := by
  obtain ⟨W2, b, o, cap, ka, kc, rfl, hW2, H1, H2, HD, HCE, d0, d1, d2, d3, d4, t6, hl1⟩ := plain_setup W M v l n hN hM hn hk hins
  have H0 : Hid (Below W2.heap.size W2 W2) := Below.refl _ _
  have t1 : (n : Int) < l.length := by omega
  have t2 : (0 : Int) ≤ (n : Int) := by omega
  have HW2 := hide hW2
  have hv : plainP l n = (noneK l n 0 && (nd l n).num == 0) := by simp [plainP, bareP, hkd, typedK, typeK]
  rw [hkd] at d0 H1 H2 HW2
  rw [hv]
  obtain ⟨tx, htx⟩ : ∃ tx, (nd l n).text = tx := ⟨_, rfl⟩
  obtain ⟨kl, hkl⟩ : ∃ kl, (nd l n).kids.length = kl := ⟨_, rfl⟩
  obtain ⟨aa, haa⟩ : ∃ aa, (nd l n).at' = aa := ⟨_, rfl⟩
  obtain ⟨nu, hnu⟩ : ∃ nu, (nd l n).num = nu := ⟨_, rfl⟩
  rw [htx] at d1 HW2
  rw [hkl] at d3 HW2
  rw [haa] at d4 HW2
  rw [hnu] at d2 HW2 HCE
  have q : True := trivial
  rw [hnu]
  have H2' : Hid (∀ C, Below W2.heap.size W2 C → _) := fun C hC => unhide H2 0 C hC (by decide)
  clear q hv hkd hN hk hins hW2 htx hkl haa hnu
  obtain ⟨eb, hE⟩ : ∃ eb, noneK l n 0 = eb := ⟨_, rfl⟩
  rw [hE] at H2' ⊢
  have HE := hide hE
  clear hE
  cases eb with
  | true =>
    rw [Bool.true_and]
    go_enter Tryz.func22, Tryz.ntmps22
    go_wp2_with (go_at_call 40; rw [unhide HW2]; refine (unhide H2' _ (unhide H0)).mono ?_; rintro e w1 ⟨rfl, hm1⟩; have HM1 := hide hm1; clear hm1; obtain ⟨y1, z1, r1, p1⟩ := unhide HCE w1 (unhide HM1))
    go_ret
    exact ⟨rfl, unhide HD _ (unhide HM1)⟩
  | false =>
    simp only [Bool.false_and]
    go_enter Tryz.func22, Tryz.ntmps22
    go_wp2_with (go_at_call 40; rw [unhide HW2]; refine (unhide H2' _ (unhide H0)).mono ?_; rintro e w1 ⟨rfl, hm1⟩; have HM1 := hide hm1; clear hm1; obtain ⟨y1, z1, r1, p1⟩ := unhide HCE w1 (unhide HM1))
    go_ret
    exact ⟨rfl, unhide HD _ (unhide HM1)⟩

set_option maxRecDepth 100000 in
set_option maxHeartbeats 4000000 in
theorem plain_44 (W : World) (M : Nat) (v : Value) (l : List Nd) (n : Nat) (hN : Nodes W M v l) (hM : M ≤ W.heap.size) (hn : n < l.length) (hk : need (nd l n).kind ≤ (nd l n).kids.length) (hins : ∀ k ∈ (nd l n).kids, ins l k = true) (hkd : (nd l n).kind = 44) :
    Calls Tryz.prog 22 #[.agg #[v], .int .i64 (n : Int)] W fun e w' => e = .returned (.bool (plainP l n)) ∧ Below W.heap.size W w' := by
  obtain ⟨W2, b, o, cap, ka, kc, rfl, hW2, H1, H2, HD, HCE, d0, d1, d2, d3, d4, t6, hl1⟩ := plain_setup W M v l n hN hM hn hk hins
  have H0 : Hid (Below W2.heap.size W2 W2) := Below.refl _ _
  have t1 : (n : Int) < l.length := by omega
  have t2 : (0 : Int) ≤ (n : Int) := by omega
  have HW2 := hide hW2
  have hv : plainP l n = (noneK l n 0 && (nd l n).num == 0 && !noneK l n 1) := by simp [plainP, bareP, hkd, typedK, typeK]
  rw [hkd] at d0 H1 H2 HW2
  rw [hv]
  obtain ⟨tx, htx⟩ : ∃ tx, (nd l n).text = tx := ⟨_, rfl⟩
  obtain ⟨kl, hkl⟩ : ∃ kl, (nd l n).kids.length = kl := ⟨_, rfl⟩
  obtain ⟨aa, haa⟩ : ∃ aa, (nd l n).at' = aa := ⟨_, rfl⟩
  obtain ⟨nu, hnu⟩ : ∃ nu, (nd l n).num = nu := ⟨_, rfl⟩
  rw [htx] at d1 HW2
  rw [hkl] at d3 HW2
  rw [haa] at d4 HW2
  rw [hnu] at d2 HW2 HCE
  have q : True := trivial
  rw [hnu]
  have H2' : Hid (∀ C, Below W2.heap.size W2 C → _) := fun C hC => unhide H2 0 C hC (by decide)
  clear q hv hkd hN hk hins hW2 htx hkl haa hnu
  obtain ⟨eb, hE⟩ : ∃ eb, noneK l n 0 = eb := ⟨_, rfl⟩
  rw [hE] at H2' ⊢
  have HE := hide hE
  clear hE
  cases eb with
  | true =>
    rw [Bool.true_and]
    cases hZ : (nu == 0) with
    | true =>
      rw [Bool.true_and]
      go_enter Tryz.func22, Tryz.ntmps22
      go_wp2_with (first | (go_at_call_of 40 (Value.int .i64 (0 : Int)); rw [unhide HW2]; refine (unhide H2' _ (unhide H0)).mono ?_; rintro e w1 ⟨rfl, hm1⟩; have HM1 := hide hm1; clear hm1; obtain ⟨y1, z1, r1, p1⟩ := unhide HCE w1 (unhide HM1)) | (go_at_call_of 40 (Value.int .i64 (1 : Int)); refine (unhide H2 1 _ (unhide HM1) (by decide)).mono ?_; rintro e w2 ⟨rfl, hm2⟩; have HM2 := hide hm2; clear hm2; obtain ⟨y2, z2, r2, p2⟩ := unhide HCE w2 (unhide HM2)))
      go_ret
      exact ⟨rfl, unhide HD _ (unhide HM2)⟩
    | false =>
      rw [Bool.false_and]
      go_enter Tryz.func22, Tryz.ntmps22
      go_wp2_with (go_at_call 40; rw [unhide HW2]; refine (unhide H2' _ (unhide H0)).mono ?_; rintro e w1 ⟨rfl, hm1⟩; have HM1 := hide hm1; clear hm1; obtain ⟨y1, z1, r1, p1⟩ := unhide HCE w1 (unhide HM1))
      go_ret
      exact ⟨rfl, unhide HD _ (unhide HM1)⟩
  | false =>
    simp only [Bool.false_and]
    go_enter Tryz.func22, Tryz.ntmps22
    go_wp2_with (go_at_call 40; rw [unhide HW2]; refine (unhide H2' _ (unhide H0)).mono ?_; rintro e w1 ⟨rfl, hm1⟩; have HM1 := hide hm1; clear hm1; obtain ⟨y1, z1, r1, p1⟩ := unhide HCE w1 (unhide HM1))
    go_ret
    exact ⟨rfl, unhide HD _ (unhide HM1)⟩

set_option maxRecDepth 100000 in
set_option maxHeartbeats 4000000 in
theorem plain_typed (W : World) (M : Nat) (v : Value) (l : List Nd) (n : Nat) (hN : Nodes W M v l) (hM : M ≤ W.heap.size) (hn : n < l.length) (hk : need (nd l n).kind ≤ (nd l n).kids.length) (hins : ∀ k ∈ (nd l n).kids, ins l k = true) (hkd : (nd l n).kind = 33 ∨ (nd l n).kind = 34 ∨ (nd l n).kind = 47 ∨ (nd l n).kind = 48 ∨ (nd l n).kind = 49 ∨ (nd l n).kind = 50 ∨ (nd l n).kind = 51 ∨ (nd l n).kind = 52 ∨ (nd l n).kind = 67) :
    Calls Tryz.prog 22 #[.agg #[v], .int .i64 (n : Int)] W fun e w' => e = .returned (.bool (plainP l n)) ∧ Below W.heap.size W w' := by
  obtain ⟨W2, b, o, cap, ka, kc, rfl, hW2, H1, H2, HD, HCE, d0, d1, d2, d3, d4, t6, hl1⟩ := plain_setup W M v l n hN hM hn hk hins
  have H0 : Hid (Below W2.heap.size W2 W2) := Below.refl _ _
  have t1 : (n : Int) < l.length := by omega
  have t2 : (0 : Int) ≤ (n : Int) := by omega
  have HW2 := hide hW2
  have hv : plainP l n = false := by rcases hkd with h | h | h | h | h | h | h | h | h <;> simp [plainP, h, typedK]
  rw [hv]
  obtain ⟨tx, htx⟩ : ∃ tx, (nd l n).text = tx := ⟨_, rfl⟩
  obtain ⟨kl, hkl⟩ : ∃ kl, (nd l n).kids.length = kl := ⟨_, rfl⟩
  obtain ⟨aa, haa⟩ : ∃ aa, (nd l n).at' = aa := ⟨_, rfl⟩
  obtain ⟨nu, hnu⟩ : ∃ nu, (nd l n).num = nu := ⟨_, rfl⟩
  rw [htx] at d1 HW2
  rw [hkl] at d3 HW2
  rw [haa] at d4 HW2
  rw [hnu] at d2 HW2 HCE
  obtain ⟨kk, hkk⟩ : ∃ kk, (nd l n).kind = kk := ⟨_, rfl⟩
  rw [hkk] at d0 HW2 hkd
  clear hv hN hk hins hW2 htx hkl haa hnu hkk H1 H2
  rcases hkd with rfl | rfl | rfl | rfl | rfl | rfl | rfl | rfl | rfl <;>
  (go_enter Tryz.func22, Tryz.ntmps22
   go_wp2
   go_ret
   rw [unhide HW2]
   exact ⟨rfl, unhide HD _ (unhide H0)⟩)

set_option maxRecDepth 100000 in
set_option maxHeartbeats 4000000 in
theorem plain_rest (W : World) (M : Nat) (v : Value) (l : List Nd) (n : Nat) (hN : Nodes W M v l) (hM : M ≤ W.heap.size) (hn : n < l.length) (hk : need (nd l n).kind ≤ (nd l n).kids.length) (hins : ∀ k ∈ (nd l n).kids, ins l k = true) (hle : (nd l n).kind ≤ 87) (h33 : (nd l n).kind ≠ 33) (h34 : (nd l n).kind ≠ 34) (h47 : (nd l n).kind ≠ 47) (h48 : (nd l n).kind ≠ 48) (h49 : (nd l n).kind ≠ 49) (h50 : (nd l n).kind ≠ 50) (h51 : (nd l n).kind ≠ 51) (h52 : (nd l n).kind ≠ 52) (h67 : (nd l n).kind ≠ 67) (h22 : (nd l n).kind ≠ 22) (h43 : (nd l n).kind ≠ 43) (h41 : (nd l n).kind ≠ 41) (h45 : (nd l n).kind ≠ 45) (h42 : (nd l n).kind ≠ 42) (h27 : (nd l n).kind ≠ 27) (h28 : (nd l n).kind ≠ 28) (h40 : (nd l n).kind ≠ 40) (h66 : (nd l n).kind ≠ 66) (h44 : (nd l n).kind ≠ 44) :
    Calls Tryz.prog 22 #[.agg #[v], .int .i64 (n : Int)] W fun e w' => e = .returned (.bool (plainP l n)) ∧ Below W.heap.size W w' := by
  obtain ⟨W2, b, o, cap, ka, kc, rfl, hW2, H1, H2, HD, HCE, d0, d1, d2, d3, d4, t6, hl1⟩ := plain_setup W M v l n hN hM hn hk hins
  have H0 : Hid (Below W2.heap.size W2 W2) := Below.refl _ _
  have t1 : (n : Int) < l.length := by omega
  have t2 : (0 : Int) ≤ (n : Int) := by omega
  have HW2 := hide hW2
  have hv : plainP l n = decide ((nd l n).kind < 80) := by
    have h1 : bareP l n = true := by simp [bareP, h22, h43, h41, h45, h42, h27, h28, h40, h66, h44]
    by_cases h : (nd l n).kind < 80
    · have h2 : typedK (nd l n).kind = false := by
        have h85 : (nd l n).kind ≠ 85 := by omega
        have h3 : ¬ (80 : Int) ≤ (nd l n).kind := by omega
        simp [typedK, typeK, h33, h34, h47, h48, h49, h50, h51, h52, h67, h85, h3]
      rw [plainP, h1, h2, decide_eq_true h]; rfl
    · have h2 : typedK (nd l n).kind = true := by
        by_cases h85 : (nd l n).kind = 85
        · simp [typedK, h85]
        · have h3 : (80 : Int) ≤ (nd l n).kind := by omega
          simp [typedK, typeK, h85, h3, hle]
      rw [plainP, h1, h2, decide_eq_false h]; rfl
  rw [hv]
  obtain ⟨tx, htx⟩ : ∃ tx, (nd l n).text = tx := ⟨_, rfl⟩
  obtain ⟨kl, hkl⟩ : ∃ kl, (nd l n).kids.length = kl := ⟨_, rfl⟩
  obtain ⟨aa, haa⟩ : ∃ aa, (nd l n).at' = aa := ⟨_, rfl⟩
  obtain ⟨nu, hnu⟩ : ∃ nu, (nd l n).num = nu := ⟨_, rfl⟩
  rw [htx] at d1 HW2
  rw [hkl] at d3 HW2
  rw [haa] at d4 HW2
  rw [hnu] at d2 HW2 HCE
  obtain ⟨kk, hkk⟩ : ∃ kk, (nd l n).kind = kk := ⟨_, rfl⟩
  rw [hkk] at d0 HW2 h33 h34 h47 h48 h49 h50 h51 h52 h67 h22 h43 h41 h45 h42 h27 h28 h40 h66 h44 ⊢
  have q33 : (kk == 33) = false := beq_eq_false_iff_ne.2 h33
  have q34 : (kk == 34) = false := beq_eq_false_iff_ne.2 h34
  have q47 : (kk == 47) = false := beq_eq_false_iff_ne.2 h47
  have q48 : (kk == 48) = false := beq_eq_false_iff_ne.2 h48
  have q49 : (kk == 49) = false := beq_eq_false_iff_ne.2 h49
  have q50 : (kk == 50) = false := beq_eq_false_iff_ne.2 h50
  have q51 : (kk == 51) = false := beq_eq_false_iff_ne.2 h51
  have q52 : (kk == 52) = false := beq_eq_false_iff_ne.2 h52
  have q67 : (kk == 67) = false := beq_eq_false_iff_ne.2 h67
  have q22 : (kk == 22) = false := beq_eq_false_iff_ne.2 h22
  have q43 : (kk == 43) = false := beq_eq_false_iff_ne.2 h43
  have q41 : (kk == 41) = false := beq_eq_false_iff_ne.2 h41
  have q45 : (kk == 45) = false := beq_eq_false_iff_ne.2 h45
  have q42 : (kk == 42) = false := beq_eq_false_iff_ne.2 h42
  have q27 : (kk == 27) = false := beq_eq_false_iff_ne.2 h27
  have q28 : (kk == 28) = false := beq_eq_false_iff_ne.2 h28
  have q40 : (kk == 40) = false := beq_eq_false_iff_ne.2 h40
  have q66 : (kk == 66) = false := beq_eq_false_iff_ne.2 h66
  have q44 : (kk == 44) = false := beq_eq_false_iff_ne.2 h44
  clear hv hN hk hins hW2 htx hkl haa hnu hkk H1 H2 hle h33 h34 h47 h48 h49 h50 h51 h52 h67 h22 h43 h41 h45 h42 h27 h28 h40 h66 h44
  go_enter Tryz.func22, Tryz.ntmps22
  go_wp2
  go_ret
  rw [unhide HW2]
  exact ⟨rfl, unhide HD _ (unhide H0)⟩

theorem plain5_any (W : World) (M : Nat) (v : Value) (l : List Nd) (n : Nat) (hN : Nodes W M v l) (hM : M ≤ W.heap.size) (hn : n < l.length) (hk : need (nd l n).kind ≤ (nd l n).kids.length) (hins : ∀ k ∈ (nd l n).kids, ins l k = true) (hle : (nd l n).kind ≤ 87) :
    Calls Tryz.prog 22 #[.agg #[v], .int .i64 (n : Int)] W fun e w' => e = .returned (.bool (plainP l n)) ∧ Below W.heap.size W w' := by
  by_cases h22 : (nd l n).kind = 22
  · exact plain_22 W M v l n hN hM hn hk hins h22
  by_cases h43 : (nd l n).kind = 43
  · exact plain_43 W M v l n hN hM hn hk hins h43
  by_cases h41 : (nd l n).kind = 41
  · exact plain_41 W M v l n hN hM hn hk hins h41
  by_cases h45 : (nd l n).kind = 45
  · exact plain_45 W M v l n hN hM hn hk hins h45
  by_cases h42 : (nd l n).kind = 42
  · exact plain_42 W M v l n hN hM hn hk hins h42
  by_cases h27 : (nd l n).kind = 27
  · exact plain_27 W M v l n hN hM hn hk hins h27
  by_cases h28 : (nd l n).kind = 28
  · exact plain_28 W M v l n hN hM hn hk hins h28
  by_cases h40 : (nd l n).kind = 40
  · exact plain_40 W M v l n hN hM hn hk hins h40
  by_cases h66 : (nd l n).kind = 66
  · exact plain_66 W M v l n hN hM hn hk hins h66
  by_cases h44 : (nd l n).kind = 44
  · exact plain_44 W M v l n hN hM hn hk hins h44
  by_cases h33 : (nd l n).kind = 33
  · exact plain_typed W M v l n hN hM hn hk hins (.inl h33)
  by_cases h34 : (nd l n).kind = 34
  · exact plain_typed W M v l n hN hM hn hk hins (.inr (.inl h34))
  by_cases h47 : (nd l n).kind = 47
  · exact plain_typed W M v l n hN hM hn hk hins (.inr (.inr (.inl h47)))
  by_cases h48 : (nd l n).kind = 48
  · exact plain_typed W M v l n hN hM hn hk hins (.inr (.inr (.inr (.inl h48))))
  by_cases h49 : (nd l n).kind = 49
  · exact plain_typed W M v l n hN hM hn hk hins (.inr (.inr (.inr (.inr (.inl h49)))))
  by_cases h50 : (nd l n).kind = 50
  · exact plain_typed W M v l n hN hM hn hk hins (.inr (.inr (.inr (.inr (.inr (.inl h50))))))
  by_cases h51 : (nd l n).kind = 51
  · exact plain_typed W M v l n hN hM hn hk hins (.inr (.inr (.inr (.inr (.inr (.inr (.inl h51)))))))
  by_cases h52 : (nd l n).kind = 52
  · exact plain_typed W M v l n hN hM hn hk hins (.inr (.inr (.inr (.inr (.inr (.inr (.inr (.inl h52))))))))
  by_cases h67 : (nd l n).kind = 67
  · exact plain_typed W M v l n hN hM hn hk hins (.inr (.inr (.inr (.inr (.inr (.inr (.inr (.inr (h67)))))))))
  exact plain_rest W M v l n hN hM hn hk hins hle h33 h34 h47 h48 h49 h50 h51 h52 h67 h22 h43 h41 h45 h42 h27 h28 h40 h66 h44
end Go.Proofs.YtnnpkomedpjlcaaGreatDoor
