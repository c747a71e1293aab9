/- A type's text, in parentheses or not. -/
import Derived.Deep.MidRow
import Derived.Laws.Tables
import Derived.Test.YticdaphajanbbaaGreatDoorKG
namespace Go.Proofs.YticdaphajanbbaaGreatDoor
set_option linter.unusedSimpArgs false
set_option linter.unusedVariables false
set_option maxRecDepth 100000
set_option maxHeartbeats 2000000
open Go.RowKit Go.Shelf

variable {P : Program} {lo M : Nat} {mo : Option Nat} {dv : Value} {L : List Kt} {W : World}
def WdOk (L : List Kt) : Prop := ∀ k ∈ L, (k.words.size : Int) ≤ k.size * 4294967296
def closedW (k : Kt) (ks : List Int) : ByteArray := if ks.contains k.kind then (⟨#[40]⟩ ++ k.words) ++ ⟨#[41]⟩ else k.words
theorem info82 : (Tryz.prog.info? 75).map (·.size) = some 8 := by kernel_rfl
theorem ktC_slices {k : Kt} {v : Value × Value × Value} (h : KtIn W k v) : ∃ pa pc na nc ma mc, v = (.slice pa k.parts.length pc, .slice na k.names.length nc, .slice ma k.marks.length mc) := by
  obtain ⟨pa, pc, h1, -⟩ := h.p
  obtain ⟨na, nc, h2, -⟩ := h.n
  obtain ⟨ma, mc, h3, -⟩ := h.m
  obtain ⟨v1, v2, v3⟩ := v
  simp only at h1 h2 h3
  refine ⟨pa, pc, na, nc, ma, mc, ?_⟩
  rw [h1, h2, h3]
  simp [iv, sv, bv]
theorem one8 (a0 a1 a7 : Int) (s6 s2 : ByteArray) (pa na ma : Option Addr) (a b c d e f : Nat) : (#[.int .i64 a0, .int .i64 a1, .string s2, .slice pa a b, .slice na c d, .slice ma e f, .string s6, .int .i64 a7] : Array Value).all (·.oneCell') = true := by simp [Value.oneCell']
def z82 : Array Value := #[.int .i64 0, .int .i64 0, .string ⟨#[]⟩, .slice none 0 0, .slice none 0 0, .slice none 0 0, .string ⟨#[]⟩, .int .i64 0]
theorem closed_any (h : AAt Tryz.prog lo M mo dv L W) (i : Nat) (k : Kt) (hk : L[i]? = some k) (pv : Value) (ks : List Int) (hp : RowR 3 W pv (iv ks)) (hw : k.words.size ≤ 4611686018427387904) (hl : ks.length ≤ 1000000000) :
    Calls Tryz.prog 49 #[.pointer (some ⟨M, 0, none⟩), .int .i64 (i : Int), pv] W fun e w' => e = .returned (.string (closedW k ks)) ∧ Below W.heap.size W w' := by
  obtain ⟨pa, pc, rfl, q1, q2⟩ := hp.cap
  obtain ⟨g, cap, v, c0, h1, h2, h3, h4, h5⟩ := h.one hk
  have hM := h.lt
  obtain ⟨va, vb, vc, vd, ve, vf, rfl⟩ := ktC_slices h4
  unfold ktC at h5
  obtain ⟨kk, hkk⟩ : ∃ kk, k.kind = kk := ⟨_, rfl⟩
  obtain ⟨kw, hkw⟩ : ∃ kw, k.words = kw := ⟨_, rfl⟩
  have hcl : closedW k ks = if ks.contains kk then (⟨#[40]⟩ ++ kw) ++ ⟨#[41]⟩ else kw := by unfold closedW; rw [hkk, hkw]
  rw [hkk, hkw] at h5
  rw [hkw] at hw
  have HCL := hide hcl
  obtain ⟨W1, hW1⟩ : ∃ W1, (W.alloc (.cells z82 75)).setRow W.heap.size #[.int .i64 kk, .int .i64 k.num, .string k.text, .slice va k.parts.length vb, .slice vc k.names.length vd, .slice ve k.marks.length vf, .string kw, .int .i64 k.size] = W1 := ⟨_, rfl⟩
  have hx1 : Bx W1 W.heap.size #[.int .i64 kk, .int .i64 k.num, .string k.text, .slice va k.parts.length vb, .slice vc k.names.length vd, .slice ve k.marks.length vf, .string kw, .int .i64 k.size] 75 := by
    rw [← hW1]; exact setRow_heap _ _ _ _ _ _ (al_at W _)
  have hb1 : Below W.heap.size W W1 := by rw [← hW1]; exact below_row ((Below.refl _ W).alloc (Nat.le_refl _) _) (Nat.le_refl _) _
  have HB := hide hb1
  have HP := hide (hp.below hb1)
  have HN := hide h5
  have d0 := hx1.cell 0 rfl
  have d6 := hx1.cell 6 rfl
  have dl := hx1.lt
  clear h hp hkk hkw hcl h4 h5 hk hb1 hx1
  unfold z82 at hW1
  rw [iv_len] at *
  go_enter Tryz.func49, Tryz.ntmps49
  go_wp2_with (first
    | (refine wpList_load_mid rfl 75 _ rfl g (i * 8) rfl _ _ (unhide HN) Tryz.underlying75 rfl info82 ?_)
    | (refine wpList_store_row rfl 75 _ _ rfl W.heap.size _ rfl rfl 75 _ (al_at W _) info82 rfl (one8 _ _ _ _ _ _ _ _ _ _ _ _ _ _) ?_))
  go_loop [19] (fun u => ∃ j : Nat, j ≤ ks.length ∧ u = .int .i64 (j : Int) ∧ (ks.take j).contains kk = false) (fun u => ks.length - (intOf u).toNat)
  case atStart => exact ⟨0, Nat.zero_le _, rfl, rfl⟩
  case round =>
    obtain ⟨j, hj, rfl, hc⟩ := hrel
    by_cases hjl : j < ks.length
    · obtain ⟨p, hpj⟩ : ∃ p, ks[j]? = some p := ⟨_, List.getElem?_eq_getElem hjl⟩
      have HP' := unhide HP
      rw [← iv_len] at HP'
      obtain ⟨b, o, rfl, cp, hbl⟩ := HP'.int hpj
      have hge : ks[j] = p := (List.getElem?_eq_some_iff.1 hpj).2
      have hmem : p ∈ ks := List.mem_of_getElem? hpj
      have htk : ks.take (j + 1) = ks.take j ++ [p] := by rw [List.take_add_one, hpj]; rfl
      clear HP'
      by_cases hpk : kk = p
      · subst hpk
        have HC : Hid (ks.contains kk = true) := by show _ = true; simpa using hmem
        clear hc hge hmem htk hpj
        go_wp2
        go_ret
        exact ⟨by rw [unhide HCL, if_pos (unhide HC)]; rfl, unhide HB⟩
      · have HC : Hid ((ks.take (j + 1)).contains kk = false) := by
          show _ = false
          rw [htk]
          simp only [List.contains_append, hc, Bool.false_or]
          simp [hpk]
        have hne : (kk == p) = false := by simpa using hpk
        clear hc hge hmem htk hpj hpk
        go_wp2
        go_round
        case rel => exact ⟨j + 1, by omega, by go_num, unhide HC⟩
        case measure => simp [intOf]; omega
    · have hje : j = ks.length := by omega
      subst hje
      rw [List.take_length] at hc
      have HC := hide hc
      clear hc
      go_wp2
      go_ret
      exact ⟨by rw [unhide HCL, unhide HC]; rfl, unhide HB⟩
end Go.Proofs.YticdaphajanbbaaGreatDoor
