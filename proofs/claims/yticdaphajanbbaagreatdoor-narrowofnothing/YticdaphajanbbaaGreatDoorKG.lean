/- How large a type of these parts is. -/
import Derived.LoopTactic
import Derived.Test.YticdaphajanbbaaGreatDoorKF
namespace Go.Proofs.YticdaphajanbbaaGreatDoor
set_option linter.unusedSimpArgs false
set_option linter.unusedVariables false
set_option maxRecDepth 100000
set_option maxHeartbeats 2000000
open Go.RowKit Go.Shelf

variable {P : Program} {lo M : Nat} {mo : Option Nat} {dv : Value} {L : List Kt} {W : World}
theorem iv_get {ps : List Int} {i : Nat} {p : Int} (h : ps[i]? = some p) : (iv ps)[i]? = some (.int .i64 p) := by simp [iv, h]
theorem iv_len (ps : List Int) : (iv ps).length = ps.length := by simp [iv]
theorem sv_len (ps : List ByteArray) : (sv ps).length = ps.length := by simp [sv]
/-- A number in a row. -/
theorem RowR.int {pa : Option Addr} {pc : Nat} {ps : List Int} (h : RowR 3 W (.slice pa (iv ps).length pc) (iv ps)) {i : Nat} {p : Int} (hp : ps[i]? = some p) : ∃ b o, pa = some ⟨b, o, none⟩ ∧ W.cell? ⟨b, o + i, none⟩ = some (.int .i64 p) ∧ b < W.heap.size := by
  obtain ⟨a, cap, e, _, _, h⟩ := h
  cases e
  rcases h with h | ⟨b, o, cur, fr, e, hh, hc⟩
  · have := iv_get hp; rw [h] at this; simp at this
  · exact ⟨b, o, e, by simp [World.cell?, hh, hc i _ (iv_get hp)], (Array.getElem?_eq_some_iff.1 hh).1⟩
theorem RowR.cap {t : Nat} {v : Value} {xs : List Value} (h : RowR t W v xs) : ∃ a c, v = .slice a xs.length c ∧ xs.length ≤ c ∧ c ≤ 9223372036854775807 := by
  obtain ⟨a, c, h1, h2, h3, _⟩ := h
  exact ⟨a, c, h1, h2, by unfold maxLen at h3; omega⟩
theorem sizeP_drop {ps : List Int} {i : Nat} {p : Int} (h : ps[i]? = some p) (acc : Int) : sizeP L (ps.drop i) acc = if p = -1 then 501 else sizeP L (ps.drop (i + 1)) (acc + szP L p) := by
  have hi : i < ps.length := (List.getElem?_eq_some_iff.1 h).1
  have : ps[i] = p := (List.getElem?_eq_some_iff.1 h).2
  rw [List.drop_eq_getElem_cons hi, this, sizeP]
theorem sizeOver_any (h : AAt Tryz.prog lo M mo dv L W) (pv : Value) (ps : List Int) (hp : RowR 3 W pv (iv ps)) (hv : ∀ p ∈ ps, IsX L p) (hs : SzOk L) (hl : ps.length ≤ 1000000000) :
    Calls Tryz.prog 34 #[.pointer (some ⟨M, 0, none⟩), pv] W fun e w' => e = .returned (.int .i64 (sizeP L ps 1)) ∧ w' = W := by
  obtain ⟨pa, pc, rfl, q1, q2⟩ := hp.cap
  have hM := h.lt
  have HA := hide h
  have HP := hide hp
  have HV := hide hv
  have HS := hide hs
  clear h hp hv hs
  rw [iv_len] at *
  go_enter Tryz.func34, Tryz.ntmps34
  go_wp2
  go_loop [5, 10] (fun t u => ∃ (i : Nat) (acc : Int), i ≤ ps.length ∧ u = .int .i64 (i : Int) ∧ t = .int .i64 acc ∧ 0 ≤ acc ∧ acc ≤ 1 + 500 * (i : Int) ∧ sizeP L (ps.drop i) acc = sizeP L ps 1) (fun _ u => ps.length - (intOf u).toNat)
  case atStart => exact ⟨0, 1, Nat.zero_le _, rfl, rfl, by omega, by omega, by simp⟩
  case round =>
    obtain ⟨i, acc, hi, rfl, rfl, ha, hb, hacc⟩ := hrel
    by_cases hil : i < ps.length
    · obtain ⟨p, hpi⟩ : ∃ p, ps[i]? = some p := ⟨_, List.getElem?_eq_getElem hil⟩
      have HP' := unhide HP
      rw [← iv_len] at HP'
      obtain ⟨b, o, rfl, cp, hbl⟩ := HP'.int hpi
      have hd := sizeP_drop (L := L) hpi acc
      clear HP'
      rcases unhide HV p (List.mem_of_getElem? hpi) with rfl | hip
      · rw [if_pos rfl] at hd
        have HD := hide (hacc.symm.trans hd)
        clear hacc hd hpi HP HV
        go_wp2
        go_ret
        exact ⟨by rw [unhide HD]; rfl, rfl⟩
      · obtain ⟨j, k, rfl, hjl, hk⟩ := hip.get
        obtain ⟨g, cap, v, c0, h1, h2, h3, h4, h5⟩ := (unhide HA).one hk
        have c7 := h5 7 _ rfl
        have hne : ((j : Int) == -1) = false := by simp <;> omega
        have hz : szP L (j : Int) = k.size := by simp [szP, hk]
        have hk1 := unhide HS k (List.mem_of_getElem? hk)
        rw [if_neg (by omega), hz] at hd
        have HD := hide (hd.symm.trans hacc)
        obtain ⟨ks, hks⟩ : ∃ ks, k.size = ks := ⟨_, rfl⟩
        rw [hks] at HD c7 hk1
        clear hacc hd hpi HP HV hip hk hks h4 h5 HA HS hz
        go_wp2
        go_round
        case rel => exact ⟨i + 1, acc + ks, by omega, by go_num, by go_num, by omega, by omega, unhide HD⟩
        case measure => simp [intOf]; omega
    · have hie : i = ps.length := by omega
      subst hie
      rw [List.drop_length] at hacc
      have hacc : acc = sizeP L ps 1 := hacc
      subst hacc
      go_wp2
      go_ret
      exact ⟨rfl, rfl⟩
end Go.Proofs.YticdaphajanbbaaGreatDoor
