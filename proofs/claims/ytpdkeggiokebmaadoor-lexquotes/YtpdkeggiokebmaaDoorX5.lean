/- A text among texts: slices.Index, slices.Contains. -/
import Derived.LoopN
import Derived.Test.YtpdkeggiokebmaaDoorX2
namespace Go.Proofs.YtpdkeggiokebmaaDoor
set_option linter.unusedSimpArgs false
set_option linter.unusedVariables false
open Go.RowKit Go.Shelf

/-- A row of texts. -/
def Txts (W : World) (b off : Nat) (l : List ByteArray) : Prop := ∀ j s, l[j]? = some s → W.cell? ⟨b, off + j, none⟩ = some (.string s)
/-- Is a text among them? -/
def hasT (l : List ByteArray) (v : ByteArray) : Bool := l.any fun s => v.toList == s.toList
theorem hasT_yes {l : List ByteArray} {v s : ByteArray} {k : Nat} (h : l[k]? = some s) (e : (v.toList == s.toList) = true) : hasT l v = true :=
  List.any_eq_true.2 ⟨s, List.mem_of_getElem? h, e⟩
theorem hasT_no {l : List ByteArray} {v : ByteArray} (h : ∀ (j : Nat) (s : ByteArray), l[j]? = some s → (v.toList == s.toList) = false) : hasT l v = false := by
  refine List.any_eq_false.2 fun s hs => ?_
  obtain ⟨j, hj⟩ := List.getElem?_of_mem hs
  rw [h j s hj]
  decide

set_option maxHeartbeats 1000000 in
theorem index_any (b off n cap : Nat) (l : List ByteArray) (v : ByteArray) (W : World) (hT : Txts W b off l) (hn : n = l.length) (hl : l.length ≤ cap) (hc : cap ≤ 1048576) :
    Calls Tryd.prog 96 #[.slice (some ⟨b, off, none⟩) n cap, .string v] W fun e W' => (∃ i : Int, e = .returned (.int .i64 i) ∧ decide (0 ≤ i) = hasT l v) ∧ W' = W := by
  subst hn
  have HT := hide hT
  clear hT
  go_enter Tryd.func96, Tryd.ntmps96
  go_wp2
  go_loopw [8] (fun t wr => ∃ k : Nat, k ≤ l.length ∧ t = .int .i64 (k : Int) ∧ (∀ j s, j < k → l[j]? = some s → (v.toList == s.toList) = false) ∧ wr = W) (fun t _ => l.length - (intOf t).toNat)
  case atStart => exact ⟨0, Nat.zero_le _, rfl, fun j s h => by omega, rfl⟩
  case round =>
    obtain ⟨k, hk, rfl, hno, hw⟩ := hrel
    subst wr
    have HNO := hide hno
    clear hno
    by_cases hlt : k < l.length
    · have hlt' : (k : Int) < l.length := by omega
      obtain ⟨s, hs⟩ : ∃ s, l[k]? = some s := ⟨_, List.getElem?_eq_getElem hlt⟩
      have hcell := unhide HT k s hs
      have HS := hide hs
      clear hs
      cases he : (v.toList == s.toList) with
      | true =>
        go_wp2
        go_ret
        refine ⟨⟨_, rfl, ?_⟩, rfl⟩
        rw [hasT_yes (unhide HS) he]
        simp
      | false =>
        go_wp2
        refine ⟨⟨k + 1, by omega, by go_num, fun j s' hj hs' => ?_, trivial⟩, by simp [intOf]; omega⟩
        by_cases hjk : j = k
        · subst hjk
          have := hs'.symm.trans (unhide HS)
          cases this
          exact he
        · exact unhide HNO j s' (by omega) hs'
    · have hlt' : ¬ (k : Int) < l.length := by omega
      go_wp2
      go_ret
      refine ⟨⟨_, rfl, ?_⟩, rfl⟩
      rw [hasT_no fun j s hs => unhide HNO j s (by have := (List.getElem?_eq_some_iff.1 hs).1; omega) hs]
      rfl

set_option maxRecDepth 100000 in
set_option maxHeartbeats 400000 in
theorem contains_any (b off n cap : Nat) (l : List ByteArray) (v : ByteArray) (W : World) (hT : Txts W b off l) (hn : n = l.length) (hl : l.length ≤ cap) (hc : cap ≤ 1048576) :
    Calls Tryd.prog 81 #[.slice (some ⟨b, off, none⟩) n cap, .string v] W fun e W' => e = .returned (.bool (hasT l v)) ∧ W' = W := by
  subst hn
  have HC := hide (index_any b off _ cap l v W hT rfl hl hc)
  clear hT
  go_enter Tryd.func81, Tryd.ntmps81
  go_wp2_with (go_at_call 96; refine (unhide HC).mono ?_; rintro x w' ⟨⟨i, rfl, hi⟩, hw⟩; subst w'; have HI := hide hi; clear hi)
  go_ret
  rw [← unhide HI]
  exact ⟨rfl, rfl⟩
end Go.Proofs.YtpdkeggiokebmaaDoor
