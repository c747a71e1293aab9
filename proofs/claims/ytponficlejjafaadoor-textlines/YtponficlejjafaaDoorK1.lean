/- text.spans: its iterator goes through the lines of any row of bytes. -/
import Derived.Test.YtponficlejjafaaDoorB2
import Derived.Test.YtponficlejjafaaDoorK0
namespace Go.Proofs.YtponficlejjafaaDoor
set_option linter.unusedSimpArgs false
set_option linter.unusedVariables false
open Go.RowKit Go.Shelf

attribute [local go_sem] Oper.semAt_some

/-- A span within so many bytes. -/
def Sp (len : Nat) (x : Nat × Nat) : Prop := x.1 ≤ x.2 ∧ x.2 ≤ len

set_option maxRecDepth 100000 in
set_option maxHeartbeats 2000000 in
theorem spans1_in (n : Nat) (hn : 1 ≤ n) (l Bs b off len cap : Nat) (g : Nat → Int) (hg : ∀ j, 0 ≤ g j ∧ g j ≤ 255) (hcap : len ≤ cap) (hm : cap ≤ maxLen) (J Jx : List (Nat × Nat) → World → Prop)
    (hY : ∀ pre x W, Sp len x → J pre W → pre.length < len + 1 → YieldAt Fence.wide (n - 1) Tryd.prog l #[.int .i64 (x.1 : Int), .int .i64 (x.2 : Int)] W fun e W' =>
      (e = .returned (.bool true) ∧ J (pre ++ [x]) W' ∧ KeepS (fun k => k = Bs ∨ k = b) W W') ∨ (e = .returned (.bool false) ∧ Jx (pre ++ [x]) W'))
    (W : World) (hBs : W.cell? ⟨Bs, 0, none⟩ = some (.slice (some ⟨b, off, none⟩) len cap)) (hc : ∀ j, j < len → W.cell? ⟨b, off + j, none⟩ = some (.int .u8 (g j))) (h0 : J [] W) :
    CallsIn Fence.wide n Tryd.prog 44 #[.func (.yield l) #[] #[], .pointer (some ⟨Bs, 0, none⟩)] W fun e W' => (∃ v, e = .returned v) ∧
      (J (allL g len) W' ∨ (∃ pre, (pre <+: allL g len ∧ pre ≠ []) ∧ Jx pre W')) := by
  unfold maxLen at hm
  refine callsIn_of_wp Tryd.func44 rfl trivial ?_ rfl
  simp only [Tryd.ntmps44, List.size_toArray, List.length_cons, List.length_nil, Nat.reduceAdd, Nat.reduceSub, Array.replicate_succ, Array.replicate_zero, List.push_toArray, List.append_toArray, List.nil_append, List.cons_append]
  gi_wp2
  gi_loopw [3, 8] (fun a p wr => ∃ i : Nat, i ≤ len ∧ p = .int .i64 (i : Int) ∧ a = .int .i64 ((lns g i).2 : Int) ∧ J (lns g i).1 wr ∧ KeepS (fun k => k = Bs ∨ k = b) W wr)
    (fun _ p _ => len - (intOf p).toNat)
  case atStart => exact ⟨0, Nat.zero_le _, rfl, rfl, h0, fun _ _ => rfl⟩
  case round =>
    obtain ⟨i, hi, rfl, rfl, hJs, hks⟩ := hrel
    have hbx : wr.cell? ⟨Bs, 0, none⟩ = some (.slice (some ⟨b, off, none⟩) len cap) := (hks.cell (p := ⟨Bs, 0, none⟩) (.inl rfl)).trans hBs
    have hle := lns_le g i
    have hll := lns_length g i
    by_cases hlt : i < len
    · have hlt' : (i : Int) < len := by omega
      have hci : wr.cell? ⟨b, off + i, none⟩ = some (.int .u8 (g i)) := (hks.cell (p := ⟨b, off + i, none⟩) (.inr rfl)).trans (hc i hlt)
      have hgi := hg i
      by_cases h10 : g i = 10
      · obtain ⟨fn, tmps, assign, body, hy, hR⟩ := hY _ ((lns g i).2, i) wr ⟨hle, hi⟩ hJs (by omega)
        have hb10 : (g i == 10) = true := by simp [h10]
        have L1 := hide (lns_yes h10)
        clear h10
        gi_wp2
        refine hR.mono ?_
        rintro e W3 (⟨rfl, hJ3, hk3⟩ | ⟨rfl, hJx3⟩)
        · gi_wp2
          go_roundw
          case rel => exact ⟨i + 1, hlt, by go_num, by rw [unhide L1]; go_num, by rw [unhide L1]; exact hJ3, hks.trans hk3⟩
          case measure => simp [intOf]; omega
        · gi_wp2
          refine bodyPost_ret (results_none rfl _ _ _) rfl ?_
          refine ⟨⟨_, rfl⟩, .inr ⟨_, ⟨?_, by simp⟩, hJx3⟩⟩
          have := lns_allL g (i := i + 1) hlt
          rw [unhide L1] at this
          exact this
      · have hb10 : (g i == 10) = false := by simp [h10]
        have L1 := hide (lns_no h10)
        clear h10
        gi_wp2
        go_roundw
        case rel => exact ⟨i + 1, hlt, by go_num, by rw [unhide L1], by rw [unhide L1]; exact hJs, hks⟩
        case measure => simp [intOf]; omega
    · have hlt' : ¬ (i : Int) < len := by omega
      obtain rfl : i = len := by omega
      obtain ⟨fn, tmps, assign, body, hy, hR⟩ := hY _ ((lns g i).2, i) wr ⟨hle, Nat.le_refl _⟩ hJs (by omega)
      gi_wp2
      refine hR.mono ?_
      rintro e W3 (⟨rfl, hJ3, hk3⟩ | ⟨rfl, hJx3⟩)
      · gi_wp2
        go_end0
        exact ⟨⟨_, rfl⟩, .inl hJ3⟩
      · gi_wp2
        go_end0
        exact ⟨⟨_, rfl⟩, .inr ⟨_, ⟨List.prefix_refl _, by simp [allL]⟩, hJx3⟩⟩

set_option maxRecDepth 100000 in
set_option maxHeartbeats 1000000 in
theorem spans1_nil (n : Nat) (hn : 1 ≤ n) (l Bs b : Nat) (a : Option Addr) (cap : Nat) (g : Nat → Int) (J Jx : List (Nat × Nat) → World → Prop)
    (hY : ∀ pre x W, Sp 0 x → J pre W → pre.length < 0 + 1 → YieldAt Fence.wide (n - 1) Tryd.prog l #[.int .i64 (x.1 : Int), .int .i64 (x.2 : Int)] W fun e W' =>
      (e = .returned (.bool true) ∧ J (pre ++ [x]) W' ∧ KeepS (fun k => k = Bs ∨ k = b) W W') ∨ (e = .returned (.bool false) ∧ Jx (pre ++ [x]) W'))
    (W : World) (hBs : W.cell? ⟨Bs, 0, none⟩ = some (.slice a 0 cap)) (h0 : J [] W) :
    CallsIn Fence.wide n Tryd.prog 44 #[.func (.yield l) #[] #[], .pointer (some ⟨Bs, 0, none⟩)] W fun e W' => (∃ v, e = .returned v) ∧
      (J (allL g 0) W' ∨ (∃ pre, (pre <+: allL g 0 ∧ pre ≠ []) ∧ Jx pre W')) := by
  refine callsIn_of_wp Tryd.func44 rfl trivial ?_ rfl
  simp only [Tryd.ntmps44, List.size_toArray, List.length_cons, List.length_nil, Nat.reduceAdd, Nat.reduceSub, Array.replicate_succ, Array.replicate_zero, List.push_toArray, List.append_toArray, List.nil_append, List.cons_append]
  gi_wp2
  gi_loopw [3, 8] (fun a p wr => a = .int .i64 0 ∧ p = .int .i64 0 ∧ J [] wr ∧ wr = W) (fun _ _ _ => 0)
  case atStart => exact ⟨rfl, rfl, h0, rfl⟩
  case round =>
    obtain ⟨rfl, rfl, hJs, rfl⟩ := hrel
    obtain ⟨fn, tmps, assign, body, hy, hR⟩ := hY _ (0, 0) wr ⟨Nat.le_refl _, Nat.le_refl _⟩ hJs (by simp)
    simp only [show ((0 : Nat) : Int) = 0 from rfl] at hy
    gi_wp2
    refine hR.mono ?_
    rintro e W3 (⟨rfl, hJ3, hk3⟩ | ⟨rfl, hJx3⟩)
    · gi_wp2
      go_end0
      exact ⟨⟨_, rfl⟩, .inl hJ3⟩
    · gi_wp2
      go_end0
      exact ⟨⟨_, rfl⟩, .inr ⟨_, ⟨List.prefix_refl _, by simp [allL]⟩, hJx3⟩⟩

/-- What text.spans hands back, at any row of bytes. -/
theorem spans_stops (n : Nat) (hn : 1 ≤ n) (Bs b : Nat) (sv : Value) (len : Nat) (g : Nat → Int) (hg : ∀ j, 0 ≤ g j ∧ g j ≤ 255) (w : World) (hBs : Bs < w.heap.size) (hb : b < w.heap.size)
    (hc : w.cell? ⟨Bs, 0, none⟩ = some sv) (hS : Sl w b sv len g) :
    SeqStopsK Fence.wide n Tryd.prog 44 #[.pointer (some ⟨Bs, 0, none⟩)] (fun x : { x : Nat × Nat // Sp len x } => #[Value.int .i64 (x.1.1 : Int), Value.int .i64 (x.1.2 : Int)]) (KeepS (fun k => k = Bs ∨ k = b))
      (fun ys => ys.map (·.1) = allL g len) (fun pre => pre.map (·.1) <+: allL g len ∧ pre ≠ []) (len + 1) w := fun l J Jx W hW _ _ hY h0 => by
  have hc' := (hW.cell (p := ⟨Bs, 0, none⟩) hBs).trans hc
  have hS' : Sl W b sv len g := hS.keep (fun k e => by subst e; exact hW.block k hb)
  have hY' : ∀ pre x W, Sp len x → (∃ q : List { x : Nat × Nat // Sp len x }, q.map (·.1) = pre ∧ J q W) → pre.length < len + 1 → YieldAt Fence.wide (n - 1) Tryd.prog l #[.int .i64 (x.1 : Int), .int .i64 (x.2 : Int)] W fun e W' =>
      (e = .returned (.bool true) ∧ (∃ q : List { x : Nat × Nat // Sp len x }, q.map (·.1) = pre ++ [x] ∧ J q W') ∧ KeepS (fun k => k = Bs ∨ k = b) W W') ∨ (e = .returned (.bool false) ∧ (∃ q : List { x : Nat × Nat // Sp len x }, q.map (·.1) = pre ++ [x] ∧ Jx q W')) := by
    rintro pre x W hx ⟨q, rfl, hj⟩ hl
    refine (hY q ⟨x, hx⟩ W hj (by simpa using hl)).mono ?_
    rintro e W' (⟨he, h1, h2⟩ | ⟨he, h1⟩)
    · exact .inl ⟨he, ⟨_, by simp, h1⟩, h2⟩
    · exact .inr ⟨he, ⟨_, by simp, h1⟩⟩
  have fin : ∀ {e : Ending} {W' : World}, ((∃ v, e = .returned v) ∧ ((∃ q : List { x : Nat × Nat // Sp len x }, q.map (·.1) = allL g len ∧ J q W') ∨ (∃ pre, (pre <+: allL g len ∧ pre ≠ []) ∧ (∃ q : List { x : Nat × Nat // Sp len x }, q.map (·.1) = pre ∧ Jx q W')))) →
      (∃ v, e = .returned v) ∧ ((∃ ys : List { x : Nat × Nat // Sp len x }, ys.map (·.1) = allL g len ∧ J ys W') ∨ (∃ pre : List { x : Nat × Nat // Sp len x }, (pre.map (·.1) <+: allL g len ∧ pre ≠ []) ∧ Jx pre W')) := by
    rintro e W' ⟨he, ⟨q, h1, h2⟩ | ⟨pre, ⟨h1, h1'⟩, q, rfl, h2⟩⟩
    · exact ⟨he, .inl ⟨q, h1, h2⟩⟩
    · exact ⟨he, .inr ⟨q, ⟨h1, by intro e; subst e; simp at h1'⟩, h2⟩⟩
  rcases hS' with ⟨a, cap, rfl, rfl⟩ | ⟨off, cap, rfl, h1, h2, h3, hcs⟩
  · exact (spans1_nil n hn l Bs b a cap g (fun pre W => ∃ q : List { x : Nat × Nat // Sp _ x }, q.map (·.1) = pre ∧ J q W) (fun pre W => ∃ q : List { x : Nat × Nat // Sp _ x }, q.map (·.1) = pre ∧ Jx q W) hY' W hc' ⟨[], rfl, h0⟩).mono fun e W' h => fin h
  · exact (spans1_in n hn l Bs b off len cap g hg h2 h3 (fun pre W => ∃ q : List { x : Nat × Nat // Sp _ x }, q.map (·.1) = pre ∧ J q W) (fun pre W => ∃ q : List { x : Nat × Nat // Sp _ x }, q.map (·.1) = pre ∧ Jx q W) hY' W hc' hcs ⟨[], rfl, h0⟩).mono fun e W' h => fin h

set_option maxHeartbeats 1000000 in
theorem spans_in (n : Nat) (a : Option Addr) (len cap : Nat) (w : World) :
    CallsIn Fence.wide n Tryd.prog 36 #[.slice a len cap] w fun e w' => e = .returned (.func (.func 44) #[] #[.pointer (some ⟨w.heap.size, 0, none⟩)]) ∧ w' = w.alloc (.cells #[.slice a len cap] 22) := by
  refine callsIn_of_wp Tryd.func36 rfl trivial ?_ rfl
  simp only [Tryd.ntmps36, List.size_toArray, List.length_cons, List.length_nil, Nat.reduceAdd, Nat.reduceSub, Array.replicate_succ, Array.replicate_zero, List.push_toArray, List.append_toArray, List.nil_append, List.cons_append]
  gi_wp2
  go_ret
  exact ⟨rfl, rfl⟩
end Go.Proofs.YtponficlejjafaaDoor
