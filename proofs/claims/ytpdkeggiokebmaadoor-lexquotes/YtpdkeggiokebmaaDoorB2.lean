/- text.ends as a whole: the box, the function value, and what a loop over it meets. -/
import Derived.Test.YtpdkeggiokebmaaDoorB1
namespace Go.Proofs.YtpdkeggiokebmaaDoor
set_option linter.unusedSimpArgs false
set_option linter.unusedVariables false
open Go.RowKit Go.Shelf

attribute [local go_sem] Oper.semAt_some

set_option maxRecDepth 100000 in
set_option maxHeartbeats 1000000 in
theorem ends1_nil (n : Nat) (l Bs : Nat) (a : Option Addr) (cap : Nat) (J : List (Nat × Int) → World → Prop) (W : World) (hBs : W.cell? ⟨Bs, 0, none⟩ = some (.slice a 0 cap)) (h0 : J [] W) :
    CallsIn Fence.wide n Tryd.prog 37 #[.func (.yield l) #[] #[], .pointer (some ⟨Bs, 0, none⟩)] W fun e W' => (∃ v, e = .returned v) ∧ J [] W' := by
  refine callsIn_of_wp Tryd.func37 rfl trivial ?_ rfl
  simp only [Tryd.ntmps37, List.size_toArray, List.length_cons, List.length_nil, Nat.reduceAdd, Nat.reduceSub, Array.replicate_succ, Array.replicate_zero, List.push_toArray, List.append_toArray, List.nil_append, List.cons_append]
  gi_wp2
  gi_loopw [3] (fun a wr => a = .int .i64 0 ∧ J [] wr ∧ wr = W) (fun _ _ => 0)
  case atStart => exact ⟨rfl, h0, rfl⟩
  case round =>
    obtain ⟨rfl, hJs, rfl⟩ := hrel
    gi_wp2
    go_end0
    exact ⟨⟨_, rfl⟩, hJs⟩

/-- What text.ends hands back, at any row of bytes: its runes, or as many of them as the loop wants. -/
theorem ends_stops (n : Nat) (hn : 1 ≤ n) (Bs b : Nat) (sv : Value) (len : Nat) (g : Nat → Int) (hg : ∀ j, 0 ≤ g j ∧ g j ≤ 255) (w : World) (hBs : Bs < w.heap.size) (hb : b < w.heap.size)
    (hc : w.cell? ⟨Bs, 0, none⟩ = some sv) (hS : Sl w b sv len g) :
    SeqStopsK Fence.wide n Tryd.prog 37 #[.pointer (some ⟨Bs, 0, none⟩)] (fun x : Nat × Int => #[Value.int .i64 (x.1 : Int), Value.int .i32 x.2]) (KeepS (fun k => k = Bs ∨ k = b))
      (fun ys => ∃ m, Runes g len m ∧ ys = upto (endAt g len) m) (fun pre => ∃ k, Before g len k ∧ pre = upto (endAt g len) k) len w := fun l J Jx W hW _ _ hY h0 => by
  have hc' := (hW.cell (p := ⟨Bs, 0, none⟩) hBs).trans hc
  have hS' : Sl W b sv len g := hS.keep (fun k e => by subst e; exact hW.block k hb)
  rcases hS' with ⟨a, cap, rfl, rfl⟩ | ⟨off, cap, rfl, h1, h2, h3, hcs⟩
  · exact (ends1_nil n l Bs a cap J W hc' h0).mono fun e W' ⟨he, hj⟩ => ⟨he, .inl ⟨_, ⟨0, ⟨rfl, fun j hj => by omega⟩, rfl⟩, hj⟩⟩
  · exact ends1_in n hn l Bs b off len cap g hg h2 h3 (fun _ => True) (fun _ _ => trivial) J Jx (fun pre x W _ => hY pre x W) W hc' hcs h0

/-- The same, for a loop body that may lean on a property of what it is handed. -/
theorem ends_stopsR (n : Nat) (hn : 1 ≤ n) (Bs b : Nat) (sv : Value) (len : Nat) (g : Nat → Int) (hg : ∀ j, 0 ≤ g j ∧ g j ≤ 255) (w : World) (hBs : Bs < w.heap.size) (hb : b < w.heap.size)
    (hc : w.cell? ⟨Bs, 0, none⟩ = some sv) (hS : Sl w b sv len g) (R : Nat × Int → Prop) (hR : ∀ k, posn g len k < len → R (endAt g len k)) :
    SeqStopsK Fence.wide n Tryd.prog 37 #[.pointer (some ⟨Bs, 0, none⟩)] (fun x : { x : Nat × Int // R x } => #[Value.int .i64 (x.1.1 : Int), Value.int .i32 x.1.2]) (KeepS (fun k => k = Bs ∨ k = b))
      (fun ys => ∃ m, Runes g len m ∧ ys.map (·.1) = upto (endAt g len) m) (fun pre => ∃ k, Before g len k ∧ pre.map (·.1) = upto (endAt g len) k) len w := fun l J Jx W hW _ _ hY h0 => by
  have hc' := (hW.cell (p := ⟨Bs, 0, none⟩) hBs).trans hc
  have hS' : Sl W b sv len g := hS.keep (fun k e => by subst e; exact hW.block k hb)
  rcases hS' with ⟨a, cap, rfl, rfl⟩ | ⟨off, cap, rfl, h1, h2, h3, hcs⟩
  · exact (ends1_nil n l Bs a cap (fun pre W => J [] W) W hc' h0).mono fun e W' ⟨he, hj⟩ => ⟨he, .inl ⟨[], ⟨0, ⟨rfl, fun j hj => by omega⟩, rfl⟩, hj⟩⟩
  · refine (ends1_in n hn l Bs b off len cap g hg h2 h3 R hR (fun pre W => ∃ q, q.map (·.1) = pre ∧ J q W) (fun pre W => ∃ q, q.map (·.1) = pre ∧ Jx q W) (fun pre x W hx hj hl => ?_) W hc' hcs ⟨[], rfl, h0⟩).mono ?_
    · obtain ⟨q, rfl, hj⟩ := hj
      refine (hY q ⟨x, hx⟩ W hj (by simpa using hl)).mono ?_
      rintro e W' (⟨he, h1, h2⟩ | ⟨he, h1⟩)
      · exact .inl ⟨he, ⟨_, by simp, h1⟩, h2⟩
      · exact .inr ⟨he, ⟨_, by simp, h1⟩⟩
    · rintro e W' ⟨he, ⟨ys, ⟨m, hm, rfl⟩, ⟨q, hq, hj⟩⟩ | ⟨pre, ⟨k, hk, rfl⟩, ⟨q, hq, hj⟩⟩⟩
      · exact ⟨he, .inl ⟨q, ⟨m, hm, hq⟩, hj⟩⟩
      · exact ⟨he, .inr ⟨q, ⟨k, hk, hq⟩, hj⟩⟩

set_option maxHeartbeats 1000000 in
theorem ends_in (n : Nat) (a : Option Addr) (len cap : Nat) (w : World) :
    CallsIn Fence.wide n Tryd.prog 27 #[.slice a len cap] w fun e w' => e = .returned (.func (.func 37) #[] #[.pointer (some ⟨w.heap.size, 0, none⟩)]) ∧ w' = w.alloc (.cells #[.slice a len cap] 22) := by
  refine callsIn_of_wp Tryd.func27 rfl trivial ?_ rfl
  simp only [Tryd.ntmps27, List.size_toArray, List.length_cons, List.length_nil, Nat.reduceAdd, Nat.reduceSub, Array.replicate_succ, Array.replicate_zero, List.push_toArray, List.append_toArray, List.nil_append, List.cons_append]
  gi_wp2
  go_ret
  exact ⟨rfl, rfl⟩
end Go.Proofs.YtpdkeggiokebmaaDoor
