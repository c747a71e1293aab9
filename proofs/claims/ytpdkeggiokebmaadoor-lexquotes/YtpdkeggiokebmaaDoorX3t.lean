/- lex's machine: stands, inHole, closeBracket. -/
import Derived.WalkSmall
import Derived.Deep.RegionWith
import Derived.Deep.QuietTactic
import Derived.BigQuiet
import Derived.StillTailTactics
import Derived.Test.YtpdkeggiokebmaaDoorX2
namespace Go.Proofs.YtpdkeggiokebmaaDoor
set_option linter.unusedSimpArgs false
set_option linter.unusedVariables false
open Go.RowKit Go.Shelf

set_option maxRecDepth 100000 in
set_option maxHeartbeats 1000000 in
theorem stands_any (M c : Nat) (a : Option Addr) (len cap : Nat) (g : Nat → Int) (at' : Nat) (ov : Value) (s : ByteArray) (W : World) (h : MAt W M (.slice a len cap) at' ov) (hS : Sl W c (.slice a len cap) len g) (hc : c < W.heap.size) (hat : at' ≤ len) (hlen : len ≤ 1099511627776) (hs : s.size ≤ 4294967296) :
    Calls Tryd.prog 34 #[.pointer (some ⟨M, 0, none⟩), .string s] W fun e W' => e = .returned (.bool (hpB (fun j => g (at' + j)) (len - at') (gS s) s.size)) ∧ Below W.heap.size W W' := by
  have c0 := h.c0
  have c1 := h.c1
  obtain ⟨a', c3, hsl, hk⟩ := slice_from hS hat
  obtain ⟨cap', C, fr, hcv0, hcap, hcm, hC⟩ := conv_str s W.drew hs
  have hcv : (convert 9 22 (.string s)).run Tryd.prog W.drew = .ok (.slice (some ⟨W.heap.size, 0, none⟩) s.size cap') (W.alloc (.cells C 5 fr)).drew.drew := hcv0
  clear hcv0
  have hSp : Sl (W.alloc (.cells C 5 fr)).drew.drew W.heap.size (.slice (some ⟨W.heap.size, 0, none⟩) s.size cap') s.size (gS s) := by
    by_cases h0 : s.size = 0
    · exact .inl ⟨_, _, by rw [h0], h0⟩
    · refine .inr ⟨0, cap', rfl, by omega, hcap, hcm, fun j hj => ?_⟩
      have h1 : (W.alloc (.cells C 5 fr)).drew.drew.heap[W.heap.size]? = some (.cells C 5 fr) := World.alloc_heap_new W _
      rw [Lib.cell_of_heap h1, Nat.zero_add]; exact hC j hj
  have hBd : Below W.heap.size W (W.alloc (.cells C 5 fr)).drew.drew := (((Below.refl _ W).alloc (Nat.le_refl _) _).drew).drew
  have hm2 : MAt (W.alloc (.cells C 5 fr)) M (.slice a len cap) at' ov := h.below ((Below.refl _ W).alloc (Nat.le_refl _) _) h.lt
  have c0' := hm2.c0
  have c1' := hm2.c1
  have hSa := hk _ (hS.keep (B := (W.alloc (.cells C 5 fr)).drew.drew) (fun k e => by subst e; exact hBd.block k hc))
  have HH := hide (hasPrefix_any hSa hSp (by omega) (by omega))
  clear hS hk hSp hSa hC h hm2
  go_enter Tryd.func34, Tryd.ntmps34
  go_wp2
  go_region_with (go_at_call 47; refine (unhide HH).mono ?_; rintro e w' ⟨rfl, rfl⟩)
  all_goals (go_wp2; go_ret; exact ⟨rfl, hBd⟩)

end Go.Proofs.YtpdkeggiokebmaaDoor
