/- A rune below 128 laid into a strings.Builder. -/
import Derived.Deep.RegionWith
import Derived.Deep.QuietTactic
import Derived.BigQuiet
import Derived.Test.YtpdkeggiokebmaaDoorX2
import Derived.Test.YtpdkeggiokebmaaDoorC1
namespace Go.Proofs.YtpdkeggiokebmaaDoor
set_option linter.unusedSimpArgs false
set_option linter.unusedVariables false
open Go.RowKit Go.Shelf

set_option maxRecDepth 100000 in
set_option maxHeartbeats 1000000 in
theorem apr_ascii (B : Nat) (v : Value) (n : Nat) (xs : List Value) (r : Int) (w : World) (hown : w.ownsRow B 5 1 v n xs) (h0 : 0 ≤ r) (h1 : r < 128) (hn : n + 1 ≤ 140737488355328) (hB : B ≤ w.heap.size) :
    Calls Tryd.prog 80 #[v, .int .i32 r] w fun e w' => ∃ v', e = .returned v' ∧ w'.ownsRow B 5 1 v' (n + 1) (xs ++ [.int .u8 r]) ∧ (∀ k, k < w.heap.size → v.ownBlock ≠ some k → w'.heap[k]? = w.heap[k]?) ∧ Below B w w' := by
  obtain ⟨i0, hi, hz0, hz1, hz2⟩ := info_parts infoByte
  have k1 : IntKind.u32.wrap r = r := by
    have : r % 4294967296 = r := by omega
    unfold IntKind.wrap
    simp [IntKind.bits, IntKind.signed, this]
  have k2 : IntKind.u8.wrap r = r := by
    have : r % 256 = r := by omega
    unfold IntKind.wrap
    simp [IntKind.bits, IntKind.signed, this]
  have h127 : r ≤ 127 := by omega
  have h127b : decide (r ≤ 127) = true := by simpa using h127
  go_enter Tryd.func80, Tryd.ntmps80
  go_wp2_with (at_builtin; refine wpList_append_own _ rfl _ _ 22 rfl B 5 i0 (.int .u8 0) 1 1 Tryd.underlying22 hi hz0 hz1 hz2 rfl (by decide) _ _ _ rfl (hown.alloc _) ⟨w.heap.size, 0, none⟩ 1 1 [.int .u8 r] rfl rfl ?c1 ?c2 ?c3 ?c4 ?c5 ?_)
  case c1 =>
    intro j u hj
    match j, hj with
    | 0, hj => simp at hj; subst hj; simp [Addr.add]
  case c2 => intro u hu; simp at hu; subst hu; rfl
  case c3 => unfold maxLen; omega
  case c4 => omega
  case c5 => simp; omega
  intro v' w2 hown' hgrow _
  go_wp2
  go_ret
  refine ⟨v', rfl, hown', fun k hk hkv => ?_, ((Below.refl B w).alloc hB _).grown hgrow (by simp; omega) (fun k hk => (hown.lt k hk).1)⟩
  rw [hgrow.block k (by simp; omega) (fun e => hkv e.symm), Lib.alloc_old w _ k hk]

set_option maxRecDepth 100000 in
set_option maxHeartbeats 1000000 in
theorem wr_ascii (B b : Nat) (p v : Value) (bs : List Value) (r : Int) (w : World) (hp : p = .pointer none ∨ p = .pointer (some ⟨b, 0, none⟩)) (h : BAt B b p v bs w) (h0 : 0 ≤ r) (h1 : r < 128) (hlen : bs.length + 1 ≤ 140737488355328) (hBw : B ≤ w.heap.size) :
    Calls Tryd.prog 69 #[.pointer (some ⟨b, 0, none⟩), .int .i32 r] w fun e w' => (∃ u, e = .returned u) ∧ ∃ v', BAt B b (.pointer (some ⟨b, 0, none⟩)) v' (bs ++ [.int .u8 r]) w' ∧ Below B w w' := by
  have HP := hide hp
  clear hp
  go_enter Tryd.func69, Tryd.ntmps69
  go_wp2_with (go_at_call 36; refine (cc_any B b p v bs _ (unhide HP) h).mono ?_)
  rintro e w1 ⟨rfl, ⟨hB, hbk, hown, hne⟩, hg1, hs1⟩
  have HS1 := hide hs1
  clear hs1
  have c0 : w1.cell? ⟨b, 0, none⟩ = some (.pointer (some ⟨b, 0, none⟩)) := by rw [Lib.cell_of_heap hbk]; rfl
  have c1 : w1.cell? ⟨b, 1, none⟩ = some v := by rw [Lib.cell_of_heap hbk]; rfl
  obtain ⟨ao, cv, rfl⟩ : ∃ ao cv, v = .slice ao bs.length cv := by
    rcases hown.2 with ⟨h, h0⟩ | ⟨gw, cap, cur, h, _⟩
    · exact ⟨none, 0, by rw [h, h0]⟩
    · exact ⟨_, cap, h⟩
  have hbl : b < w1.heap.size := BAt.lt ⟨hB, hbk, hown, hne⟩
  have HA := hide (apr_ascii B _ bs.length bs r w1 hown h0 h1 hlen (by have := unhide HS1; omega))
  go_wp2_with (go_at_call 80; refine (unhide HA).mono ?_; rintro x w2 ⟨v', rfl, hown2, hkeep, hB2⟩; have hb2 := (hkeep b hbl hne).trans hbk; have d0 : w2.cell? ⟨b, 0, none⟩ = some (.pointer (some ⟨b, 0, none⟩)) := (by rw [Lib.cell_of_heap hb2]; rfl); have d1 : w2.cell? ⟨b, 1, none⟩ = some (.slice ao bs.length cv) := (by rw [Lib.cell_of_heap hb2]; rfl); have f1 : w2.frozen? ⟨b, 1, none⟩ = false := Lib.frozen_of_heap hb2 1; obtain ⟨ao', cv', rfl⟩ : ∃ ao' cv', v' = .slice ao' (bs.length + 1) cv' := (by rcases hown2.2 with ⟨h, h0⟩ | ⟨gw, cap, cur, h, _⟩ <;> first | omega | exact ⟨_, cap, h⟩); have HO2 := hide hown2; have HK := hide hkeep; clear hown2 hkeep)
  go_ret2
  refine ⟨⟨_, rfl⟩, _, BAt.put hB hb2 (bs' := bs ++ [.int .u8 r]) (by simpa using unhide HO2), ?_⟩
  exact (((Below.refl B w).grown hg1 hBw (fun k e => by cases e; exact hB)).trans hB2).setCell (p := ⟨b, 1, none⟩) hB _
end Go.Proofs.YtpdkeggiokebmaaDoor
