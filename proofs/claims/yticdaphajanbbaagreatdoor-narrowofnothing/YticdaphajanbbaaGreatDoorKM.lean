/- A type is laid: one that is new. -/
import Derived.Maps.OwnOps
import Derived.Deep.RegionLaw
import Derived.Test.YticdaphajanbbaaGreatDoorKL
namespace Go.Proofs.YticdaphajanbbaaGreatDoor
set_option linter.unusedSimpArgs false
set_option linter.unusedVariables false
set_option maxRecDepth 100000
set_option maxHeartbeats 4000000
open Go.RowKit Go.Shelf

variable {P : Program} {lo M : Nat} {mo : Option Nat} {dv : Value} {L : List Kt} {W : World}
/-- What worded answers of a type. -/
def WdIs (M : Nat) (t : Value) (W : World) (wd : ByteArray) : Prop := ∀ w', Below W.heap.size W w' → Calls Tryz.prog 35 #[.pointer (some ⟨M, 0, none⟩), t] w' fun e w'' => e = .returned (.string wd) ∧ Below w'.heap.size w' w''
theorem law9 : Maps.Keyed Tryz.prog 9 := Maps.string_keyed Tryz.underlying9
theorem zero3 (w : World) : (zeroValue 3).run Tryz.prog w = .ok (.int .i64 0) w := by kernel_rfl
theorem infoKept : (Tryz.prog.info? 75).map (fun i => (i.zero, i.size, i.bytes)) = some (some (.agg z82), 8, 128) := by kernel_rfl
theorem AAt.cells (h : AAt P lo M mo dv L W) : ∃ ta tc, W.cell? ⟨M, 0, none⟩ = some (.slice ta L.length tc) ∧ W.cell? ⟨M, 1, none⟩ = some (.map mo) ∧ W.cell? ⟨M, 2, none⟩ = some dv ∧ (∀ i, W.frozen? ⟨M, i, none⟩ = false) ∧ W.heap[M]? = some (.cells #[.slice ta L.length tc, .map mo, dv] 62) ∧ KtRow lo W (.slice ta L.length tc) L ∧ L.length ≤ tc ∧ tc ≤ maxLen := by
  obtain ⟨tv, h1, h2⟩ := h.row
  obtain ⟨vs, e1, e2, e3⟩ := id h2
  rcases e2.2 with ⟨e, e'⟩ | ⟨g, cap, cur, e, _, hh, hc, hm, _⟩
  · subst e
    rw [e'] at *
    exact ⟨none, 0, by simp [World.cell?, h1], by simp [World.cell?, h1], by simp [World.cell?, h1], by simp [World.frozen?, h1], h1, h2, Nat.le_refl _, Nat.zero_le _⟩
  · subst e
    exact ⟨_, cap, by simp [World.cell?, h1], by simp [World.cell?, h1], by simp [World.cell?, h1], by simp [World.frozen?, h1], h1, h2, hc, hm⟩
/-- What laid leaves. -/
def LaidQ (lo M : Nat) (mo : Option Nat) (dv : Value) (L' : List Kt) (id : Int) (W : World) (e : Ending) (w' : World) : Prop := e = .returned (.int .i64 id) ∧ ∃ mo', AAt Tryz.prog lo M mo' dv L' w' ∧ Fa M mo lo W w' ∧ (mo' = mo ∨ ∃ b, mo' = some b ∧ W.heap.size ≤ b)
theorem laid_large (h : AAt Tryz.prog lo M mo dv L W) (hs : SzOk L) (k n : Int) (s : ByteArray) (pa : Option Addr) (pc : Nat) (nv mv : Value) (ps : List Int) (hp : RowR 3 W (.slice pa ps.length pc) (iv ps)) (hv : ∀ p ∈ ps, IsX L p) (hl : ps.length ≤ 1000000000) (hz : 500 < sizeP L ps 1) (a c : Option Addr) (a1 a2 c1 c2 : Nat) (hnv : nv = .slice a a1 a2) (hmv : mv = .slice c c1 c2) :
    Calls Tryz.prog 17 #[.pointer (some ⟨M, 0, none⟩), .agg (tyV k n s (.slice pa ps.length pc) nv mv)] W fun e w' => e = .returned (.int .i64 (-1)) ∧ Below W.heap.size W w' := by
  subst hnv hmv
  unfold tyV
  have hb1 := (Below.refl _ W).alloc (Nat.le_refl _) (.cells #[.int .i64 k, .int .i64 n, .string s, .slice pa ps.length pc, .slice a a1 a2, .slice c c1 c2] 36)
  obtain ⟨W1, hW1⟩ : ∃ W1, W.alloc (.cells #[.int .i64 k, .int .i64 n, .string s, .slice pa ps.length pc, .slice a a1 a2, .slice c c1 c2] 36) = W1 := ⟨_, rfl⟩
  have hx1 : Bx W1 W.heap.size #[.int .i64 k, .int .i64 n, .string s, .slice pa ps.length pc, .slice a a1 a2, .slice c c1 c2] 36 := by rw [← hW1]; exact al_at W _
  rw [hW1] at hb1
  have HB1 := hide hb1
  have HSO := hide (sizeOver_any (h.below hb1) _ ps (hp.below hb1) hv hs hl)
  have d3 := hx1.cell 3 rfl
  have dl := hx1.lt
  have hgt : sizeP L ps 1 > 500 := hz
  obtain ⟨z, hzz⟩ : ∃ z, sizeP L ps 1 = z := ⟨_, rfl⟩
  rw [hzz] at hgt HSO
  clear h hs hp hv hl hz hb1 hx1 hzz
  go_enter Tryz.func17, Tryz.ntmps17
  go_wp2_with (first
    | (go_at_call 34
       refine (unhide HSO).mono ?_
       rintro e w2 ⟨rfl, rfl⟩))
  go_ret
  exact ⟨rfl, unhide HB1⟩
theorem laid_there (b : Nat) (h : AAt Tryz.prog lo M (some b) dv L W) (hs : SzOk L) (k n : Int) (s wd : ByteArray) (pa : Option Addr) (pc : Nat) (nv mv : Value) (ps : List Int) (hp : RowR 3 W (.slice pa ps.length pc) (iv ps)) (hv : ∀ p ∈ ps, IsX L p) (hl : ps.length ≤ 1000000000) (hz : sizeP L ps 1 ≤ 500) (a c : Option Addr) (a1 a2 c1 c2 : Nat) (hnv : nv = .slice a a1 a2) (hmv : mv = .slice c c1 c2)
    (hw : WdIs M (.agg (tyV k n s (.slice pa ps.length pc) nv mv)) W wd) (hwl : wd.size ≤ maxLen) (i : Nat) (hi : pos L wd = some i) :
    Calls Tryz.prog 17 #[.pointer (some ⟨M, 0, none⟩), .agg (tyV k n s (.slice pa ps.length pc) nv mv)] W fun e w' => e = .returned (.int .i64 (i : Int)) ∧ Below W.heap.size W w' := by
  subst hnv hmv
  unfold tyV at hw ⊢
  have hb1 := (Below.refl _ W).alloc (Nat.le_refl _) (.cells #[.int .i64 k, .int .i64 n, .string s, .slice pa ps.length pc, .slice a a1 a2, .slice c c1 c2] 36)
  obtain ⟨W1, hW1⟩ : ∃ W1, W.alloc (.cells #[.int .i64 k, .int .i64 n, .string s, .slice pa ps.length pc, .slice a a1 a2, .slice c c1 c2] 36) = W1 := ⟨_, rfl⟩
  have hx1 : Bx W1 W.heap.size #[.int .i64 k, .int .i64 n, .string s, .slice pa ps.length pc, .slice a a1 a2, .slice c c1 c2] 36 := by rw [← hW1]; exact al_at W _
  rw [hW1] at hb1
  have HB1 := hide hb1
  have HX1 := hide hx1
  have HSO := hide (sizeOver_any (h.below hb1) _ ps (hp.below hb1) hv hs hl)
  have HWD := hide (hw W1 hb1)
  have HA : Hid (∀ w', Below W.heap.size W w' → AAt Tryz.prog lo M (some b) dv L w') := fun w' hb => h.below hb
  have HI := hide hi
  have HK := hide (WideMaps.keyOf_string_mk Tryz.underlying9 hwl)
  have d3 := hx1.cell 3 rfl
  have dl := hx1.lt
  have hM := h.lt
  have hgt : ¬ sizeP L ps 1 > 500 := by omega
  obtain ⟨z, hzz⟩ : ∃ z, sizeP L ps 1 = z := ⟨_, rfl⟩
  rw [hzz] at hgt HSO
  clear h hs hp hv hl hz hb1 hx1 hzz hi hw
  go_enter Tryz.func17, Tryz.ntmps17
  go_wp2_with (first
    | (go_at_call 34
       refine (unhide HSO).mono ?_
       rintro e w2 ⟨rfl, rfl⟩)
    | (refine wpList_load_row rfl 36 _ rfl W.heap.size rfl 36 _ (0, 0) _ (unhide HX1) Tryz.underlying36 rfl info26 ?_)
    | (go_at_call 35
       refine (unhide HWD).mono ?_
       rintro e w2 ⟨rfl, hb2⟩
       have HB2 := hide ((unhide HB1).trans (hb2.mono (unhide HB1).size))
       have HA2 := hide (unhide HA w2 (unhide HB2))
       obtain ⟨ta, tc, m0, m1, m2, mf, -⟩ := (unhide HA2).cells
       have hM2 := (unhide HA2).lt
       clear hb2)
    | (at_lookup
       obtain ⟨hlo, nn, D, hnn, ho, hD⟩ := (unhide HA2).num
       have hDi := hD.2 wd
       rw [unhide HI] at hDi
       refine wpList_lookup_own_ok_int _ rfl _ _ 59 rfl 9 3 .i64 law9 Tryz.underlying59 Tryz.underlying3 (zero3 _) b nn D rfl ho _ _ rfl (unhide HK) ?_
       intro cc hat hwc
       have hcc : cc = (i : Int) := by
         have h1 := hDi.2 i rfl
         unfold kl at h1
         rw [hat] at h1
         injection h1 with h1
         injection h1
       subst hcc
       have hhas : Maps.has D (.string wd.data.toList) = true := hDi.1
       clear hDi hat))
  go_ret
  exact ⟨rfl, unhide HB2⟩
end Go.Proofs.YticdaphajanbbaaGreatDoor
