/- lex.longestSign. -/
import Derived.Test.YtpdkeggiokebmaaDoorX5
namespace Go.Proofs.YtpdkeggiokebmaaDoor
set_option linter.unusedSimpArgs false
set_option linter.unusedVariables false
open Go.RowKit Go.Shelf

def sgn1 : List ByteArray := [⟨#[123]⟩, ⟨#[125]⟩, ⟨#[40]⟩, ⟨#[41]⟩, ⟨#[91]⟩, ⟨#[93]⟩, ⟨#[46]⟩, ⟨#[44]⟩, ⟨#[59]⟩, ⟨#[58]⟩, ⟨#[63]⟩, ⟨#[61]⟩, ⟨#[43]⟩, ⟨#[45]⟩, ⟨#[42]⟩, ⟨#[37]⟩, ⟨#[33]⟩, ⟨#[126]⟩, ⟨#[60]⟩, ⟨#[62]⟩, ⟨#[38]⟩, ⟨#[124]⟩, ⟨#[94]⟩]
def sgn2 : List ByteArray := [⟨#[61, 62]⟩, ⟨#[43, 61]⟩, ⟨#[45, 61]⟩, ⟨#[42, 61]⟩, ⟨#[37, 61]⟩, ⟨#[60, 61]⟩, ⟨#[62, 61]⟩, ⟨#[60, 60]⟩, ⟨#[62, 62]⟩, ⟨#[38, 38]⟩, ⟨#[124, 124]⟩]
def sgn3 : List ByteArray := [⟨#[61, 61, 61]⟩, ⟨#[33, 61, 61]⟩, ⟨#[62, 62, 62]⟩]
def sgnL (L : Nat) : List ByteArray := if L = 1 then sgn1 else if L = 2 then sgn2 else sgn3
/-- The longest sign of L bytes at most with which a row begins; empty: none. -/
def lsg (g : Nat → Int) : Nat → ByteArray
  | 0 => ⟨#[]⟩
  | L + 1 => if hasT (sgnL (L + 1)) (strOfNums (upto g (L + 1))) then strOfNums (upto g (L + 1)) else lsg g L
/-- The signs in memory. -/
def signW (W : World) : World := (((W.alloc (.cells #[.string ⟨#[123]⟩, .string ⟨#[125]⟩, .string ⟨#[40]⟩, .string ⟨#[41]⟩, .string ⟨#[91]⟩, .string ⟨#[93]⟩, .string ⟨#[46]⟩, .string ⟨#[44]⟩, .string ⟨#[59]⟩, .string ⟨#[58]⟩, .string ⟨#[63]⟩, .string ⟨#[61]⟩, .string ⟨#[43]⟩, .string ⟨#[45]⟩, .string ⟨#[42]⟩, .string ⟨#[37]⟩, .string ⟨#[33]⟩, .string ⟨#[126]⟩, .string ⟨#[60]⟩, .string ⟨#[62]⟩, .string ⟨#[38]⟩, .string ⟨#[124]⟩, .string ⟨#[94]⟩] 9)).alloc (.cells #[.string ⟨#[61, 62]⟩, .string ⟨#[43, 61]⟩, .string ⟨#[45, 61]⟩, .string ⟨#[42, 61]⟩, .string ⟨#[37, 61]⟩, .string ⟨#[60, 61]⟩, .string ⟨#[62, 61]⟩, .string ⟨#[60, 60]⟩, .string ⟨#[62, 62]⟩, .string ⟨#[38, 38]⟩, .string ⟨#[124, 124]⟩] 9)).alloc (.cells #[.string ⟨#[61, 61, 61]⟩, .string ⟨#[33, 61, 61]⟩, .string ⟨#[62, 62, 62]⟩] 9)).alloc (.cells #[.slice none 0 0, .slice (some ⟨W.heap.size, 0, none⟩) 23 23, .slice (some ⟨W.heap.size + 1, 0, none⟩) 11 11, .slice (some ⟨W.heap.size + 1 + 1, 0, none⟩) 3 3] 111)
theorem signW_below (W : World) : Below W.heap.size W (signW W) := ((((Below.refl _ W).alloc (Nat.le_refl _) _).alloc (by simp) _).alloc (by simp <;> omega) _).alloc (by simp <;> omega) _
theorem signW_h0 (W : World) : (signW W).heap[W.heap.size]? = some (.cells #[.string ⟨#[123]⟩, .string ⟨#[125]⟩, .string ⟨#[40]⟩, .string ⟨#[41]⟩, .string ⟨#[91]⟩, .string ⟨#[93]⟩, .string ⟨#[46]⟩, .string ⟨#[44]⟩, .string ⟨#[59]⟩, .string ⟨#[58]⟩, .string ⟨#[63]⟩, .string ⟨#[61]⟩, .string ⟨#[43]⟩, .string ⟨#[45]⟩, .string ⟨#[42]⟩, .string ⟨#[37]⟩, .string ⟨#[33]⟩, .string ⟨#[126]⟩, .string ⟨#[60]⟩, .string ⟨#[62]⟩, .string ⟨#[38]⟩, .string ⟨#[124]⟩, .string ⟨#[94]⟩] 9) := by
  unfold signW
  rw [Below.heap_alloc _ _ _ (by simp <;> omega), Below.heap_alloc _ _ _ (by simp <;> omega), Below.heap_alloc _ _ _ (by simp)]
  exact World.alloc_heap_new W _
theorem signW_h1 (W : World) : (signW W).heap[W.heap.size + 1]? = some (.cells #[.string ⟨#[61, 62]⟩, .string ⟨#[43, 61]⟩, .string ⟨#[45, 61]⟩, .string ⟨#[42, 61]⟩, .string ⟨#[37, 61]⟩, .string ⟨#[60, 61]⟩, .string ⟨#[62, 61]⟩, .string ⟨#[60, 60]⟩, .string ⟨#[62, 62]⟩, .string ⟨#[38, 38]⟩, .string ⟨#[124, 124]⟩] 9) := by
  unfold signW
  rw [Below.heap_alloc _ _ _ (by simp <;> omega), Below.heap_alloc _ _ _ (by simp)]
  have := World.alloc_heap_new (W.alloc (.cells #[.string ⟨#[123]⟩, .string ⟨#[125]⟩, .string ⟨#[40]⟩, .string ⟨#[41]⟩, .string ⟨#[91]⟩, .string ⟨#[93]⟩, .string ⟨#[46]⟩, .string ⟨#[44]⟩, .string ⟨#[59]⟩, .string ⟨#[58]⟩, .string ⟨#[63]⟩, .string ⟨#[61]⟩, .string ⟨#[43]⟩, .string ⟨#[45]⟩, .string ⟨#[42]⟩, .string ⟨#[37]⟩, .string ⟨#[33]⟩, .string ⟨#[126]⟩, .string ⟨#[60]⟩, .string ⟨#[62]⟩, .string ⟨#[38]⟩, .string ⟨#[124]⟩, .string ⟨#[94]⟩] 9)) (.cells #[.string ⟨#[61, 62]⟩, .string ⟨#[43, 61]⟩, .string ⟨#[45, 61]⟩, .string ⟨#[42, 61]⟩, .string ⟨#[37, 61]⟩, .string ⟨#[60, 61]⟩, .string ⟨#[62, 61]⟩, .string ⟨#[60, 60]⟩, .string ⟨#[62, 62]⟩, .string ⟨#[38, 38]⟩, .string ⟨#[124, 124]⟩] 9)
  rw [World.size_alloc] at this
  exact this
theorem signW_h2 (W : World) : (signW W).heap[W.heap.size + 1 + 1]? = some (.cells #[.string ⟨#[61, 61, 61]⟩, .string ⟨#[33, 61, 61]⟩, .string ⟨#[62, 62, 62]⟩] 9) := by
  unfold signW
  rw [Below.heap_alloc _ _ _ (by simp)]
  have := World.alloc_heap_new ((W.alloc (.cells #[.string ⟨#[123]⟩, .string ⟨#[125]⟩, .string ⟨#[40]⟩, .string ⟨#[41]⟩, .string ⟨#[91]⟩, .string ⟨#[93]⟩, .string ⟨#[46]⟩, .string ⟨#[44]⟩, .string ⟨#[59]⟩, .string ⟨#[58]⟩, .string ⟨#[63]⟩, .string ⟨#[61]⟩, .string ⟨#[43]⟩, .string ⟨#[45]⟩, .string ⟨#[42]⟩, .string ⟨#[37]⟩, .string ⟨#[33]⟩, .string ⟨#[126]⟩, .string ⟨#[60]⟩, .string ⟨#[62]⟩, .string ⟨#[38]⟩, .string ⟨#[124]⟩, .string ⟨#[94]⟩] 9)).alloc (.cells #[.string ⟨#[61, 62]⟩, .string ⟨#[43, 61]⟩, .string ⟨#[45, 61]⟩, .string ⟨#[42, 61]⟩, .string ⟨#[37, 61]⟩, .string ⟨#[60, 61]⟩, .string ⟨#[62, 61]⟩, .string ⟨#[60, 60]⟩, .string ⟨#[62, 62]⟩, .string ⟨#[38, 38]⟩, .string ⟨#[124, 124]⟩] 9)) (.cells #[.string ⟨#[61, 61, 61]⟩, .string ⟨#[33, 61, 61]⟩, .string ⟨#[62, 62, 62]⟩] 9)
  rw [World.size_alloc, World.size_alloc] at this
  exact this
theorem signW_h3 (W : World) : (signW W).heap[W.heap.size + 1 + 1 + 1]? = some (.cells #[.slice none 0 0, .slice (some ⟨W.heap.size, 0, none⟩) 23 23, .slice (some ⟨W.heap.size + 1, 0, none⟩) 11 11, .slice (some ⟨W.heap.size + 1 + 1, 0, none⟩) 3 3] 111) := by
  unfold signW
  have := World.alloc_heap_new (((W.alloc (.cells #[.string ⟨#[123]⟩, .string ⟨#[125]⟩, .string ⟨#[40]⟩, .string ⟨#[41]⟩, .string ⟨#[91]⟩, .string ⟨#[93]⟩, .string ⟨#[46]⟩, .string ⟨#[44]⟩, .string ⟨#[59]⟩, .string ⟨#[58]⟩, .string ⟨#[63]⟩, .string ⟨#[61]⟩, .string ⟨#[43]⟩, .string ⟨#[45]⟩, .string ⟨#[42]⟩, .string ⟨#[37]⟩, .string ⟨#[33]⟩, .string ⟨#[126]⟩, .string ⟨#[60]⟩, .string ⟨#[62]⟩, .string ⟨#[38]⟩, .string ⟨#[124]⟩, .string ⟨#[94]⟩] 9)).alloc (.cells #[.string ⟨#[61, 62]⟩, .string ⟨#[43, 61]⟩, .string ⟨#[45, 61]⟩, .string ⟨#[42, 61]⟩, .string ⟨#[37, 61]⟩, .string ⟨#[60, 61]⟩, .string ⟨#[62, 61]⟩, .string ⟨#[60, 60]⟩, .string ⟨#[62, 62]⟩, .string ⟨#[38, 38]⟩, .string ⟨#[124, 124]⟩] 9)).alloc (.cells #[.string ⟨#[61, 61, 61]⟩, .string ⟨#[33, 61, 61]⟩, .string ⟨#[62, 62, 62]⟩] 9)) (.cells #[.slice none 0 0, .slice (some ⟨W.heap.size, 0, none⟩) 23 23, .slice (some ⟨W.heap.size + 1, 0, none⟩) 11 11, .slice (some ⟨W.heap.size + 1 + 1, 0, none⟩) 3 3] 111)
  rw [World.size_alloc, World.size_alloc, World.size_alloc] at this
  exact this
theorem txts_of {W : World} {b : Nat} {l : List ByteArray} {cs : Array Value} {fr : Nat × Nat} (h : W.heap[b]? = some (.cells cs 9 fr)) (hc : cs = (l.map Value.string).toArray) : Txts W b 0 l := by
  intro j s hs
  rw [Lib.cell_of_heap h, hc, Nat.zero_add]
  simp [hs]

set_option maxRecDepth 100000 in
set_option maxHeartbeats 1000000 in
theorem lsign_any (c : Nat) (a : Option Addr) (len cap : Nat) (g : Nat → Int) (W : World) (hS : Sl W c (.slice a len cap) len g) (hc : c < W.heap.size) (hlen : len ≤ 1099511627776) :
    Calls Tryd.prog 70 #[.slice a len cap] W fun x W' => x = .returned (.string (lsg g (min 3 len))) ∧ Below W.heap.size W W' := by
  obtain ⟨W4, hW4⟩ : ∃ W4, signW W = W4 := ⟨_, rfl⟩
  have hB4 := signW_below W
  have k0 := contains_any W.heap.size 0 23 23 sgn1
  have k1 := contains_any (W.heap.size + 1) 0 11 11 sgn2
  have k2 := contains_any (W.heap.size + 1 + 1) 0 3 3 sgn3
  have t0 : Txts W4 W.heap.size 0 sgn1 := by rw [← hW4]; exact txts_of (signW_h0 W) rfl
  have t1 : Txts W4 (W.heap.size + 1) 0 sgn2 := by rw [← hW4]; exact txts_of (signW_h1 W) rfl
  have t2 : Txts W4 (W.heap.size + 1 + 1) 0 sgn3 := by rw [← hW4]; exact txts_of (signW_h2 W) rfl
  have H0 := hide (fun v => k0 v W4 t0 rfl (by decide) (by decide))
  have H1 := hide (fun v => k1 v W4 t1 rfl (by decide) (by decide))
  have H2 := hide (fun v => k2 v W4 t2 rfl (by decide) (by decide))
  have h3 := signW_h3 W
  rw [hW4] at hB4 h3
  have r1 : W4.cell? ⟨W.heap.size + 1 + 1 + 1, 1, none⟩ = some (.slice (some ⟨W.heap.size, 0, none⟩) 23 23) := by rw [Lib.cell_of_heap h3]; rfl
  have r2 : W4.cell? ⟨W.heap.size + 1 + 1 + 1, 2, none⟩ = some (.slice (some ⟨W.heap.size + 1, 0, none⟩) 11 11) := by rw [Lib.cell_of_heap h3]; rfl
  have r3 : W4.cell? ⟨W.heap.size + 1 + 1 + 1, 3, none⟩ = some (.slice (some ⟨W.heap.size + 1 + 1, 0, none⟩) 3 3) := by rw [Lib.cell_of_heap h3]; rfl
  have HS4 := hide (hS.keep (B := W4) (fun k e => by subst e; exact hB4.block k hc))
  clear hS k0 k1 k2 t0 t1 t2 h3
  unfold signW at hW4
  go_enter Tryd.func70, Tryd.ntmps70
  go_wp2
  clear hW4
  have HMN : Hid (Value.int .i64 (min 3 (len : Int)) = .int .i64 ((min 3 len : Nat) : Int)) := congrArg _ (by omega)
  go_loopw [4] (fun t wr => ∃ L : Nat, L ≤ min 3 len ∧ t = .int .i64 (L : Int) ∧ lsg g (min 3 len) = lsg g L ∧ wr = W4) (fun t _ => (intOf t).toNat)
  case atStart => exact ⟨_, Nat.le_refl _, unhide HMN, rfl, rfl⟩
  case round =>
    obtain ⟨L, hL, rfl, hls, hw⟩ := hrel
    subst wr
    have HLS := hide hls
    clear hls
    by_cases hL0 : L = 0
    · subst hL0
      go_wp2
      go_ret
      exact ⟨by rw [unhide HLS]; rfl, hB4⟩
    · obtain ⟨L', rfl⟩ : ∃ L', L = L' + 1 := ⟨L - 1, by omega⟩
      have hle : L' + 1 ≤ len := by omega
      obtain ⟨a', c', hsl, hk⟩ := slice_to (unhide HS4) hle
      have hcv := conv_sl (hk _ (unhide HS4))
      clear hk
      have HU : Hid (lsg g (L' + 1) = if hasT (sgnL (L' + 1)) (strOfNums (upto g (L' + 1))) then strOfNums (upto g (L' + 1)) else lsg g L') := rfl
      have hp : (0 : Int) < (L' : Int) + 1 := by omega
      have hL3 : L' < 3 := by omega
      obtain ⟨S, hSe⟩ : ∃ S, strOfNums (upto g (L' + 1)) = S := ⟨_, rfl⟩
      rw [hSe] at HU hcv
      clear hSe
      rcases (by omega : L' = 0 ∨ L' = 1 ∨ L' = 2) with rfl | rfl | rfl
      · have hslk : ∀ W', (Instr.slice 22 (.slice a len cap) none (some (.int .i64 1)) none).run Tryd.prog W' = .ok (.slice a' 1 c') W' := hsl
        have hcvk : (convert 22 9 (.slice a' 1 c')).run Tryd.prog W4 = .ok (.string S) W4 := hcv
        clear hsl hcv hp
        cases hh : hasT (sgnL (0 + 1)) S with
        | true =>
          have hh' : hasT sgn1 S = true := hh
          rw [hh] at HU
          go_wp2_with (go_at_call 81; refine (unhide H0 _).mono ?_; rintro x w' ⟨rfl, hw⟩; subst w')
          go_ret
          refine ⟨?_, hB4⟩
          rw [unhide HLS, unhide HU]
          rfl
        | false =>
          have hh' : hasT sgn1 S = false := hh
          rw [hh] at HU
          go_wp2_with (go_at_call 81; refine (unhide H0 _).mono ?_; rintro x w' ⟨rfl, hw⟩; subst w')
          have HN : Hid (lsg g (min 3 len) = lsg g 0) := by show lsg g (min 3 len) = lsg g 0; rw [unhide HLS, unhide HU]; rfl
          exact ⟨⟨0, by omega, rfl, unhide HN, trivial⟩, by simp [intOf]⟩
      · have hslk : ∀ W', (Instr.slice 22 (.slice a len cap) none (some (.int .i64 2)) none).run Tryd.prog W' = .ok (.slice a' 2 c') W' := hsl
        have hcvk : (convert 22 9 (.slice a' 2 c')).run Tryd.prog W4 = .ok (.string S) W4 := hcv
        clear hsl hcv hp
        cases hh : hasT (sgnL (1 + 1)) S with
        | true =>
          have hh' : hasT sgn2 S = true := hh
          rw [hh] at HU
          go_wp2_with (go_at_call 81; refine (unhide H1 _).mono ?_; rintro x w' ⟨rfl, hw⟩; subst w')
          go_ret
          refine ⟨?_, hB4⟩
          rw [unhide HLS, unhide HU]
          rfl
        | false =>
          have hh' : hasT sgn2 S = false := hh
          rw [hh] at HU
          go_wp2_with (go_at_call 81; refine (unhide H1 _).mono ?_; rintro x w' ⟨rfl, hw⟩; subst w')
          have HN : Hid (lsg g (min 3 len) = lsg g 1) := by show lsg g (min 3 len) = lsg g 1; rw [unhide HLS, unhide HU]; rfl
          exact ⟨⟨1, by omega, rfl, unhide HN, trivial⟩, by simp [intOf]⟩
      · have hslk : ∀ W', (Instr.slice 22 (.slice a len cap) none (some (.int .i64 3)) none).run Tryd.prog W' = .ok (.slice a' 3 c') W' := hsl
        have hcvk : (convert 22 9 (.slice a' 3 c')).run Tryd.prog W4 = .ok (.string S) W4 := hcv
        clear hsl hcv hp
        cases hh : hasT (sgnL (2 + 1)) S with
        | true =>
          have hh' : hasT sgn3 S = true := hh
          rw [hh] at HU
          go_wp2_with (go_at_call 81; refine (unhide H2 _).mono ?_; rintro x w' ⟨rfl, hw⟩; subst w')
          go_ret
          refine ⟨?_, hB4⟩
          rw [unhide HLS, unhide HU]
          rfl
        | false =>
          have hh' : hasT sgn3 S = false := hh
          rw [hh] at HU
          go_wp2_with (go_at_call 81; refine (unhide H2 _).mono ?_; rintro x w' ⟨rfl, hw⟩; subst w')
          have HN : Hid (lsg g (min 3 len) = lsg g 2) := by show lsg g (min 3 len) = lsg g 2; rw [unhide HLS, unhide HU]; rfl
          exact ⟨⟨2, by omega, rfl, unhide HN, trivial⟩, by simp [intOf]⟩
end Go.Proofs.YtpdkeggiokebmaaDoor
