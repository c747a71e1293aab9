/- The law LexDepths holds in whatever memory. -/
import Derived.LoopN
import Derived.Test.YtponficlejjafabDoorXK2
import Derived.Test.YtponficlejjafabDoorXF
namespace Go.Proofs.YtponficlejjafabDoor
set_option linter.unusedSimpArgs false
set_option linter.unusedVariables false
open Go.RowKit Go.Shelf

set_option maxRecDepth 100000 in
set_option maxHeartbeats 1000000 in
theorem depth24_none (a : Option Addr) (cap : Nat) (m : Int) (w : World) : Calls Tryd.prog 24 #[.slice a 0 cap, .int .i64 m] w fun e w' => e = .returned (.tuple #[.int .i64 0, .int .i64 (-1)]) ∧ Below w.heap.size w w' := by
  go_enter Tryd.func24, Tryd.ntmps24
  go_wp2
  go_loop [7, 8, 9] (fun g f i => g = .int .i64 0 ∧ f = .int .i64 (-1) ∧ i = .int .i64 0) (fun _ _ _ => 0)
  case atStart => exact ⟨rfl, rfl, rfl⟩
  case round =>
    obtain ⟨rfl, rfl, rfl⟩ := hrel
    go_wp2
    refine bodyPost_ret (v := .tuple #[.int .i64 0, .int .i64 (-1)]) ?_ rfl ⟨rfl, Below.refl _ _⟩
    simp [results, Tryd.results24, go_sem]

set_option maxRecDepth 100000 in
set_option maxHeartbeats 1000000 in
theorem depth23_none (a : Option Addr) (cap : Nat) (m : Int) (w : World) : Calls Tryd.prog 23 #[.slice a 0 cap, .int .i64 m] w fun e w' => e = .returned (.tuple #[.int .i64 0, .int .i64 (-1)]) ∧ Below w.heap.size w w' := by
  go_enter Tryd.func23, Tryd.ntmps23
  go_wp2
  go_loop [7, 8, 13] (fun g f i => g = .int .i64 0 ∧ f = .int .i64 (-1) ∧ i = .int .i64 0) (fun _ _ _ => 0)
  case atStart => exact ⟨rfl, rfl, rfl⟩
  case round =>
    obtain ⟨rfl, rfl, rfl⟩ := hrel
    go_wp2
    refine bodyPost_ret (v := .tuple #[.int .i64 0, .int .i64 (-1)]) ?_ rfl ⟨rfl, Below.refl _ _⟩
    simp [results, Tryd.results23, go_sem]

set_option maxRecDepth 100000 in
set_option maxHeartbeats 1000000 in
theorem depths_walk (a : Option Addr) (len cap : Nat) (m x y : Int) (w : World) (hl : len ≤ 1500) (h23 : ∀ W, Below w.heap.size w W → Calls Tryd.prog 23 #[.slice a len cap, .int .i64 m] W fun e w' => e = .returned (.tuple #[.int .i64 x, .int .i64 y]) ∧ Below W.heap.size W w') (h24 : ∀ W, Below w.heap.size w W → Calls Tryd.prog 24 #[.slice a len cap, .int .i64 m] W fun e w' => e = .returned (.tuple #[.int .i64 x, .int .i64 y]) ∧ Below W.heap.size W w') :
    Calls Tryd.prog 7 #[.slice a len cap, .int .i64 m] w fun e w' => e = .returned (.bool true) ∧ Below w.heap.size w w' := by
  have hl' : ¬ (1500 : Int) < len := by omega
  have H23 := hide (h23 w (Below.refl _ w))
  have H24 := hide h24
  clear h23 h24
  go_enter Tryd.func7, Tryd.ntmps7
  go_wp2_with (first | (go_at_call 23; refine (unhide H23).mono ?_; rintro e W2 ⟨rfl, hB2⟩) | (go_at_call 24; refine (unhide H24 _ hB2).mono ?_; rintro e W3 ⟨rfl, hB3⟩) | (go_at_call 17; refine (lexknown_any _).mono ?_; rintro e W4 ⟨rfl, hB4⟩))
  go_ret
  have h3 : Below w.heap.size w W3 := hB2.trans (hB3.mono hB2.size)
  exact ⟨rfl, h3.trans (hB4.mono h3.size)⟩

set_option maxRecDepth 100000 in
set_option maxHeartbeats 1000000 in
theorem depths_big (a : Option Addr) (len cap : Nat) (m : Int) (w : World) (hl : 1500 < len) (hm : len ≤ maxLen) :
    Calls Tryd.prog 7 #[.slice a len cap, .int .i64 m] w fun e w' => e = .returned (.bool true) ∧ Below w.heap.size w w' := by
  have hl' : (1500 : Int) < len := by omega
  unfold maxLen at hm
  go_enter Tryd.func7, Tryd.ntmps7
  go_wp2
  go_ret
  exact ⟨rfl, Below.refl _ _⟩

theorem Toks.keep {W W' : World} {b off len : Nat} {K A E : Nat → Int} {T : Nat → ByteArray} {B : Nat} (h : Toks W b off len K A E T) (hB : Below B W W') (hb : b < B) : Toks W' b off len K A E T := fun j hj =>
  ⟨(hB.cell (p := ⟨b, off + j * 4, none⟩) hb).trans (h j hj).1, (hB.cell (p := ⟨b, off + j * 4 + 1, none⟩) hb).trans (h j hj).2.1, (hB.cell (p := ⟨b, off + j * 4 + 2, none⟩) hb).trans (h j hj).2.2.1, (hB.cell (p := ⟨b, off + j * 4 + 3, none⟩) hb).trans (h j hj).2.2.2⟩

theorem depths_any (a : Option Addr) (len cap : Nat) (m : Int) (w : World) (hm : len ≤ maxLen) (h : len = 0 ∨ ∃ b off K A E T, a = some ⟨b, off, none⟩ ∧ b < w.heap.size ∧ Toks w b off len K A E T) :
    Calls Tryd.prog 7 #[.slice a len cap, .int .i64 m] w fun e w' => e = .returned (.bool true) ∧ Below w.heap.size w w' := by
  by_cases hbig : 1500 < len
  · exact depths_big a len cap m w hbig hm
  rcases h with rfl | ⟨b, off, K, A, E, T, rfl, hb, hT⟩
  · exact depths_walk a 0 cap m 0 (-1) w (by omega) (fun W _ => depth23_none a cap m W) (fun W _ => depth24_none a cap m W)
  · exact depths_walk _ len cap m _ _ w (by omega) (fun W hW => depth23 b off len cap K A E T m W (by omega) (Nat.lt_of_lt_of_le hb hW.size) (hT.keep hW hb)) (fun W hW => depth24 b off len cap K A E T m W (by omega) (Nat.lt_of_lt_of_le hb hW.size) (hT.keep hW hb))
end Go.Proofs.YtponficlejjafabDoor
