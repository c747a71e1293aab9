/- lex.Depth and the reference's Depth over a row of tokens. -/
import Derived.LoopN
import Derived.Test.YtponficlejjafabDoorXJ
namespace Go.Proofs.YtponficlejjafabDoor
set_option linter.unusedSimpArgs false
set_option linter.unusedVariables false
open Go.RowKit Go.Shelf

/-- How many brackets are open behind k tokens. -/
def cN (K : Nat → Int) (T : Nat → ByteArray) : Nat → Int
  | 0 => 0
  | k + 1 => if cN K T k + tn (K k) (T k) < 0 then 0 else cN K T k + tn (K k) (T k)
/-- The most that were open. -/
def gN (K : Nat → Int) (T : Nat → ByteArray) : Nat → Int
  | 0 => 0
  | k + 1 => if cN K T (k + 1) > gN K T k then cN K T (k + 1) else gN K T k
/-- The first token at which there were more than m. -/
def fN (K : Nat → Int) (T : Nat → ByteArray) (m : Int) : Nat → Int
  | 0 => -1
  | k + 1 => if cN K T (k + 1) > m ∧ fN K T m k < 0 then k else fN K T m k
theorem cN_le (K : Nat → Int) (T : Nat → ByteArray) : ∀ k, 0 ≤ cN K T k ∧ cN K T k ≤ k
  | 0 => by simp [cN]
  | k + 1 => by
    have h := cN_le K T k
    have h2 := tn_le (K k) (T k)
    simp only [cN]
    split <;> omega
/-- A row of tokens. -/
def Toks (W : World) (b off len : Nat) (K A E : Nat → Int) (T : Nat → ByteArray) : Prop :=
  ∀ j, j < len → W.cell? ⟨b, off + j * 4, none⟩ = some (.int .i64 (K j)) ∧ W.cell? ⟨b, off + j * 4 + 1, none⟩ = some (.string (T j)) ∧ W.cell? ⟨b, off + j * 4 + 2, none⟩ = some (.int .i64 (A j)) ∧ W.cell? ⟨b, off + j * 4 + 3, none⟩ = some (.int .i64 (E j))

theorem dep_step (K : Nat → Int) (T : Nat → ByteArray) (m : Int) (k : Nat) : ((cN K T (k + 1) = 0 ∧ cN K T k + tn (K k) (T k) < 0) ∨ (cN K T (k + 1) = cN K T k + tn (K k) (T k) ∧ 0 ≤ cN K T k + tn (K k) (T k))) ∧ ((gN K T (k + 1) = cN K T (k + 1) ∧ cN K T (k + 1) > gN K T k) ∨ (gN K T (k + 1) = gN K T k ∧ ¬ cN K T (k + 1) > gN K T k)) ∧
    ((fN K T m (k + 1) = k ∧ cN K T (k + 1) > m ∧ fN K T m k < 0) ∨ (fN K T m (k + 1) = fN K T m k ∧ ¬ (cN K T (k + 1) > m ∧ fN K T m k < 0))) := by
  refine ⟨?_, ?_, ?_⟩
  · simp only [cN]; split <;> omega
  · simp only [gN]; split <;> omega
  · simp only [fN]; split <;> omega

set_option maxRecDepth 100000 in
set_option maxHeartbeats 1000000 in
theorem depth24 (b off len cap : Nat) (K A E : Nat → Int) (T : Nat → ByteArray) (m : Int) (w : World) (hlen : len ≤ 1048576) (hb : b < w.heap.size) (hT : Toks w b off len K A E T) : Calls Tryd.prog 24 #[.slice (some ⟨b, off, none⟩) len cap, .int .i64 m] w fun e w' => e = .returned (.tuple #[.int .i64 (gN K T len), .int .i64 (fN K T m len)]) ∧ Below w.heap.size w w' := by
  have HT := hide hT
  clear hT
  go_enter Tryd.func24, Tryd.ntmps24
  go_wp2
  go_loopw [6, 7, 8, 9] (fun n g f i wr => ∃ k : Nat, k ≤ len ∧ i = .int .i64 k ∧ n = .int .i64 (cN K T k) ∧ g = .int .i64 (gN K T k) ∧ f = .int .i64 (fN K T m k) ∧ Below w.heap.size w wr) (fun _ _ _ i _ => len - (intOf i).toNat)
  case atStart => exact ⟨0, Nat.zero_le _, rfl, rfl, rfl, rfl, Below.refl _ _⟩
  case round =>
    obtain ⟨k, hk, rfl, rfl, rfl, rfl, hB⟩ := hrel
    by_cases hlt : k < len
    · have hq := unhide HT k hlt
      have d0 := (hB.cell (p := ⟨b, off + k * 4, none⟩) hb).trans hq.1
      have d1 := (hB.cell (p := ⟨b, off + k * 4 + 1, none⟩) hb).trans hq.2.1
      have d2 := (hB.cell (p := ⟨b, off + k * 4 + 2, none⟩) hb).trans hq.2.2.1
      have d3 := (hB.cell (p := ⟨b, off + k * 4 + 3, none⟩) hb).trans hq.2.2.2
      have hbr : b < wr.heap.size := Nat.lt_of_lt_of_le hb hB.size
      clear hq
      have hlt' : (k : Int) < len := by omega
      have HS := hide (dep_step K T m k)
      have HC := hide (cN_le K T k)
      have HN := hide (tn_le (K k) (T k))
      go_wp2_with (go_at_call 38; refine (turn38_any _ _ _ _ _).mono ?_; rintro e W2 ⟨rfl, hB2⟩)
      all_goals (
        obtain ⟨s1, s2, s3⟩ := unhide HS
        have hc := unhide HC
        have hn := unhide HN
        have hw : wrap64 (cN K T k + tn (K k) (T k)) = cN K T k + tn (K k) (T k) := IntWalk.wrap64_in _ (by omega)
        clear d0 d1 d2 d3
        refine ⟨⟨k + 1, by omega, by go_num, congrArg _ (by omega), congrArg _ (by omega), congrArg _ (by omega), hB.trans (hB2.mono hB.size)⟩, by simp [intOf]; omega⟩)
    · have hlt' : ¬ (k : Int) < len := by omega
      obtain rfl : k = len := by omega
      go_wp2
      refine bodyPost_ret (v := .tuple #[.int .i64 (gN K T k), .int .i64 (fN K T m k)]) ?_ rfl ⟨rfl, hB⟩
      simp [results, Tryd.results24, go_sem]
end Go.Proofs.YtponficlejjafabDoor
