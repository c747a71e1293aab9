/- The reference's natural: a number's digits. -/
import Derived.LoopN
import Derived.Laws.BytesArg
import Derived.Lib.ItoaNum
import Derived.Test.YtdgocaokmmhenaaGreatDoorVH
namespace Go.Proofs.YtdgocaokmmhenaaGreatDoor
set_option linter.unusedSimpArgs false
set_option linter.unusedVariables false
set_option maxRecDepth 100000
set_option maxHeartbeats 4000000
open Go.RowKit Go.Shelf

/-- One byte as a string. -/
theorem conv_one (w : World) (x : Int) : (convert 82 9 (.slice (some ⟨w.heap.size, 0, none⟩) 1 1)).run Tryz.prog (w.alloc (.cells #[.int .u8 x] 5)) = .ok (.string ⟨#[UInt8.ofNat x.toNat]⟩) (w.alloc (.cells #[.int .u8 x] 5)) := by
  have hc := Bx.cell (Bx.new w #[.int .u8 x] 5) 0 rfl
  have hl : (loadCells ⟨w.heap.size, 0, none⟩ 1).run Tryz.prog (w.alloc (.cells #[.int .u8 x] 5)) = .ok (([x] : List Int).map (Value.int .u8)).toArray (w.alloc (.cells #[.int .u8 x] 5)) :=
    run_loadCells_list (P := Tryz.prog) _ ⟨w.heap.size, 0, none⟩ (([x] : List Int).map (Value.int .u8)) (fun j v hj => by
      match j, hj with
      | 0, hj => simp at hj; subst hj; exact hc)
  rw [run_convert_bytes_string _ 82 9 5 _ 1 1 Tryz.underlying82 Tryz.underlying5 Tryz.underlying9, run_bytesToString _ _ 1 1 [x] hl, foldl_push_bytes]
  rfl
theorem digits_step (c : Nat) (h : ¬ c < 10) : Lib.decDigits c = Lib.decDigits (c / 10) ++ [UInt8.ofNat (48 + c % 10)] := by
  rw [Lib.decDigits]; simp [h]
theorem digits_one (c : Nat) (h : c < 10) : Lib.decDigits c = [UInt8.ofNat (48 + c)] := by
  rw [Lib.decDigits]; simp [h]
theorem app_list (x : UInt8) (acc : ByteArray) : ((⟨#[x]⟩ ++ acc : ByteArray)).toList = x :: acc.toList := by
  rw [ByteArray.toList_eq, ByteArray.toList_eq, ByteArray.data_append]
  simp
theorem app_eq {x : UInt8} {acc : ByteArray} {l : List UInt8} (h : x :: acc.toList = l) : (⟨#[x]⟩ ++ acc : ByteArray) = ⟨l.toArray⟩ := by
  rw [← h, ← app_list, ByteArray.toList_eq]
theorem digit_byte (c : Nat) : 48 + UInt8.ofNat (c % 10) = UInt8.ofNat (48 + c % 10) := by
  rw [UInt8.ofNat_add]; rfl
theorem natural_any (v : Nat) (hv : v ≤ 9007199254740991) : Ret 85 #[.int .u64 (v : Int)] (.string ⟨(Lib.decDigits v).toArray⟩) := by
  intro W
  go_enter Tryz.func85, Tryz.ntmps85
  go_wp2
  go_loopw [0, 3] (fun t s wr => ∃ (c : Nat) (acc : ByteArray), acc.size + c ≤ v ∧ t = .int .u64 (c : Int) ∧ s = .string acc ∧ Lib.decDigits c ++ acc.toList = Lib.decDigits v ∧ Below W.heap.size W wr) (fun t _ _ => (intOf t).toNat)
  case atStart => exact ⟨v, ⟨#[]⟩, by show 0 + v ≤ v; omega, rfl, rfl, by rw [ByteArray.toList_eq]; simp, Below.refl _ _⟩
  case round =>
    obtain ⟨c, acc, hc, rfl, rfl, he, hB⟩ := hrel
    have HE := hide he
    clear he
    have hcv := conv_one wr (48 + (c : Int) % 10)
    have HB := hide hB
    have hs : (acc.size : Int) ≤ 9007199254740991 := by omega
    have hc' : (c : Int) ≤ 9007199254740991 := by omega
    have HC := hide hc
    clear hB hc
    by_cases h10 : c < 10
    · have h0 : ((c : Int) / 10 == 0) = true := by simp; omega
      go_wp2
      go_ret
      refine ⟨?_, (unhide HB).alloc (unhide HB).size _⟩
      have he := unhide HE
      rw [digits_one c h10] at he
      rw [digit_byte, show c % 10 = c by omega]
      exact congrArg (fun s => Ending.returned (Value.string s)) (app_eq he)
    · have h0 : ((c : Int) / 10 == 0) = false := by simp; omega
      go_wp2
      refine ⟨⟨c / 10, ⟨#[48 + UInt8.ofNat (c % 10)]⟩ ++ acc, ?_, by rw [Int.natCast_ediv]; rfl, rfl, ?_, (unhide HB).alloc (unhide HB).size _⟩, ?_⟩
      · have := unhide HC
        have e : (⟨#[48 + UInt8.ofNat (c % 10)]⟩ ++ acc : ByteArray).size = 1 + acc.size := by rw [ByteArray.size_append]; rfl
        rw [e]
        omega
      · have he := unhide HE
        rw [digits_step c h10] at he
        rw [app_list, digit_byte, ← he]
        simp
      · simp [intOf]
        omega
end Go.Proofs.YtdgocaokmmhenaaGreatDoor
