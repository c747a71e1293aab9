/- Merged: VUH, VUI. -/
import Derived.Test.YthjlhdldomfikaaDoorVR
import Derived.Test.YthjlhdldomfikaaDoorVX
import Derived.Test.YthjlhdldomfikaaDoorVY7
import Derived.Test.YthjlhdldomfikaaDoorVY8
import Derived.Test.YthjlhdldomfikaaDoorVZ
import Derived.Test.YthjlhdldomfikaaDoorWA
import Derived.Test.YthjlhdldomfikaaDoorWC
import Derived.Test.YthjlhdldomfikaaDoorWD
import Derived.Test.YthjlhdldomfikaaDoorWE
/- value.Binary and the document's answer, the same at every operator and values. -/
namespace Go.Proofs.YthjlhdldomfikaaDoor
set_option linter.unusedSimpArgs false
set_option linter.unusedVariables false
set_option maxRecDepth 100000
set_option maxHeartbeats 1000000
open Go.RowKit Go.Shelf

theorem gen_eq (k n k' n' K N K' N' : Int) (t t' T T' : ByteArray) (HA : Ret 20 #[.agg (Vc k n t)] (.agg (Vc K N T))) (HB : Ret 20 #[.agg (Vc k' n' t')] (.agg (Vc K' N' T'))) (r : R5) (X : r = ⟨2, bI (eqV K N T K' N' T'), ByteArray.empty, ⟨#[]⟩, 0⟩) : Ret 12 #[.string ⟨#[61, 61, 61]⟩, .agg (Vc k n t), .agg (Vc k' n' t')] r.tr := by
  refine bin_gen ⟨#[61, 61, 61]⟩ k n k' n' K N K' N' t t' T T' HA HB r ?_ ?_ ?_ ?_ ?_ ?_ ?_ ?_ ?_ ?_ ?_ ?_ ?_ ?_ ?_ ?_ ?_
  case refine_17 => intro a0 a1 a2 a3 a4 a5 a6 a7 a8 a9 a10 a11 a12 a13 a14 a15; exact absurd rfl a0
  all_goals
    intro h
    first
      | (exact absurd (congrArg (fun x : ByteArray => x.data.toList.map UInt8.toNat) h) (by decide))
      | exact X
theorem gen_ne (k n k' n' K N K' N' : Int) (t t' T T' : ByteArray) (HA : Ret 20 #[.agg (Vc k n t)] (.agg (Vc K N T))) (HB : Ret 20 #[.agg (Vc k' n' t')] (.agg (Vc K' N' T'))) (r : R5) (X : r = ⟨2, bI (!eqV K N T K' N' T'), ByteArray.empty, ⟨#[]⟩, 0⟩) : Ret 12 #[.string ⟨#[33, 61, 61]⟩, .agg (Vc k n t), .agg (Vc k' n' t')] r.tr := by
  refine bin_gen ⟨#[33, 61, 61]⟩ k n k' n' K N K' N' t t' T T' HA HB r ?_ ?_ ?_ ?_ ?_ ?_ ?_ ?_ ?_ ?_ ?_ ?_ ?_ ?_ ?_ ?_ ?_
  case refine_17 => intro a0 a1 a2 a3 a4 a5 a6 a7 a8 a9 a10 a11 a12 a13 a14 a15; exact absurd rfl a1
  all_goals
    intro h
    first
      | (exact absurd (congrArg (fun x : ByteArray => x.data.toList.map UInt8.toNat) h) (by decide))
      | exact X
theorem gen_add (k n k' n' K N K' N' : Int) (t t' T T' : ByteArray) (HA : Ret 20 #[.agg (Vc k n t)] (.agg (Vc K N T))) (HB : Ret 20 #[.agg (Vc k' n' t')] (.agg (Vc K' N' T'))) (r : R5) (X : Ret 32 #[.agg (Vc K N T), .agg (Vc K' N' T')] r.tr) : Ret 12 #[.string ⟨#[43]⟩, .agg (Vc k n t), .agg (Vc k' n' t')] r.tr := by
  refine bin_gen ⟨#[43]⟩ k n k' n' K N K' N' t t' T T' HA HB r ?_ ?_ ?_ ?_ ?_ ?_ ?_ ?_ ?_ ?_ ?_ ?_ ?_ ?_ ?_ ?_ ?_
  case refine_17 => intro a0 a1 a2 a3 a4 a5 a6 a7 a8 a9 a10 a11 a12 a13 a14 a15; exact absurd rfl a2
  all_goals
    intro h
    first
      | (exact absurd (congrArg (fun x : ByteArray => x.data.toList.map UInt8.toNat) h) (by decide))
      | exact X
theorem gen_sub (k n k' n' K N K' N' : Int) (t t' T T' : ByteArray) (HA : Ret 20 #[.agg (Vc k n t)] (.agg (Vc K N T))) (HB : Ret 20 #[.agg (Vc k' n' t')] (.agg (Vc K' N' T'))) (r : R5) (X : Ret 33 #[.agg (Vc K N T), .agg (Vc K' N' T'), .func (.func 34) #[] #[]] r.tr) : Ret 12 #[.string ⟨#[45]⟩, .agg (Vc k n t), .agg (Vc k' n' t')] r.tr := by
  refine bin_gen ⟨#[45]⟩ k n k' n' K N K' N' t t' T T' HA HB r ?_ ?_ ?_ ?_ ?_ ?_ ?_ ?_ ?_ ?_ ?_ ?_ ?_ ?_ ?_ ?_ ?_
  case refine_17 => intro a0 a1 a2 a3 a4 a5 a6 a7 a8 a9 a10 a11 a12 a13 a14 a15; exact absurd rfl a3
  all_goals
    intro h
    first
      | (exact absurd (congrArg (fun x : ByteArray => x.data.toList.map UInt8.toNat) h) (by decide))
      | exact X
theorem gen_mul (k n k' n' K N K' N' : Int) (t t' T T' : ByteArray) (HA : Ret 20 #[.agg (Vc k n t)] (.agg (Vc K N T))) (HB : Ret 20 #[.agg (Vc k' n' t')] (.agg (Vc K' N' T'))) (r : R5) (X : Ret 33 #[.agg (Vc K N T), .agg (Vc K' N' T'), .func (.func 35) #[] #[]] r.tr) : Ret 12 #[.string ⟨#[42]⟩, .agg (Vc k n t), .agg (Vc k' n' t')] r.tr := by
  refine bin_gen ⟨#[42]⟩ k n k' n' K N K' N' t t' T T' HA HB r ?_ ?_ ?_ ?_ ?_ ?_ ?_ ?_ ?_ ?_ ?_ ?_ ?_ ?_ ?_ ?_ ?_
  case refine_17 => intro a0 a1 a2 a3 a4 a5 a6 a7 a8 a9 a10 a11 a12 a13 a14 a15; exact absurd rfl a4
  all_goals
    intro h
    first
      | (exact absurd (congrArg (fun x : ByteArray => x.data.toList.map UInt8.toNat) h) (by decide))
      | exact X
theorem gen_rem (k n k' n' K N K' N' : Int) (t t' T T' : ByteArray) (HA : Ret 20 #[.agg (Vc k n t)] (.agg (Vc K N T))) (HB : Ret 20 #[.agg (Vc k' n' t')] (.agg (Vc K' N' T'))) (r : R5) (X : Ret 33 #[.agg (Vc K N T), .agg (Vc K' N' T'), .func (.func 36) #[] #[]] r.tr) : Ret 12 #[.string ⟨#[37]⟩, .agg (Vc k n t), .agg (Vc k' n' t')] r.tr := by
  refine bin_gen ⟨#[37]⟩ k n k' n' K N K' N' t t' T T' HA HB r ?_ ?_ ?_ ?_ ?_ ?_ ?_ ?_ ?_ ?_ ?_ ?_ ?_ ?_ ?_ ?_ ?_
  case refine_17 => intro a0 a1 a2 a3 a4 a5 a6 a7 a8 a9 a10 a11 a12 a13 a14 a15; exact absurd rfl a5
  all_goals
    intro h
    first
      | (exact absurd (congrArg (fun x : ByteArray => x.data.toList.map UInt8.toNat) h) (by decide))
      | exact X
theorem gen_and (k n k' n' K N K' N' : Int) (t t' T T' : ByteArray) (HA : Ret 20 #[.agg (Vc k n t)] (.agg (Vc K N T))) (HB : Ret 20 #[.agg (Vc k' n' t')] (.agg (Vc K' N' T'))) (r : R5) (X : Ret 33 #[.agg (Vc K N T), .agg (Vc K' N' T'), .func (.func 37) #[] #[]] r.tr) : Ret 12 #[.string ⟨#[38]⟩, .agg (Vc k n t), .agg (Vc k' n' t')] r.tr := by
  refine bin_gen ⟨#[38]⟩ k n k' n' K N K' N' t t' T T' HA HB r ?_ ?_ ?_ ?_ ?_ ?_ ?_ ?_ ?_ ?_ ?_ ?_ ?_ ?_ ?_ ?_ ?_
  case refine_17 => intro a0 a1 a2 a3 a4 a5 a6 a7 a8 a9 a10 a11 a12 a13 a14 a15; exact absurd rfl a6
  all_goals
    intro h
    first
      | (exact absurd (congrArg (fun x : ByteArray => x.data.toList.map UInt8.toNat) h) (by decide))
      | exact X
theorem gen_or (k n k' n' K N K' N' : Int) (t t' T T' : ByteArray) (HA : Ret 20 #[.agg (Vc k n t)] (.agg (Vc K N T))) (HB : Ret 20 #[.agg (Vc k' n' t')] (.agg (Vc K' N' T'))) (r : R5) (X : Ret 33 #[.agg (Vc K N T), .agg (Vc K' N' T'), .func (.func 38) #[] #[]] r.tr) : Ret 12 #[.string ⟨#[124]⟩, .agg (Vc k n t), .agg (Vc k' n' t')] r.tr := by
  refine bin_gen ⟨#[124]⟩ k n k' n' K N K' N' t t' T T' HA HB r ?_ ?_ ?_ ?_ ?_ ?_ ?_ ?_ ?_ ?_ ?_ ?_ ?_ ?_ ?_ ?_ ?_
  case refine_17 => intro a0 a1 a2 a3 a4 a5 a6 a7 a8 a9 a10 a11 a12 a13 a14 a15; exact absurd rfl a7
  all_goals
    intro h
    first
      | (exact absurd (congrArg (fun x : ByteArray => x.data.toList.map UInt8.toNat) h) (by decide))
      | exact X
theorem gen_xor (k n k' n' K N K' N' : Int) (t t' T T' : ByteArray) (HA : Ret 20 #[.agg (Vc k n t)] (.agg (Vc K N T))) (HB : Ret 20 #[.agg (Vc k' n' t')] (.agg (Vc K' N' T'))) (r : R5) (X : Ret 33 #[.agg (Vc K N T), .agg (Vc K' N' T'), .func (.func 39) #[] #[]] r.tr) : Ret 12 #[.string ⟨#[94]⟩, .agg (Vc k n t), .agg (Vc k' n' t')] r.tr := by
  refine bin_gen ⟨#[94]⟩ k n k' n' K N K' N' t t' T T' HA HB r ?_ ?_ ?_ ?_ ?_ ?_ ?_ ?_ ?_ ?_ ?_ ?_ ?_ ?_ ?_ ?_ ?_
  case refine_17 => intro a0 a1 a2 a3 a4 a5 a6 a7 a8 a9 a10 a11 a12 a13 a14 a15; exact absurd rfl a8
  all_goals
    intro h
    first
      | (exact absurd (congrArg (fun x : ByteArray => x.data.toList.map UInt8.toNat) h) (by decide))
      | exact X
theorem gen_shl (k n k' n' K N K' N' : Int) (t t' T T' : ByteArray) (HA : Ret 20 #[.agg (Vc k n t)] (.agg (Vc K N T))) (HB : Ret 20 #[.agg (Vc k' n' t')] (.agg (Vc K' N' T'))) (r : R5) (X : Ret 33 #[.agg (Vc K N T), .agg (Vc K' N' T'), .func (.func 40) #[] #[]] r.tr) : Ret 12 #[.string ⟨#[60, 60]⟩, .agg (Vc k n t), .agg (Vc k' n' t')] r.tr := by
  refine bin_gen ⟨#[60, 60]⟩ k n k' n' K N K' N' t t' T T' HA HB r ?_ ?_ ?_ ?_ ?_ ?_ ?_ ?_ ?_ ?_ ?_ ?_ ?_ ?_ ?_ ?_ ?_
  case refine_17 => intro a0 a1 a2 a3 a4 a5 a6 a7 a8 a9 a10 a11 a12 a13 a14 a15; exact absurd rfl a9
  all_goals
    intro h
    first
      | (exact absurd (congrArg (fun x : ByteArray => x.data.toList.map UInt8.toNat) h) (by decide))
      | exact X
theorem gen_shr (k n k' n' K N K' N' : Int) (t t' T T' : ByteArray) (HA : Ret 20 #[.agg (Vc k n t)] (.agg (Vc K N T))) (HB : Ret 20 #[.agg (Vc k' n' t')] (.agg (Vc K' N' T'))) (r : R5) (X : Ret 33 #[.agg (Vc K N T), .agg (Vc K' N' T'), .func (.func 41) #[] #[]] r.tr) : Ret 12 #[.string ⟨#[62, 62]⟩, .agg (Vc k n t), .agg (Vc k' n' t')] r.tr := by
  refine bin_gen ⟨#[62, 62]⟩ k n k' n' K N K' N' t t' T T' HA HB r ?_ ?_ ?_ ?_ ?_ ?_ ?_ ?_ ?_ ?_ ?_ ?_ ?_ ?_ ?_ ?_ ?_
  case refine_17 => intro a0 a1 a2 a3 a4 a5 a6 a7 a8 a9 a10 a11 a12 a13 a14 a15; exact absurd rfl a10
  all_goals
    intro h
    first
      | (exact absurd (congrArg (fun x : ByteArray => x.data.toList.map UInt8.toNat) h) (by decide))
      | exact X
theorem gen_shn (k n k' n' K N K' N' : Int) (t t' T T' : ByteArray) (HA : Ret 20 #[.agg (Vc k n t)] (.agg (Vc K N T))) (HB : Ret 20 #[.agg (Vc k' n' t')] (.agg (Vc K' N' T'))) (r : R5) (X : Ret 33 #[.agg (Vc K N T), .agg (Vc K' N' T'), .func (.func 42) #[] #[]] r.tr) : Ret 12 #[.string ⟨#[62, 62, 62]⟩, .agg (Vc k n t), .agg (Vc k' n' t')] r.tr := by
  refine bin_gen ⟨#[62, 62, 62]⟩ k n k' n' K N K' N' t t' T T' HA HB r ?_ ?_ ?_ ?_ ?_ ?_ ?_ ?_ ?_ ?_ ?_ ?_ ?_ ?_ ?_ ?_ ?_
  case refine_17 => intro a0 a1 a2 a3 a4 a5 a6 a7 a8 a9 a10 a11 a12 a13 a14 a15; exact absurd rfl a11
  all_goals
    intro h
    first
      | (exact absurd (congrArg (fun x : ByteArray => x.data.toList.map UInt8.toNat) h) (by decide))
      | exact X
theorem gen_lt (k n k' n' K N K' N' : Int) (t t' T T' : ByteArray) (HA : Ret 20 #[.agg (Vc k n t)] (.agg (Vc K N T))) (HB : Ret 20 #[.agg (Vc k' n' t')] (.agg (Vc K' N' T'))) (r : R5) (X : Ret 43 #[.agg (Vc K N T), .agg (Vc K' N' T'), .func (.func 44) #[] #[]] r.tr) : Ret 12 #[.string ⟨#[60]⟩, .agg (Vc k n t), .agg (Vc k' n' t')] r.tr := by
  refine bin_gen ⟨#[60]⟩ k n k' n' K N K' N' t t' T T' HA HB r ?_ ?_ ?_ ?_ ?_ ?_ ?_ ?_ ?_ ?_ ?_ ?_ ?_ ?_ ?_ ?_ ?_
  case refine_17 => intro a0 a1 a2 a3 a4 a5 a6 a7 a8 a9 a10 a11 a12 a13 a14 a15; exact absurd rfl a12
  all_goals
    intro h
    first
      | (exact absurd (congrArg (fun x : ByteArray => x.data.toList.map UInt8.toNat) h) (by decide))
      | exact X
theorem gen_le (k n k' n' K N K' N' : Int) (t t' T T' : ByteArray) (HA : Ret 20 #[.agg (Vc k n t)] (.agg (Vc K N T))) (HB : Ret 20 #[.agg (Vc k' n' t')] (.agg (Vc K' N' T'))) (r : R5) (X : Ret 43 #[.agg (Vc K N T), .agg (Vc K' N' T'), .func (.func 45) #[] #[]] r.tr) : Ret 12 #[.string ⟨#[60, 61]⟩, .agg (Vc k n t), .agg (Vc k' n' t')] r.tr := by
  refine bin_gen ⟨#[60, 61]⟩ k n k' n' K N K' N' t t' T T' HA HB r ?_ ?_ ?_ ?_ ?_ ?_ ?_ ?_ ?_ ?_ ?_ ?_ ?_ ?_ ?_ ?_ ?_
  case refine_17 => intro a0 a1 a2 a3 a4 a5 a6 a7 a8 a9 a10 a11 a12 a13 a14 a15; exact absurd rfl a13
  all_goals
    intro h
    first
      | (exact absurd (congrArg (fun x : ByteArray => x.data.toList.map UInt8.toNat) h) (by decide))
      | exact X
theorem gen_gt (k n k' n' K N K' N' : Int) (t t' T T' : ByteArray) (HA : Ret 20 #[.agg (Vc k n t)] (.agg (Vc K N T))) (HB : Ret 20 #[.agg (Vc k' n' t')] (.agg (Vc K' N' T'))) (r : R5) (X : Ret 43 #[.agg (Vc K N T), .agg (Vc K' N' T'), .func (.func 46) #[] #[]] r.tr) : Ret 12 #[.string ⟨#[62]⟩, .agg (Vc k n t), .agg (Vc k' n' t')] r.tr := by
  refine bin_gen ⟨#[62]⟩ k n k' n' K N K' N' t t' T T' HA HB r ?_ ?_ ?_ ?_ ?_ ?_ ?_ ?_ ?_ ?_ ?_ ?_ ?_ ?_ ?_ ?_ ?_
  case refine_17 => intro a0 a1 a2 a3 a4 a5 a6 a7 a8 a9 a10 a11 a12 a13 a14 a15; exact absurd rfl a14
  all_goals
    intro h
    first
      | (exact absurd (congrArg (fun x : ByteArray => x.data.toList.map UInt8.toNat) h) (by decide))
      | exact X
theorem gen_ge (k n k' n' K N K' N' : Int) (t t' T T' : ByteArray) (HA : Ret 20 #[.agg (Vc k n t)] (.agg (Vc K N T))) (HB : Ret 20 #[.agg (Vc k' n' t')] (.agg (Vc K' N' T'))) (r : R5) (X : Ret 43 #[.agg (Vc K N T), .agg (Vc K' N' T'), .func (.func 47) #[] #[]] r.tr) : Ret 12 #[.string ⟨#[62, 61]⟩, .agg (Vc k n t), .agg (Vc k' n' t')] r.tr := by
  refine bin_gen ⟨#[62, 61]⟩ k n k' n' K N K' N' t t' T T' HA HB r ?_ ?_ ?_ ?_ ?_ ?_ ?_ ?_ ?_ ?_ ?_ ?_ ?_ ?_ ?_ ?_ ?_
  case refine_17 => intro a0 a1 a2 a3 a4 a5 a6 a7 a8 a9 a10 a11 a12 a13 a14 a15; exact absurd rfl a15
  all_goals
    intro h
    first
      | (exact absurd (congrArg (fun x : ByteArray => x.data.toList.map UInt8.toNat) h) (by decide))
      | exact X
theorem gen_none (k n k' n' K N K' N' : Int) (t t' T T' : ByteArray) (HA : Ret 20 #[.agg (Vc k n t)] (.agg (Vc K N T))) (HB : Ret 20 #[.agg (Vc k' n' t')] (.agg (Vc K' N' T'))) (op : ByteArray) (o0 : op ≠ ⟨#[61, 61, 61]⟩) (o1 : op ≠ ⟨#[33, 61, 61]⟩) (o2 : op ≠ ⟨#[43]⟩) (o3 : op ≠ ⟨#[45]⟩) (o4 : op ≠ ⟨#[42]⟩) (o5 : op ≠ ⟨#[37]⟩) (o6 : op ≠ ⟨#[38]⟩) (o7 : op ≠ ⟨#[124]⟩) (o8 : op ≠ ⟨#[94]⟩) (o9 : op ≠ ⟨#[60, 60]⟩) (o10 : op ≠ ⟨#[62, 62]⟩) (o11 : op ≠ ⟨#[62, 62, 62]⟩) (o12 : op ≠ ⟨#[60]⟩) (o13 : op ≠ ⟨#[60, 61]⟩) (o14 : op ≠ ⟨#[62]⟩) (o15 : op ≠ ⟨#[62, 61]⟩) : Ret 12 #[.string op, .agg (Vc k n t), .agg (Vc k' n' t')] (⟨0, 0, ByteArray.empty, ⟨#[]⟩, 0⟩ : R5).tr :=
  bin_gen op k n k' n' K N K' N' t t' T T' HA HB _ (fun h => absurd h o0) (fun h => absurd h o1) (fun h => absurd h o2) (fun h => absurd h o3) (fun h => absurd h o4) (fun h => absurd h o5) (fun h => absurd h o6) (fun h => absurd h o7) (fun h => absurd h o8) (fun h => absurd h o9) (fun h => absurd h o10) (fun h => absurd h o11) (fun h => absurd h o12) (fun h => absurd h o13) (fun h => absurd h o14) (fun h => absurd h o15) (fun _ _ _ _ _ _ _ _ _ _ _ _ _ _ _ _ => rfl)
theorem said_any (A : World) (K N : Int) (T : ByteArray) (hK : 0 ≤ K ∧ K ≤ 5) (hN : K = 3 → -9007199254740991 ≤ N ∧ N ≤ 9007199254740991) (hT : Lib.TabIs Tryd.prog A "internal/strconv.uint64pow10" .u64 Lib.pow10Tab) : RetA A 53 #[.agg (Vc K N T)] (.string (textP K N T)) := by
  have hc : K = 0 ∨ K = 1 ∨ K = 2 ∨ K = 3 ∨ K = 4 ∨ K = 5 := by omega
  rcases hc with rfl | rfl | rfl | rfl | rfl | rfl
  · exact (said_0 N T).at A
  · exact (said_1 N T).at A
  · exact (said_2 N T _ rfl).at A
  · exact said_3 A N T _ (itoa_A A N (hN rfl).1 (hN rfl).2 hT)
  · exact (said_text 4 N T (.inl rfl)).at A
  · exact (said_text 5 N T (.inr rfl)).at A
theorem textP_small (K N : Int) (T : ByteArray) (hN : K = 3 → -9007199254740991 ≤ N ∧ N ≤ 9007199254740991) (hz : T.size ≤ 1048576) : (textP K N T).size ≤ 281474976710656 := by
  unfold textP
  split
  · exact (show undefT.size ≤ 281474976710656 by decide)
  · split
    · exact (show nullT.size ≤ 281474976710656 by decide)
    · split
      · exact (show (boolT (N != 0)).size ≤ 281474976710656 by cases N != 0 <;> decide)
      · split
        · rename_i h
          exact itoa_short N (hN h).1 (hN h).2
        · omega
theorem both_eq (A : World) (k n k' n' K N K' N' : Int) (t t' T T' : ByteArray) (HA : Ret 20 #[.agg (Vc k n t)] (.agg (Vc K N T))) (HB : Ret 20 #[.agg (Vc k' n' t')] (.agg (Vc K' N' T'))) (JA : Ret 26 #[.agg (Vc k n t)] (.agg (Vc K N T))) (JB : Ret 26 #[.agg (Vc k' n' t')] (.agg (Vc K' N' T'))) : ∃ r : R5, RetA A 12 #[.string ⟨#[61, 61, 61]⟩, .agg (Vc k n t), .agg (Vc k' n' t')] r.tr ∧ Ret 13 #[.string ⟨#[61, 61, 61]⟩, .agg (Vc k n t), .agg (Vc k' n' t')] r.oc :=
  ⟨⟨2, bI (eqV K N T K' N' T'), ByteArray.empty, ⟨#[]⟩, 0⟩, (gen_eq k n k' n' K N K' N' t t' T T' HA HB _ rfl).at A, rb_eq K N K' N' T T' k n k' n' t t' JA JB⟩
theorem both_ne (A : World) (k n k' n' K N K' N' : Int) (t t' T T' : ByteArray) (HA : Ret 20 #[.agg (Vc k n t)] (.agg (Vc K N T))) (HB : Ret 20 #[.agg (Vc k' n' t')] (.agg (Vc K' N' T'))) (JA : Ret 26 #[.agg (Vc k n t)] (.agg (Vc K N T))) (JB : Ret 26 #[.agg (Vc k' n' t')] (.agg (Vc K' N' T'))) : ∃ r : R5, RetA A 12 #[.string ⟨#[33, 61, 61]⟩, .agg (Vc k n t), .agg (Vc k' n' t')] r.tr ∧ Ret 13 #[.string ⟨#[33, 61, 61]⟩, .agg (Vc k n t), .agg (Vc k' n' t')] r.oc :=
  ⟨⟨2, bI (!eqV K N T K' N' T'), ByteArray.empty, ⟨#[]⟩, 0⟩, (gen_ne k n k' n' K N K' N' t t' T T' HA HB _ rfl).at A, rb_ne K N K' N' T T' k n k' n' t t' JA JB⟩
theorem beq_no {x y : Int} (h : ¬ x = y) : (x == y) = false := by simpa using h
theorem bne_yes {x y : Int} (h : ¬ x = y) : (x != y) = true := by simpa using h
theorem both_sub (A : World) (k n k' n' K N K' N' : Int) (t t' T T' : ByteArray) (HA : Ret 20 #[.agg (Vc k n t)] (.agg (Vc K N T))) (HB : Ret 20 #[.agg (Vc k' n' t')] (.agg (Vc K' N' T'))) (JA : Ret 26 #[.agg (Vc k n t)] (.agg (Vc K N T))) (JB : Ret 26 #[.agg (Vc k' n' t')] (.agg (Vc K' N' T'))) (h33 : ¬ (K = 3 ∧ K' = 3)) : ∃ r : R5, RetA A 12 #[.string ⟨#[45]⟩, .agg (Vc k n t), .agg (Vc k' n' t')] r.tr ∧ Ret 13 #[.string ⟨#[45]⟩, .agg (Vc k n t), .agg (Vc k' n' t')] r.oc := by
  refine ⟨⟨0, 0, ByteArray.empty, numT, 1⟩, (gen_sub k n k' n' K N K' N' t t' T T' HA HB ⟨0, 0, ByteArray.empty, numT, 1⟩ (ofNumbers_no K K' N N' T T' _ ?_)).at A, ?_⟩
  · by_cases h : K = 3
    · exact .inr ⟨by rw [h]; rfl, bne_yes fun e => h33 ⟨h, e⟩⟩
    · exact .inl (bne_yes h)
  · have c : (¬ K = 3 ∧ ¬ K = 4) ∨ (K = 3 ∧ ¬ K' = 3) ∨ (K = 4 ∧ K' = 4) ∨ (K = 4 ∧ ¬ K' = 4) := by omega
    rcases c with ⟨a, b⟩ | ⟨rfl, a⟩ | ⟨rfl, rfl⟩ | ⟨rfl, a⟩
    · exact rbt_sub_A K N K' N' T T' k n k' n' t t' JA JB (beq_no a) (beq_no b)
    · exact rbt_sub_B N K' N' T T' k n k' n' t t' JA JB (beq_no a)
    · exact rbt_sub_C N N' T T' k n k' n' t t' JA JB
    · exact rbt_sub_D N K' N' T T' k n k' n' t t' JA JB (beq_no a)
theorem both_mul (A : World) (k n k' n' K N K' N' : Int) (t t' T T' : ByteArray) (HA : Ret 20 #[.agg (Vc k n t)] (.agg (Vc K N T))) (HB : Ret 20 #[.agg (Vc k' n' t')] (.agg (Vc K' N' T'))) (JA : Ret 26 #[.agg (Vc k n t)] (.agg (Vc K N T))) (JB : Ret 26 #[.agg (Vc k' n' t')] (.agg (Vc K' N' T'))) (h33 : ¬ (K = 3 ∧ K' = 3)) : ∃ r : R5, RetA A 12 #[.string ⟨#[42]⟩, .agg (Vc k n t), .agg (Vc k' n' t')] r.tr ∧ Ret 13 #[.string ⟨#[42]⟩, .agg (Vc k n t), .agg (Vc k' n' t')] r.oc := by
  refine ⟨⟨0, 0, ByteArray.empty, numT, 1⟩, (gen_mul k n k' n' K N K' N' t t' T T' HA HB ⟨0, 0, ByteArray.empty, numT, 1⟩ (ofNumbers_no K K' N N' T T' _ ?_)).at A, ?_⟩
  · by_cases h : K = 3
    · exact .inr ⟨by rw [h]; rfl, bne_yes fun e => h33 ⟨h, e⟩⟩
    · exact .inl (bne_yes h)
  · have c : (¬ K = 3 ∧ ¬ K = 4) ∨ (K = 3 ∧ ¬ K' = 3) ∨ (K = 4 ∧ K' = 4) ∨ (K = 4 ∧ ¬ K' = 4) := by omega
    rcases c with ⟨a, b⟩ | ⟨rfl, a⟩ | ⟨rfl, rfl⟩ | ⟨rfl, a⟩
    · exact rbt_mul_A K N K' N' T T' k n k' n' t t' JA JB (beq_no a) (beq_no b)
    · exact rbt_mul_B N K' N' T T' k n k' n' t t' JA JB (beq_no a)
    · exact rbt_mul_C N N' T T' k n k' n' t t' JA JB
    · exact rbt_mul_D N K' N' T T' k n k' n' t t' JA JB (beq_no a)
theorem both_rem (A : World) (k n k' n' K N K' N' : Int) (t t' T T' : ByteArray) (HA : Ret 20 #[.agg (Vc k n t)] (.agg (Vc K N T))) (HB : Ret 20 #[.agg (Vc k' n' t')] (.agg (Vc K' N' T'))) (JA : Ret 26 #[.agg (Vc k n t)] (.agg (Vc K N T))) (JB : Ret 26 #[.agg (Vc k' n' t')] (.agg (Vc K' N' T'))) (h33 : ¬ (K = 3 ∧ K' = 3)) : ∃ r : R5, RetA A 12 #[.string ⟨#[37]⟩, .agg (Vc k n t), .agg (Vc k' n' t')] r.tr ∧ Ret 13 #[.string ⟨#[37]⟩, .agg (Vc k n t), .agg (Vc k' n' t')] r.oc := by
  refine ⟨⟨0, 0, ByteArray.empty, numT, 1⟩, (gen_rem k n k' n' K N K' N' t t' T T' HA HB ⟨0, 0, ByteArray.empty, numT, 1⟩ (ofNumbers_no K K' N N' T T' _ ?_)).at A, ?_⟩
  · by_cases h : K = 3
    · exact .inr ⟨by rw [h]; rfl, bne_yes fun e => h33 ⟨h, e⟩⟩
    · exact .inl (bne_yes h)
  · have c : (¬ K = 3 ∧ ¬ K = 4) ∨ (K = 3 ∧ ¬ K' = 3) ∨ (K = 4 ∧ K' = 4) ∨ (K = 4 ∧ ¬ K' = 4) := by omega
    rcases c with ⟨a, b⟩ | ⟨rfl, a⟩ | ⟨rfl, rfl⟩ | ⟨rfl, a⟩
    · exact rbt_rem_A K N K' N' T T' k n k' n' t t' JA JB (beq_no a) (beq_no b)
    · exact rbt_rem_B N K' N' T T' k n k' n' t t' JA JB (beq_no a)
    · exact rbt_rem_C N N' T T' k n k' n' t t' JA JB
    · exact rbt_rem_D N K' N' T T' k n k' n' t t' JA JB (beq_no a)
theorem both_and (A : World) (k n k' n' K N K' N' : Int) (t t' T T' : ByteArray) (HA : Ret 20 #[.agg (Vc k n t)] (.agg (Vc K N T))) (HB : Ret 20 #[.agg (Vc k' n' t')] (.agg (Vc K' N' T'))) (JA : Ret 26 #[.agg (Vc k n t)] (.agg (Vc K N T))) (JB : Ret 26 #[.agg (Vc k' n' t')] (.agg (Vc K' N' T'))) (h33 : ¬ (K = 3 ∧ K' = 3)) : ∃ r : R5, RetA A 12 #[.string ⟨#[38]⟩, .agg (Vc k n t), .agg (Vc k' n' t')] r.tr ∧ Ret 13 #[.string ⟨#[38]⟩, .agg (Vc k n t), .agg (Vc k' n' t')] r.oc := by
  refine ⟨⟨0, 0, ByteArray.empty, numT, 1⟩, (gen_and k n k' n' K N K' N' t t' T T' HA HB ⟨0, 0, ByteArray.empty, numT, 1⟩ (ofNumbers_no K K' N N' T T' _ ?_)).at A, ?_⟩
  · by_cases h : K = 3
    · exact .inr ⟨by rw [h]; rfl, bne_yes fun e => h33 ⟨h, e⟩⟩
    · exact .inl (bne_yes h)
  · have c : (¬ K = 3 ∧ ¬ K = 4) ∨ (K = 3 ∧ ¬ K' = 3) ∨ (K = 4 ∧ K' = 4) ∨ (K = 4 ∧ ¬ K' = 4) := by omega
    rcases c with ⟨a, b⟩ | ⟨rfl, a⟩ | ⟨rfl, rfl⟩ | ⟨rfl, a⟩
    · exact rbt_and_A K N K' N' T T' k n k' n' t t' JA JB (beq_no a) (beq_no b)
    · exact rbt_and_B N K' N' T T' k n k' n' t t' JA JB (beq_no a)
    · exact rbt_and_C N N' T T' k n k' n' t t' JA JB
    · exact rbt_and_D N K' N' T T' k n k' n' t t' JA JB (beq_no a)
theorem both_or (A : World) (k n k' n' K N K' N' : Int) (t t' T T' : ByteArray) (HA : Ret 20 #[.agg (Vc k n t)] (.agg (Vc K N T))) (HB : Ret 20 #[.agg (Vc k' n' t')] (.agg (Vc K' N' T'))) (JA : Ret 26 #[.agg (Vc k n t)] (.agg (Vc K N T))) (JB : Ret 26 #[.agg (Vc k' n' t')] (.agg (Vc K' N' T'))) (h33 : ¬ (K = 3 ∧ K' = 3)) : ∃ r : R5, RetA A 12 #[.string ⟨#[124]⟩, .agg (Vc k n t), .agg (Vc k' n' t')] r.tr ∧ Ret 13 #[.string ⟨#[124]⟩, .agg (Vc k n t), .agg (Vc k' n' t')] r.oc := by
  refine ⟨⟨0, 0, ByteArray.empty, numT, 1⟩, (gen_or k n k' n' K N K' N' t t' T T' HA HB ⟨0, 0, ByteArray.empty, numT, 1⟩ (ofNumbers_no K K' N N' T T' _ ?_)).at A, ?_⟩
  · by_cases h : K = 3
    · exact .inr ⟨by rw [h]; rfl, bne_yes fun e => h33 ⟨h, e⟩⟩
    · exact .inl (bne_yes h)
  · have c : (¬ K = 3 ∧ ¬ K = 4) ∨ (K = 3 ∧ ¬ K' = 3) ∨ (K = 4 ∧ K' = 4) ∨ (K = 4 ∧ ¬ K' = 4) := by omega
    rcases c with ⟨a, b⟩ | ⟨rfl, a⟩ | ⟨rfl, rfl⟩ | ⟨rfl, a⟩
    · exact rbt_or_A K N K' N' T T' k n k' n' t t' JA JB (beq_no a) (beq_no b)
    · exact rbt_or_B N K' N' T T' k n k' n' t t' JA JB (beq_no a)
    · exact rbt_or_C N N' T T' k n k' n' t t' JA JB
    · exact rbt_or_D N K' N' T T' k n k' n' t t' JA JB (beq_no a)
theorem both_xor (A : World) (k n k' n' K N K' N' : Int) (t t' T T' : ByteArray) (HA : Ret 20 #[.agg (Vc k n t)] (.agg (Vc K N T))) (HB : Ret 20 #[.agg (Vc k' n' t')] (.agg (Vc K' N' T'))) (JA : Ret 26 #[.agg (Vc k n t)] (.agg (Vc K N T))) (JB : Ret 26 #[.agg (Vc k' n' t')] (.agg (Vc K' N' T'))) (h33 : ¬ (K = 3 ∧ K' = 3)) : ∃ r : R5, RetA A 12 #[.string ⟨#[94]⟩, .agg (Vc k n t), .agg (Vc k' n' t')] r.tr ∧ Ret 13 #[.string ⟨#[94]⟩, .agg (Vc k n t), .agg (Vc k' n' t')] r.oc := by
  refine ⟨⟨0, 0, ByteArray.empty, numT, 1⟩, (gen_xor k n k' n' K N K' N' t t' T T' HA HB ⟨0, 0, ByteArray.empty, numT, 1⟩ (ofNumbers_no K K' N N' T T' _ ?_)).at A, ?_⟩
  · by_cases h : K = 3
    · exact .inr ⟨by rw [h]; rfl, bne_yes fun e => h33 ⟨h, e⟩⟩
    · exact .inl (bne_yes h)
  · have c : (¬ K = 3 ∧ ¬ K = 4) ∨ (K = 3 ∧ ¬ K' = 3) ∨ (K = 4 ∧ K' = 4) ∨ (K = 4 ∧ ¬ K' = 4) := by omega
    rcases c with ⟨a, b⟩ | ⟨rfl, a⟩ | ⟨rfl, rfl⟩ | ⟨rfl, a⟩
    · exact rbt_xor_A K N K' N' T T' k n k' n' t t' JA JB (beq_no a) (beq_no b)
    · exact rbt_xor_B N K' N' T T' k n k' n' t t' JA JB (beq_no a)
    · exact rbt_xor_C N N' T T' k n k' n' t t' JA JB
    · exact rbt_xor_D N K' N' T T' k n k' n' t t' JA JB (beq_no a)
theorem both_shl (A : World) (k n k' n' K N K' N' : Int) (t t' T T' : ByteArray) (HA : Ret 20 #[.agg (Vc k n t)] (.agg (Vc K N T))) (HB : Ret 20 #[.agg (Vc k' n' t')] (.agg (Vc K' N' T'))) (JA : Ret 26 #[.agg (Vc k n t)] (.agg (Vc K N T))) (JB : Ret 26 #[.agg (Vc k' n' t')] (.agg (Vc K' N' T'))) (h33 : ¬ (K = 3 ∧ K' = 3)) : ∃ r : R5, RetA A 12 #[.string ⟨#[60, 60]⟩, .agg (Vc k n t), .agg (Vc k' n' t')] r.tr ∧ Ret 13 #[.string ⟨#[60, 60]⟩, .agg (Vc k n t), .agg (Vc k' n' t')] r.oc := by
  refine ⟨⟨0, 0, ByteArray.empty, numT, 1⟩, (gen_shl k n k' n' K N K' N' t t' T T' HA HB ⟨0, 0, ByteArray.empty, numT, 1⟩ (ofNumbers_no K K' N N' T T' _ ?_)).at A, ?_⟩
  · by_cases h : K = 3
    · exact .inr ⟨by rw [h]; rfl, bne_yes fun e => h33 ⟨h, e⟩⟩
    · exact .inl (bne_yes h)
  · have c : (¬ K = 3 ∧ ¬ K = 4) ∨ (K = 3 ∧ ¬ K' = 3) ∨ (K = 4 ∧ K' = 4) ∨ (K = 4 ∧ ¬ K' = 4) := by omega
    rcases c with ⟨a, b⟩ | ⟨rfl, a⟩ | ⟨rfl, rfl⟩ | ⟨rfl, a⟩
    · exact rbt_shl_A K N K' N' T T' k n k' n' t t' JA JB (beq_no a) (beq_no b)
    · exact rbt_shl_B N K' N' T T' k n k' n' t t' JA JB (beq_no a)
    · exact rbt_shl_C N N' T T' k n k' n' t t' JA JB
    · exact rbt_shl_D N K' N' T T' k n k' n' t t' JA JB (beq_no a)
theorem both_shr (A : World) (k n k' n' K N K' N' : Int) (t t' T T' : ByteArray) (HA : Ret 20 #[.agg (Vc k n t)] (.agg (Vc K N T))) (HB : Ret 20 #[.agg (Vc k' n' t')] (.agg (Vc K' N' T'))) (JA : Ret 26 #[.agg (Vc k n t)] (.agg (Vc K N T))) (JB : Ret 26 #[.agg (Vc k' n' t')] (.agg (Vc K' N' T'))) (h33 : ¬ (K = 3 ∧ K' = 3)) : ∃ r : R5, RetA A 12 #[.string ⟨#[62, 62]⟩, .agg (Vc k n t), .agg (Vc k' n' t')] r.tr ∧ Ret 13 #[.string ⟨#[62, 62]⟩, .agg (Vc k n t), .agg (Vc k' n' t')] r.oc := by
  refine ⟨⟨0, 0, ByteArray.empty, numT, 1⟩, (gen_shr k n k' n' K N K' N' t t' T T' HA HB ⟨0, 0, ByteArray.empty, numT, 1⟩ (ofNumbers_no K K' N N' T T' _ ?_)).at A, ?_⟩
  · by_cases h : K = 3
    · exact .inr ⟨by rw [h]; rfl, bne_yes fun e => h33 ⟨h, e⟩⟩
    · exact .inl (bne_yes h)
  · have c : (¬ K = 3 ∧ ¬ K = 4) ∨ (K = 3 ∧ ¬ K' = 3) ∨ (K = 4 ∧ K' = 4) ∨ (K = 4 ∧ ¬ K' = 4) := by omega
    rcases c with ⟨a, b⟩ | ⟨rfl, a⟩ | ⟨rfl, rfl⟩ | ⟨rfl, a⟩
    · exact rbt_shr_A K N K' N' T T' k n k' n' t t' JA JB (beq_no a) (beq_no b)
    · exact rbt_shr_B N K' N' T T' k n k' n' t t' JA JB (beq_no a)
    · exact rbt_shr_C N N' T T' k n k' n' t t' JA JB
    · exact rbt_shr_D N K' N' T T' k n k' n' t t' JA JB (beq_no a)
theorem both_shn (A : World) (k n k' n' K N K' N' : Int) (t t' T T' : ByteArray) (HA : Ret 20 #[.agg (Vc k n t)] (.agg (Vc K N T))) (HB : Ret 20 #[.agg (Vc k' n' t')] (.agg (Vc K' N' T'))) (JA : Ret 26 #[.agg (Vc k n t)] (.agg (Vc K N T))) (JB : Ret 26 #[.agg (Vc k' n' t')] (.agg (Vc K' N' T'))) (h33 : ¬ (K = 3 ∧ K' = 3)) : ∃ r : R5, RetA A 12 #[.string ⟨#[62, 62, 62]⟩, .agg (Vc k n t), .agg (Vc k' n' t')] r.tr ∧ Ret 13 #[.string ⟨#[62, 62, 62]⟩, .agg (Vc k n t), .agg (Vc k' n' t')] r.oc := by
  refine ⟨⟨0, 0, ByteArray.empty, numT, 1⟩, (gen_shn k n k' n' K N K' N' t t' T T' HA HB ⟨0, 0, ByteArray.empty, numT, 1⟩ (ofNumbers_no K K' N N' T T' _ ?_)).at A, ?_⟩
  · by_cases h : K = 3
    · exact .inr ⟨by rw [h]; rfl, bne_yes fun e => h33 ⟨h, e⟩⟩
    · exact .inl (bne_yes h)
  · have c : (¬ K = 3 ∧ ¬ K = 4) ∨ (K = 3 ∧ ¬ K' = 3) ∨ (K = 4 ∧ K' = 4) ∨ (K = 4 ∧ ¬ K' = 4) := by omega
    rcases c with ⟨a, b⟩ | ⟨rfl, a⟩ | ⟨rfl, rfl⟩ | ⟨rfl, a⟩
    · exact rbt_shn_A K N K' N' T T' k n k' n' t t' JA JB (beq_no a) (beq_no b)
    · exact rbt_shn_B N K' N' T T' k n k' n' t t' JA JB (beq_no a)
    · exact rbt_shn_C N N' T T' k n k' n' t t' JA JB
    · exact rbt_shn_D N K' N' T T' k n k' n' t t' JA JB (beq_no a)
theorem both_lt (A : World) (k n k' n' K N K' N' : Int) (t t' T T' : ByteArray) (HA : Ret 20 #[.agg (Vc k n t)] (.agg (Vc K N T))) (HB : Ret 20 #[.agg (Vc k' n' t')] (.agg (Vc K' N' T'))) (JA : Ret 26 #[.agg (Vc k n t)] (.agg (Vc K N T))) (JB : Ret 26 #[.agg (Vc k' n' t')] (.agg (Vc K' N' T'))) (hz : T.size ≤ 1048576) (hz' : T'.size ≤ 1048576) (h33 : ¬ (K = 3 ∧ K' = 3)) : ∃ r : R5, RetA A 12 #[.string ⟨#[60]⟩, .agg (Vc k n t), .agg (Vc k' n' t')] r.tr ∧ Ret 13 #[.string ⟨#[60]⟩, .agg (Vc k n t), .agg (Vc k' n' t')] r.oc := by
  by_cases h44 : K = 4 ∧ K' = 4
  · obtain ⟨rfl, rfl⟩ := h44
    have HC := compared_any T T' (by omega) (by omega)
    obtain ⟨d, hd, HL⟩ := less_any T T' hz hz'
    obtain ⟨o, ho⟩ : ∃ o, cmpF T T' (T.size + 1) 0 0 = o := ⟨_, rfl⟩
    rw [ho] at HC hd
    have HD := ord_lt d
    rw [(sign_lt hd).1] at HD
    exact ⟨⟨2, bI (decide (o < 0)), ByteArray.empty, ⟨#[]⟩, 0⟩, (gen_lt k n k' n' 4 N 4 N' t t' T T' HA HB ⟨2, bI (decide (o < 0)), ByteArray.empty, ⟨#[]⟩, 0⟩ (ordered_txt 44 enter44 N N' o _ T T' HC (ask44 o))).at A, rbt_lt_C N N' T T' d _ k n k' n' t t' JA JB HL HD⟩
  · refine ⟨⟨0, 0, ByteArray.empty, ordT, 1⟩, (gen_lt k n k' n' K N K' N' t t' T T' HA HB ⟨0, 0, ByteArray.empty, ordT, 1⟩ (ordered_no K K' N N' T T' _ ?_ ?_)).at A, ?_⟩
    · by_cases h : K = 3
      · exact .inr ⟨by rw [h]; rfl, beq_no fun e => h33 ⟨h, e⟩⟩
      · exact .inl (beq_no h)
    · by_cases h : K = 4
      · exact .inr ⟨by rw [h]; rfl, beq_no fun e => h44 ⟨h, e⟩⟩
      · exact .inl (beq_no h)
    · have c : (¬ K = 3 ∧ ¬ K = 4) ∨ (K = 3 ∧ ¬ K' = 3) ∨ (K = 4 ∧ ¬ K' = 4) := by omega
      rcases c with ⟨a, b⟩ | ⟨rfl, a⟩ | ⟨rfl, a⟩
      · exact rbt_lt_A K N K' N' T T' k n k' n' t t' JA JB (beq_no a) (beq_no b)
      · exact rbt_lt_B N K' N' T T' k n k' n' t t' JA JB (beq_no a)
      · exact rbt_lt_D N K' N' T T' k n k' n' t t' JA JB (beq_no a)
theorem both_le (A : World) (k n k' n' K N K' N' : Int) (t t' T T' : ByteArray) (HA : Ret 20 #[.agg (Vc k n t)] (.agg (Vc K N T))) (HB : Ret 20 #[.agg (Vc k' n' t')] (.agg (Vc K' N' T'))) (JA : Ret 26 #[.agg (Vc k n t)] (.agg (Vc K N T))) (JB : Ret 26 #[.agg (Vc k' n' t')] (.agg (Vc K' N' T'))) (hz : T.size ≤ 1048576) (hz' : T'.size ≤ 1048576) (h33 : ¬ (K = 3 ∧ K' = 3)) : ∃ r : R5, RetA A 12 #[.string ⟨#[60, 61]⟩, .agg (Vc k n t), .agg (Vc k' n' t')] r.tr ∧ Ret 13 #[.string ⟨#[60, 61]⟩, .agg (Vc k n t), .agg (Vc k' n' t')] r.oc := by
  by_cases h44 : K = 4 ∧ K' = 4
  · obtain ⟨rfl, rfl⟩ := h44
    have HC := compared_any T T' (by omega) (by omega)
    obtain ⟨d, hd, HL⟩ := less_any T T' hz hz'
    obtain ⟨o, ho⟩ : ∃ o, cmpF T T' (T.size + 1) 0 0 = o := ⟨_, rfl⟩
    rw [ho] at HC hd
    have HD := ord_le d
    rw [(sign_lt hd).2.1] at HD
    exact ⟨⟨2, bI (decide (o ≤ 0)), ByteArray.empty, ⟨#[]⟩, 0⟩, (gen_le k n k' n' 4 N 4 N' t t' T T' HA HB ⟨2, bI (decide (o ≤ 0)), ByteArray.empty, ⟨#[]⟩, 0⟩ (ordered_txt 45 enter45 N N' o _ T T' HC (ask45 o))).at A, rbt_le_C N N' T T' d _ k n k' n' t t' JA JB HL HD⟩
  · refine ⟨⟨0, 0, ByteArray.empty, ordT, 1⟩, (gen_le k n k' n' K N K' N' t t' T T' HA HB ⟨0, 0, ByteArray.empty, ordT, 1⟩ (ordered_no K K' N N' T T' _ ?_ ?_)).at A, ?_⟩
    · by_cases h : K = 3
      · exact .inr ⟨by rw [h]; rfl, beq_no fun e => h33 ⟨h, e⟩⟩
      · exact .inl (beq_no h)
    · by_cases h : K = 4
      · exact .inr ⟨by rw [h]; rfl, beq_no fun e => h44 ⟨h, e⟩⟩
      · exact .inl (beq_no h)
    · have c : (¬ K = 3 ∧ ¬ K = 4) ∨ (K = 3 ∧ ¬ K' = 3) ∨ (K = 4 ∧ ¬ K' = 4) := by omega
      rcases c with ⟨a, b⟩ | ⟨rfl, a⟩ | ⟨rfl, a⟩
      · exact rbt_le_A K N K' N' T T' k n k' n' t t' JA JB (beq_no a) (beq_no b)
      · exact rbt_le_B N K' N' T T' k n k' n' t t' JA JB (beq_no a)
      · exact rbt_le_D N K' N' T T' k n k' n' t t' JA JB (beq_no a)
theorem both_gt (A : World) (k n k' n' K N K' N' : Int) (t t' T T' : ByteArray) (HA : Ret 20 #[.agg (Vc k n t)] (.agg (Vc K N T))) (HB : Ret 20 #[.agg (Vc k' n' t')] (.agg (Vc K' N' T'))) (JA : Ret 26 #[.agg (Vc k n t)] (.agg (Vc K N T))) (JB : Ret 26 #[.agg (Vc k' n' t')] (.agg (Vc K' N' T'))) (hz : T.size ≤ 1048576) (hz' : T'.size ≤ 1048576) (h33 : ¬ (K = 3 ∧ K' = 3)) : ∃ r : R5, RetA A 12 #[.string ⟨#[62]⟩, .agg (Vc k n t), .agg (Vc k' n' t')] r.tr ∧ Ret 13 #[.string ⟨#[62]⟩, .agg (Vc k n t), .agg (Vc k' n' t')] r.oc := by
  by_cases h44 : K = 4 ∧ K' = 4
  · obtain ⟨rfl, rfl⟩ := h44
    have HC := compared_any T T' (by omega) (by omega)
    obtain ⟨d, hd, HL⟩ := less_any T T' hz hz'
    obtain ⟨o, ho⟩ : ∃ o, cmpF T T' (T.size + 1) 0 0 = o := ⟨_, rfl⟩
    rw [ho] at HC hd
    have HD := ord_gt d
    rw [(sign_lt hd).2.2.1] at HD
    exact ⟨⟨2, bI (decide (0 < o)), ByteArray.empty, ⟨#[]⟩, 0⟩, (gen_gt k n k' n' 4 N 4 N' t t' T T' HA HB ⟨2, bI (decide (0 < o)), ByteArray.empty, ⟨#[]⟩, 0⟩ (ordered_txt 46 enter46 N N' o _ T T' HC (ask46 o))).at A, rbt_gt_C N N' T T' d _ k n k' n' t t' JA JB HL HD⟩
  · refine ⟨⟨0, 0, ByteArray.empty, ordT, 1⟩, (gen_gt k n k' n' K N K' N' t t' T T' HA HB ⟨0, 0, ByteArray.empty, ordT, 1⟩ (ordered_no K K' N N' T T' _ ?_ ?_)).at A, ?_⟩
    · by_cases h : K = 3
      · exact .inr ⟨by rw [h]; rfl, beq_no fun e => h33 ⟨h, e⟩⟩
      · exact .inl (beq_no h)
    · by_cases h : K = 4
      · exact .inr ⟨by rw [h]; rfl, beq_no fun e => h44 ⟨h, e⟩⟩
      · exact .inl (beq_no h)
    · have c : (¬ K = 3 ∧ ¬ K = 4) ∨ (K = 3 ∧ ¬ K' = 3) ∨ (K = 4 ∧ ¬ K' = 4) := by omega
      rcases c with ⟨a, b⟩ | ⟨rfl, a⟩ | ⟨rfl, a⟩
      · exact rbt_gt_A K N K' N' T T' k n k' n' t t' JA JB (beq_no a) (beq_no b)
      · exact rbt_gt_B N K' N' T T' k n k' n' t t' JA JB (beq_no a)
      · exact rbt_gt_D N K' N' T T' k n k' n' t t' JA JB (beq_no a)
theorem both_ge (A : World) (k n k' n' K N K' N' : Int) (t t' T T' : ByteArray) (HA : Ret 20 #[.agg (Vc k n t)] (.agg (Vc K N T))) (HB : Ret 20 #[.agg (Vc k' n' t')] (.agg (Vc K' N' T'))) (JA : Ret 26 #[.agg (Vc k n t)] (.agg (Vc K N T))) (JB : Ret 26 #[.agg (Vc k' n' t')] (.agg (Vc K' N' T'))) (hz : T.size ≤ 1048576) (hz' : T'.size ≤ 1048576) (h33 : ¬ (K = 3 ∧ K' = 3)) : ∃ r : R5, RetA A 12 #[.string ⟨#[62, 61]⟩, .agg (Vc k n t), .agg (Vc k' n' t')] r.tr ∧ Ret 13 #[.string ⟨#[62, 61]⟩, .agg (Vc k n t), .agg (Vc k' n' t')] r.oc := by
  by_cases h44 : K = 4 ∧ K' = 4
  · obtain ⟨rfl, rfl⟩ := h44
    have HC := compared_any T T' (by omega) (by omega)
    obtain ⟨d, hd, HL⟩ := less_any T T' hz hz'
    obtain ⟨o, ho⟩ : ∃ o, cmpF T T' (T.size + 1) 0 0 = o := ⟨_, rfl⟩
    rw [ho] at HC hd
    have HD := ord_ge d
    rw [(sign_lt hd).2.2.2] at HD
    exact ⟨⟨2, bI (decide (0 ≤ o)), ByteArray.empty, ⟨#[]⟩, 0⟩, (gen_ge k n k' n' 4 N 4 N' t t' T T' HA HB ⟨2, bI (decide (0 ≤ o)), ByteArray.empty, ⟨#[]⟩, 0⟩ (ordered_txt 47 enter47 N N' o _ T T' HC (ask47 o))).at A, rbt_ge_C N N' T T' d _ k n k' n' t t' JA JB HL HD⟩
  · refine ⟨⟨0, 0, ByteArray.empty, ordT, 1⟩, (gen_ge k n k' n' K N K' N' t t' T T' HA HB ⟨0, 0, ByteArray.empty, ordT, 1⟩ (ordered_no K K' N N' T T' _ ?_ ?_)).at A, ?_⟩
    · by_cases h : K = 3
      · exact .inr ⟨by rw [h]; rfl, beq_no fun e => h33 ⟨h, e⟩⟩
      · exact .inl (beq_no h)
    · by_cases h : K = 4
      · exact .inr ⟨by rw [h]; rfl, beq_no fun e => h44 ⟨h, e⟩⟩
      · exact .inl (beq_no h)
    · have c : (¬ K = 3 ∧ ¬ K = 4) ∨ (K = 3 ∧ ¬ K' = 3) ∨ (K = 4 ∧ ¬ K' = 4) := by omega
      rcases c with ⟨a, b⟩ | ⟨rfl, a⟩ | ⟨rfl, a⟩
      · exact rbt_ge_A K N K' N' T T' k n k' n' t t' JA JB (beq_no a) (beq_no b)
      · exact rbt_ge_B N K' N' T T' k n k' n' t t' JA JB (beq_no a)
      · exact rbt_ge_D N K' N' T T' k n k' n' t t' JA JB (beq_no a)
theorem both_add (A : World) (k n k' n' K N K' N' : Int) (t t' T T' : ByteArray) (HA : Ret 20 #[.agg (Vc k n t)] (.agg (Vc K N T))) (HB : Ret 20 #[.agg (Vc k' n' t')] (.agg (Vc K' N' T'))) (JA : Ret 26 #[.agg (Vc k n t)] (.agg (Vc K N T))) (JB : Ret 26 #[.agg (Vc k' n' t')] (.agg (Vc K' N' T'))) (hK : 0 ≤ K ∧ K ≤ 5) (hK' : 0 ≤ K' ∧ K' ≤ 5) (hN : K = 3 → -9007199254740991 ≤ N ∧ N ≤ 9007199254740991) (hN' : K' = 3 → -9007199254740991 ≤ N' ∧ N' ≤ 9007199254740991) (hT : Lib.TabIs Tryd.prog A "internal/strconv.uint64pow10" .u64 Lib.pow10Tab) (hz : T.size ≤ 1048576) (hz' : T'.size ≤ 1048576)
    (RT : Ret 17 #[.agg (Vc K N T)] (.string (textP K N T))) (RT' : Ret 17 #[.agg (Vc K' N' T')] (.string (textP K' N' T'))) (h33 : ¬ (K = 3 ∧ K' = 3)) : ∃ r : R5, RetA A 12 #[.string ⟨#[43]⟩, .agg (Vc k n t), .agg (Vc k' n' t')] r.tr ∧ Ret 13 #[.string ⟨#[43]⟩, .agg (Vc k n t), .agg (Vc k' n' t')] r.oc := by
  by_cases hx : (K = 4 ∨ K' = 4) ∧ ¬ K = 5 ∧ ¬ K' = 5
  · have SA := said_any A K N T hK hN hT
    have SB := said_any A K' N' T' hK' hN' hT
    have za := textP_small K N T hN hz
    have zb := textP_small K' N' T' hN' hz'
    obtain ⟨sa, ea⟩ : ∃ s, textP K N T = s := ⟨_, rfl⟩
    obtain ⟨sb, eb⟩ : ∃ s, textP K' N' T' = s := ⟨_, rfl⟩
    rw [ea] at SA za RT
    rw [eb] at SB zb RT'
    clear ea eb
    have hk : (K = 4 ∧ (K' = 0 ∨ K' = 1 ∨ K' = 2 ∨ K' = 3 ∨ K' = 4)) ∨ (K' = 4 ∧ (K = 0 ∨ K = 1 ∨ K = 2 ∨ K = 3)) := by omega
    have c : (K = 4 ∧ K' = 4) ∨ (K = 4 ∧ ¬ K' = 4 ∧ ¬ K' = 5) ∨ (¬ K = 3 ∧ ¬ K = 4 ∧ ¬ K = 5 ∧ K' = 4) ∨ (K = 3 ∧ K' = 4) := by omega
    have hs : (sa ++ sb).size = sa.size + sb.size := ByteArray.size_append
    obtain ⟨sj, ej⟩ : ∃ s, sa ++ sb = s := ⟨_, rfl⟩
    rw [ej] at hs
    by_cases hbig : 65536 < sa.size + sb.size
    · refine ⟨⟨0, 0, ByteArray.empty, ⟨#[]⟩, 3⟩, bin_plus A _ rfl k n k' n' K N K' N' t t' T T' HA HB ⟨0, 0, ByteArray.empty, ⟨#[]⟩, 3⟩ (plus_jn A K N K' N' T T' sa sb ⟨0, 0, ByteArray.empty, ⟨#[]⟩, 3⟩ hk SA SB (joined_big sa sb hbig za zb)), ?_⟩
      have hm : sa.size + sb.size ≤ 9223372036854775807 := by omega
      have gk : (sj.size : Int) ≤ 9223372036854775807 := by omega
      have gj : (65536 : Int) < (sj.size : Int) := by omega
      rcases c with ⟨rfl, rfl⟩ | ⟨rfl, a, b⟩ | ⟨a, b, d, rfl⟩ | ⟨rfl, rfl⟩
      · exact rbt_add_T1_big N N' T T' sa sb sj k n k' n' t t' JA JB RT RT' ej hm gk gj
      · exact rbt_add_T2_big N K' N' T T' sa sb sj k n k' n' t t' JA JB (beq_no a) (bne_yes b) RT RT' ej hm gk gj
      · exact rbt_add_T3_big K N N' T T' sa sb sj k n k' n' t t' JA JB (beq_no a) (beq_no b) (bne_yes d) RT RT' ej hm gk gj
      · exact rbt_add_T4_big N N' T T' sa sb sj k n k' n' t t' JA JB RT RT' ej hm gk gj
    · have HJ : Ret 61 #[.string sa, .string sb] (⟨4, 0, sj, ⟨#[]⟩, 0⟩ : R5).tr := by rw [← ej]; exact joined_any sa sb (by omega)
      refine ⟨⟨4, 0, sj, ⟨#[]⟩, 0⟩, bin_plus A _ rfl k n k' n' K N K' N' t t' T T' HA HB _ (plus_jn A K N K' N' T T' sa sb _ hk SA SB HJ), ?_⟩
      have hm : sa.size + sb.size ≤ 9223372036854775807 := by omega
      have gk : (sj.size : Int) ≤ 9223372036854775807 := by omega
      have gj : ¬ (65536 : Int) < (sj.size : Int) := by omega
      rcases c with ⟨rfl, rfl⟩ | ⟨rfl, a, b⟩ | ⟨a, b, d, rfl⟩ | ⟨rfl, rfl⟩
      · exact rbt_add_T1 N N' T T' sa sb sj k n k' n' t t' JA JB RT RT' ej hm gk gj
      · exact rbt_add_T2 N K' N' T T' sa sb sj k n k' n' t t' JA JB (beq_no a) (bne_yes b) RT RT' ej hm gk gj
      · exact rbt_add_T3 K N N' T T' sa sb sj k n k' n' t t' JA JB (beq_no a) (beq_no b) (bne_yes d) RT RT' ej hm gk gj
      · exact rbt_add_T4 N N' T T' sa sb sj k n k' n' t t' JA JB RT RT' ej hm gk gj
  · refine ⟨⟨0, 0, ByteArray.empty, plusT, 1⟩, (gen_add k n k' n' K N K' N' t t' T T' HA HB ⟨0, 0, ByteArray.empty, plusT, 1⟩ (plus_no K N K' N' T T' ?_ ?_)).at A, ?_⟩
    · by_cases h : K = 3
      · exact .inr ⟨by rw [h]; rfl, beq_no fun e => h33 ⟨h, e⟩⟩
      · exact .inl (beq_no h)
    · by_cases h : K = 5
      · exact .inl (by rw [h]; rfl)
      · by_cases h' : K' = 5
        · exact .inr (.inl ⟨beq_no h, by rw [h']; rfl⟩)
        · exact .inr (.inr ⟨beq_no h, beq_no h', bne_yes (by omega), bne_yes (by omega)⟩)
    · have c : (¬ K = 3 ∧ ¬ K = 4 ∧ ¬ K' = 4) ∨ (K = 5 ∧ K' = 4) ∨ (K = 3 ∧ ¬ K' = 3 ∧ ¬ K' = 4) ∨ (K = 4 ∧ K' = 5) := by omega
      rcases c with ⟨a, b, d⟩ | ⟨rfl, rfl⟩ | ⟨rfl, a, b⟩ | ⟨rfl, rfl⟩
      · exact rbt_add_A1 K N K' N' T T' k n k' n' t t' JA JB (beq_no a) (beq_no b) (beq_no d)
      · exact rbt_add_A2 N N' T T' k n k' n' t t' JA JB
      · exact rbt_add_B1 N K' N' T T' k n k' n' t t' JA JB (beq_no a) (beq_no b)
      · exact rbt_add_D1 N N' T T' k n k' n' t t' JA JB
theorem both_none (A : World) (k n k' n' K N K' N' : Int) (t t' T T' : ByteArray) (HA : Ret 20 #[.agg (Vc k n t)] (.agg (Vc K N T))) (HB : Ret 20 #[.agg (Vc k' n' t')] (.agg (Vc K' N' T'))) (JA : Ret 26 #[.agg (Vc k n t)] (.agg (Vc K N T))) (JB : Ret 26 #[.agg (Vc k' n' t')] (.agg (Vc K' N' T'))) (op : ByteArray) (o0 : op ≠ ⟨#[61, 61, 61]⟩) (o1 : op ≠ ⟨#[33, 61, 61]⟩) (o2 : op ≠ ⟨#[43]⟩) (o3 : op ≠ ⟨#[45]⟩) (o4 : op ≠ ⟨#[42]⟩) (o5 : op ≠ ⟨#[37]⟩) (o6 : op ≠ ⟨#[38]⟩) (o7 : op ≠ ⟨#[124]⟩) (o8 : op ≠ ⟨#[94]⟩) (o9 : op ≠ ⟨#[60, 60]⟩) (o10 : op ≠ ⟨#[62, 62]⟩) (o11 : op ≠ ⟨#[62, 62, 62]⟩) (o12 : op ≠ ⟨#[60]⟩) (o13 : op ≠ ⟨#[60, 61]⟩) (o14 : op ≠ ⟨#[62]⟩) (o15 : op ≠ ⟨#[62, 61]⟩) : ∃ r : R5, RetA A 12 #[.string op, .agg (Vc k n t), .agg (Vc k' n' t')] r.tr ∧ Ret 13 #[.string op, .agg (Vc k n t), .agg (Vc k' n' t')] r.oc := by
  refine ⟨⟨0, 0, ByteArray.empty, ⟨#[]⟩, 0⟩, (gen_none k n k' n' K N K' N' t t' T T' HA HB op o0 o1 o2 o3 o4 o5 o6 o7 o8 o9 o10 o11 o12 o13 o14 o15).at A, ?_⟩
  have c : (¬ K = 3 ∧ ¬ K = 4) ∨ (K = 3 ∧ ¬ K' = 3) ∨ (K = 4 ∧ K' = 4) ∨ (K = 4 ∧ ¬ K' = 4) ∨ (K = 3 ∧ K' = 3) := by omega
  rcases c with ⟨a, b⟩ | ⟨rfl, a⟩ | ⟨rfl, rfl⟩ | ⟨rfl, a⟩ | ⟨rfl, rfl⟩
  · exact rbt_none_A K N K' N' T T' op k n k' n' t t' JA JB (beq_no a) (beq_no b) o0 o1 o2 o3 o4 o5 o6 o7 o8 o9 o10 o11 o12 o13 o14 o15
  · exact rbt_none_B N K' N' T T' op k n k' n' t t' JA JB (beq_no a) o0 o1 o2 o3 o4 o5 o6 o7 o8 o9 o10 o11 o12 o13 o14 o15
  · exact rbt_none_C N N' T T' op k n k' n' t t' JA JB o0 o1 o2 o3 o4 o5 o6 o7 o8 o9 o10 o11 o12 o13 o14 o15
  · exact rbt_none_D N K' N' T T' op k n k' n' t t' JA JB (beq_no a) o0 o1 o2 o3 o4 o5 o6 o7 o8 o9 o10 o11 o12 o13 o14 o15
  · exact rbt_none_E N N' T T' op k n k' n' t t' JA JB o0 o1 o2 o3 o4 o5 o6 o7 o8 o9 o10 o11 o12 o13 o14 o15
theorem stl_3 {k : Int} (h : stlK k = 3) : k = 3 := by unfold stlK at h; split at h <;> omega
theorem stlT_le (k : Int) (t : ByteArray) (h : t.size ≤ 1048576) : (stlT k t).size ≤ 1048576 := by
  unfold stlT
  split
  · exact h
  · exact Nat.zero_le _
theorem rText_settled (k n : Int) (t : ByteArray) : Ret 17 #[.agg (Vc (stlK k) (stlN k n) (stlT k t))] (.string (textP (stlK k) (stlN k n) (stlT k t))) := by
  have := rText_any (stlK k) (stlN k n) (stlT k t)
  rw [stlK_id, stlN_id, stlT_id] at this
  exact this
theorem both_any (A : World) (hT : Lib.TabIs Tryd.prog A "internal/strconv.uint64pow10" .u64 Lib.pow10Tab) (op : ByteArray) (k n k' n' : Int) (t t' : ByteArray) (hz : t.size ≤ 1048576) (hz' : t'.size ≤ 1048576) : ∃ r : R5, RetA A 12 #[.string op, .agg (Vc k n t), .agg (Vc k' n' t')] r.tr ∧ Ret 13 #[.string op, .agg (Vc k n t), .agg (Vc k' n' t')] r.oc := by
  have HA : Ret 20 #[.agg (Vc k n t)] (.agg (Vc (stlK k) (stlN k n) (stlT k t))) := settled_any k n t
  have HB : Ret 20 #[.agg (Vc k' n' t')] (.agg (Vc (stlK k') (stlN k' n') (stlT k' t'))) := settled_any k' n' t'
  have JA : Ret 26 #[.agg (Vc k n t)] (.agg (Vc (stlK k) (stlN k n) (stlT k t))) := rSane_any k n t
  have JB : Ret 26 #[.agg (Vc k' n' t')] (.agg (Vc (stlK k') (stlN k' n') (stlT k' t'))) := rSane_any k' n' t'
  have RT := rText_settled k n t
  have RT' := rText_settled k' n' t'
  have hK := stlK_in k
  have hK' := stlK_in k'
  have hN := fun h : stlK k = 3 => stl_num h n
  have hN' := fun h : stlK k' = 3 => stl_num h n'
  have h3 := @stl_3 k
  have h3' := @stl_3 k'
  have z := stlT_le k t hz
  have z' := stlT_le k' t' hz'
  generalize stlK k = K at *
  generalize stlN k n = N at *
  generalize stlT k t = T at *
  generalize stlK k' = K' at *
  generalize stlN k' n' = N' at *
  generalize stlT k' t' = T' at *
  by_cases h33 : K = 3 ∧ K' = 3
  · obtain rfl := h3 h33.1
    obtain rfl := h3' h33.2
    have HP := Binary_num op n n' t t'
    have HR := rBin_num n n' t t'
    by_cases q0 : op = ⟨#[43]⟩
    · subst q0; exact ⟨_, HP.at A, HR 0 (by decide)⟩
    by_cases q1 : op = ⟨#[45]⟩
    · subst q1; exact ⟨_, HP.at A, HR 1 (by decide)⟩
    by_cases q2 : op = ⟨#[42]⟩
    · subst q2; exact ⟨_, HP.at A, HR 2 (by decide)⟩
    by_cases q3 : op = ⟨#[37]⟩
    · subst q3; exact ⟨_, HP.at A, HR 3 (by decide)⟩
    by_cases q4 : op = ⟨#[38]⟩
    · subst q4; exact ⟨_, HP.at A, HR 4 (by decide)⟩
    by_cases q5 : op = ⟨#[124]⟩
    · subst q5; exact ⟨_, HP.at A, HR 5 (by decide)⟩
    by_cases q6 : op = ⟨#[94]⟩
    · subst q6; exact ⟨_, HP.at A, HR 6 (by decide)⟩
    by_cases q7 : op = ⟨#[60, 60]⟩
    · subst q7; exact ⟨_, HP.at A, HR 7 (by decide)⟩
    by_cases q8 : op = ⟨#[62, 62]⟩
    · subst q8; exact ⟨_, HP.at A, HR 8 (by decide)⟩
    by_cases q9 : op = ⟨#[62, 62, 62]⟩
    · subst q9; exact ⟨_, HP.at A, HR 9 (by decide)⟩
    by_cases q10 : op = ⟨#[60]⟩
    · subst q10; exact ⟨_, HP.at A, HR 10 (by decide)⟩
    by_cases q11 : op = ⟨#[60, 61]⟩
    · subst q11; exact ⟨_, HP.at A, HR 11 (by decide)⟩
    by_cases q12 : op = ⟨#[62]⟩
    · subst q12; exact ⟨_, HP.at A, HR 12 (by decide)⟩
    by_cases q13 : op = ⟨#[62, 61]⟩
    · subst q13; exact ⟨_, HP.at A, HR 13 (by decide)⟩
    by_cases q14 : op = ⟨#[61, 61, 61]⟩
    · subst q14; exact ⟨_, HP.at A, HR 14 (by decide)⟩
    by_cases q15 : op = ⟨#[33, 61, 61]⟩
    · subst q15; exact ⟨_, HP.at A, HR 15 (by decide)⟩
    exact both_none A 3 n 3 n' K N K' N' t t' T T' HA HB JA JB op q14 q15 q0 q1 q2 q3 q4 q5 q6 q7 q8 q9 q10 q11 q12 q13
  · by_cases q0 : op = ⟨#[43]⟩
    · subst q0; exact both_add A k n k' n' K N K' N' t t' T T' HA HB JA JB hK hK' hN hN' hT z z' RT RT' h33
    by_cases q1 : op = ⟨#[45]⟩
    · subst q1; exact both_sub A k n k' n' K N K' N' t t' T T' HA HB JA JB h33
    by_cases q2 : op = ⟨#[42]⟩
    · subst q2; exact both_mul A k n k' n' K N K' N' t t' T T' HA HB JA JB h33
    by_cases q3 : op = ⟨#[37]⟩
    · subst q3; exact both_rem A k n k' n' K N K' N' t t' T T' HA HB JA JB h33
    by_cases q4 : op = ⟨#[38]⟩
    · subst q4; exact both_and A k n k' n' K N K' N' t t' T T' HA HB JA JB h33
    by_cases q5 : op = ⟨#[124]⟩
    · subst q5; exact both_or A k n k' n' K N K' N' t t' T T' HA HB JA JB h33
    by_cases q6 : op = ⟨#[94]⟩
    · subst q6; exact both_xor A k n k' n' K N K' N' t t' T T' HA HB JA JB h33
    by_cases q7 : op = ⟨#[60, 60]⟩
    · subst q7; exact both_shl A k n k' n' K N K' N' t t' T T' HA HB JA JB h33
    by_cases q8 : op = ⟨#[62, 62]⟩
    · subst q8; exact both_shr A k n k' n' K N K' N' t t' T T' HA HB JA JB h33
    by_cases q9 : op = ⟨#[62, 62, 62]⟩
    · subst q9; exact both_shn A k n k' n' K N K' N' t t' T T' HA HB JA JB h33
    by_cases q10 : op = ⟨#[60]⟩
    · subst q10; exact both_lt A k n k' n' K N K' N' t t' T T' HA HB JA JB z z' h33
    by_cases q11 : op = ⟨#[60, 61]⟩
    · subst q11; exact both_le A k n k' n' K N K' N' t t' T T' HA HB JA JB z z' h33
    by_cases q12 : op = ⟨#[62]⟩
    · subst q12; exact both_gt A k n k' n' K N K' N' t t' T T' HA HB JA JB z z' h33
    by_cases q13 : op = ⟨#[62, 61]⟩
    · subst q13; exact both_ge A k n k' n' K N K' N' t t' T T' HA HB JA JB z z' h33
    by_cases q14 : op = ⟨#[61, 61, 61]⟩
    · subst q14; exact both_eq A k n k' n' K N K' N' t t' T T' HA HB JA JB
    by_cases q15 : op = ⟨#[33, 61, 61]⟩
    · subst q15; exact both_ne A k n k' n' K N K' N' t t' T T' HA HB JA JB
    exact both_none A k n k' n' K N K' N' t t' T T' HA HB JA JB op q14 q15 q0 q1 q2 q3 q4 q5 q6 q7 q8 q9 q10 q11 q12 q13
end Go.Proofs.YthjlhdldomfikaaDoor

/- The law ValueBinary, walked. -/
namespace Go.Proofs.YthjlhdldomfikaaDoor
set_option linter.unusedSimpArgs false
set_option linter.unusedVariables false
set_option maxRecDepth 100000
set_option maxHeartbeats 2000000
open Go.RowKit Go.Shelf

theorem valueBinary_any (op t t' : ByteArray) (k n k' n' : Int) (h0 : op.size ≤ 281474976710656) (h1 : t.size ≤ 281474976710656) (h2 : t'.size ≤ 281474976710656) (W : World) (hT : Lib.TabIs Tryd.prog W "internal/strconv.uint64pow10" .u64 Lib.pow10Tab) :
    Calls Tryd.prog 4 #[.string op, .agg (Vc k n t), .agg (Vc k' n' t')] W fun e w' => e = .returned (.bool true) ∧ Below W.heap.size W w' := by
  obtain ⟨W2, hW2, b1, b2, hb⟩ := two_vx W k n t k' n' t'
  obtain ⟨c0, c1, c2, f0, f1, f2, lt⟩ := b1.all
  obtain ⟨x0, x1, x2, y0, y1, y2, ly⟩ := b2.all
  have B1 := hide b1
  have B2 := hide b2
  have HB := hide hb
  have HK := hide known_any
  have ga : (t.size : Int) ≤ 281474976710656 := by omega
  have gb : (t'.size : Int) ≤ 281474976710656 := by omega
  have gc : (op.size : Int) ≤ 281474976710656 := by omega
  clear b1 b2 hb
  by_cases hbig : (210000 : Int) < (t.size : Int) + (t'.size : Int) + (op.size : Int)
  · clear h0 h1 h2 hT
    unfold Vc
    go_enter Tryd.func4, Tryd.ntmps4
    go_wp2_with (go_at_call 9; refine (unhide HK _).mono ?_; rintro e w2 ⟨rfl, hb2⟩; have HB2 := hide (Below.up (unhide HB) hb2))
    go_ret
    exact ⟨rfl, unhide HB2⟩
  · obtain ⟨⟨rk, rn, rt, rs, rf⟩, H1, H2⟩ := both_any W hT op k n k' n' t t' (by omega) (by omega)
    have HU := hide (H1 W2 (unhide HB))
    have HR := hide H2
    unfold R5.tr Tr Vc at HU
    unfold R5.oc Oc Vc at HR
    clear H1 H2 h0 h1 h2 hT
    unfold Vc
    dsimp only at HU HR
    go_enter Tryd.func4, Tryd.ntmps4
    go_wp2_with (first
      | (go_at_call 12
         refine (unhide HU).mono ?_
         clear HU
         rintro e w2 ⟨rfl, hb2⟩
         obtain ⟨W3, hW3, e1, e3, e4⟩ := new_box w2 rk rn rt
         have q := Below.up hb2 e3
         have X1 := hide ((unhide B1).up q)
         have X2 := hide ((unhide B2).up q)
         have X3 := hide e1
         obtain ⟨c0, c1, c2, -, -, -, lt⟩ := (unhide X1).all
         obtain ⟨x0, x1, x2, y0, y1, y2, ly⟩ := (unhide X2).all
         have HB3 := hide (Below.up (unhide HB) q)
         clear hb2 e1 e3 e4 q)
      | (go_at_call 13
         refine (unhide HR _).mono ?_
         rintro e w4 ⟨rfl, hb4⟩
         obtain ⟨W5, hW5, e1, e3, e4⟩ := new_out w4 rk rn rf rt rs
         have q := Below.up hb4 e3
         obtain ⟨x0, x1, x2, y0, y1, y2, ly⟩ := ((unhide X3).up q).all
         obtain ⟨d0, d1, d2, d3, d4, g0, g1, g2, g3, g4, lt'⟩ := e1.all
         have HB5 := hide (Below.up (unhide HB3) q)
         clear hb4 e1 e3 e4 q)
      | (go_at_call 9; refine (unhide HK _).mono ?_; rintro e w6 ⟨rfl, hb6⟩; have HB6 := hide (Below.up (unhide HB5) hb6)))
    go_ret
    exact ⟨rfl, unhide HB6⟩
end Go.Proofs.YthjlhdldomfikaaDoor
