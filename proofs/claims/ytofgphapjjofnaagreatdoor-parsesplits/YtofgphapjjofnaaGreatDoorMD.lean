/- Towards the law: ZP1 ZP3 LPU N2 N3 N4 HX HY HZ HW. -/
import Derived.BigCall
import Derived.BigGuard
import Derived.BigQuiet
import Derived.Deep.QuietTactic
import Derived.Deep.RegionWith
import Derived.Lib.BytesEntry
import Derived.Lib.IndexLaws
import Derived.Lib.ParseIntBCases
import Derived.LoopN
import Derived.Shelf.Pu.ParseUintPublic10
import Derived.WalkMore
import Derived.Test.YtofgphapjjofnaaGreatDoorMA
import Derived.Test.YtofgphapjjofnaaGreatDoorMB
import Derived.Test.YtofgphapjjofnaaGreatDoorMC
set_option linter.unusedSimpArgs false
set_option linter.unusedVariables false
set_option maxRecDepth 100000
set_option maxHeartbeats 8000000
namespace Go.Proofs.YtofgphapjjofnaaGreatDoor
section
def stopF (p : Int → Bool) (g : Nat → Int) (len : Nat) : Nat → Nat → Nat
 | 0, i => i
 | f + 1, i => if i < len ∧ p (g i) = true then stopF p g len f (i + 1) else i
def stopI (p : Int → Bool) (g : Nat → Int) (len i : Nat) : Nat := stopF p g len (len - i) i
theorem stopF_spec {p : Int → Bool} {g : Nat → Int} {len : Nat} : ∀ (f i : Nat), len - i ≤ f → i ≤ len → i ≤ stopF p g len f i ∧ stopF p g len f i ≤ len ∧ (∀ j, i ≤ j → j < stopF p g len f i → p (g j) = true) ∧ (stopF p g len f i = len ∨ p (g (stopF p g len f i)) = false)
 | 0, i, hf, hi => ⟨NL, hi, fun j h1 h2 => by simp only [stopF] at h2; omega, .inl (by simp only [stopF]; omega)⟩
 | f + 1, i, hf, hi => by
   by_cases h : i < len ∧ p (g i) = true
   · obtain ⟨a, b, c, d⟩ := stopF_spec (p := p) (g := g) (len := len) f (i + 1) (by omega) (by omega)
     simp only [stopF, if_pos h];refine ⟨by omega, b, fun j h1 h2 => ?_, d⟩;by_cases e : j = i
     · rw [e]; exact h.2
     · exact c j (by omega) h2
   · simp only [stopF, if_neg h]
     refine ⟨NL, hi, fun j h1 h2 => by omega, ?_⟩;by_cases hl : i < len
     · right
       cases hp : p (g i) with
       | false => rfl
       | true => exact absurd ⟨hl, hp⟩ h
     · left; omega
theorem stopI_spec {p : Int → Bool} {g : Nat → Int} {len i : Nat} (hi : i ≤ len) : i ≤ stopI p g len i ∧ stopI p g len i ≤ len ∧ (∀ j, i ≤ j → j < stopI p g len i → p (g j) = true) ∧ (stopI p g len i = len ∨ p (g (stopI p g len i)) = false) := stopF_spec _ _ NL hi
theorem stopI_step {p : Int → Bool} {g : Nat → Int} {len i : Nat} (hi : i < len) (hp : p (g i) = true) : stopI p g len i = stopI p g len (i + 1) := by
 unfold stopI;rw [show len - i = (len - (i + 1)) + 1 from by omega, stopF, if_pos ⟨hi, hp⟩]
theorem stopI_stop {p : Int → Bool} {g : Nat → Int} {len i : Nat} (h : ¬ (i < len ∧ p (g i) = true)) : stopI p g len i = i := by
 unfold stopI;cases e : len - i with
 | zero => rfl
 | succ f => rw [stopF, if_neg h]
def blk (c : Int) : Bool := c == 9 || c == 10 || c == 13 || c == 32
def remF (g : Nat → Int) (len : Nat) : Nat → Nat → Nat
 | 0, i => i
 | f + 1, i => if i + 1 < len ∧ ¬ (g i = 42 ∧ g (i + 1) = 47) then remF g len f (i + 1) else i
def remI (g : Nat → Int) (len i : Nat) : Nat := remF g len (len - i) i
theorem remI_step {g : Nat → Int} {len i : Nat} (hi : i + 1 < len) (h : ¬ (g i = 42 ∧ g (i + 1) = 47)) : remI g len i = remI g len (i + 1) := by
 unfold remI;rw [show len - i = (len - (i + 1)) + 1 from by omega, remF, if_pos ⟨hi, h⟩]
theorem remI_stop {g : Nat → Int} {len i : Nat} (h : ¬ (i + 1 < len ∧ ¬ (g i = 42 ∧ g (i + 1) = 47))) : remI g len i = i := by
 unfold remI;cases e : len - i with
 | zero => rfl
 | succ f => rw [remF, if_neg h]
theorem remF_ge {g : Nat → Int} {len : Nat} : ∀ (f i : Nat), i ≤ remF g len f i
 | 0, i => NL
 | f + 1, i => by
   simp only [remF];split
   · have := remF_ge (g := g) (len := len) f (i + 1); omega
   · exact NL
def hexD (c : Int) : Int := if 48 ≤ c ∧ c ≤ 57 then c - 48 else if 97 ≤ c ∧ c ≤ 102 then c - 87 else if 65 ≤ c ∧ c ≤ 70 then c - 55 else -1
def hexB (c : Int) : Bool := decide (0 ≤ hexD c)
theorem hexD_bd {c : Int} (h : hexB c = true) : 0 ≤ hexD c ∧ hexD c ≤ 15 := by
 simp only [hexB, decide_eq_true_eq] at h;refine ⟨h, ?_⟩;unfold hexD
 (repeat' split) <;> omega
def hexV (g : Nat → Int) (i : Nat) : Nat → Int
 | 0 => 0
 | n + 1 => hexV g i n * 16 + hexD (g (i + n))
theorem hexV_bd {g : Nat → Int} {i : Nat} : ∀ {n : Nat}, (∀ j, j < n → hexB (g (i + j)) = true) → 0 ≤ hexV g i n ∧ hexV g i n < 16 ^ n
 | 0, _ => by simp [hexV]
 | n + 1, h => by
   have h1 := hexV_bd (g := g) (i := i) (n := n) fun j hj => h j (by omega)
   have h2 := hexD_bd (h n (by omega));simp only [hexV];have e : (16 : Int) ^ (n + 1) = 16 ^ n * 16 := Int.pow_succ _ _;rw [e];omega
def numE (g : Nat → Int) (len at' : Nat) : Option (Int × Nat) :=
 if at' + 2 < len ∧ g (at' + 1) = 117 ∧ g (at' + 2) = 123 ∧ stopI hexB g len (at' + 3) < len ∧ g (stopI hexB g len (at' + 3)) = 125 ∧ at' + 3 < stopI hexB g len (at' + 3) ∧ stopI hexB g len (at' + 3) ≤ at' + 9 ∧ alw (hexV g (at' + 3) (stopI hexB g len (at' + 3) - (at' + 3))) = true
 then some (hexV g (at' + 3) (stopI hexB g len (at' + 3) - (at' + 3)), stopI hexB g len (at' + 3) + 1 - at') else none
def escE (g : Nat → Int) (len at' : Nat) : Option (Int × Nat) :=
 if ¬ at' + 1 < len then none
 else if g (at' + 1) = 110 then some (10, 2) else if g (at' + 1) = 114 then some (13, 2) else if g (at' + 1) = 116 then some (9, 2) else if g (at' + 1) = 48 then some (0, 2)
 else if g (at' + 1) = 92 ∨ g (at' + 1) = 34 ∨ g (at' + 1) = 39 ∨ g (at' + 1) = 36 ∨ g (at' + 1) = 96 then some (g (at' + 1), 2) else numE g len at'
theorem escE_w {g : Nat → Int} {len at' : Nat} {r : Int} {w : Nat} (h : escE g len at' = some (r, w)) : 2 ≤ w ∧ at' + w ≤ len := by
 unfold escE at h;by_cases h0 : ¬ at' + 1 < len
 · rw [if_pos h0] at h; cases h
 rw [if_neg h0] at h
 have key : ∀ {x : Int}, (some (x, 2) : Option (Int × Nat)) = some (r, w) → 2 ≤ w ∧ at' + w ≤ len := fun e => by
  injection e with e
  injection e with _ e
  omega
 (repeat' split at h) <;> first | exact key h | skip
 unfold numE at h;split at h
 · rename_i hc
   injection h with h
   injection h with _ h
   omega
 · cases h
def decVx (g : Nat → Int) (i : Nat) : Nat → Int
 | 0 => 0
 | n + 1 => decVx g i n * 10 + (g (i + n) - 48)
theorem isD_bd {c : Int} (h : isD c = true) : 48 ≤ c ∧ c ≤ 57 := by simpa [isD] using h
theorem decV_nn {g : Nat → Int} {i : Nat} : ∀ {n : Nat}, (∀ j, j < n → isD (g (i + j)) = true) → 0 ≤ decVx g i n
 | 0, _ => by simp [decVx]
 | n + 1, h => by
   have h1 := decV_nn (g := g) (i := i) (n := n) fun j hj => h j (by omega)
   have h2 := isD_bd (h n (by omega));simp only [decVx];omega
def numEnd (g : Nat → Int) (len at' : Nat) : Nat := stopI isD g len at'
def numOk (g : Nat → Int) (len at' : Nat) : Bool :=
 decide (decVx g at' (numEnd g len at' - at') ≤ 9007199254740991) && !(g at' == 48 && decide (at' + 1 < numEnd g len at')) && !(decide (numEnd g len at' < len) && isL (g (numEnd g len at')))
end
section
open Go.Shelf
open Go.RowKit Go.Shelf
def Tryz.laysPu14_ren : Go.Shelf.Ren := ⟨fun | 14 => 195 | 16 => 217 | 17 => 218 | 19 => 233 | 20 => 234 | 21 => 235 | 22 => 236 | 23 => 237 | 24 => 238 | 25 => 245 | 27 => 258 | 26 => 257 | 28 => 263 | 29 => 264 | 30 => 265 | 31 => 266 | 32 => 267 | 33 => 268 | 35 => 270 | 34 => 269 | 36 => 271 | 37 => 272 | 38 => 273 | 39 => 274 | 40 => 275 | n => n, fun | 9 => 9 | 3 => 3 | 22 => 132 | 24 => 134 | 25 => 135 | 4 => 4 | 34 => 160 | 5 => 5 | 36 => 129 | 37 => 22 | 0 => 0 | 39 => 162 | 21 => 21 | 44 => 172 | 47 => 153 | 50 => 184 | 48 => 182 | 2 => 2 | 52 => 186 | 55 => 189 | 59 => 192 | 60 => 168 | 20 => 20 | 61 => 193 | 65 => 196 | 66 => 197 | 67 => 113 | n => n, fun | 0 => 1 | 1 => 2 | 2 => 5 | 3 => 6 | 4 => 7 | n => n⟩
theorem Tryz.laysPu14 : Go.Proofs.LaysPu.n14 Tryz.prog Tryz.laysPu14_ren := {
 mixed := by kernel_rfl
 f14 := Tryz.func195.trans (congrArg some (by kernel_rfl))
 f16 := Tryz.func217.trans (congrArg some (by kernel_rfl))
 f17 := Tryz.func218.trans (congrArg some (by kernel_rfl))
 f19 := Tryz.func233.trans (congrArg some (by kernel_rfl))
 f20 := Tryz.func234.trans (congrArg some (by kernel_rfl))
 f21 := Tryz.func235.trans (congrArg some (by kernel_rfl))
 f22 := Tryz.func236.trans (congrArg some (by kernel_rfl))
 f23 := Tryz.func237.trans (congrArg some (by kernel_rfl))
 f24 := Tryz.func238.trans (congrArg some (by kernel_rfl))
 f25 := Tryz.func245.trans (congrArg some (by kernel_rfl))
 f26 := Tryz.func257.trans (congrArg some (by kernel_rfl))
 f27 := Tryz.func258.trans (congrArg some (by kernel_rfl))
 f28 := Tryz.func263.trans (congrArg some (by kernel_rfl))
 f29 := Tryz.func264.trans (congrArg some (by kernel_rfl))
 f30 := Tryz.func265.trans (congrArg some (by kernel_rfl))
 f31 := Tryz.func266.trans (congrArg some (by kernel_rfl))
 f32 := Tryz.func267.trans (congrArg some (by kernel_rfl))
 f33 := Tryz.func268.trans (congrArg some (by kernel_rfl))
 f34 := Tryz.func269.trans (congrArg some (by kernel_rfl))
 f35 := Tryz.func270.trans (congrArg some (by kernel_rfl))
 f36 := Tryz.func271.trans (congrArg some (by kernel_rfl))
 f37 := Tryz.func272.trans (congrArg some (by kernel_rfl))
 f38 := Tryz.func273.trans (congrArg some (by kernel_rfl))
 f39 := Tryz.func274.trans (congrArg some (by kernel_rfl))
 f40 := Tryz.func275.trans (congrArg some (by kernel_rfl))
 t0 := Tryz.underlying0
 a0 := Tryz.isAgg0
 z0 := Tryz.sizeOf0
 v0 := Tryz.zeroValue0
 i0 := by kernel_rfl
 t2 := Tryz.underlying2
 a2 := Tryz.isAgg2
 z2 := Tryz.sizeOf2
 v2 := Tryz.zeroValue2
 i2 := by kernel_rfl
 t3 := Tryz.underlying3
 a3 := Tryz.isAgg3
 z3 := Tryz.sizeOf3
 v3 := Tryz.zeroValue3
 i3 := by kernel_rfl
 t4 := Tryz.underlying4
 a4 := Tryz.isAgg4
 z4 := Tryz.sizeOf4
 v4 := Tryz.zeroValue4
 i4 := by kernel_rfl
 t5 := Tryz.underlying5
 a5 := Tryz.isAgg5
 z5 := Tryz.sizeOf5
 v5 := Tryz.zeroValue5
 i5 := by kernel_rfl
 t9 := Tryz.underlying9
 a9 := Tryz.isAgg9
 z9 := Tryz.sizeOf9
 v9 := Tryz.zeroValue9
 i9 := by kernel_rfl
 t20 := Tryz.underlying20
 a20 := Tryz.isAgg20
 z20 := Tryz.sizeOf20
 v20 := Tryz.zeroValue20
 i20 := by kernel_rfl
 t21 := Tryz.underlying21
 a21 := Tryz.isAgg21
 z21 := Tryz.sizeOf21
 v21 := Tryz.zeroValue21
 i21 := by kernel_rfl
 t22 := Tryz.underlying132
 a22 := Tryz.isAgg132
 z22 := Tryz.sizeOf132
 v22 := Tryz.zeroValue132
 i22 := by kernel_rfl
 t24 := Tryz.underlying134
 a24 := Tryz.isAgg134
 z24 := Tryz.sizeOf134
 v24 := Tryz.zeroValue134
 i24 := by kernel_rfl
 t25 := Tryz.underlying135
 a25 := Tryz.isAgg135
 z25 := Tryz.sizeOf135
 v25 := Tryz.zeroValue135
 i25 := by kernel_rfl
 t34 := Tryz.underlying160
 a34 := Tryz.isAgg160
 z34 := Tryz.sizeOf160
 v34 := Tryz.zeroValue160
 i34 := by kernel_rfl
 c34 := by kernel_rfl
 t36 := Tryz.underlying129
 a36 := Tryz.isAgg129
 z36 := Tryz.sizeOf129
 v36 := Tryz.zeroValue129
 i36 := by kernel_rfl
 t37 := Tryz.underlying22
 a37 := Tryz.isAgg22
 z37 := Tryz.sizeOf22
 v37 := Tryz.zeroValue22
 i37 := by kernel_rfl
 t39 := Tryz.underlying162
 a39 := Tryz.isAgg162
 z39 := Tryz.sizeOf162
 v39 := Tryz.zeroValue162
 i39 := by kernel_rfl
 t44 := Tryz.underlying172
 a44 := Tryz.isAgg172
 z44 := Tryz.sizeOf172
 v44 := Tryz.zeroValue172
 i44 := by kernel_rfl
 t47 := Tryz.underlying153
 a47 := Tryz.isAgg153
 z47 := Tryz.sizeOf153
 v47 := Tryz.zeroValue153
 i47 := by kernel_rfl
 t48 := Tryz.underlying182
 a48 := Tryz.isAgg182
 z48 := Tryz.sizeOf182
 v48 := Tryz.zeroValue182
 i48 := by kernel_rfl
 t50 := Tryz.underlying184
 a50 := Tryz.isAgg184
 z50 := Tryz.sizeOf184
 v50 := Tryz.zeroValue184
 i50 := by kernel_rfl
 t52 := Tryz.underlying186
 a52 := Tryz.isAgg186
 z52 := Tryz.sizeOf186
 v52 := Tryz.zeroValue186
 i52 := by kernel_rfl
 t55 := Tryz.underlying189
 a55 := Tryz.isAgg189
 z55 := Tryz.sizeOf189
 v55 := Tryz.zeroValue189
 i55 := by kernel_rfl
 t59 := Tryz.underlying192
 a59 := Tryz.isAgg192
 z59 := Tryz.sizeOf192
 v59 := Tryz.zeroValue192
 i59 := by kernel_rfl
 t60 := Tryz.underlying168
 a60 := Tryz.isAgg168
 z60 := Tryz.sizeOf168
 v60 := Tryz.zeroValue168
 i60 := by kernel_rfl
 t61 := Tryz.underlying193
 a61 := Tryz.isAgg193
 z61 := Tryz.sizeOf193
 t65 := Tryz.underlying196
 a65 := Tryz.isAgg196
 z65 := Tryz.sizeOf196
 v65 := Tryz.zeroValue196
 i65 := by kernel_rfl
 t66 := Tryz.underlying197
 a66 := Tryz.isAgg197
 z66 := Tryz.sizeOf197
 v66 := Tryz.zeroValue197
 i66 := by kernel_rfl
 t67 := Tryz.underlying113
 a67 := Tryz.isAgg113
 z67 := Tryz.sizeOf113
 v67 := Tryz.zeroValue113
 i67 := by kernel_rfl
 g0 := by kernel_rfl
 m0 := by kernel_rfl
 g1 := by kernel_rfl
 m1 := by kernel_rfl
 g2 := by kernel_rfl
 m2 := by kernel_rfl
 g3 := by kernel_rfl
 m3 := by kernel_rfl
 g4 := by kernel_rfl
 m4 := by kernel_rfl }
def foldD (acc : Int) (xs : List Int) : Int := xs.foldl (fun a c => a * 10 + (c - 48)) acc
theorem foldD_ge : ∀ (xs : List Int) (acc : Int), (∀ x ∈ xs, isD x = true) → 0 ≤ acc → acc ≤ foldD acc xs
 | [], acc, _, _ => Int.le_refl _
 | x :: xs, acc, h, h0 => by
   have h1 := isD_bd (h x (by simp));have h2 := foldD_ge xs (acc * 10 + (x - 48)) (fun y hy => h y (by simp [hy])) (by omega);show acc ≤ foldD (acc * 10 + (x - 48)) xs
   omega
theorem decV_fold (g : Nat → Int) (i : Nat) : ∀ n, decVx g i n = foldD 0 (upto (fun j => g (i + j)) n)
 | 0 => rfl
 | n + 1 => by rw [decVx, decV_fold g i n, upto_succ, foldD, foldD, List.foldl_append]; rfl
theorem nums_list (xs : List Int) : (strOfNums xs).data.toList = xs.map fun n => UInt8.ofNat n.toNat := by
 simp [strOfNums]
theorem parseM_fold : ∀ (xs : List Int) (acc : Nat), (∀ x ∈ xs, isD x = true) → acc ≤ 18446744073709551615 → Lib.parseUintM 18446744073709551615 acc (xs.map fun n => UInt8.ofNat n.toNat) = if foldD acc xs ≤ 18446744073709551615 then .ok (foldD acc xs).toNat else .range
 | [], acc, _, h => by
   have e : foldD (acc : Int) [] = acc := rfl;rw [e, if_pos (by omega), Int.toNat_natCast];rfl
 | x :: xs, acc, h, ha => by
   have h1 := isD_bd (h x (by simp))
   have hx : (UInt8.ofNat x.toNat).toNat = x.toNat := by
    rw [UInt8.toNat_ofNat'];omega
   have hr : ∀ y ∈ xs, isD y = true := fun y hy => h y (by simp [hy])
   have hge := foldD_ge xs ((acc : Int) * 10 + (x - 48)) hr (by omega);have hf : foldD (acc : Int) (x :: xs) = foldD ((acc : Int) * 10 + (x - 48)) xs := rfl;simp only [List.map_cons, Lib.parseUintM];rw [hx, if_pos (by omega), hf];by_cases h2 : 1844674407370955162 ≤ acc
   · rw [if_pos h2, if_neg (by omega)]
   rw [if_neg h2];by_cases h3 : 18446744073709551615 < acc * 10 + (x.toNat - 48)
   · rw [if_pos h3, if_neg (by omega)]
   rw [if_neg h3, parseM_fold xs _ hr (by omega)];have e : ((acc * 10 + (x.toNat - 48) : Nat) : Int) = (acc : Int) * 10 + (x - 48) := by omega
   rw [e]
def ErrG (W : World) (i : Nat) : Prop := ∃ ev, W.cell? ⟨i, 0, none⟩ = some ev ∧ (ev = .nilIface ∨ ∃ te pe, ev = .iface te pe)
theorem pu_num {g : Nat → Int} {at' e : Nat} (hn : at' < e) (hl : e ≤ 1099511627776) (hd : ∀ j, at' ≤ j → j < e → isD (g j) = true) (W : World) (hE : ErrG W 2) :
 Calls Tryz.prog 195 #[.string (strOfNums (sub g at' e)), .int .i64 10, .int .i64 64] W fun x W' => ∃ z er, x = .returned (.tuple #[.int .u64 z, er]) ∧ ((er = .nilIface ∧ z = decVx g at' (e - at') ∧ z ≤ 18446744073709551615) ∨ ((∃ tp p, er = .iface tp p) ∧ 18446744073709551615 < decVx g at' (e - at'))) ∧ Below W.heap.size W W' := by
 have hds : ∀ x ∈ sub g at' e, isD x = true := by
  intro x hx;simp only [sub, upto, List.mem_map, List.mem_range] at hx;obtain ⟨j, hj, rfl⟩ := hx;exact hd _ (by omega) (by omega)
 have hz : (strOfNums (sub g at' e)).size = e - at' := by
  have h1 := congrArg List.length (nums_list (sub g at' e));rw [List.length_map, sub_length] at h1;rw [← h1, Lib.size_eq]
 have hne : (strOfNums (sub g at' e)).data.toList ≠ [] := by
  intro h;have h1 := congrArg List.length h;rw [nums_list, List.length_map, sub_length, List.length_nil] at h1;omega
 have hp : Lib.parseUintB 64 (strOfNums (sub g at' e)).data.toList = if decVx g at' (e - at') ≤ 18446744073709551615 then .ok (decVx g at' (e - at')).toNat else .range := by
  rw [Lib.parseUintB, if_neg hne, nums_list];have := parseM_fold (sub g at' e) 0 hds (by omega);rw [show (2 : Nat) ^ 64 - 1 = 18446744073709551615 from by decide, this, decV_fold];rfl
 have hnn : 0 ≤ decVx g at' (e - at') := decV_nn fun j hj => hd _ (by omega) (by omega)
 by_cases hle : decVx g at' (e - at') ≤ 18446744073709551615
 · rw [if_pos hle] at hp
   refine (Any.strconv_ParseUint_10_at64_ok Tryz.laysPu14 (strOfNums (sub g at' e)) (by omega) _ hp W).mono ?_;rintro x W' ⟨rfl, hw⟩;refine ⟨_, _, rfl, .inl ⟨rfl, by omega, by omega⟩, ?_⟩;rcases hw with rfl | rfl
   · exact Below.refl _ _
   · exact Lib.bytesWorld_below _ _ _
 · rw [if_neg hle] at hp
   obtain ⟨ev, hv, hev⟩ := hE;refine (Any.strconv_ParseUint_10_at64_range Tryz.laysPu14 (strOfNums (sub g at' e)) (by omega) hp ev W hv hev).mono ?_;rintro x W' ⟨N, rfl, _, _, hB⟩;exact ⟨_, _, rfl, .inr ⟨⟨_, _, rfl⟩, by omega⟩, hB⟩
end
section
open Go.RowKit Go.Shelf
theorem sl_cells {W : World} {c : Nat} {a : Option Addr} {len cap : Nat} {g : Nat → Int} (hS : Sl W c (.slice a len cap) len g) : Hid (0 < len → ∃ off, a = some ⟨c, off, none⟩ ∧ len ≤ cap ∧ cap ≤ maxLen ∧ ∀ j, j < len → W.cell? ⟨c, off + j, none⟩ = some (.int .u8 (g j))) := by
 intro h;rcases hS with ⟨_, _, h1, h0⟩ | ⟨off, cap', hv, h0, h1, h2, h3⟩
 · omega
 · cases hv
   exact ⟨off, rfl, h1, h2, h3⟩
end
section
open Go.RowKit Go.Shelf
attribute [local go_sem] tokV
def numT (g : Nat → Int) (len at' : Nat) : Value := if numOk g len at' = true then tokV 3 (strOfNums (sub g at' (numEnd g len at'))) at' (numEnd g len at') else tokV 0 ⟨#[]⟩ 0 0
end
section
open Go.RowKit Go.Shelf
attribute [local go_sem] tokV
theorem idx_str (s : ByteArray) (i : Nat) (hi : i < s.size) (W : World) : (Instr.index 9 (.string s) (.int .i64 (i : Int))).run Tryz.prog W = .ok (.int .u8 (gS s i)) W := by
 rw [run_index_string W 9 s .i64 (i : Int) Tryz.underlying9, dif_pos ⟨by omega, by omega⟩]
 have e : ((s[(i : Int).toNat]'(by simpa using hi)).toNat : Int) = gS s i := by
  have h2 : i < s.data.size := hi;rw [gS, Array.getElem?_eq_getElem h2];simp
  rfl
 rw [e]
theorem sub_size (g : Nat → Int) (a b : Nat) : (strOfNums (sub g a b)).size = b - a := by
 have h1 := congrArg List.length (nums_list (sub g a b));rw [List.length_map, sub_length] at h1;rw [← h1, Lib.size_eq]
def numAt (g : Nat → Int) (len at' : Nat) : Int := if numOk g len at' = true then (numEnd g len at' : Int) else (at' : Int)
theorem number_any (M c : Nat) (a : Option Addr) (len cap : Nat) (g : Nat → Int) (hg : ∀ j, 0 ≤ g j ∧ g j ≤ 255) (at' : Nat) (ov : Value) (W : World) (h : MAt W M (.slice a len cap) at' ov) (hS : Sl W c (.slice a len cap) len g) (hc : c < W.heap.size) (hat : at' < len) (hD : isD (g at') = true) (hlen : len ≤ 1099511627776) (hE : ErrG W 2) :
 Calls Tryz.prog 144 #[.pointer (some ⟨M, 0, none⟩)] W fun x W' => x = .returned (.tuple #[numT g len at', .bool (numOk g len at')]) ∧ MAt W' M (.slice a len cap) (numAt g len at') ov ∧ Fr (fun k => k = M) W W' := by
 obtain ⟨W1, hW1⟩ : ∃ W1, W.alloc (.cells #[.int .i64 0, .string ⟨#[]⟩, .int .i64 0, .int .i64 0] 40) = W1 := ⟨_, rfl⟩;have hB1 : Below W.heap.size W W1 := by rw [← hW1]; exact (Below.refl _ W).alloc NL _
 have hz1 : W1.heap.size = W.heap.size + 1 := by rw [← hW1]; simp
 have hr1 : W1.heap[W.heap.size]? = some (.cells #[.int .i64 0, .string ⟨#[]⟩, .int .i64 0, .int .i64 0] 40) := by rw [← hW1]; exact World.alloc_heap_new W _
 have hM1 := h.below hB1 h.lt;have hS1 := hS.keep (B := W1) (fun k e => by subst e; exact hB1.block k hc)
 have hE1 : ErrG W1 2 := by
  obtain ⟨ev, hv, hev⟩ := hE;exact ⟨ev, (hB1.cell (p := ⟨2, 0, none⟩) (World.block_lt_of_cell? W _ hv)).trans hv, hev⟩
 have c0 := hM1.c0;have c1 := hM1.c1;have hml := h.lt;have he := stopI_spec (p := isD) (g := g) (len := len) (i := at') (by omega);have hst := stopI_step (p := isD) (g := g) hat hD;have he1 := (stopI_spec (p := isD) (g := g) (len := len) (i := at' + 1) (by omega)).1;rw [← hst] at he1;obtain ⟨e, hee⟩ : ∃ e, numEnd g len at' = e := ⟨_, rfl⟩;have hee' : stopI isD g len at' = e := hee;rw [hee'] at he he1;obtain ⟨s1, s2, s3, s4⟩ := he;obtain ⟨sv', hsl, hcv0⟩ := cut_conv hS1 (by omega : at' ≤ e) s2;have hcv : ∀ N, (convert 22 9 sv').run Tryz.prog (W1.drewN N) = .ok (.string (strOfNums (sub g at' e))) (W1.drewN N) := fun N => hcv0 _ (hS1.keep (fun _ _ => rfl))
 obtain ⟨off, rfl, hcp, hmx, hcs⟩ := U (sl_cells hS1) (by omega);unfold maxLen at hmx
 have HPU : Hid (∀ N, Calls Tryz.prog 195 #[.string (strOfNums (sub g at' e)), .int .i64 10, .int .i64 64] (W1.drewN N) fun x W' => ∃ z er, x = .returned (.tuple #[.int .u64 z, er]) ∧ ((er = .nilIface ∧ z = decVx g at' (e - at') ∧ z ≤ 18446744073709551615) ∨ ((∃ tp p, er = .iface tp p) ∧ 18446744073709551615 < decVx g at' (e - at'))) ∧ Below W1.heap.size W1 W') := fun N =>
  (pu_num (by omega) (by omega) s3 (W1.drewN N) hE1).mono fun x W' ⟨z, er, h1, h2, h3⟩ => ⟨z, er, h1, h2, Below.trans (show Below W1.heap.size W1 (W1.drewN N) from ⟨rfl, rfl, rfl, NL, fun _ _ => rfl⟩) h3⟩
 have HPO : Hid (∀ v, decVx g at' (e - at') = v → v ≤ 9007199254740991 → ∀ N, Calls Tryz.prog 195 #[.string (strOfNums (sub g at' e)), .int .i64 10, .int .i64 64] (W1.drewN N) fun x W' => x = .returned (.tuple #[.int .u64 v, .nilIface]) ∧ Below W1.heap.size W1 W') := fun v hv hl N => (U HPU N).mono fun x W' ⟨z, er, h1, h2, h3⟩ => by
  rcases h2 with ⟨rfl, rfl, _⟩ | ⟨_, h⟩
  · rw [h1, hv]; exact ⟨rfl, h3⟩
  · omega
 have HOK : Hid (numOk g len at' = (decide (decVx g at' (e - at') ≤ 9007199254740991) && !(g at' == 48 && decide (at' + 1 < e)) && !(decide (e < len) && isL (g e)))) := by show _ = _; rw [numOk, hee]
 have HNT : Hid (numT g len at' = if numOk g len at' = true then tokV 3 (strOfNums (sub g at' e)) at' e else tokV 0 ⟨#[]⟩ 0 0) := by show _ = _; rw [numT, hee]
 have HNN : Hid (0 ≤ decVx g at' (e - at')) := decV_nn fun j hj => s3 (at' + j) (by omega) (by omega)
 have hzs := sub_size g at' e
 have HIX : Hid (∀ w : World, (Instr.index 9 (.string (strOfNums (sub g at' e))) (.int .i64 0)).run Tryz.prog w = .ok (.int .u8 (g at')) w) := fun w => by
  have h1 := idx_str (strOfNums (sub g at' e)) 0 (by omega) w;rw [sub, gS_nums _ (fun j => hg _) _ 0 (by omega)] at h1;exact h1
 have HPM : Hid (∀ v, decVx g at' (e - at') = v → v ≤ 18446744073709551615 → ∀ N, Calls Tryz.prog 195 #[.string (strOfNums (sub g at' e)), .int .i64 10, .int .i64 64] (W1.drewN N) fun x W' => x = .returned (.tuple #[.int .u64 v, .nilIface]) ∧ Below W1.heap.size W1 W') := fun v hv hl N => (U HPU N).mono fun x W' ⟨z, er, h1, h2, h3⟩ => by
  rcases h2 with ⟨rfl, rfl, _⟩ | ⟨_, h⟩
  · rw [h1, hv]; exact ⟨rfl, h3⟩
  · omega
 have HPR : Hid (18446744073709551615 < decVx g at' (e - at') → ∀ N, Calls Tryz.prog 195 #[.string (strOfNums (sub g at' e)), .int .i64 10, .int .i64 64] (W1.drewN N) fun x W' => ∃ z tp p, x = .returned (.tuple #[.int .u64 z, .iface tp p]) ∧ Below W1.heap.size W1 W') := fun hl N => (U HPU N).mono fun x W' ⟨z, er, h1, h2, h3⟩ => by
  rcases h2 with ⟨rfl, rfl, h⟩ | ⟨⟨tp, p, rfl⟩, h⟩
  · omega
  · exact ⟨z, tp, p, h1, h3⟩
 have HNA : Hid (numAt g len at' = if numOk g len at' = true then (e : Int) else (at' : Int)) := by show _ = _; rw [numAt, hee]
 obtain ⟨S, hSS⟩ : ∃ S, strOfNums (sub g at' e) = S := ⟨_, rfl⟩;rw [hSS] at hcv HPO HPM HPR HNT hzs HIX;have hsz : (S.size : Int) = (e : Int) - at' := by omega
 have t54 := Tryz.underlying134;have a54 := Tryz.isAgg134;have HS3 := Hi s3;have HS4 := Hi s4;have HCJ := Hi hcs;have HB1 := Hi hB1;have HM1 := Hi hM1;have HR1 := Hi hr1;clear hS hS1 hcs s3 s4 hee hee' hst hcv0 hE hE1 hSS hB1 hM1 hr1 hg HPU;go_enter Tryz.func144, Tryz.ntmps144;go_wp2;clear hW1;go_loopw [4] (fun t wr => ∃ k : Nat, at' + 1 ≤ k ∧ k ≤ e ∧ t = .int .i64 (k : Int) ∧ wr = W1) (fun t _ => len - (intOf t).toNat)
 case atStart => exact ⟨at' + 1, NL, he1, by go_num, rfl⟩
 case round =>
  obtain ⟨k, hk1, hk2, rfl, hw⟩ := hrel;subst wr;by_cases hke : k < e
  · have hkl : (k : Int) < len := by omega
    have hck := U HCJ k (by omega);have hDk := U HS3 k (by omega) hke;go_wp2_with (go_at_call 143; refine (isDigit_any _ _).mono ?_; rintro x w' ⟨rfl, hw⟩; subst w');exact ⟨⟨k + 1, by omega, by omega, by go_num, trivial⟩, by simp [intOf]; omega⟩
  · obtain rfl : k = e := by omega
    by_cases hkl : k < len
    · have hkl' : (k : Int) < len := by omega
      have hkd : decide ((k : Int) < len) = true := decide_eq_true hkl';have hkd' : decide (k < len) = true := decide_eq_true hkl;have hck := U HCJ k hkl
      have hDk : isD (g k) = false := by
       rcases U HS4 with h | h
       · omega
       · exact h
      by_cases hbig : 18446744073709551615 < decVx g at' (k - at')
      · have HOK2 : Hid (numOk g len at' = false) := by show _ = _; rw [U HOK, show decide (decVx g at' (k - at') ≤ 9007199254740991) = false from decide_eq_false (by omega)]; simp
        go_wp2_with (go_at_call 143; refine (isDigit_any _ _).mono ?_; rintro x w' ⟨rfl, hw⟩; subst w');go_quiet (fail)
        go_wp2_with (first | (
         go_at_call 195
         refine (U HPR hbig nq).mono ?_;rintro x W2 ⟨z, tp, p, rfl, hB2⟩;have hM2 := (U HM1).below hB2 (by omega);have hr2 : W2.heap[W.heap.size]? = some (.cells #[.int .i64 0, .string ⟨#[]⟩, .int .i64 0, .int .i64 0] 40) := (hB2.block W.heap.size (by omega)).trans (U HR1);have m0 := hM2.c0;have m1 := hM2.c1;have d0 : W2.cell? ⟨W.heap.size, 0, none⟩ = some (.int .i64 0) := (by rw [Lib.cell_of_heap hr2]; rfl);have d1 : W2.cell? ⟨W.heap.size, 1, none⟩ = some (.string ⟨#[]⟩) := (by rw [Lib.cell_of_heap hr2]; rfl);have d2 : W2.cell? ⟨W.heap.size, 2, none⟩ = some (.int .i64 0) := (by rw [Lib.cell_of_heap hr2]; rfl);have d3 : W2.cell? ⟨W.heap.size, 3, none⟩ = some (.int .i64 0) := (by rw [Lib.cell_of_heap hr2]; rfl);have d4 := Lib.frozen_of_heap hr2;have d5 : W2.shape? W.heap.size = some (40, 4) := (by simp [World.shape?, hr2]);have HB2 := Hi ((U HB1).trans (hB2.mono (U HB1).size));have HM2 := Hi hM2;have HR2 := Hi hr2;have hz2 := hB2.size;have hix := U HIX W2
         clear hB2 hM2 hr2) | (go_at_call 141; refine (isLetter_any _ _).mono ?_; rintro x w' ⟨rfl, hw⟩; subst w') | (
         go_at_call 194
         refine (take_any M _ ov at' 3 _ _ W2 (U HM2)).mono ?_;rintro x W3 ⟨rfl, hM3, hF3⟩;have hr3 : W3.heap[W.heap.size]? = some (.cells #[.int .i64 0, .string ⟨#[]⟩, .int .i64 0, .int .i64 0] 40) := (hF3.block W.heap.size (by omega) (by omega)).trans (U HR2);clear d0 d1 d2 d3 d4 d5;have d0 : W3.cell? ⟨W.heap.size, 0, none⟩ = some (.int .i64 0) := (by rw [Lib.cell_of_heap hr3]; rfl);have d1 : W3.cell? ⟨W.heap.size, 1, none⟩ = some (.string ⟨#[]⟩) := (by rw [Lib.cell_of_heap hr3]; rfl);have d2 : W3.cell? ⟨W.heap.size, 2, none⟩ = some (.int .i64 0) := (by rw [Lib.cell_of_heap hr3]; rfl);have d3 : W3.cell? ⟨W.heap.size, 3, none⟩ = some (.int .i64 0) := (by rw [Lib.cell_of_heap hr3]; rfl);have d4 := Lib.frozen_of_heap hr3;have d5 : W3.shape? W.heap.size = some (40, 4) := (by simp [World.shape?, hr3]);have HR3 := Hi hr3;have HM3 := Hi hM3;have HF3 := Hi hF3
         clear hr3 hM3 hF3))
        have hB4 := put4_below (W := W2) (Nat.le_refl W.heap.size) (.int .i64 0) (.string ⟨#[]⟩) (.int .i64 0) (.int .i64 0);have hr4 := put4_heap (U HR2) (.int .i64 0) (.string ⟨#[]⟩) (.int .i64 0) (.int .i64 0);obtain ⟨W4, hW4⟩ : ∃ W4, ((((W2.setCell ⟨W.heap.size, 0, none⟩ (.int .i64 0)).setCell ⟨W.heap.size, 1, none⟩ (.string ⟨#[]⟩)).setCell ⟨W.heap.size, 2, none⟩ (.int .i64 0)).setCell ⟨W.heap.size, 3, none⟩ (.int .i64 0)) = W4 := ⟨_, rfl⟩;rw [hW4] at hB4 hr4 ⊢;clear hW4;obtain ⟨e0, e1, e2, e3⟩ := tok_cells hr4;refine bodyPost_ret (v := .tuple #[.agg #[(.int .i64 0), (.string ⟨#[]⟩), (.int .i64 0), (.int .i64 0)], .bool false]) ?_ rfl ⟨by rw [U HNT, U HOK2]; rfl, by rw [U HNA, U HOK2]; exact (U HM2).below hB4 hml, ((Fr.refl _ W).below (U HB2)).below hB4⟩;clear d0 d1 d2 d3 d4 d5;simp [results, Tryz.results144, go_sem, e0, e1, e2, e3]
      obtain ⟨v, hv⟩ : ∃ v, decVx g at' (k - at') = v := ⟨_, rfl⟩;have hnn := U HNN;have hOK := U HOK;rw [hv] at hnn hOK hbig;by_cases hle : v ≤ 9007199254740991
      · have hle1 : decide (v ≤ 9007199254740991) = true := decide_eq_true hle
        have hle2 : decide (9007199254740991 < v) = false := decide_eq_false (by omega);by_cases h48 : g at' = 48
        · have b48 : (g at' == 48) = true := by rw [h48]; rfl
          by_cases hm : at' + 1 < k
          · have hm1 : decide (at' + 1 < k) = true := decide_eq_true hm
            have hm2 : decide ((1 : Int) < (S.size : Int)) = true := decide_eq_true (by omega);have HOK2 : Hid (numOk g len at' = false) := by show _ = _; rw [hOK, b48, hm1]; simp
            clear hle1 hOK;go_wp2_with (go_at_call 143; refine (isDigit_any _ _).mono ?_; rintro x w' ⟨rfl, hw⟩; subst w');go_quiet (fail)
            go_wp2_with (first | (
             go_at_call 195
             refine (U HPO v hv hle nq).mono ?_;rintro x W2 ⟨rfl, hB2⟩;have hM2 := (U HM1).below hB2 (by omega);have hr2 : W2.heap[W.heap.size]? = some (.cells #[.int .i64 0, .string ⟨#[]⟩, .int .i64 0, .int .i64 0] 40) := (hB2.block W.heap.size (by omega)).trans (U HR1);have m0 := hM2.c0;have m1 := hM2.c1;have hck9 : W2.cell? ⟨c, off + k, none⟩ = some (.int .u8 (g k)) := (hB2.cell (p := ⟨c, off + k, none⟩) (by show c < W1.heap.size; omega)).trans (U HCJ k hkl);have d0 : W2.cell? ⟨W.heap.size, 0, none⟩ = some (.int .i64 0) := (by rw [Lib.cell_of_heap hr2]; rfl);have d1 : W2.cell? ⟨W.heap.size, 1, none⟩ = some (.string ⟨#[]⟩) := (by rw [Lib.cell_of_heap hr2]; rfl);have d2 : W2.cell? ⟨W.heap.size, 2, none⟩ = some (.int .i64 0) := (by rw [Lib.cell_of_heap hr2]; rfl);have d3 : W2.cell? ⟨W.heap.size, 3, none⟩ = some (.int .i64 0) := (by rw [Lib.cell_of_heap hr2]; rfl);have d4 := Lib.frozen_of_heap hr2;have d5 : W2.shape? W.heap.size = some (40, 4) := (by simp [World.shape?, hr2]);have HB2 := Hi ((U HB1).trans (hB2.mono (U HB1).size));have HM2 := Hi hM2;have HR2 := Hi hr2;have hz2 := hB2.size;have hix := U HIX W2
             clear hB2 hM2 hr2) | (go_at_call 141; refine (isLetter_any _ _).mono ?_; rintro x w' ⟨rfl, hw⟩; subst w') | (
             go_at_call 194
             refine (take_any M _ ov at' 3 _ _ W2 (U HM2)).mono ?_;rintro x W3 ⟨rfl, hM3, hF3⟩;have hr3 : W3.heap[W.heap.size]? = some (.cells #[.int .i64 0, .string ⟨#[]⟩, .int .i64 0, .int .i64 0] 40) := (hF3.block W.heap.size (by omega) (by omega)).trans (U HR2);clear d0 d1 d2 d3 d4 d5;have d0 : W3.cell? ⟨W.heap.size, 0, none⟩ = some (.int .i64 0) := (by rw [Lib.cell_of_heap hr3]; rfl);have d1 : W3.cell? ⟨W.heap.size, 1, none⟩ = some (.string ⟨#[]⟩) := (by rw [Lib.cell_of_heap hr3]; rfl);have d2 : W3.cell? ⟨W.heap.size, 2, none⟩ = some (.int .i64 0) := (by rw [Lib.cell_of_heap hr3]; rfl);have d3 : W3.cell? ⟨W.heap.size, 3, none⟩ = some (.int .i64 0) := (by rw [Lib.cell_of_heap hr3]; rfl);have d4 := Lib.frozen_of_heap hr3;have d5 : W3.shape? W.heap.size = some (40, 4) := (by simp [World.shape?, hr3]);have HR3 := Hi hr3;have HM3 := Hi hM3;have HF3 := Hi hF3
             clear hr3 hM3 hF3))
            have hB4 := put4_below (W := W2) (Nat.le_refl W.heap.size) (.int .i64 0) (.string ⟨#[]⟩) (.int .i64 0) (.int .i64 0);have hr4 := put4_heap (U HR2) (.int .i64 0) (.string ⟨#[]⟩) (.int .i64 0) (.int .i64 0);obtain ⟨W4, hW4⟩ : ∃ W4, ((((W2.setCell ⟨W.heap.size, 0, none⟩ (.int .i64 0)).setCell ⟨W.heap.size, 1, none⟩ (.string ⟨#[]⟩)).setCell ⟨W.heap.size, 2, none⟩ (.int .i64 0)).setCell ⟨W.heap.size, 3, none⟩ (.int .i64 0)) = W4 := ⟨_, rfl⟩;rw [hW4] at hB4 hr4 ⊢;clear hW4;obtain ⟨e0, e1, e2, e3⟩ := tok_cells hr4;refine bodyPost_ret (v := .tuple #[.agg #[(.int .i64 0), (.string ⟨#[]⟩), (.int .i64 0), (.int .i64 0)], .bool false]) ?_ rfl ⟨by rw [U HNT, U HOK2]; rfl, by rw [U HNA, U HOK2]; exact (U HM2).below hB4 hml, ((Fr.refl _ W).below (U HB2)).below hB4⟩;clear d0 d1 d2 d3 d4 d5;simp [results, Tryz.results144, go_sem, e0, e1, e2, e3]
          · have hm1 : decide (at' + 1 < k) = false := decide_eq_false hm
            have hm2 : decide ((1 : Int) < (S.size : Int)) = false := decide_eq_false (by omega);cases hL : isL (g k) with
            | true =>
              have HOK2 : Hid (numOk g len at' = false) := by show _ = _; rw [hOK, hL, hkd']; simp
              clear hle1 hOK;go_wp2_with (go_at_call 143; refine (isDigit_any _ _).mono ?_; rintro x w' ⟨rfl, hw⟩; subst w');go_quiet (fail)
              go_wp2_with (first | (
               go_at_call 195
               refine (U HPO v hv hle nq).mono ?_;rintro x W2 ⟨rfl, hB2⟩;have hM2 := (U HM1).below hB2 (by omega);have hr2 : W2.heap[W.heap.size]? = some (.cells #[.int .i64 0, .string ⟨#[]⟩, .int .i64 0, .int .i64 0] 40) := (hB2.block W.heap.size (by omega)).trans (U HR1);have m0 := hM2.c0;have m1 := hM2.c1;have hck9 : W2.cell? ⟨c, off + k, none⟩ = some (.int .u8 (g k)) := (hB2.cell (p := ⟨c, off + k, none⟩) (by show c < W1.heap.size; omega)).trans (U HCJ k hkl);have d0 : W2.cell? ⟨W.heap.size, 0, none⟩ = some (.int .i64 0) := (by rw [Lib.cell_of_heap hr2]; rfl);have d1 : W2.cell? ⟨W.heap.size, 1, none⟩ = some (.string ⟨#[]⟩) := (by rw [Lib.cell_of_heap hr2]; rfl);have d2 : W2.cell? ⟨W.heap.size, 2, none⟩ = some (.int .i64 0) := (by rw [Lib.cell_of_heap hr2]; rfl);have d3 : W2.cell? ⟨W.heap.size, 3, none⟩ = some (.int .i64 0) := (by rw [Lib.cell_of_heap hr2]; rfl);have d4 := Lib.frozen_of_heap hr2;have d5 : W2.shape? W.heap.size = some (40, 4) := (by simp [World.shape?, hr2]);have HB2 := Hi ((U HB1).trans (hB2.mono (U HB1).size));have HM2 := Hi hM2;have HR2 := Hi hr2;have hz2 := hB2.size;have hix := U HIX W2
               clear hB2 hM2 hr2) | (go_at_call 141; refine (isLetter_any _ _).mono ?_; rintro x w' ⟨rfl, hw⟩; subst w') | (
               go_at_call 194
               refine (take_any M _ ov at' 3 _ _ W2 (U HM2)).mono ?_;rintro x W3 ⟨rfl, hM3, hF3⟩;have hr3 : W3.heap[W.heap.size]? = some (.cells #[.int .i64 0, .string ⟨#[]⟩, .int .i64 0, .int .i64 0] 40) := (hF3.block W.heap.size (by omega) (by omega)).trans (U HR2);clear d0 d1 d2 d3 d4 d5;have d0 : W3.cell? ⟨W.heap.size, 0, none⟩ = some (.int .i64 0) := (by rw [Lib.cell_of_heap hr3]; rfl);have d1 : W3.cell? ⟨W.heap.size, 1, none⟩ = some (.string ⟨#[]⟩) := (by rw [Lib.cell_of_heap hr3]; rfl);have d2 : W3.cell? ⟨W.heap.size, 2, none⟩ = some (.int .i64 0) := (by rw [Lib.cell_of_heap hr3]; rfl);have d3 : W3.cell? ⟨W.heap.size, 3, none⟩ = some (.int .i64 0) := (by rw [Lib.cell_of_heap hr3]; rfl);have d4 := Lib.frozen_of_heap hr3;have d5 : W3.shape? W.heap.size = some (40, 4) := (by simp [World.shape?, hr3]);have HR3 := Hi hr3;have HM3 := Hi hM3;have HF3 := Hi hF3
               clear hr3 hM3 hF3))
              have hB4 := put4_below (W := W2) (Nat.le_refl W.heap.size) (.int .i64 0) (.string ⟨#[]⟩) (.int .i64 0) (.int .i64 0);have hr4 := put4_heap (U HR2) (.int .i64 0) (.string ⟨#[]⟩) (.int .i64 0) (.int .i64 0);obtain ⟨W4, hW4⟩ : ∃ W4, ((((W2.setCell ⟨W.heap.size, 0, none⟩ (.int .i64 0)).setCell ⟨W.heap.size, 1, none⟩ (.string ⟨#[]⟩)).setCell ⟨W.heap.size, 2, none⟩ (.int .i64 0)).setCell ⟨W.heap.size, 3, none⟩ (.int .i64 0)) = W4 := ⟨_, rfl⟩;rw [hW4] at hB4 hr4 ⊢;clear hW4;obtain ⟨e0, e1, e2, e3⟩ := tok_cells hr4;refine bodyPost_ret (v := .tuple #[.agg #[(.int .i64 0), (.string ⟨#[]⟩), (.int .i64 0), (.int .i64 0)], .bool false]) ?_ rfl ⟨by rw [U HNT, U HOK2]; rfl, by rw [U HNA, U HOK2]; exact (U HM2).below hB4 hml, ((Fr.refl _ W).below (U HB2)).below hB4⟩;clear d0 d1 d2 d3 d4 d5;simp [results, Tryz.results144, go_sem, e0, e1, e2, e3]
            | false =>
              have HOK2 : Hid (numOk g len at' = true) := by show _ = _; rw [hOK, hL, hle1, b48, hm1]; simp
              clear hle1 hOK;go_wp2_with (go_at_call 143; refine (isDigit_any _ _).mono ?_; rintro x w' ⟨rfl, hw⟩; subst w');go_quiet (fail)
              go_wp2_with (first | (
               go_at_call 195
               refine (U HPO v hv hle nq).mono ?_;rintro x W2 ⟨rfl, hB2⟩;have hM2 := (U HM1).below hB2 (by omega);have hr2 : W2.heap[W.heap.size]? = some (.cells #[.int .i64 0, .string ⟨#[]⟩, .int .i64 0, .int .i64 0] 40) := (hB2.block W.heap.size (by omega)).trans (U HR1);have m0 := hM2.c0;have m1 := hM2.c1;have hck9 : W2.cell? ⟨c, off + k, none⟩ = some (.int .u8 (g k)) := (hB2.cell (p := ⟨c, off + k, none⟩) (by show c < W1.heap.size; omega)).trans (U HCJ k hkl);have d0 : W2.cell? ⟨W.heap.size, 0, none⟩ = some (.int .i64 0) := (by rw [Lib.cell_of_heap hr2]; rfl);have d1 : W2.cell? ⟨W.heap.size, 1, none⟩ = some (.string ⟨#[]⟩) := (by rw [Lib.cell_of_heap hr2]; rfl);have d2 : W2.cell? ⟨W.heap.size, 2, none⟩ = some (.int .i64 0) := (by rw [Lib.cell_of_heap hr2]; rfl);have d3 : W2.cell? ⟨W.heap.size, 3, none⟩ = some (.int .i64 0) := (by rw [Lib.cell_of_heap hr2]; rfl);have d4 := Lib.frozen_of_heap hr2;have d5 : W2.shape? W.heap.size = some (40, 4) := (by simp [World.shape?, hr2]);have HB2 := Hi ((U HB1).trans (hB2.mono (U HB1).size));have HM2 := Hi hM2;have HR2 := Hi hr2;have hz2 := hB2.size;have hix := U HIX W2
               clear hB2 hM2 hr2) | (go_at_call 141; refine (isLetter_any _ _).mono ?_; rintro x w' ⟨rfl, hw⟩; subst w') | (
               go_at_call 194
               refine (take_any M _ ov at' 3 _ _ W2 (U HM2)).mono ?_;rintro x W3 ⟨rfl, hM3, hF3⟩;have hr3 : W3.heap[W.heap.size]? = some (.cells #[.int .i64 0, .string ⟨#[]⟩, .int .i64 0, .int .i64 0] 40) := (hF3.block W.heap.size (by omega) (by omega)).trans (U HR2);clear d0 d1 d2 d3 d4 d5;have d0 : W3.cell? ⟨W.heap.size, 0, none⟩ = some (.int .i64 0) := (by rw [Lib.cell_of_heap hr3]; rfl);have d1 : W3.cell? ⟨W.heap.size, 1, none⟩ = some (.string ⟨#[]⟩) := (by rw [Lib.cell_of_heap hr3]; rfl);have d2 : W3.cell? ⟨W.heap.size, 2, none⟩ = some (.int .i64 0) := (by rw [Lib.cell_of_heap hr3]; rfl);have d3 : W3.cell? ⟨W.heap.size, 3, none⟩ = some (.int .i64 0) := (by rw [Lib.cell_of_heap hr3]; rfl);have d4 := Lib.frozen_of_heap hr3;have d5 : W3.shape? W.heap.size = some (40, 4) := (by simp [World.shape?, hr3]);have HR3 := Hi hr3;have HM3 := Hi hM3;have HF3 := Hi hF3
               clear hr3 hM3 hF3))
              have hB4 := put4_below (W := W3) (Nat.le_refl W.heap.size) (.int .i64 3) (.string S) (.int .i64 (at' : Int)) (.int .i64 (k : Int));have hr4 := put4_heap (U HR3) (.int .i64 3) (.string S) (.int .i64 (at' : Int)) (.int .i64 (k : Int));obtain ⟨W4, hW4⟩ : ∃ W4, ((((W3.setCell ⟨W.heap.size, 0, none⟩ (.int .i64 3)).setCell ⟨W.heap.size, 1, none⟩ (.string S)).setCell ⟨W.heap.size, 2, none⟩ (.int .i64 (at' : Int))).setCell ⟨W.heap.size, 3, none⟩ (.int .i64 (k : Int))) = W4 := ⟨_, rfl⟩;rw [hW4] at hB4 hr4 ⊢;clear hW4;obtain ⟨e0, e1, e2, e3⟩ := tok_cells hr4;refine bodyPost_ret (v := .tuple #[.agg #[(.int .i64 3), (.string S), (.int .i64 (at' : Int)), (.int .i64 (k : Int))], .bool true]) ?_ rfl ⟨by rw [U HNT, U HOK2]; rfl, by rw [U HNA, U HOK2]; exact (U HM3).below hB4 hml, (((Fr.refl _ W).below (U HB2)).trans (U HF3)).below hB4⟩;clear d0 d1 d2 d3 d4 d5;simp [results, Tryz.results144, go_sem, e0, e1, e2, e3]
        · have b48 : (g at' == 48) = false := beq_eq_false_iff_ne.2 h48
          cases hL : isL (g k) with
          | true =>
            have HOK2 : Hid (numOk g len at' = false) := by show _ = _; rw [hOK, hL, hkd']; simp
            clear hle1 hOK;go_wp2_with (go_at_call 143; refine (isDigit_any _ _).mono ?_; rintro x w' ⟨rfl, hw⟩; subst w');go_quiet (fail)
            go_wp2_with (first | (
             go_at_call 195
             refine (U HPO v hv hle nq).mono ?_;rintro x W2 ⟨rfl, hB2⟩;have hM2 := (U HM1).below hB2 (by omega);have hr2 : W2.heap[W.heap.size]? = some (.cells #[.int .i64 0, .string ⟨#[]⟩, .int .i64 0, .int .i64 0] 40) := (hB2.block W.heap.size (by omega)).trans (U HR1);have m0 := hM2.c0;have m1 := hM2.c1;have hck9 : W2.cell? ⟨c, off + k, none⟩ = some (.int .u8 (g k)) := (hB2.cell (p := ⟨c, off + k, none⟩) (by show c < W1.heap.size; omega)).trans (U HCJ k hkl);have d0 : W2.cell? ⟨W.heap.size, 0, none⟩ = some (.int .i64 0) := (by rw [Lib.cell_of_heap hr2]; rfl);have d1 : W2.cell? ⟨W.heap.size, 1, none⟩ = some (.string ⟨#[]⟩) := (by rw [Lib.cell_of_heap hr2]; rfl);have d2 : W2.cell? ⟨W.heap.size, 2, none⟩ = some (.int .i64 0) := (by rw [Lib.cell_of_heap hr2]; rfl);have d3 : W2.cell? ⟨W.heap.size, 3, none⟩ = some (.int .i64 0) := (by rw [Lib.cell_of_heap hr2]; rfl);have d4 := Lib.frozen_of_heap hr2;have d5 : W2.shape? W.heap.size = some (40, 4) := (by simp [World.shape?, hr2]);have HB2 := Hi ((U HB1).trans (hB2.mono (U HB1).size));have HM2 := Hi hM2;have HR2 := Hi hr2;have hz2 := hB2.size;have hix := U HIX W2
             clear hB2 hM2 hr2) | (go_at_call 141; refine (isLetter_any _ _).mono ?_; rintro x w' ⟨rfl, hw⟩; subst w') | (
             go_at_call 194
             refine (take_any M _ ov at' 3 _ _ W2 (U HM2)).mono ?_;rintro x W3 ⟨rfl, hM3, hF3⟩;have hr3 : W3.heap[W.heap.size]? = some (.cells #[.int .i64 0, .string ⟨#[]⟩, .int .i64 0, .int .i64 0] 40) := (hF3.block W.heap.size (by omega) (by omega)).trans (U HR2);clear d0 d1 d2 d3 d4 d5;have d0 : W3.cell? ⟨W.heap.size, 0, none⟩ = some (.int .i64 0) := (by rw [Lib.cell_of_heap hr3]; rfl);have d1 : W3.cell? ⟨W.heap.size, 1, none⟩ = some (.string ⟨#[]⟩) := (by rw [Lib.cell_of_heap hr3]; rfl);have d2 : W3.cell? ⟨W.heap.size, 2, none⟩ = some (.int .i64 0) := (by rw [Lib.cell_of_heap hr3]; rfl);have d3 : W3.cell? ⟨W.heap.size, 3, none⟩ = some (.int .i64 0) := (by rw [Lib.cell_of_heap hr3]; rfl);have d4 := Lib.frozen_of_heap hr3;have d5 : W3.shape? W.heap.size = some (40, 4) := (by simp [World.shape?, hr3]);have HR3 := Hi hr3;have HM3 := Hi hM3;have HF3 := Hi hF3
             clear hr3 hM3 hF3))
            have hB4 := put4_below (W := W2) (Nat.le_refl W.heap.size) (.int .i64 0) (.string ⟨#[]⟩) (.int .i64 0) (.int .i64 0);have hr4 := put4_heap (U HR2) (.int .i64 0) (.string ⟨#[]⟩) (.int .i64 0) (.int .i64 0);obtain ⟨W4, hW4⟩ : ∃ W4, ((((W2.setCell ⟨W.heap.size, 0, none⟩ (.int .i64 0)).setCell ⟨W.heap.size, 1, none⟩ (.string ⟨#[]⟩)).setCell ⟨W.heap.size, 2, none⟩ (.int .i64 0)).setCell ⟨W.heap.size, 3, none⟩ (.int .i64 0)) = W4 := ⟨_, rfl⟩;rw [hW4] at hB4 hr4 ⊢;clear hW4;obtain ⟨e0, e1, e2, e3⟩ := tok_cells hr4;refine bodyPost_ret (v := .tuple #[.agg #[(.int .i64 0), (.string ⟨#[]⟩), (.int .i64 0), (.int .i64 0)], .bool false]) ?_ rfl ⟨by rw [U HNT, U HOK2]; rfl, by rw [U HNA, U HOK2]; exact (U HM2).below hB4 hml, ((Fr.refl _ W).below (U HB2)).below hB4⟩;clear d0 d1 d2 d3 d4 d5;simp [results, Tryz.results144, go_sem, e0, e1, e2, e3]
          | false =>
            have HOK2 : Hid (numOk g len at' = true) := by show _ = _; rw [hOK, hL, hle1, b48]; simp
            clear hle1 hOK;go_wp2_with (go_at_call 143; refine (isDigit_any _ _).mono ?_; rintro x w' ⟨rfl, hw⟩; subst w');go_quiet (fail)
            go_wp2_with (first | (
             go_at_call 195
             refine (U HPO v hv hle nq).mono ?_;rintro x W2 ⟨rfl, hB2⟩;have hM2 := (U HM1).below hB2 (by omega);have hr2 : W2.heap[W.heap.size]? = some (.cells #[.int .i64 0, .string ⟨#[]⟩, .int .i64 0, .int .i64 0] 40) := (hB2.block W.heap.size (by omega)).trans (U HR1);have m0 := hM2.c0;have m1 := hM2.c1;have hck9 : W2.cell? ⟨c, off + k, none⟩ = some (.int .u8 (g k)) := (hB2.cell (p := ⟨c, off + k, none⟩) (by show c < W1.heap.size; omega)).trans (U HCJ k hkl);have d0 : W2.cell? ⟨W.heap.size, 0, none⟩ = some (.int .i64 0) := (by rw [Lib.cell_of_heap hr2]; rfl);have d1 : W2.cell? ⟨W.heap.size, 1, none⟩ = some (.string ⟨#[]⟩) := (by rw [Lib.cell_of_heap hr2]; rfl);have d2 : W2.cell? ⟨W.heap.size, 2, none⟩ = some (.int .i64 0) := (by rw [Lib.cell_of_heap hr2]; rfl);have d3 : W2.cell? ⟨W.heap.size, 3, none⟩ = some (.int .i64 0) := (by rw [Lib.cell_of_heap hr2]; rfl);have d4 := Lib.frozen_of_heap hr2;have d5 : W2.shape? W.heap.size = some (40, 4) := (by simp [World.shape?, hr2]);have HB2 := Hi ((U HB1).trans (hB2.mono (U HB1).size));have HM2 := Hi hM2;have HR2 := Hi hr2;have hz2 := hB2.size;have hix := U HIX W2
             clear hB2 hM2 hr2) | (go_at_call 141; refine (isLetter_any _ _).mono ?_; rintro x w' ⟨rfl, hw⟩; subst w') | (
             go_at_call 194
             refine (take_any M _ ov at' 3 _ _ W2 (U HM2)).mono ?_;rintro x W3 ⟨rfl, hM3, hF3⟩;have hr3 : W3.heap[W.heap.size]? = some (.cells #[.int .i64 0, .string ⟨#[]⟩, .int .i64 0, .int .i64 0] 40) := (hF3.block W.heap.size (by omega) (by omega)).trans (U HR2);clear d0 d1 d2 d3 d4 d5;have d0 : W3.cell? ⟨W.heap.size, 0, none⟩ = some (.int .i64 0) := (by rw [Lib.cell_of_heap hr3]; rfl);have d1 : W3.cell? ⟨W.heap.size, 1, none⟩ = some (.string ⟨#[]⟩) := (by rw [Lib.cell_of_heap hr3]; rfl);have d2 : W3.cell? ⟨W.heap.size, 2, none⟩ = some (.int .i64 0) := (by rw [Lib.cell_of_heap hr3]; rfl);have d3 : W3.cell? ⟨W.heap.size, 3, none⟩ = some (.int .i64 0) := (by rw [Lib.cell_of_heap hr3]; rfl);have d4 := Lib.frozen_of_heap hr3;have d5 : W3.shape? W.heap.size = some (40, 4) := (by simp [World.shape?, hr3]);have HR3 := Hi hr3;have HM3 := Hi hM3;have HF3 := Hi hF3
             clear hr3 hM3 hF3))
            have hB4 := put4_below (W := W3) (Nat.le_refl W.heap.size) (.int .i64 3) (.string S) (.int .i64 (at' : Int)) (.int .i64 (k : Int));have hr4 := put4_heap (U HR3) (.int .i64 3) (.string S) (.int .i64 (at' : Int)) (.int .i64 (k : Int));obtain ⟨W4, hW4⟩ : ∃ W4, ((((W3.setCell ⟨W.heap.size, 0, none⟩ (.int .i64 3)).setCell ⟨W.heap.size, 1, none⟩ (.string S)).setCell ⟨W.heap.size, 2, none⟩ (.int .i64 (at' : Int))).setCell ⟨W.heap.size, 3, none⟩ (.int .i64 (k : Int))) = W4 := ⟨_, rfl⟩;rw [hW4] at hB4 hr4 ⊢;clear hW4;obtain ⟨e0, e1, e2, e3⟩ := tok_cells hr4;refine bodyPost_ret (v := .tuple #[.agg #[(.int .i64 3), (.string S), (.int .i64 (at' : Int)), (.int .i64 (k : Int))], .bool true]) ?_ rfl ⟨by rw [U HNT, U HOK2]; rfl, by rw [U HNA, U HOK2]; exact (U HM3).below hB4 hml, (((Fr.refl _ W).below (U HB2)).trans (U HF3)).below hB4⟩;clear d0 d1 d2 d3 d4 d5;simp [results, Tryz.results144, go_sem, e0, e1, e2, e3]
      · have hle1 : decide (v ≤ 9007199254740991) = false := decide_eq_false hle
        have hle2 : decide (9007199254740991 < v) = true := decide_eq_true (by omega);have hmid : v ≤ 18446744073709551615 := by omega
        have HOK2 : Hid (numOk g len at' = false) := by show _ = _; rw [hOK, hle1]; simp
        clear hle1 hOK;go_wp2_with (go_at_call 143; refine (isDigit_any _ _).mono ?_; rintro x w' ⟨rfl, hw⟩; subst w');go_quiet (fail)
        go_wp2_with (first | (
         go_at_call 195
         refine (U HPM v hv hmid nq).mono ?_;rintro x W2 ⟨rfl, hB2⟩;have hM2 := (U HM1).below hB2 (by omega);have hr2 : W2.heap[W.heap.size]? = some (.cells #[.int .i64 0, .string ⟨#[]⟩, .int .i64 0, .int .i64 0] 40) := (hB2.block W.heap.size (by omega)).trans (U HR1);have m0 := hM2.c0;have m1 := hM2.c1;have d0 : W2.cell? ⟨W.heap.size, 0, none⟩ = some (.int .i64 0) := (by rw [Lib.cell_of_heap hr2]; rfl);have d1 : W2.cell? ⟨W.heap.size, 1, none⟩ = some (.string ⟨#[]⟩) := (by rw [Lib.cell_of_heap hr2]; rfl);have d2 : W2.cell? ⟨W.heap.size, 2, none⟩ = some (.int .i64 0) := (by rw [Lib.cell_of_heap hr2]; rfl);have d3 : W2.cell? ⟨W.heap.size, 3, none⟩ = some (.int .i64 0) := (by rw [Lib.cell_of_heap hr2]; rfl);have d4 := Lib.frozen_of_heap hr2;have d5 : W2.shape? W.heap.size = some (40, 4) := (by simp [World.shape?, hr2]);have HB2 := Hi ((U HB1).trans (hB2.mono (U HB1).size));have HM2 := Hi hM2;have HR2 := Hi hr2;have hz2 := hB2.size;have hix := U HIX W2
         clear hB2 hM2 hr2) | (go_at_call 141; refine (isLetter_any _ _).mono ?_; rintro x w' ⟨rfl, hw⟩; subst w') | (
         go_at_call 194
         refine (take_any M _ ov at' 3 _ _ W2 (U HM2)).mono ?_;rintro x W3 ⟨rfl, hM3, hF3⟩;have hr3 : W3.heap[W.heap.size]? = some (.cells #[.int .i64 0, .string ⟨#[]⟩, .int .i64 0, .int .i64 0] 40) := (hF3.block W.heap.size (by omega) (by omega)).trans (U HR2);clear d0 d1 d2 d3 d4 d5;have d0 : W3.cell? ⟨W.heap.size, 0, none⟩ = some (.int .i64 0) := (by rw [Lib.cell_of_heap hr3]; rfl);have d1 : W3.cell? ⟨W.heap.size, 1, none⟩ = some (.string ⟨#[]⟩) := (by rw [Lib.cell_of_heap hr3]; rfl);have d2 : W3.cell? ⟨W.heap.size, 2, none⟩ = some (.int .i64 0) := (by rw [Lib.cell_of_heap hr3]; rfl);have d3 : W3.cell? ⟨W.heap.size, 3, none⟩ = some (.int .i64 0) := (by rw [Lib.cell_of_heap hr3]; rfl);have d4 := Lib.frozen_of_heap hr3;have d5 : W3.shape? W.heap.size = some (40, 4) := (by simp [World.shape?, hr3]);have HR3 := Hi hr3;have HM3 := Hi hM3;have HF3 := Hi hF3
         clear hr3 hM3 hF3))
        have hB4 := put4_below (W := W2) (Nat.le_refl W.heap.size) (.int .i64 0) (.string ⟨#[]⟩) (.int .i64 0) (.int .i64 0);have hr4 := put4_heap (U HR2) (.int .i64 0) (.string ⟨#[]⟩) (.int .i64 0) (.int .i64 0);obtain ⟨W4, hW4⟩ : ∃ W4, ((((W2.setCell ⟨W.heap.size, 0, none⟩ (.int .i64 0)).setCell ⟨W.heap.size, 1, none⟩ (.string ⟨#[]⟩)).setCell ⟨W.heap.size, 2, none⟩ (.int .i64 0)).setCell ⟨W.heap.size, 3, none⟩ (.int .i64 0)) = W4 := ⟨_, rfl⟩;rw [hW4] at hB4 hr4 ⊢;clear hW4;obtain ⟨e0, e1, e2, e3⟩ := tok_cells hr4;refine bodyPost_ret (v := .tuple #[.agg #[(.int .i64 0), (.string ⟨#[]⟩), (.int .i64 0), (.int .i64 0)], .bool false]) ?_ rfl ⟨by rw [U HNT, U HOK2]; rfl, by rw [U HNA, U HOK2]; exact (U HM2).below hB4 hml, ((Fr.refl _ W).below (U HB2)).below hB4⟩;clear d0 d1 d2 d3 d4 d5;simp [results, Tryz.results144, go_sem, e0, e1, e2, e3]
    · have hkl' : ¬ (k : Int) < len := by omega
      have hkd : decide ((k : Int) < len) = false := decide_eq_false hkl';have hkd' : decide (k < len) = false := decide_eq_false hkl;by_cases hbig : 18446744073709551615 < decVx g at' (k - at')
      · have HOK2 : Hid (numOk g len at' = false) := by show _ = _; rw [U HOK, show decide (decVx g at' (k - at') ≤ 9007199254740991) = false from decide_eq_false (by omega)]; simp
        go_wp2_with (go_at_call 143; refine (isDigit_any _ _).mono ?_; rintro x w' ⟨rfl, hw⟩; subst w');go_quiet (fail)
        go_wp2_with (first | (
         go_at_call 195
         refine (U HPR hbig nq).mono ?_;rintro x W2 ⟨z, tp, p, rfl, hB2⟩;have hM2 := (U HM1).below hB2 (by omega);have hr2 : W2.heap[W.heap.size]? = some (.cells #[.int .i64 0, .string ⟨#[]⟩, .int .i64 0, .int .i64 0] 40) := (hB2.block W.heap.size (by omega)).trans (U HR1);have m0 := hM2.c0;have m1 := hM2.c1;have d0 : W2.cell? ⟨W.heap.size, 0, none⟩ = some (.int .i64 0) := (by rw [Lib.cell_of_heap hr2]; rfl);have d1 : W2.cell? ⟨W.heap.size, 1, none⟩ = some (.string ⟨#[]⟩) := (by rw [Lib.cell_of_heap hr2]; rfl);have d2 : W2.cell? ⟨W.heap.size, 2, none⟩ = some (.int .i64 0) := (by rw [Lib.cell_of_heap hr2]; rfl);have d3 : W2.cell? ⟨W.heap.size, 3, none⟩ = some (.int .i64 0) := (by rw [Lib.cell_of_heap hr2]; rfl);have d4 := Lib.frozen_of_heap hr2;have d5 : W2.shape? W.heap.size = some (40, 4) := (by simp [World.shape?, hr2]);have HB2 := Hi ((U HB1).trans (hB2.mono (U HB1).size));have HM2 := Hi hM2;have HR2 := Hi hr2;have hz2 := hB2.size;have hix := U HIX W2
         clear hB2 hM2 hr2) | (go_at_call 141; refine (isLetter_any _ _).mono ?_; rintro x w' ⟨rfl, hw⟩; subst w') | (
         go_at_call 194
         refine (take_any M _ ov at' 3 _ _ W2 (U HM2)).mono ?_;rintro x W3 ⟨rfl, hM3, hF3⟩;have hr3 : W3.heap[W.heap.size]? = some (.cells #[.int .i64 0, .string ⟨#[]⟩, .int .i64 0, .int .i64 0] 40) := (hF3.block W.heap.size (by omega) (by omega)).trans (U HR2);clear d0 d1 d2 d3 d4 d5;have d0 : W3.cell? ⟨W.heap.size, 0, none⟩ = some (.int .i64 0) := (by rw [Lib.cell_of_heap hr3]; rfl);have d1 : W3.cell? ⟨W.heap.size, 1, none⟩ = some (.string ⟨#[]⟩) := (by rw [Lib.cell_of_heap hr3]; rfl);have d2 : W3.cell? ⟨W.heap.size, 2, none⟩ = some (.int .i64 0) := (by rw [Lib.cell_of_heap hr3]; rfl);have d3 : W3.cell? ⟨W.heap.size, 3, none⟩ = some (.int .i64 0) := (by rw [Lib.cell_of_heap hr3]; rfl);have d4 := Lib.frozen_of_heap hr3;have d5 : W3.shape? W.heap.size = some (40, 4) := (by simp [World.shape?, hr3]);have HR3 := Hi hr3;have HM3 := Hi hM3;have HF3 := Hi hF3
         clear hr3 hM3 hF3))
        have hB4 := put4_below (W := W2) (Nat.le_refl W.heap.size) (.int .i64 0) (.string ⟨#[]⟩) (.int .i64 0) (.int .i64 0);have hr4 := put4_heap (U HR2) (.int .i64 0) (.string ⟨#[]⟩) (.int .i64 0) (.int .i64 0);obtain ⟨W4, hW4⟩ : ∃ W4, ((((W2.setCell ⟨W.heap.size, 0, none⟩ (.int .i64 0)).setCell ⟨W.heap.size, 1, none⟩ (.string ⟨#[]⟩)).setCell ⟨W.heap.size, 2, none⟩ (.int .i64 0)).setCell ⟨W.heap.size, 3, none⟩ (.int .i64 0)) = W4 := ⟨_, rfl⟩;rw [hW4] at hB4 hr4 ⊢;clear hW4;obtain ⟨e0, e1, e2, e3⟩ := tok_cells hr4;refine bodyPost_ret (v := .tuple #[.agg #[(.int .i64 0), (.string ⟨#[]⟩), (.int .i64 0), (.int .i64 0)], .bool false]) ?_ rfl ⟨by rw [U HNT, U HOK2]; rfl, by rw [U HNA, U HOK2]; exact (U HM2).below hB4 hml, ((Fr.refl _ W).below (U HB2)).below hB4⟩;clear d0 d1 d2 d3 d4 d5;simp [results, Tryz.results144, go_sem, e0, e1, e2, e3]
      obtain ⟨v, hv⟩ : ∃ v, decVx g at' (k - at') = v := ⟨_, rfl⟩;have hnn := U HNN;have hOK := U HOK;rw [hv] at hnn hOK hbig;by_cases hle : v ≤ 9007199254740991
      · have hle1 : decide (v ≤ 9007199254740991) = true := decide_eq_true hle
        have hle2 : decide (9007199254740991 < v) = false := decide_eq_false (by omega);by_cases h48 : g at' = 48
        · have b48 : (g at' == 48) = true := by rw [h48]; rfl
          by_cases hm : at' + 1 < k
          · have hm1 : decide (at' + 1 < k) = true := decide_eq_true hm
            have hm2 : decide ((1 : Int) < (S.size : Int)) = true := decide_eq_true (by omega);have HOK2 : Hid (numOk g len at' = false) := by show _ = _; rw [hOK, b48, hm1]; simp
            clear hle1 hOK;go_wp2_with (go_at_call 143; refine (isDigit_any _ _).mono ?_; rintro x w' ⟨rfl, hw⟩; subst w');go_quiet (fail)
            go_wp2_with (first | (
             go_at_call 195
             refine (U HPO v hv hle nq).mono ?_;rintro x W2 ⟨rfl, hB2⟩;have hM2 := (U HM1).below hB2 (by omega);have hr2 : W2.heap[W.heap.size]? = some (.cells #[.int .i64 0, .string ⟨#[]⟩, .int .i64 0, .int .i64 0] 40) := (hB2.block W.heap.size (by omega)).trans (U HR1);have m0 := hM2.c0;have m1 := hM2.c1;have d0 : W2.cell? ⟨W.heap.size, 0, none⟩ = some (.int .i64 0) := (by rw [Lib.cell_of_heap hr2]; rfl);have d1 : W2.cell? ⟨W.heap.size, 1, none⟩ = some (.string ⟨#[]⟩) := (by rw [Lib.cell_of_heap hr2]; rfl);have d2 : W2.cell? ⟨W.heap.size, 2, none⟩ = some (.int .i64 0) := (by rw [Lib.cell_of_heap hr2]; rfl);have d3 : W2.cell? ⟨W.heap.size, 3, none⟩ = some (.int .i64 0) := (by rw [Lib.cell_of_heap hr2]; rfl);have d4 := Lib.frozen_of_heap hr2;have d5 : W2.shape? W.heap.size = some (40, 4) := (by simp [World.shape?, hr2]);have HB2 := Hi ((U HB1).trans (hB2.mono (U HB1).size));have HM2 := Hi hM2;have HR2 := Hi hr2;have hz2 := hB2.size;have hix := U HIX W2
             clear hB2 hM2 hr2) | (go_at_call 141; refine (isLetter_any _ _).mono ?_; rintro x w' ⟨rfl, hw⟩; subst w') | (
             go_at_call 194
             refine (take_any M _ ov at' 3 _ _ W2 (U HM2)).mono ?_;rintro x W3 ⟨rfl, hM3, hF3⟩;have hr3 : W3.heap[W.heap.size]? = some (.cells #[.int .i64 0, .string ⟨#[]⟩, .int .i64 0, .int .i64 0] 40) := (hF3.block W.heap.size (by omega) (by omega)).trans (U HR2);clear d0 d1 d2 d3 d4 d5;have d0 : W3.cell? ⟨W.heap.size, 0, none⟩ = some (.int .i64 0) := (by rw [Lib.cell_of_heap hr3]; rfl);have d1 : W3.cell? ⟨W.heap.size, 1, none⟩ = some (.string ⟨#[]⟩) := (by rw [Lib.cell_of_heap hr3]; rfl);have d2 : W3.cell? ⟨W.heap.size, 2, none⟩ = some (.int .i64 0) := (by rw [Lib.cell_of_heap hr3]; rfl);have d3 : W3.cell? ⟨W.heap.size, 3, none⟩ = some (.int .i64 0) := (by rw [Lib.cell_of_heap hr3]; rfl);have d4 := Lib.frozen_of_heap hr3;have d5 : W3.shape? W.heap.size = some (40, 4) := (by simp [World.shape?, hr3]);have HR3 := Hi hr3;have HM3 := Hi hM3;have HF3 := Hi hF3
             clear hr3 hM3 hF3))
            have hB4 := put4_below (W := W2) (Nat.le_refl W.heap.size) (.int .i64 0) (.string ⟨#[]⟩) (.int .i64 0) (.int .i64 0);have hr4 := put4_heap (U HR2) (.int .i64 0) (.string ⟨#[]⟩) (.int .i64 0) (.int .i64 0);obtain ⟨W4, hW4⟩ : ∃ W4, ((((W2.setCell ⟨W.heap.size, 0, none⟩ (.int .i64 0)).setCell ⟨W.heap.size, 1, none⟩ (.string ⟨#[]⟩)).setCell ⟨W.heap.size, 2, none⟩ (.int .i64 0)).setCell ⟨W.heap.size, 3, none⟩ (.int .i64 0)) = W4 := ⟨_, rfl⟩;rw [hW4] at hB4 hr4 ⊢;clear hW4;obtain ⟨e0, e1, e2, e3⟩ := tok_cells hr4;refine bodyPost_ret (v := .tuple #[.agg #[(.int .i64 0), (.string ⟨#[]⟩), (.int .i64 0), (.int .i64 0)], .bool false]) ?_ rfl ⟨by rw [U HNT, U HOK2]; rfl, by rw [U HNA, U HOK2]; exact (U HM2).below hB4 hml, ((Fr.refl _ W).below (U HB2)).below hB4⟩;clear d0 d1 d2 d3 d4 d5;simp [results, Tryz.results144, go_sem, e0, e1, e2, e3]
          · have hm1 : decide (at' + 1 < k) = false := decide_eq_false hm
            have hm2 : decide ((1 : Int) < (S.size : Int)) = false := decide_eq_false (by omega);have HOK2 : Hid (numOk g len at' = true) := by show _ = _; rw [hOK, hkd', hle1, b48, hm1]; simp
            clear hle1 hOK;go_wp2_with (go_at_call 143; refine (isDigit_any _ _).mono ?_; rintro x w' ⟨rfl, hw⟩; subst w');go_quiet (fail)
            go_wp2_with (first | (
             go_at_call 195
             refine (U HPO v hv hle nq).mono ?_;rintro x W2 ⟨rfl, hB2⟩;have hM2 := (U HM1).below hB2 (by omega);have hr2 : W2.heap[W.heap.size]? = some (.cells #[.int .i64 0, .string ⟨#[]⟩, .int .i64 0, .int .i64 0] 40) := (hB2.block W.heap.size (by omega)).trans (U HR1);have m0 := hM2.c0;have m1 := hM2.c1;have d0 : W2.cell? ⟨W.heap.size, 0, none⟩ = some (.int .i64 0) := (by rw [Lib.cell_of_heap hr2]; rfl);have d1 : W2.cell? ⟨W.heap.size, 1, none⟩ = some (.string ⟨#[]⟩) := (by rw [Lib.cell_of_heap hr2]; rfl);have d2 : W2.cell? ⟨W.heap.size, 2, none⟩ = some (.int .i64 0) := (by rw [Lib.cell_of_heap hr2]; rfl);have d3 : W2.cell? ⟨W.heap.size, 3, none⟩ = some (.int .i64 0) := (by rw [Lib.cell_of_heap hr2]; rfl);have d4 := Lib.frozen_of_heap hr2;have d5 : W2.shape? W.heap.size = some (40, 4) := (by simp [World.shape?, hr2]);have HB2 := Hi ((U HB1).trans (hB2.mono (U HB1).size));have HM2 := Hi hM2;have HR2 := Hi hr2;have hz2 := hB2.size;have hix := U HIX W2
             clear hB2 hM2 hr2) | (go_at_call 141; refine (isLetter_any _ _).mono ?_; rintro x w' ⟨rfl, hw⟩; subst w') | (
             go_at_call 194
             refine (take_any M _ ov at' 3 _ _ W2 (U HM2)).mono ?_;rintro x W3 ⟨rfl, hM3, hF3⟩;have hr3 : W3.heap[W.heap.size]? = some (.cells #[.int .i64 0, .string ⟨#[]⟩, .int .i64 0, .int .i64 0] 40) := (hF3.block W.heap.size (by omega) (by omega)).trans (U HR2);clear d0 d1 d2 d3 d4 d5;have d0 : W3.cell? ⟨W.heap.size, 0, none⟩ = some (.int .i64 0) := (by rw [Lib.cell_of_heap hr3]; rfl);have d1 : W3.cell? ⟨W.heap.size, 1, none⟩ = some (.string ⟨#[]⟩) := (by rw [Lib.cell_of_heap hr3]; rfl);have d2 : W3.cell? ⟨W.heap.size, 2, none⟩ = some (.int .i64 0) := (by rw [Lib.cell_of_heap hr3]; rfl);have d3 : W3.cell? ⟨W.heap.size, 3, none⟩ = some (.int .i64 0) := (by rw [Lib.cell_of_heap hr3]; rfl);have d4 := Lib.frozen_of_heap hr3;have d5 : W3.shape? W.heap.size = some (40, 4) := (by simp [World.shape?, hr3]);have HR3 := Hi hr3;have HM3 := Hi hM3;have HF3 := Hi hF3
             clear hr3 hM3 hF3))
            have hB4 := put4_below (W := W3) (Nat.le_refl W.heap.size) (.int .i64 3) (.string S) (.int .i64 (at' : Int)) (.int .i64 (k : Int));have hr4 := put4_heap (U HR3) (.int .i64 3) (.string S) (.int .i64 (at' : Int)) (.int .i64 (k : Int));obtain ⟨W4, hW4⟩ : ∃ W4, ((((W3.setCell ⟨W.heap.size, 0, none⟩ (.int .i64 3)).setCell ⟨W.heap.size, 1, none⟩ (.string S)).setCell ⟨W.heap.size, 2, none⟩ (.int .i64 (at' : Int))).setCell ⟨W.heap.size, 3, none⟩ (.int .i64 (k : Int))) = W4 := ⟨_, rfl⟩;rw [hW4] at hB4 hr4 ⊢;clear hW4;obtain ⟨e0, e1, e2, e3⟩ := tok_cells hr4;refine bodyPost_ret (v := .tuple #[.agg #[(.int .i64 3), (.string S), (.int .i64 (at' : Int)), (.int .i64 (k : Int))], .bool true]) ?_ rfl ⟨by rw [U HNT, U HOK2]; rfl, by rw [U HNA, U HOK2]; exact (U HM3).below hB4 hml, (((Fr.refl _ W).below (U HB2)).trans (U HF3)).below hB4⟩;clear d0 d1 d2 d3 d4 d5;simp [results, Tryz.results144, go_sem, e0, e1, e2, e3]
        · have b48 : (g at' == 48) = false := beq_eq_false_iff_ne.2 h48
          have HOK2 : Hid (numOk g len at' = true) := by show _ = _; rw [hOK, hkd', hle1, b48]; simp
          clear hle1 hOK;go_wp2_with (go_at_call 143; refine (isDigit_any _ _).mono ?_; rintro x w' ⟨rfl, hw⟩; subst w');go_quiet (fail)
          go_wp2_with (first | (
           go_at_call 195
           refine (U HPO v hv hle nq).mono ?_;rintro x W2 ⟨rfl, hB2⟩;have hM2 := (U HM1).below hB2 (by omega);have hr2 : W2.heap[W.heap.size]? = some (.cells #[.int .i64 0, .string ⟨#[]⟩, .int .i64 0, .int .i64 0] 40) := (hB2.block W.heap.size (by omega)).trans (U HR1);have m0 := hM2.c0;have m1 := hM2.c1;have d0 : W2.cell? ⟨W.heap.size, 0, none⟩ = some (.int .i64 0) := (by rw [Lib.cell_of_heap hr2]; rfl);have d1 : W2.cell? ⟨W.heap.size, 1, none⟩ = some (.string ⟨#[]⟩) := (by rw [Lib.cell_of_heap hr2]; rfl);have d2 : W2.cell? ⟨W.heap.size, 2, none⟩ = some (.int .i64 0) := (by rw [Lib.cell_of_heap hr2]; rfl);have d3 : W2.cell? ⟨W.heap.size, 3, none⟩ = some (.int .i64 0) := (by rw [Lib.cell_of_heap hr2]; rfl);have d4 := Lib.frozen_of_heap hr2;have d5 : W2.shape? W.heap.size = some (40, 4) := (by simp [World.shape?, hr2]);have HB2 := Hi ((U HB1).trans (hB2.mono (U HB1).size));have HM2 := Hi hM2;have HR2 := Hi hr2;have hz2 := hB2.size;have hix := U HIX W2
           clear hB2 hM2 hr2) | (go_at_call 141; refine (isLetter_any _ _).mono ?_; rintro x w' ⟨rfl, hw⟩; subst w') | (
           go_at_call 194
           refine (take_any M _ ov at' 3 _ _ W2 (U HM2)).mono ?_;rintro x W3 ⟨rfl, hM3, hF3⟩;have hr3 : W3.heap[W.heap.size]? = some (.cells #[.int .i64 0, .string ⟨#[]⟩, .int .i64 0, .int .i64 0] 40) := (hF3.block W.heap.size (by omega) (by omega)).trans (U HR2);clear d0 d1 d2 d3 d4 d5;have d0 : W3.cell? ⟨W.heap.size, 0, none⟩ = some (.int .i64 0) := (by rw [Lib.cell_of_heap hr3]; rfl);have d1 : W3.cell? ⟨W.heap.size, 1, none⟩ = some (.string ⟨#[]⟩) := (by rw [Lib.cell_of_heap hr3]; rfl);have d2 : W3.cell? ⟨W.heap.size, 2, none⟩ = some (.int .i64 0) := (by rw [Lib.cell_of_heap hr3]; rfl);have d3 : W3.cell? ⟨W.heap.size, 3, none⟩ = some (.int .i64 0) := (by rw [Lib.cell_of_heap hr3]; rfl);have d4 := Lib.frozen_of_heap hr3;have d5 : W3.shape? W.heap.size = some (40, 4) := (by simp [World.shape?, hr3]);have HR3 := Hi hr3;have HM3 := Hi hM3;have HF3 := Hi hF3
           clear hr3 hM3 hF3))
          have hB4 := put4_below (W := W3) (Nat.le_refl W.heap.size) (.int .i64 3) (.string S) (.int .i64 (at' : Int)) (.int .i64 (k : Int));have hr4 := put4_heap (U HR3) (.int .i64 3) (.string S) (.int .i64 (at' : Int)) (.int .i64 (k : Int));obtain ⟨W4, hW4⟩ : ∃ W4, ((((W3.setCell ⟨W.heap.size, 0, none⟩ (.int .i64 3)).setCell ⟨W.heap.size, 1, none⟩ (.string S)).setCell ⟨W.heap.size, 2, none⟩ (.int .i64 (at' : Int))).setCell ⟨W.heap.size, 3, none⟩ (.int .i64 (k : Int))) = W4 := ⟨_, rfl⟩;rw [hW4] at hB4 hr4 ⊢;clear hW4;obtain ⟨e0, e1, e2, e3⟩ := tok_cells hr4;refine bodyPost_ret (v := .tuple #[.agg #[(.int .i64 3), (.string S), (.int .i64 (at' : Int)), (.int .i64 (k : Int))], .bool true]) ?_ rfl ⟨by rw [U HNT, U HOK2]; rfl, by rw [U HNA, U HOK2]; exact (U HM3).below hB4 hml, (((Fr.refl _ W).below (U HB2)).trans (U HF3)).below hB4⟩;clear d0 d1 d2 d3 d4 d5;simp [results, Tryz.results144, go_sem, e0, e1, e2, e3]
      · have hle1 : decide (v ≤ 9007199254740991) = false := decide_eq_false hle
        have hle2 : decide (9007199254740991 < v) = true := decide_eq_true (by omega);have hmid : v ≤ 18446744073709551615 := by omega
        have HOK2 : Hid (numOk g len at' = false) := by show _ = _; rw [hOK, hle1]; simp
        clear hle1 hOK;go_wp2_with (go_at_call 143; refine (isDigit_any _ _).mono ?_; rintro x w' ⟨rfl, hw⟩; subst w');go_quiet (fail)
        go_wp2_with (first | (
         go_at_call 195
         refine (U HPM v hv hmid nq).mono ?_;rintro x W2 ⟨rfl, hB2⟩;have hM2 := (U HM1).below hB2 (by omega);have hr2 : W2.heap[W.heap.size]? = some (.cells #[.int .i64 0, .string ⟨#[]⟩, .int .i64 0, .int .i64 0] 40) := (hB2.block W.heap.size (by omega)).trans (U HR1);have m0 := hM2.c0;have m1 := hM2.c1;have d0 : W2.cell? ⟨W.heap.size, 0, none⟩ = some (.int .i64 0) := (by rw [Lib.cell_of_heap hr2]; rfl);have d1 : W2.cell? ⟨W.heap.size, 1, none⟩ = some (.string ⟨#[]⟩) := (by rw [Lib.cell_of_heap hr2]; rfl);have d2 : W2.cell? ⟨W.heap.size, 2, none⟩ = some (.int .i64 0) := (by rw [Lib.cell_of_heap hr2]; rfl);have d3 : W2.cell? ⟨W.heap.size, 3, none⟩ = some (.int .i64 0) := (by rw [Lib.cell_of_heap hr2]; rfl);have d4 := Lib.frozen_of_heap hr2;have d5 : W2.shape? W.heap.size = some (40, 4) := (by simp [World.shape?, hr2]);have HB2 := Hi ((U HB1).trans (hB2.mono (U HB1).size));have HM2 := Hi hM2;have HR2 := Hi hr2;have hz2 := hB2.size;have hix := U HIX W2
         clear hB2 hM2 hr2) | (go_at_call 141; refine (isLetter_any _ _).mono ?_; rintro x w' ⟨rfl, hw⟩; subst w') | (
         go_at_call 194
         refine (take_any M _ ov at' 3 _ _ W2 (U HM2)).mono ?_;rintro x W3 ⟨rfl, hM3, hF3⟩;have hr3 : W3.heap[W.heap.size]? = some (.cells #[.int .i64 0, .string ⟨#[]⟩, .int .i64 0, .int .i64 0] 40) := (hF3.block W.heap.size (by omega) (by omega)).trans (U HR2);clear d0 d1 d2 d3 d4 d5;have d0 : W3.cell? ⟨W.heap.size, 0, none⟩ = some (.int .i64 0) := (by rw [Lib.cell_of_heap hr3]; rfl);have d1 : W3.cell? ⟨W.heap.size, 1, none⟩ = some (.string ⟨#[]⟩) := (by rw [Lib.cell_of_heap hr3]; rfl);have d2 : W3.cell? ⟨W.heap.size, 2, none⟩ = some (.int .i64 0) := (by rw [Lib.cell_of_heap hr3]; rfl);have d3 : W3.cell? ⟨W.heap.size, 3, none⟩ = some (.int .i64 0) := (by rw [Lib.cell_of_heap hr3]; rfl);have d4 := Lib.frozen_of_heap hr3;have d5 : W3.shape? W.heap.size = some (40, 4) := (by simp [World.shape?, hr3]);have HR3 := Hi hr3;have HM3 := Hi hM3;have HF3 := Hi hF3
         clear hr3 hM3 hF3))
        have hB4 := put4_below (W := W2) (Nat.le_refl W.heap.size) (.int .i64 0) (.string ⟨#[]⟩) (.int .i64 0) (.int .i64 0);have hr4 := put4_heap (U HR2) (.int .i64 0) (.string ⟨#[]⟩) (.int .i64 0) (.int .i64 0);obtain ⟨W4, hW4⟩ : ∃ W4, ((((W2.setCell ⟨W.heap.size, 0, none⟩ (.int .i64 0)).setCell ⟨W.heap.size, 1, none⟩ (.string ⟨#[]⟩)).setCell ⟨W.heap.size, 2, none⟩ (.int .i64 0)).setCell ⟨W.heap.size, 3, none⟩ (.int .i64 0)) = W4 := ⟨_, rfl⟩;rw [hW4] at hB4 hr4 ⊢;clear hW4;obtain ⟨e0, e1, e2, e3⟩ := tok_cells hr4;refine bodyPost_ret (v := .tuple #[.agg #[(.int .i64 0), (.string ⟨#[]⟩), (.int .i64 0), (.int .i64 0)], .bool false]) ?_ rfl ⟨by rw [U HNT, U HOK2]; rfl, by rw [U HNA, U HOK2]; exact (U HM2).below hB4 hml, ((Fr.refl _ W).below (U HB2)).below hB4⟩;clear d0 d1 d2 d3 d4 d5;simp [results, Tryz.results144, go_sem, e0, e1, e2, e3]
end
section
open Go.RowKit Go.Shelf
def hexS (acc : Nat) : List UInt8 → Option Nat
 | [] => some acc
 | c :: cs => if hexB (c.toNat : Int) = true then hexS (acc * 16 + (hexD (c.toNat : Int)).toNat) cs else none
def hexR : Option Nat → Value
 | some n => .tuple #[.int .u64 n, .nilIface]
 | none => .tuple #[.int .u64 0, .iface 160 (.int .i64 2)]
theorem low_all : ∀ n : Fin 256, ¬ (48 ≤ n.val ∧ n.val ≤ 57) → (hexB (n.val : Int) = decide (97 ≤ bits .or .u8 (n.val : Int) 32 ∧ bits .or .u8 (n.val : Int) 32 ≤ 102)) ∧ (hexB (n.val : Int) = true → hexD (n.val : Int) = bits .or .u8 (n.val : Int) 32 - 87) := by decide +kernel
theorem low_hex {n : Nat} (h : n < 256) (hd : ¬ (48 ≤ n ∧ n ≤ 57)) : (hexB (n : Int) = decide (97 ≤ bits .or .u8 (n : Int) 32 ∧ bits .or .u8 (n : Int) 32 ≤ 102)) ∧ (hexB (n : Int) = true → hexD (n : Int) = bits .or .u8 (n : Int) 32 - 87) := low_all ⟨n, h⟩ hd
theorem lower_any (c : Int) (w : World) : Calls Tryz.prog 233 #[.int .u8 c] w fun e w' => e = .returned (.int .u8 (bits .or .u8 c 32)) ∧ w' = w := by
 go_enter Tryz.func233, Tryz.ntmps233;go_wp2;go_ret;exact ⟨rfl, rfl⟩
theorem hexP_any (t : ByteArray) (hne : t.size ≠ 0) (hmax : t.size ≤ 6) (w : World) :
 Calls Tryz.prog 217 #[.string t, .int .i64 16, .int .i64 32] w fun e w' => e = .returned (hexR (hexS 0 t.data.toList)) ∧ w' = Lib.bytesWorld w 5 t := by
 have hemp : t.toList.isEmpty = false := by
  rw [← decide_eq_emptyBytes];exact decide_eq_false (fun h => hne (by rw [h]; rfl))
 have hcv := Lib.run_convert_string_bytes (P := Tryz.prog) w 9 22 5 t (u := .string) Tryz.underlying9 Tryz.underlying22 Tryz.underlying5;have hB : ∀ j, j < t.size → (Lib.bytesWorld w 5 t).cell? ⟨w.heap.size, j, none⟩ = some (.int .u8 (t.data.toList.getD j 0).toNat) := fun j hj => Lib.bytesWorld_cell w 5 t j hj
 obtain ⟨W1, hW1⟩ : ∃ W1, W1 = Lib.bytesWorld w 5 t := ⟨_, rfl⟩;rw [← hW1] at hcv hB ⊢;clear hW1;obtain ⟨bs, hL⟩ : ∃ bs, bs = t.data.toList := ⟨_, rfl⟩;have hLn : bs.length = t.size := by rw [hL, Lib.size_eq]
 rw [← hL] at hB ⊢;clear hL
 have hmv : IntKind.u64.wrap (IntKind.u64.wrap 4294967296 - 1) = 4294967295 := by
  rw [IntKind.wrap_u64, IntKind.wrap_u64];decide
 go_enter Tryz.func217, Tryz.ntmps217;go_wp2
 go_loop [12, 13, 101] (fun vu vn vi => ∃ (k acc : Nat) (a : Int), vu = .bool false ∧ vn = .int .u64 a ∧ vi = .int .i64 k ∧ k ≤ t.size ∧ Hid (a = (acc : Int) ∧ acc < 16 ^ k ∧ hexS 0 bs = hexS acc (bs.drop k)))
  (fun _ _ vi => t.size - (intOf vi).toNat)
 case atStart => exact ⟨0, 0, 0, rfl, rfl, rfl, by omega, rfl, by decide, rfl⟩
 case round =>
  obtain ⟨k, acc, a, rfl, rfl, rfl, hk, hh⟩ := hrel;obtain ⟨ha, hacc, hdec⟩ := hh.out;clear hh;have hp6 : 16 ^ k ≤ 16 ^ 6 := Nat.pow_le_pow_right (by decide) (by omega);have hp6' : (16 : Nat) ^ 6 = 16777216 := by decide
  rw [hp6'] at hp6;have a0 : 0 ≤ a := by omega
  have a1 : a ≤ 16777215 := by omega
  by_cases hkn : k < t.size
  · have hc := hB k hkn
    have hdrop : bs.drop k = bs[k]'(by omega) :: bs.drop (k + 1) := List.drop_eq_getElem_cons (by omega);have hget : bs.getD k 0 = bs[k]'(by omega) := by simp [List.getD, List.getElem?_eq_getElem (show k < bs.length by omega)]
    rw [hdrop] at hdec;rw [hget] at hc;generalize bs[k]'(by omega) = c at hc hdec;have hc256 : c.toNat < 256 := c.toNat_lt;have hpk : (16 : Nat) ^ (k + 1) = 16 ^ k * 16 := Nat.pow_succ _ _;have HPK := Hi hpk;clear hB hdrop hget hpk;by_cases hdig : 48 ≤ c.toNat ∧ c.toNat ≤ 57
    · obtain ⟨hd0, hd1⟩ := hdig
      have hD : hexD (c.toNat : Int) = (c.toNat : Int) - 48 := by unfold hexD; rw [if_pos (by omega)]
      have hb : hexB (c.toNat : Int) = true := by unfold hexB; rw [hD]; simp; omega
      have hF : hexS acc (c :: bs.drop (k + 1)) = hexS (acc * 16 + (c.toNat - 48)) (bs.drop (k + 1)) := by
       simp only [hexS, hb, if_true, hD];congr 1
       omega
      have HN : Hid (a * 16 + ((c.toNat : Int) - 48) = ((acc * 16 + (c.toNat - 48) : Nat) : Int) ∧ acc * 16 + (c.toNat - 48) < 16 ^ (k + 1) ∧ hexS 0 bs = hexS (acc * 16 + (c.toNat - 48)) (bs.drop (k + 1))) := Lib.hid ⟨by omega, by rw [U HPK]; omega, hdec.trans hF⟩;clear hacc hF hdec ha hD hb hp6 hp6' HPK;go_wp2;refine ⟨⟨k + 1, acc * 16 + (c.toNat - 48), a * 16 + ((c.toNat : Int) - 48), rfl, (by first | rfl | (congr 1; omega)), (by first | rfl | (congr 1; omega)), by omega, HN⟩, by simp [intOf]; omega⟩
    · have hv0 := bits_lo_u8 .or (c.toNat : Int) 32
      have hv1 := bits_hi_u8 .or (c.toNat : Int) 32;have hu0 := bits_lo_u8 .or 95 32;have hu1 := bits_hi_u8 .or 95 32;obtain ⟨hx1, hx2⟩ := low_hex hc256 hdig;by_cases hb : hexB (c.toNat : Int) = true
      · have hD := hx2 hb
        rw [hb] at hx1;have hx3 := of_decide_eq_true hx1.symm;obtain ⟨v, hv⟩ : ∃ v, bits .or .u8 (c.toNat : Int) 32 = v := ⟨_, rfl⟩;have HLO : Hid (∀ w', Calls Tryz.prog 233 #[.int .u8 (c.toNat : Int)] w' fun e w'' => e = .returned (.int .u8 v) ∧ w'' = w') := fun w' => by rw [← hv]; exact lower_any _ _
        rw [hv] at hv0 hv1 hx3 hD;obtain ⟨hx3, hx4⟩ := hx3
        have hF : hexS acc (c :: bs.drop (k + 1)) = hexS (acc * 16 + (v - 87).toNat) (bs.drop (k + 1)) := by
         simp only [hexS, hb, if_true, hD]
        have HN : Hid (a * 16 + (v - 87) = ((acc * 16 + (v - 87).toNat : Nat) : Int) ∧ acc * 16 + (v - 87).toNat < 16 ^ (k + 1) ∧ hexS 0 bs = hexS (acc * 16 + (v - 87).toNat) (bs.drop (k + 1))) := Lib.hid ⟨by omega, by rw [U HPK]; omega, hdec.trans hF⟩
        have h58 : (57 : Int) < c.toNat := by
         rcases Nat.lt_or_ge 57 c.toNat with h | h
         · omega
         · have e1 : hexD (c.toNat : Int) = -1 := by unfold hexD; rw [if_neg (by omega), if_neg (by omega), if_neg (by omega)]
           omega
        have h95 : ((c.toNat : Int) == 95) = false := beq_eq_false_iff_ne.2 (fun e => by rw [e] at hv; have : bits .or .u8 95 32 = 127 := by decide
                                                                                         omega)
        clear hacc hF hdec ha hD hb hp6 hp6' HPK hv hx1 hx2 hdig;go_wp2_with (go_at_call 233; refine (U HLO _).mono ?_; rintro e w' ⟨rfl, hw⟩; subst w');refine ⟨⟨k + 1, acc * 16 + (v - 87).toNat, a * 16 + (v - 87), rfl, (by first | rfl | (congr 1; omega)), (by first | rfl | (congr 1; omega)), by omega, HN⟩, by simp [intOf]; omega⟩
      · have hF : hexS acc (c :: bs.drop (k + 1)) = none := by simp only [hexS, if_neg hb]
        rw [hF] at hdec;have hb0 : hexB (c.toNat : Int) = false := by simpa using hb
        rw [hb0] at hx1;have hx3 := of_decide_eq_false hx1.symm;have HDEC := Hi hdec;clear hacc hF ha hdec hx1 hx2 hb hb0 hp6 hp6' HPK;obtain ⟨v, hv⟩ : ∃ v, bits .or .u8 (c.toNat : Int) 32 = v := ⟨_, rfl⟩;have HLO : Hid (∀ w', Calls Tryz.prog 233 #[.int .u8 (c.toNat : Int)] w' fun e w'' => e = .returned (.int .u8 v) ∧ w'' = w') := fun w' => by rw [← hv]; exact lower_any _ _
        rw [hv] at hv0 hv1 hx3;by_cases e95 : (c.toNat : Int) = 95
        · rw [e95] at hc HLO
          have hv127 : v = 127 := by rw [← hv, e95]; decide
          subst hv127;clear hv hx3 hu0 hu1;go_wp2_with (go_at_call 233; refine (U HLO _).mono ?_; rintro e w' ⟨rfl, hw⟩; subst w')
          all_goals go_ret2
          all_goals exact ⟨by rw [U HDEC]; rfl, rfl⟩
        have h95 : ((c.toNat : Int) == 95) = false := beq_eq_false_iff_ne.2 e95;clear hv;by_cases h97 : 97 ≤ v
        · by_cases h122 : v ≤ 122
          · have h103 : 103 ≤ v := by omega
            clear hx3;go_wp2_with (go_at_call 233; refine (U HLO _).mono ?_; rintro e w' ⟨rfl, hw⟩; subst w')
            all_goals go_ret2
            all_goals exact ⟨by rw [U HDEC]; rfl, rfl⟩
          · clear hx3
            go_wp2_with (go_at_call 233; refine (U HLO _).mono ?_; rintro e w' ⟨rfl, hw⟩; subst w')
            all_goals go_ret2
            all_goals exact ⟨by rw [U HDEC]; rfl, rfl⟩
        · clear hx3
          go_wp2_with (go_at_call 233; refine (U HLO _).mono ?_; rintro e w' ⟨rfl, hw⟩; subst w')
          all_goals go_ret2
          all_goals exact ⟨by rw [U HDEC]; rfl, rfl⟩
  · have hkk : k = t.size := by omega
    subst hkk;have hF : hexS acc (bs.drop t.size) = some acc := by rw [List.drop_eq_nil_of_le (by omega)]; rfl
    rw [hF] at hdec;subst ha;have HDEC := Hi hdec;clear hacc hF a0 a1 hdec hp6 hp6';go_wp2;go_ret2
    exact ⟨by rw [U HDEC]; rfl, rfl⟩
def brc (g : Nat → Int) (len : Nat) : Nat := stopI (fun c => c != 125) g len 0
def brcI (g : Nat → Int) (len : Nat) : Int := if brc g len < len then (brc g len : Int) else -1
theorem u8_inj {x : Int} (h : 0 ≤ x ∧ x ≤ 255) (e : UInt8.ofNat x.toNat = (125 : Int).toNat.toUInt8) : x = 125 := by
 have h1 := congrArg UInt8.toNat e;rw [UInt8.toNat_ofNat'] at h1;have h2 : ((125 : Int).toNat.toUInt8).toNat = 125 := by decide
 rw [h2] at h1;omega
theorem idx_brc {g : Nat → Int} (hg : ∀ j, 0 ≤ g j ∧ g j ≤ 255) (len : Nat) : Lib.indexByte (Lib.bytesOf (upto g len)) (125 : Int).toNat.toUInt8 = brcI g len := by
 obtain ⟨s1, s2, s3, s4⟩ := stopI_spec (p := fun c => c != 125) (g := g) (len := len) (i := 0) (Nat.zero_le _)
 have hget : ∀ k, k < len → (Lib.bytesOf (upto g len))[k]? = some (UInt8.ofNat (g k).toNat) := fun k hk => by
  simp [Lib.bytesOf, upto, hk]
 have hlen : (Lib.bytesOf (upto g len)).length = len := by simp [Lib.bytesOf, upto]
 have hge := Lib.indexByte_ge (Lib.bytesOf (upto g len)) (125 : Int).toNat.toUInt8;unfold brcI;rcases Int.lt_or_le (Lib.indexByte (Lib.bytesOf (upto g len)) (125 : Int).toNat.toUInt8) 0 with h | h
 · have e : Lib.indexByte (Lib.bytesOf (upto g len)) (125 : Int).toNat.toUInt8 = -1 := by omega
   have hn := Lib.indexByte_none e;by_cases hb : brc g len < len
   · exfalso
     have h4 : (g (brc g len) != 125) = false := by
      rcases s4 with h4 | h4
      · exact absurd h4 (Nat.ne_of_lt hb)
      · exact h4
     have h5 : g (brc g len) = 125 := by simpa using h4
     apply hn (brc g len)
     rw [hget _ hb, h5]
   · rw [if_neg hb, e]
 · obtain ⟨o, ho⟩ : ∃ o : Nat, Lib.indexByte (Lib.bytesOf (upto g len)) (125 : Int).toNat.toUInt8 = o := ⟨_, (Int.toNat_of_nonneg h).symm⟩
   obtain ⟨h1, h2⟩ := Lib.indexByte_some ho
   have hol : o < len := by
    have := (List.getElem?_eq_some_iff.1 h1).1;omega
   rw [hget o hol] at h1;have h3 : g o = 125 := u8_inj (hg o) (by injection h1)
   have h6 : brc g len = o := by
    rcases Nat.lt_trichotomy (brc g len) o with hlt | heq | hgt
    · exfalso
      have h4 : (g (brc g len) != 125) = false := by
       rcases s4 with h4 | h4
       · exact absurd h4 (Nat.ne_of_lt (Nat.lt_trans hlt hol))
       · exact h4
      have h5 : g (brc g len) = 125 := by simpa using h4
      apply h2 (brc g len) hlt
      rw [hget _ (Nat.lt_trans hlt hol), h5]
    · exact heq
    · have := s3 o (Nat.zero_le _) hgt
      rw [h3] at this;exact absurd this (by decide)
   rw [ho, h6, if_pos hol]
theorem indexByte_any (c : Nat) (a : Option Addr) (len cap : Nat) (g : Nat → Int) (hg : ∀ j, 0 ≤ g j ∧ g j ≤ 255) (W : World) (hS : Sl W c (.slice a len cap) len g) (hp : 0 < len) :
 Calls Tryz.prog 239 #[.slice a len cap, .int .u8 125] W fun e W' => e = .returned (.int .i64 (brcI g len)) ∧ W' = W := by
 obtain ⟨off, rfl, h1, h2, hcs⟩ := U (sl_cells hS) hp;have hI := idx_brc hg len;have hr := fun cv => Lib.run_indexByteSlice (P := Tryz.prog) (w := W) c off len cap (upto g len) (by simp [upto]) (fun i hi => by rw [hcs i hi]; simp [upto, hi]) cv
 have hr := hr 125;rw [hI] at hr;clear hI hcs hS;go_enter Tryz.func239, Tryz.ntmps239;go_wp2;rw [run_callFunc_extern Tryz.func259 (by kernel_rfl) (by kernel_rfl) (by kernel_rfl) (e := Extern.BytealgIndexByte.indexByte) (by kernel_rfl), hr];simp only [Result.andThen];rw [Oper.upon_value];go_wp2;go_ret;exact ⟨rfl, rfl⟩
theorem validRune_any (r : Int) (w : World) : Calls Tryz.prog 240 #[.int .i32 r] w fun e w' => e = .returned (.bool (decide (0 ≤ r) && alw r)) ∧ w' = w := by
 go_enter Tryz.func240, Tryz.ntmps240;by_cases h0 : 0 ≤ r
 · by_cases h1 : r < 55296
   · go_wp2
     go_ret;exact ⟨ret_bool (by simp [alw, h1, h0]), rfl⟩
   · by_cases h2 : 57343 < r
     · by_cases h3 : r ≤ 1114111
       · go_wp2
         go_ret;exact ⟨ret_bool (by simp [alw, h1, h2, h0, h3] <;> omega), rfl⟩
       · go_wp2
         go_ret;exact ⟨ret_bool (by simp [alw, h1, h2, h0, h3] <;> omega), rfl⟩
     · go_wp2
       go_ret;exact ⟨ret_bool (by simp [alw, h1, h2, h0] <;> omega), rfl⟩
 · by_cases h2 : 57343 < r
   · omega
   · go_wp2
     go_ret
     exact ⟨ret_bool (by have h : ¬ 0 ≤ r := by omega
                         rw [decide_eq_false h, Bool.false_and]), rfl⟩
theorem ofNat_inj {x y : Int} (hx : 0 ≤ x ∧ x ≤ 255) (hy : 0 ≤ y ∧ y ≤ 255) (e : UInt8.ofNat x.toNat = UInt8.ofNat y.toNat) : x = y := by
 have h1 := congrArg UInt8.toNat e;rw [UInt8.toNat_ofNat', UInt8.toNat_ofNat'] at h1;omega
theorem hpB_iff {g g2 : Nat → Int} {len l2 : Nat} (hg : ∀ j, 0 ≤ g j ∧ g j ≤ 255) (hg2 : ∀ j, 0 ≤ g2 j ∧ g2 j ≤ 255) : hpB g len g2 l2 = true ↔ l2 ≤ len ∧ ∀ j, j < l2 → g j = g2 j := by
 unfold hpB;rw [Bool.and_eq_true, decide_eq_true_eq, beq_iff_eq, Lib.strOfNums_toList, Lib.strOfNums_toList];refine and_congr_right fun _ => ⟨fun e j hj => ?_, fun h => ?_⟩
 · have e1 := congrArg (fun l : List UInt8 => l[j]?) e
   simp only [Lib.bytesOf, upto, List.map_map, List.getElem?_map, List.getElem?_range hj, Option.map_some, Function.comp_apply, Option.some.injEq] at e1;exact ofNat_inj (hg j) (hg2 j) e1
 · congr 1
   unfold upto;exact List.map_congr_left fun j hj => h j (List.mem_range.1 hj)
theorem hpB_false {g g2 : Nat → Int} {len l2 : Nat} (hg : ∀ j, 0 ≤ g j ∧ g j ≤ 255) (hg2 : ∀ j, 0 ≤ g2 j ∧ g2 j ≤ 255) (h : ¬ (l2 ≤ len ∧ ∀ j, j < l2 → g j = g2 j)) : hpB g len g2 l2 = false := by
 cases e : hpB g len g2 l2 with
 | false => rfl
 | true => exact absurd ((hpB_iff hg hg2).1 e) h
def gU : Nat → Int
 | 0 => 92
 | 1 => 117
 | 2 => 123
 | _ => 0
theorem gU_bd (j : Nat) : 0 ≤ gU j ∧ gU j ≤ 255 := by
 match j with
 | 0 => decide
 | 1 => decide
 | 2 => decide
 | _ + 3 => exact ⟨Int.le_refl _, by simp [gU]⟩
theorem hexB_125 : hexB 125 = false := by decide
theorem hexS_list (g : Nat → Int) (hg : ∀ j, 0 ≤ g j ∧ g j ≤ 255) (i : Nat) : ∀ (n k : Nat) (acc : Nat), (acc : Int) = hexV g i k →
 (∀ j, j < k → hexB (g (i + j)) = true) →
 hexS acc (Lib.bytesOf (upto (fun j => g (i + (k + j))) n)) = if (∀ j, j < k + n → hexB (g (i + j)) = true) then some (hexV g i (k + n)).toNat else none
 | 0, k, acc, ha, hk => by
   rw [if_pos (by simpa using hk)];show some acc = _
   rw [Nat.add_zero, ← ha, Int.toNat_natCast]
 | n + 1, k, acc, ha, hk => by
   have e : upto (fun j => g (i + (k + j))) (n + 1) = g (i + k) :: upto (fun j => g (i + ((k + 1) + j))) n := by
    unfold upto;rw [List.range_succ_eq_map, List.map_cons, List.map_map];congr 1
    apply List.map_congr_left
    intro j _;show g (i + (k + (j + 1))) = g (i + (k + 1 + j))
    congr 1
    omega
   rw [e]
   have hx : (UInt8.ofNat (g (i + k)).toNat).toNat = (g (i + k)).toNat := by
    have := hg (i + k);rw [UInt8.toNat_ofNat'];omega
   have hx2 : (((UInt8.ofNat (g (i + k)).toNat).toNat : Nat) : Int) = g (i + k) := by rw [hx]; exact Int.toNat_of_nonneg (hg _).1
   show hexS acc (UInt8.ofNat (g (i + k)).toNat :: Lib.bytesOf _) = _
   rw [hexS, hx2];by_cases hb : hexB (g (i + k)) = true
   · rw [if_pos hb]
     have hd := hexD_bd hb;have hv : 0 ≤ hexV g i k := (hexV_bd hk).1
     rw [hexS_list g hg i n (k + 1) _ (by rw [hexV]; omega) (fun j hj => by
      by_cases h : j = k
      · rw [h]; exact hb
      · exact hk j (by omega))]
     rw [show k + 1 + n = k + (n + 1) from by omega]
   · rw [if_neg hb, if_neg (fun h => hb (h k (by omega)))]
theorem num_eq {g : Nat → Int} (hg : ∀ j, 0 ≤ g j ∧ g j ≤ 255) {n : Nat} (h3 : 3 ≤ n) (g0 : g 0 = 92) (g1 : g 1 = 117) (g2 : g 2 = 123) :
 3 ≤ brc g n ∧ numE g n 0 = if brc g n < n ∧ 3 < brc g n ∧ brc g n ≤ 9 ∧ (∀ j, j < brc g n - 3 → hexB (g (3 + j)) = true) ∧ alw (hexV g 3 (brc g n - 3)) = true then some (hexV g 3 (brc g n - 3), brc g n + 1) else none := by
 obtain ⟨s1, s2, s3, s4⟩ := stopI_spec (p := fun c => c != 125) (g := g) (len := n) (i := 0) (Nat.zero_le _);obtain ⟨t1, t2, t3, t4⟩ := stopI_spec (p := hexB) (g := g) (len := n) (i := 3) h3;have hbr : stopI (fun c => c != 125) g n 0 = brc g n := rfl;rw [hbr] at s1 s2 s3 s4
 have hb : brc g n < n → g (brc g n) = 125 := fun h => by
  rcases s4 with h4 | h4
  · omega
  · simpa using h4
 have hp3 : 3 ≤ brc g n := by
  rcases Nat.lt_or_ge (brc g n) 3 with h | h
  · exfalso
    have h5 := hb (by omega);have : brc g n = 0 ∨ brc g n = 1 ∨ brc g n = 2 := by omega
    rcases this with e | e | e
    · rw [e, g0] at h5; exact absurd h5 (by decide)
    · rw [e, g1] at h5; exact absurd h5 (by decide)
    · rw [e, g2] at h5; exact absurd h5 (by decide)
  · exact h
 refine ⟨hp3, ?_⟩;unfold numE;simp only [Nat.zero_add, Nat.sub_zero];by_cases hA : brc g n < n ∧ (∀ j, j < brc g n - 3 → hexB (g (3 + j)) = true)
 · obtain ⟨hA1, hA2⟩ := hA
   have h125 := hb hA1
   have he : stopI hexB g n 3 = brc g n := by
    rcases Nat.lt_trichotomy (stopI hexB g n 3) (brc g n) with h | h | h
    · exfalso
      have h6 := hA2 (stopI hexB g n 3 - 3) (by omega);rw [show 3 + (stopI hexB g n 3 - 3) = stopI hexB g n 3 from by omega] at h6;rcases t4 with h7 | h7
      · omega
      · rw [h7] at h6; exact absurd h6 (by decide)
    · exact h
    · exfalso
      have h6 := t3 (brc g n) hp3 h;rw [h125, hexB_125] at h6;exact absurd h6 (by decide)
   rw [he];by_cases hB : 3 < brc g n ∧ brc g n ≤ 9 ∧ alw (hexV g 3 (brc g n - 3)) = true
   · rw [if_pos ⟨by omega, g1, g2, hA1, h125, hB.1, hB.2.1, hB.2.2⟩, if_pos ⟨hA1, hB.1, hB.2.1, hA2, hB.2.2⟩]
   · rw [if_neg (fun h => hB ⟨h.2.2.2.2.2.1, h.2.2.2.2.2.2.1, h.2.2.2.2.2.2.2⟩), if_neg (fun h => hB ⟨h.2.1, h.2.2.1, h.2.2.2.2⟩)]
 · rw [if_neg (c := _ ∧ _ ∧ _ ∧ _ ∧ alw _ = true) (fun h => hA ⟨h.1, h.2.2.2.1⟩)]
   rw [if_neg];rintro ⟨_, _, _, he1, he2, _, _, _⟩;apply hA
   have hpe : brc g n = stopI hexB g n 3 := by
    rcases Nat.lt_trichotomy (brc g n) (stopI hexB g n 3) with h | h | h
    · exfalso
      have h6 := t3 (brc g n) hp3 h;rw [hb (by omega), hexB_125] at h6;exact absurd h6 (by decide)
    · exact h
    · exfalso
      have h6 := s3 (stopI hexB g n 3) (Nat.zero_le _) h;rw [he2] at h6;exact absurd h6 (by decide)
   refine ⟨by omega, fun j hj => t3 (3 + j) (by omega) (by omega)⟩
theorem stopF_shift (p : Int → Bool) (g : Nat → Int) (len k : Nat) : ∀ (f i : Nat), stopF p (fun j => g (k + j)) (len - k) f i + k = stopF p g len f (k + i)
 | 0, i => Nat.add_comm _ _
 | f + 1, i => by
   simp only [stopF];by_cases h : k + i < len ∧ p (g (k + i)) = true
   · rw [if_pos h, if_pos ⟨by omega, h.2⟩]
     exact stopF_shift p g len k f (i + 1)
   · rw [if_neg h, if_neg (fun h' => h ⟨by omega, h'.2⟩)]
     exact Nat.add_comm _ _
theorem stopI_shift (p : Int → Bool) (g : Nat → Int) (len k i : Nat) : stopI p (fun j => g (k + j)) (len - k) i + k = stopI p g len (k + i) := by
 unfold stopI;rw [stopF_shift, Nat.sub_sub]
theorem hexV_shift (g : Nat → Int) (k i : Nat) : ∀ n, hexV (fun j => g (k + j)) i n = hexV g (k + i) n
 | 0 => rfl
 | n + 1 => by rw [hexV, hexV, hexV_shift g k i n, Nat.add_assoc]
theorem numE_shift (g : Nat → Int) (len k : Nat) : numE (fun j => g (k + j)) (len - k) 0 = numE g len k := by
 have e := stopI_shift hexB g len k 3;unfold numE;simp only [Nat.zero_add, Nat.sub_zero];generalize stopI hexB (fun j => g (k + j)) (len - k) 3 = x at e;rw [← e, hexV_shift];rw [Nat.add_comm x k, show k + x - (k + 3) = x - 3 from by omega, show k + x + 1 - k = x + 1 from by omega];congr 1
 apply propext
 constructor
 · rintro ⟨a, b, c, d, e', f, h, i⟩
   exact ⟨by omega, b, c, by omega, e', by omega, by omega, i⟩
 · rintro ⟨a, b, c, d, e', f, h, i⟩
   exact ⟨by omega, b, c, by omega, e', by omega, by omega, i⟩
theorem escE_shift (g : Nat → Int) (len k : Nat) : escE (fun j => g (k + j)) (len - k) 0 = escE g len k := by
 unfold escE;simp only [Nat.zero_add];have e1 : (1 < len - k) = (k + 1 < len) := propext ⟨fun h => by omega, fun h => by omega⟩;simp only [numE_shift, e1]
theorem puh_ok (s : ByteArray) (hne : s.size ≠ 0) (hmax : s.size ≤ 6) (u : Nat) (h : hexS 0 s.data.toList = some u) (w : World) :
 Calls Tryz.prog 195 #[.string s, .int .i64 16, .int .i64 32] w fun e w' => e = .returned (.tuple #[.int .u64 u, .nilIface]) ∧ Below w.heap.size w w' := by
 have hI := hexP_any s hne hmax w;rw [h] at hI;have HI := Hi hI;clear h hI;go_enter Tryz.func195, Tryz.ntmps195;go_wp2_with (go_at_call 217; refine (U HI).mono ?_; rintro e W1 ⟨rfl, hW⟩; dsimp only [hexR]);go_wp2;go_ret2
 exact ⟨rfl, Lib.bytesWorld_below _ _ _⟩
theorem puh_bad (s : ByteArray) (hne : s.size ≠ 0) (hmax : s.size ≤ 6) (h : hexS 0 s.data.toList = none) (w : World) (hE : ErrG w 1) :
 Calls Tryz.prog 195 #[.string s, .int .i64 16, .int .i64 32] w fun e w' => ∃ N, e = .returned (.tuple #[.int .u64 0, .iface 162 (.pointer (some ⟨N, 0, none⟩))]) ∧ Below w.heap.size w w' := by
 obtain ⟨ev, hv, hev⟩ := hE;have hG : 1 < w.heap.size := Lib.lt_of_cell hv;have hI := hexP_any s hne hmax w;rw [h] at hI;have HI := Hi hI;clear h hI;go_enter Tryz.func195, Tryz.ntmps195;go_wp2_with (go_at_call 217; refine (U HI).mono ?_);rintro e W1 ⟨rfl, hW⟩;dsimp only [hexR];have hb1 : Below w.heap.size w W1 := by rw [hW]; exact Lib.bytesWorld_below _ _ _
 have hv1 : W1.cell? ⟨1, 0, none⟩ = some ev := (hb1.cell (show (⟨1, 0, none⟩ : Addr).block < w.heap.size from hG)).trans hv;clear hW;have HT := Hi (AnyPu.strconv_toError_syntax { Tryz.laysPu14 with } ⟨#[80, 97, 114, 115, 101, 85, 105, 110, 116]⟩ s 16 32 ev W1 (by omega) hv1 hev);go_wp2_with (go_at_call 218; refine (U HT).mono ?_);rintro e W2 ⟨N, rfl, h1, h2, h3⟩;go_wp2;go_ret2
 exact ⟨N, rfl, hb1.trans (h3.mono hb1.size)⟩
def escR (x : Option (Int × Nat)) : Value := match x with
 | none => .tuple #[.int .i32 0, .int .i64 0]
 | some (r, w) => .tuple #[.int .i32 r, .int .i64 (w : Int)]
theorem ret2i {a a' b b' : Int} (h1 : a = a') (h2 : b = b') : Ending.returned (.tuple #[.int .i32 a, .int .i64 b]) = .returned (.tuple #[.int .i32 a', .int .i64 b']) := by rw [h1, h2]
theorem numbered_any (c : Nat) (a : Option Addr) (n cap : Nat) (g : Nat → Int) (hg : ∀ j, 0 ≤ g j ∧ g j ≤ 255) (W : World) (hS : Sl W c (.slice a n cap) n g) (hc : c < W.heap.size) (hp : 0 < n) (h92 : g 0 = 92) (hl : n ≤ 1099511627776) (hE : ErrG W 1) :
 Calls Tryz.prog 219 #[.slice a n cap] W fun x W' => x = .returned (escR (numE g n 0)) ∧ Below W.heap.size W W' := by
 obtain ⟨W1, hW1⟩ : ∃ W1, W.alloc (.cells #[.int .u8 92, .int .u8 117, .int .u8 123] 5 (3, 4)) = W1 := ⟨_, rfl⟩;have hB1 : Below W.heap.size W W1 := by rw [← hW1]; exact (Below.refl _ W).alloc NL _
 have hz1 : W1.heap.size = W.heap.size + 1 := by rw [← hW1]; simp
 have hcm := conv_mark W #[.int .u8 92, .int .u8 117, .int .u8 123] 3 3;have hcm : (convert 22 22 (.slice (some ⟨W.heap.size, 0, none⟩) 3 3)).run Tryz.prog (W.alloc (.cells #[.int .u8 92, .int .u8 117, .int .u8 123] 5)) = .ok (.slice (some ⟨W.heap.size, 0, none⟩) 3 3) W1 := by rw [← hW1]; exact hcm
 have hSU : Sl W1 W.heap.size (.slice (some ⟨W.heap.size, 0, none⟩) 3 3) 3 gU := by
  refine .inr ⟨0, 3, rfl, by omega, by omega, by unfold maxLen; omega, fun j hj => ?_⟩;have h1 : W1.heap[W.heap.size]? = some (.cells #[.int .u8 92, .int .u8 117, .int .u8 123] 5 (3, 4)) := by rw [← hW1]; exact World.alloc_heap_new W _
  rw [Lib.cell_of_heap h1, Nat.zero_add];match j, hj with
  | 0, _ => rfl
  | 1, _ => rfl
  | 2, _ => rfl
 have hS1 := hS.keep (B := W1) (fun k e => by subst e; exact hB1.block k hc);have HH := Hi (hasPrefix_any hS1 hSU hl (by omega))
 have hE1 : ErrG W1 1 := by
  obtain ⟨ev, hv, hev⟩ := hE;exact ⟨ev, (hB1.cell (show (⟨1, 0, none⟩ : Addr).block < W.heap.size from Lib.lt_of_cell hv)).trans hv, hev⟩
 have HIX := Hi (indexByte_any c a n cap g hg W1 hS1 hp);by_cases hpre : 3 ≤ n ∧ ∀ j, j < 3 → g j = gU j
 · obtain ⟨h3, hgu⟩ := hpre
   have g0 : g 0 = 92 := hgu 0 (by omega);have g1 : g 1 = 117 := hgu 1 (by omega);have g2 : g 2 = 123 := hgu 2 (by omega);rw [(hpB_iff hg gU_bd).2 ⟨h3, hgu⟩] at HH;obtain ⟨hp3, hN⟩ := num_eq hg h3 g0 g1 g2;by_cases hlt : brc g n < n
   · have hbi : brcI g n = (brc g n : Int) := if_pos hlt
     rw [hbi] at HIX;obtain ⟨p, hpq⟩ : ∃ p, brc g n = p := ⟨_, rfl⟩;rw [hpq] at hN HIX hp3 hlt;by_cases hr : 3 < p ∧ p ≤ 9
     · obtain ⟨hr1, hr2⟩ := hr
       obtain ⟨sv, hsl, hcv⟩ := cut_conv hS1 (xf := 3) (xt := p) (by omega) (by omega);have hlist := hexS_list g hg 3 (p - 3) 0 0 rfl (fun j hj => by omega);have hcv1 := hcv W1 hS1
       have hsz : (strOfNums (sub g 3 p)).size = p - 3 := by
        have h1 := congrArg List.length (nums_list (sub g 3 p));rw [List.length_map, sub_length] at h1;rw [← h1, Lib.size_eq]
       have hlist : hexS 0 (strOfNums (sub g 3 p)).data.toList = if (∀ j, j < p - 3 → hexB (g (3 + j)) = true) then some (hexV g 3 (p - 3)).toNat else none := by
        rw [nums_list];simpa [sub, Lib.bytesOf] using hlist
       have hsl2 : ∀ W', (Instr.slice 22 (.slice a n cap) (some (.int .i64 3)) (some (.int .i64 (3 + ((p : Int) - 3)))) none).run Tryz.prog W' = .ok sv W' := fun W' => by
        rw [show (3 + ((p : Int) - 3)) = (p : Int) from by omega];exact hsl W'
       by_cases hx : ∀ j, j < p - 3 → hexB (g (3 + j)) = true
       · rw [if_pos hx] at hlist
         have hbd := hexV_bd hx
         have h16 : (16 : Int) ^ (p - 3) ≤ 16777216 := by
          have := Nat.pow_le_pow_right (n := 16) (by decide) (show p - 3 ≤ 6 by omega);have e : (16 : Nat) ^ 6 = 16777216 := by decide
          rw [e] at this;rw [show (16 : Int) ^ (p - 3) = (((16 : Nat) ^ (p - 3) : Nat) : Int) from (Int.natCast_pow 16 (p - 3)).symm];generalize (16 : Nat) ^ (p - 3) = q at this;omega
         obtain ⟨v, hv⟩ : ∃ v, hexV g 3 (p - 3) = v := ⟨_, rfl⟩;rw [hv] at hlist hbd hN;have HPU := Hi (puh_ok _ (by omega) (by omega) _ hlist W1);rw [Int.toNat_of_nonneg hbd.1] at HPU;have hv0 := hbd.1;have hv1 : v < 16777216 := by omega
         have k1 : IntKind.i32.wrap v = v := by
          rw [IntKind.wrap_i32];omega
         have hvr := validRune_any v;have hd0 : decide (0 ≤ v) = true := decide_eq_true hv0
         have HV : Hid (∀ w, Calls Tryz.prog 240 #[.int .i32 v] w fun e w' => e = .returned (.bool (alw v)) ∧ w' = w) := fun w => by
          have := hvr w;rw [hd0, Bool.true_and] at this;exact this
         by_cases ha : alw v = true
         · rw [if_pos ⟨hlt, hr1, hr2, hx, ha⟩] at hN
           rw [ha] at HV;have HN := Hi hN;clear hN hS hS1 hSU hgu g0 g1 g2 hpq hcv hlist hx hv hbd h16 hvr hd0 hsl ha;go_enter Tryz.func219, Tryz.ntmps219;go_wp2_with (first | (go_at_call 140; refine (U HH).mono ?_; rintro e w' ⟨rfl, hw⟩; subst w') | (go_at_call 239; refine (U HIX).mono ?_; rintro e w' ⟨rfl, hw⟩; subst w') | (go_at_call 195; refine (U HPU).mono ?_; rintro e W2 ⟨rfl, hB2⟩) | (go_at_call 240; refine (U HV _).mono ?_; rintro e w' ⟨rfl, hw⟩; subst w'));go_ret2
           rw [U HN];exact ⟨ret2i (by first | rfl | exact k1) (by omega), hB1.trans (hB2.mono hB1.size)⟩
         · have ha0 : alw v = false := by simpa using ha
           rw [if_neg (fun h => ha h.2.2.2.2)] at hN;rw [ha0] at HV;have HN := Hi hN;clear hN hS hS1 hSU hgu g0 g1 g2 hpq hcv hlist hx hv hbd h16 hvr hd0 hsl ha ha0;go_enter Tryz.func219, Tryz.ntmps219;go_wp2_with (first | (go_at_call 140; refine (U HH).mono ?_; rintro e w' ⟨rfl, hw⟩; subst w') | (go_at_call 239; refine (U HIX).mono ?_; rintro e w' ⟨rfl, hw⟩; subst w') | (go_at_call 195; refine (U HPU).mono ?_; rintro e W2 ⟨rfl, hB2⟩) | (go_at_call 240; refine (U HV _).mono ?_; rintro e w' ⟨rfl, hw⟩; subst w'));go_ret2
           rw [U HN];exact ⟨rfl, hB1.trans (hB2.mono hB1.size)⟩
       · rw [if_neg hx] at hlist
         rw [if_neg (fun h => hx h.2.2.2.1)] at hN;have HN := Hi hN;have HPU := Hi (puh_bad _ (by omega) (by omega) hlist W1 hE1);clear hN hS hS1 hSU hgu g0 g1 g2 hpq hcv hlist hx hsl;go_enter Tryz.func219, Tryz.ntmps219;go_wp2_with (first | (go_at_call 140; refine (U HH).mono ?_; rintro e w' ⟨rfl, hw⟩; subst w') | (go_at_call 239; refine (U HIX).mono ?_; rintro e w' ⟨rfl, hw⟩; subst w') | (go_at_call 195; refine (U HPU).mono ?_; rintro e W2 ⟨N, rfl, hB2⟩));go_ret2
         rw [U HN];exact ⟨rfl, hB1.trans (hB2.mono hB1.size)⟩
     · rw [if_neg (fun h => hr ⟨h.2.1, h.2.2.1⟩)] at hN
       have HN := Hi hN;clear hN hS hS1 hSU hgu g0 g1 g2 hpq;by_cases hr1 : 3 < p
       · have hr2 : 9 < p := by omega
         go_enter Tryz.func219, Tryz.ntmps219;go_wp2_with (first | (go_at_call 140; refine (U HH).mono ?_; rintro e w' ⟨rfl, hw⟩; subst w') | (go_at_call 239; refine (U HIX).mono ?_; rintro e w' ⟨rfl, hw⟩; subst w'));go_ret2
         rw [U HN];exact ⟨rfl, hB1⟩
       · go_enter Tryz.func219, Tryz.ntmps219
         go_wp2_with (first | (go_at_call 140; refine (U HH).mono ?_; rintro e w' ⟨rfl, hw⟩; subst w') | (go_at_call 239; refine (U HIX).mono ?_; rintro e w' ⟨rfl, hw⟩; subst w'));go_ret2
         rw [U HN];exact ⟨rfl, hB1⟩
   · have hbi : brcI g n = -1 := if_neg hlt
     rw [hbi] at HIX;rw [if_neg (fun h => hlt h.1)] at hN;have HN := Hi hN;clear hN hS hS1 hSU hgu g0 g1 g2;go_enter Tryz.func219, Tryz.ntmps219;go_wp2_with (first | (go_at_call 140; refine (U HH).mono ?_; rintro e w' ⟨rfl, hw⟩; subst w') | (go_at_call 239; refine (U HIX).mono ?_; rintro e w' ⟨rfl, hw⟩; subst w'));go_ret2
     rw [U HN];exact ⟨rfl, hB1⟩
 · rw [hpB_false hg gU_bd hpre] at HH
   have HN : Hid (numE g n 0 = none) := by
    show _ = _
    unfold numE;rw [if_neg];rintro ⟨h1, h2, h3, _⟩
    exact hpre ⟨by omega, fun j hj => by
     match j, hj with
     | 0, _ => exact h92
     | 1, _ => exact h2
     | 2, _ => exact h3⟩
   clear hS hS1 hSU;go_enter Tryz.func219, Tryz.ntmps219;go_wp2_with (go_at_call 140; refine (U HH).mono ?_; rintro e w' ⟨rfl, hw⟩; subst w');go_ret2
   rw [U HN];exact ⟨rfl, hB1⟩
theorem escE_one (g : Nat → Int) (n : Nat) (h : 1 < n) : escE g n 0 = if g 1 = 110 then some (10, 2) else if g 1 = 114 then some (13, 2) else if g 1 = 116 then some (9, 2) else if g 1 = 48 then some (0, 2) else if g 1 = 92 ∨ g 1 = 34 ∨ g 1 = 39 ∨ g 1 = 36 ∨ g 1 = 96 then some (g 1, 2) else numE g n 0 := by
 unfold escE;rw [if_neg (by omega)]
theorem escape_any (c : Nat) (a : Option Addr) (n cap : Nat) (g : Nat → Int) (hg : ∀ j, 0 ≤ g j ∧ g j ≤ 255) (W : World) (hS : Sl W c (.slice a n cap) n g) (hc : c < W.heap.size) (hp : 0 < n) (h92 : g 0 = 92) (hl : n ≤ 1099511627776) (hE : ErrG W 1) :
 Calls Tryz.prog 196 #[.slice a n cap] W fun x W' => x = .returned (escR (escE g n 0)) ∧ Below W.heap.size W W' := by
 have HNB := Hi (numbered_any c a n cap g hg W hS hc hp h92 hl hE);have hBr : Below W.heap.size W W := Below.refl _ _;have HCS := sl_cells hS;clear hS hE;by_cases h1 : 1 < n
 · obtain ⟨off, rfl, hcp, hmx, hcs⟩ := U HCS hp
   unfold maxLen at hmx;have hc1 := hcs 1 h1;have n1 : ¬ (n : Int) < 2 := by omega
   have n2 : (1 : Int) < n := by omega
   have HE := Hi (escE_one g n h1);have hgb := hg 1;obtain ⟨x, hx⟩ : ∃ x, g 1 = x := ⟨_, rfl⟩;rw [hx] at hc1 hgb HE;clear hcs HCS hx;by_cases e110 : x = 110
   · subst e110
     go_enter Tryz.func196, Tryz.ntmps196;go_wp2;go_ret2
     rw [U HE];exact ⟨rfl, hBr⟩
   have b110 : (x == 110) = false := beq_eq_false_iff_ne.2 e110;by_cases e114 : x = 114
   · subst e114
     go_enter Tryz.func196, Tryz.ntmps196;go_wp2;go_ret2
     rw [U HE];exact ⟨rfl, hBr⟩
   have b114 : (x == 114) = false := beq_eq_false_iff_ne.2 e114;by_cases e116 : x = 116
   · subst e116
     go_enter Tryz.func196, Tryz.ntmps196;go_wp2;go_ret2
     rw [U HE];exact ⟨rfl, hBr⟩
   have b116 : (x == 116) = false := beq_eq_false_iff_ne.2 e116;by_cases e48 : x = 48
   · subst e48
     go_enter Tryz.func196, Tryz.ntmps196;go_wp2;go_ret2
     rw [U HE];exact ⟨rfl, hBr⟩
   have b48 : (x == 48) = false := beq_eq_false_iff_ne.2 e48;by_cases e92 : x = 92
   · subst e92
     go_enter Tryz.func196, Tryz.ntmps196;go_wp2;go_ret2
     rw [U HE];exact ⟨rfl, hBr⟩
   have b92 : (x == 92) = false := beq_eq_false_iff_ne.2 e92;by_cases e34 : x = 34
   · subst e34
     go_enter Tryz.func196, Tryz.ntmps196;go_wp2;go_ret2
     rw [U HE];exact ⟨rfl, hBr⟩
   have b34 : (x == 34) = false := beq_eq_false_iff_ne.2 e34;by_cases e39 : x = 39
   · subst e39
     go_enter Tryz.func196, Tryz.ntmps196;go_wp2;go_ret2
     rw [U HE];exact ⟨rfl, hBr⟩
   have b39 : (x == 39) = false := beq_eq_false_iff_ne.2 e39;by_cases e36 : x = 36
   · subst e36
     go_enter Tryz.func196, Tryz.ntmps196;go_wp2;go_ret2
     rw [U HE];exact ⟨rfl, hBr⟩
   have b36 : (x == 36) = false := beq_eq_false_iff_ne.2 e36;by_cases e96 : x = 96
   · subst e96
     go_enter Tryz.func196, Tryz.ntmps196;go_wp2;go_ret2
     rw [U HE];exact ⟨rfl, hBr⟩
   have b96 : (x == 96) = false := beq_eq_false_iff_ne.2 e96
   have HE2 : Hid (escE g n 0 = numE g n 0) := by
    show _ = _
    rw [U HE, if_neg e110, if_neg e114, if_neg e116, if_neg e48, if_neg (by omega)]
   obtain ⟨r, hr⟩ : ∃ r, numE g n 0 = r := ⟨_, rfl⟩;rw [hr] at HNB HE2;clear hr HE e110 e114 e116 e48 e92 e34 e39 e36 e96;cases r with
   | none =>
     have HNB2 : Hid (Calls Tryz.prog 219 #[.slice (some ⟨c, off, none⟩) n cap] W fun x W' => x = .returned (.tuple #[.int .i32 0, .int .i64 0]) ∧ Below W.heap.size W W') := U HNB;go_enter Tryz.func196, Tryz.ntmps196;go_wp2_with (go_at_call 219; refine (U HNB2).mono ?_; rintro e W2 ⟨rfl, hB2⟩);go_ret2
     rw [U HE2];exact ⟨rfl, hB2⟩
   | some rw' =>
     obtain ⟨r, wd⟩ := rw';have HNB2 : Hid (Calls Tryz.prog 219 #[.slice (some ⟨c, off, none⟩) n cap] W fun x W' => x = .returned (.tuple #[.int .i32 r, .int .i64 (wd : Int)]) ∧ Below W.heap.size W W') := U HNB;go_enter Tryz.func196, Tryz.ntmps196;go_wp2_with (go_at_call 219; refine (U HNB2).mono ?_; rintro e W2 ⟨rfl, hB2⟩);go_ret2
     rw [U HE2];exact ⟨rfl, hB2⟩
 · have n1 : (n : Int) < 2 := by omega
   have HE : Hid (escE g n 0 = none) := by
    show _ = _
    unfold escE;rw [if_pos (by omega)]
   go_enter Tryz.func196, Tryz.ntmps196;go_wp2;go_ret2
   rw [U HE];exact ⟨rfl, hBr⟩
end
end Go.Proofs.YtofgphapjjofnaaGreatDoor
