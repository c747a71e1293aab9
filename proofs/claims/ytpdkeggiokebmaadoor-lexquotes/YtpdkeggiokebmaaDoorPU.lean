/- strconv.ParseUint by the library's contract, laid at this translation; over decimal digits. -/
import Derived.Shelf.Pu.ParseUintPublic10
import Derived.Lib.ParseIntBCases
import Derived.Test.YtpdkeggiokebmaaDoorK0
import Derived.Test.YtpdkeggiokebmaaDoorZP3
namespace Go.Proofs
open Go.Shelf
def Tryd.laysPu14_ren : Go.Shelf.Ren := ⟨fun | 14 => 67 | 16 => 77 | 17 => 78 | 19 => 87 | 20 => 88 | 21 => 89 | 22 => 90 | 23 => 91 | 24 => 92 | 25 => 99 | 27 => 101 | 26 => 100 | 28 => 103 | 29 => 60 | 30 => 71 | 31 => 72 | 32 => 73 | 33 => 74 | 35 => 83 | 34 => 82 | 36 => 84 | 37 => 85 | 38 => 86 | 39 => 97 | 40 => 98 | n => n, fun | 9 => 9 | 3 => 3 | 22 => 95 | 24 => 54 | 25 => 96 | 4 => 4 | 34 => 120 | 5 => 5 | 36 => 87 | 37 => 22 | 0 => 0 | 39 => 122 | 21 => 21 | 44 => 129 | 47 => 75 | 50 => 135 | 48 => 133 | 2 => 2 | 52 => 103 | 55 => 106 | 59 => 115 | 60 => 116 | 20 => 20 | 61 => 117 | 65 => 131 | 66 => 132 | 67 => 62 | n => n, fun | 0 => 1 | 1 => 2 | 2 => 0 | 3 => 3 | 4 => 4 | n => n⟩
theorem Tryd.laysPu14 : Go.Proofs.LaysPu.n14 Tryd.prog Tryd.laysPu14_ren := {
  mixed := by kernel_rfl
  f14 := Tryd.func67.trans (congrArg some (by kernel_rfl))
  f16 := Tryd.func77.trans (congrArg some (by kernel_rfl))
  f17 := Tryd.func78.trans (congrArg some (by kernel_rfl))
  f19 := Tryd.func87.trans (congrArg some (by kernel_rfl))
  f20 := Tryd.func88.trans (congrArg some (by kernel_rfl))
  f21 := Tryd.func89.trans (congrArg some (by kernel_rfl))
  f22 := Tryd.func90.trans (congrArg some (by kernel_rfl))
  f23 := Tryd.func91.trans (congrArg some (by kernel_rfl))
  f24 := Tryd.func92.trans (congrArg some (by kernel_rfl))
  f25 := Tryd.func99.trans (congrArg some (by kernel_rfl))
  f26 := Tryd.func100.trans (congrArg some (by kernel_rfl))
  f27 := Tryd.func101.trans (congrArg some (by kernel_rfl))
  f28 := Tryd.func103.trans (congrArg some (by kernel_rfl))
  f29 := Tryd.func60.trans (congrArg some (by kernel_rfl))
  f30 := Tryd.func71.trans (congrArg some (by kernel_rfl))
  f31 := Tryd.func72.trans (congrArg some (by kernel_rfl))
  f32 := Tryd.func73.trans (congrArg some (by kernel_rfl))
  f33 := Tryd.func74.trans (congrArg some (by kernel_rfl))
  f34 := Tryd.func82.trans (congrArg some (by kernel_rfl))
  f35 := Tryd.func83.trans (congrArg some (by kernel_rfl))
  f36 := Tryd.func84.trans (congrArg some (by kernel_rfl))
  f37 := Tryd.func85.trans (congrArg some (by kernel_rfl))
  f38 := Tryd.func86.trans (congrArg some (by kernel_rfl))
  f39 := Tryd.func97.trans (congrArg some (by kernel_rfl))
  f40 := Tryd.func98.trans (congrArg some (by kernel_rfl))
  t0 := Tryd.underlying0
  a0 := Tryd.isAgg0
  z0 := Tryd.sizeOf0
  v0 := Tryd.zeroValue0
  i0 := by kernel_rfl
  t2 := Tryd.underlying2
  a2 := Tryd.isAgg2
  z2 := Tryd.sizeOf2
  v2 := Tryd.zeroValue2
  i2 := by kernel_rfl
  t3 := Tryd.underlying3
  a3 := Tryd.isAgg3
  z3 := Tryd.sizeOf3
  v3 := Tryd.zeroValue3
  i3 := by kernel_rfl
  t4 := Tryd.underlying4
  a4 := Tryd.isAgg4
  z4 := Tryd.sizeOf4
  v4 := Tryd.zeroValue4
  i4 := by kernel_rfl
  t5 := Tryd.underlying5
  a5 := Tryd.isAgg5
  z5 := Tryd.sizeOf5
  v5 := Tryd.zeroValue5
  i5 := by kernel_rfl
  t9 := Tryd.underlying9
  a9 := Tryd.isAgg9
  z9 := Tryd.sizeOf9
  v9 := Tryd.zeroValue9
  i9 := by kernel_rfl
  t20 := Tryd.underlying20
  a20 := Tryd.isAgg20
  z20 := Tryd.sizeOf20
  v20 := Tryd.zeroValue20
  i20 := by kernel_rfl
  t21 := Tryd.underlying21
  a21 := Tryd.isAgg21
  z21 := Tryd.sizeOf21
  v21 := Tryd.zeroValue21
  i21 := by kernel_rfl
  t22 := Tryd.underlying95
  a22 := Tryd.isAgg95
  z22 := Tryd.sizeOf95
  v22 := Tryd.zeroValue95
  i22 := by kernel_rfl
  t24 := Tryd.underlying54
  a24 := Tryd.isAgg54
  z24 := Tryd.sizeOf54
  v24 := Tryd.zeroValue54
  i24 := by kernel_rfl
  t25 := Tryd.underlying96
  a25 := Tryd.isAgg96
  z25 := Tryd.sizeOf96
  v25 := Tryd.zeroValue96
  i25 := by kernel_rfl
  t34 := Tryd.underlying120
  a34 := Tryd.isAgg120
  z34 := Tryd.sizeOf120
  v34 := Tryd.zeroValue120
  i34 := by kernel_rfl
  c34 := by kernel_rfl
  t36 := Tryd.underlying87
  a36 := Tryd.isAgg87
  z36 := Tryd.sizeOf87
  v36 := Tryd.zeroValue87
  i36 := by kernel_rfl
  t37 := Tryd.underlying22
  a37 := Tryd.isAgg22
  z37 := Tryd.sizeOf22
  v37 := Tryd.zeroValue22
  i37 := by kernel_rfl
  t39 := Tryd.underlying122
  a39 := Tryd.isAgg122
  z39 := Tryd.sizeOf122
  v39 := Tryd.zeroValue122
  i39 := by kernel_rfl
  t44 := Tryd.underlying129
  a44 := Tryd.isAgg129
  z44 := Tryd.sizeOf129
  v44 := Tryd.zeroValue129
  i44 := by kernel_rfl
  t47 := Tryd.underlying75
  a47 := Tryd.isAgg75
  z47 := Tryd.sizeOf75
  v47 := Tryd.zeroValue75
  i47 := by kernel_rfl
  t48 := Tryd.underlying133
  a48 := Tryd.isAgg133
  z48 := Tryd.sizeOf133
  v48 := Tryd.zeroValue133
  i48 := by kernel_rfl
  t50 := Tryd.underlying135
  a50 := Tryd.isAgg135
  z50 := Tryd.sizeOf135
  v50 := Tryd.zeroValue135
  i50 := by kernel_rfl
  t52 := Tryd.underlying103
  a52 := Tryd.isAgg103
  z52 := Tryd.sizeOf103
  v52 := Tryd.zeroValue103
  i52 := by kernel_rfl
  t55 := Tryd.underlying106
  a55 := Tryd.isAgg106
  z55 := Tryd.sizeOf106
  v55 := Tryd.zeroValue106
  i55 := by kernel_rfl
  t59 := Tryd.underlying115
  a59 := Tryd.isAgg115
  z59 := Tryd.sizeOf115
  v59 := Tryd.zeroValue115
  i59 := by kernel_rfl
  t60 := Tryd.underlying116
  a60 := Tryd.isAgg116
  z60 := Tryd.sizeOf116
  v60 := Tryd.zeroValue116
  i60 := by kernel_rfl
  t61 := Tryd.underlying117
  a61 := Tryd.isAgg117
  z61 := Tryd.sizeOf117
  t65 := Tryd.underlying131
  a65 := Tryd.isAgg131
  z65 := Tryd.sizeOf131
  v65 := Tryd.zeroValue131
  i65 := by kernel_rfl
  t66 := Tryd.underlying132
  a66 := Tryd.isAgg132
  z66 := Tryd.sizeOf132
  v66 := Tryd.zeroValue132
  i66 := by kernel_rfl
  t67 := Tryd.underlying62
  a67 := Tryd.isAgg62
  z67 := Tryd.sizeOf62
  v67 := Tryd.zeroValue62
  i67 := by kernel_rfl
  g0 := by kernel_rfl
  m0 := by kernel_rfl
  g1 := by kernel_rfl
  m1 := by kernel_rfl
  g2 := by kernel_rfl
  m2 := by kernel_rfl
  g3 := by kernel_rfl
  m3 := by kernel_rfl
  g4 := by kernel_rfl
  m4 := by kernel_rfl }
end Go.Proofs
namespace Go.Proofs.YtpdkeggiokebmaaDoor
set_option linter.unusedSimpArgs false
set_option linter.unusedVariables false
open Go.RowKit Go.Shelf

def foldD (acc : Int) (xs : List Int) : Int := xs.foldl (fun a c => a * 10 + (c - 48)) acc
theorem foldD_ge : ∀ (xs : List Int) (acc : Int), (∀ x ∈ xs, isD x = true) → 0 ≤ acc → acc ≤ foldD acc xs
  | [], acc, _, _ => Int.le_refl _
  | x :: xs, acc, h, h0 => by
    have h1 := isD_bd (h x (by simp))
    have h2 := foldD_ge xs (acc * 10 + (x - 48)) (fun y hy => h y (by simp [hy])) (by omega)
    show acc ≤ foldD (acc * 10 + (x - 48)) xs
    omega
theorem decV_fold (g : Nat → Int) (i : Nat) : ∀ n, decV g i n = foldD 0 (upto (fun j => g (i + j)) n)
  | 0 => rfl
  | n + 1 => by rw [decV, decV_fold g i n, upto_succ, foldD, foldD, List.foldl_append]; rfl
theorem nums_list (xs : List Int) : (strOfNums xs).data.toList = xs.map fun n => UInt8.ofNat n.toNat := by
  simp [strOfNums]
theorem parseM_fold : ∀ (xs : List Int) (acc : Nat), (∀ x ∈ xs, isD x = true) → acc ≤ 18446744073709551615 → Lib.parseUintM 18446744073709551615 acc (xs.map fun n => UInt8.ofNat n.toNat) = if foldD acc xs ≤ 18446744073709551615 then .ok (foldD acc xs).toNat else .range
  | [], acc, _, h => by
    have e : foldD (acc : Int) [] = acc := rfl
    rw [e, if_pos (by omega), Int.toNat_natCast]
    rfl
  | x :: xs, acc, h, ha => by
    have h1 := isD_bd (h x (by simp))
    have hx : (UInt8.ofNat x.toNat).toNat = x.toNat := by
      rw [UInt8.toNat_ofNat']
      omega
    have hr : ∀ y ∈ xs, isD y = true := fun y hy => h y (by simp [hy])
    have hge := foldD_ge xs ((acc : Int) * 10 + (x - 48)) hr (by omega)
    have hf : foldD (acc : Int) (x :: xs) = foldD ((acc : Int) * 10 + (x - 48)) xs := rfl
    simp only [List.map_cons, Lib.parseUintM]
    rw [hx, if_pos (by omega), hf]
    by_cases h2 : 1844674407370955162 ≤ acc
    · rw [if_pos h2, if_neg (by omega)]
    rw [if_neg h2]
    by_cases h3 : 18446744073709551615 < acc * 10 + (x.toNat - 48)
    · rw [if_pos h3, if_neg (by omega)]
    rw [if_neg h3, parseM_fold xs _ hr (by omega)]
    have e : ((acc * 10 + (x.toNat - 48) : Nat) : Int) = (acc : Int) * 10 + (x - 48) := by omega
    rw [e]
/-- A variable of the library that holds an error. -/
def ErrG (W : World) (i : Nat) : Prop := ∃ ev, W.cell? ⟨i, 0, none⟩ = some ev ∧ (ev = .nilIface ∨ ∃ te pe, ev = .iface te pe)
theorem pu_num {g : Nat → Int} {at' e : Nat} (hn : at' < e) (hl : e ≤ 1099511627776) (hd : ∀ j, at' ≤ j → j < e → isD (g j) = true) (W : World) (hE : ErrG W 2) :
    Calls Tryd.prog 67 #[.string (strOfNums (sub g at' e)), .int .i64 10, .int .i64 64] W fun x W' => ∃ z er, x = .returned (.tuple #[.int .u64 z, er]) ∧ ((er = .nilIface ∧ z = decV g at' (e - at') ∧ z ≤ 18446744073709551615) ∨ ((∃ tp p, er = .iface tp p) ∧ 18446744073709551615 < decV g at' (e - at'))) ∧ Below W.heap.size W W' := by
  have hds : ∀ x ∈ sub g at' e, isD x = true := by
    intro x hx
    simp only [sub, upto, List.mem_map, List.mem_range] at hx
    obtain ⟨j, hj, rfl⟩ := hx
    exact hd _ (by omega) (by omega)
  have hz : (strOfNums (sub g at' e)).size = e - at' := by
    have h1 := congrArg List.length (nums_list (sub g at' e))
    rw [List.length_map, sub_length] at h1
    rw [← h1, Lib.size_eq]
  have hne : (strOfNums (sub g at' e)).data.toList ≠ [] := by
    intro h
    have h1 := congrArg List.length h
    rw [nums_list, List.length_map, sub_length, List.length_nil] at h1
    omega
  have hp : Lib.parseUintB 64 (strOfNums (sub g at' e)).data.toList = if decV g at' (e - at') ≤ 18446744073709551615 then .ok (decV g at' (e - at')).toNat else .range := by
    rw [Lib.parseUintB, if_neg hne, nums_list]
    have := parseM_fold (sub g at' e) 0 hds (by omega)
    rw [show (2 : Nat) ^ 64 - 1 = 18446744073709551615 from by decide, this, decV_fold]
    rfl
  have hnn : 0 ≤ decV g at' (e - at') := decV_nn fun j hj => hd _ (by omega) (by omega)
  by_cases hle : decV g at' (e - at') ≤ 18446744073709551615
  · rw [if_pos hle] at hp
    refine (Any.strconv_ParseUint_10_at64_ok Tryd.laysPu14 (strOfNums (sub g at' e)) (by omega) _ hp W).mono ?_
    rintro x W' ⟨rfl, hw⟩
    refine ⟨_, _, rfl, .inl ⟨rfl, by omega, by omega⟩, ?_⟩
    rcases hw with rfl | rfl
    · exact Below.refl _ _
    · exact Lib.bytesWorld_below _ _ _
  · rw [if_neg hle] at hp
    obtain ⟨ev, hv, hev⟩ := hE
    refine (Any.strconv_ParseUint_10_at64_range Tryd.laysPu14 (strOfNums (sub g at' e)) (by omega) hp ev W hv hev).mono ?_
    rintro x W' ⟨N, rfl, _, _, hB⟩
    exact ⟨_, _, rfl, .inr ⟨⟨_, _, rfl⟩, by omega⟩, hB⟩
end Go.Proofs.YtpdkeggiokebmaaDoor
