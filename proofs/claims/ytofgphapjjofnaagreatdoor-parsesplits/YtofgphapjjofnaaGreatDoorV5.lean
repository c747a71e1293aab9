/- Towards the law: QK0 QK. -/
import Derived.Lib.AtoiErrMem
import Derived.Shelf.Strconv.Atoi
import Derived.Shelf.Strings.OnBuilder
import Derived.Test.YtofgphapjjofnaaGreatDoorProg
import Derived.Test.YtofgphapjjofnaaGreatDoorV4
import Derived.Test.YtofgphapjjofnaaGreatDoorVM
set_option linter.unusedSimpArgs false
set_option linter.unusedVariables false
set_option maxRecDepth 100000
set_option maxHeartbeats 8000000
namespace Go.Proofs.YtofgphapjjofnaaGreatDoor
section
open Go.Shelf
def Tryz.lays156_ren : Go.Shelf.Ren := ⟨fun | 156 => 203 | 165 => 223 | 166 => 224 | 169 => 198 | 240 => 220 | 241 => 244 | 276 => 241 | 277 => 260 | n => n, fun | 31 => 45 | 9 => 9 | 3 => 3 | 4 => 4 | 0 => 0 | 20 => 20 | 72 => 139 | 76 => 142 | 70 => 137 | 37 => 22 | 75 => 134 | 127 => 153 | 164 => 166 | 5 => 5 | 80 => 113 | n => n, fun | n => n⟩
theorem Tryz.lays156 : Go.Proofs.Lays.n156 Tryz.prog Tryz.lays156_ren := {
 mixed := by kernel_rfl
 f156 := Tryz.func203.trans (congrArg some (by kernel_rfl))
 f165 := Tryz.func223.trans (congrArg some (by kernel_rfl))
 f166 := Tryz.func224.trans (congrArg some (by kernel_rfl))
 f169 := Tryz.func198.trans (congrArg some (by kernel_rfl))
 f240 := Tryz.func220.trans (congrArg some (by kernel_rfl))
 f241 := Tryz.func244.trans (congrArg some (by kernel_rfl))
 f276 := Tryz.func241.trans (congrArg some (by kernel_rfl))
 f277 := Tryz.func260.trans (congrArg some (by kernel_rfl))
 t0 := Tryz.underlying0
 a0 := Tryz.isAgg0
 z0 := Tryz.sizeOf0
 v0 := Tryz.zeroValue0
 t3 := Tryz.underlying3
 a3 := Tryz.isAgg3
 z3 := Tryz.sizeOf3
 v3 := Tryz.zeroValue3
 t4 := Tryz.underlying4
 a4 := Tryz.isAgg4
 z4 := Tryz.sizeOf4
 v4 := Tryz.zeroValue4
 t9 := Tryz.underlying9
 a9 := Tryz.isAgg9
 z9 := Tryz.sizeOf9
 v9 := Tryz.zeroValue9
 t20 := Tryz.underlying20
 a20 := Tryz.isAgg20
 z20 := Tryz.sizeOf20
 v20 := Tryz.zeroValue20
 t31 := Tryz.underlying45
 a31 := Tryz.isAgg45
 z31 := Tryz.sizeOf45
 v31 := Tryz.zeroValue45
 t37 := Tryz.underlying22
 a37 := Tryz.isAgg22
 z37 := Tryz.sizeOf22
 v37 := Tryz.zeroValue22
 t70 := Tryz.underlying137
 a70 := Tryz.isAgg137
 z70 := Tryz.sizeOf137
 v70 := Tryz.zeroValue137
 t72 := Tryz.underlying139
 a72 := Tryz.isAgg139
 z72 := Tryz.sizeOf139
 v72 := Tryz.zeroValue139
 t75 := Tryz.underlying134
 a75 := Tryz.isAgg134
 z75 := Tryz.sizeOf134
 v75 := Tryz.zeroValue134
 t76 := Tryz.underlying142
 a76 := Tryz.isAgg142
 z76 := Tryz.sizeOf142
 v76 := Tryz.zeroValue142
 t127 := Tryz.underlying153
 a127 := Tryz.isAgg153
 z127 := Tryz.sizeOf153
 v127 := Tryz.zeroValue153
 t164 := Tryz.underlying166
 a164 := Tryz.isAgg166
 z164 := Tryz.sizeOf166
 v164 := Tryz.zeroValue166 }
theorem Tryz.Builder_Extra_156 : Builder.Extra Tryz.prog Tryz.lays156_ren := {
 sizeBuilder := by kernel_rfl
 liesBuilder := by kernel_rfl
 t5 := Tryz.underlying5
 a5 := Tryz.isAgg5
 z5 := Tryz.sizeOf5
 v5 := Tryz.zeroValue5
 infoByte := by kernel_rfl
 cellsByte := by kernel_rfl
 sizeByte := by kernel_rfl
 neB5 := by decide }
open Go.RowKit in
theorem Tryz.strings_Join (bk o c : Nat) (xs : List ByteArray) (sep : ByteArray) (w : World) (hcells : ∀ (j : Nat) x, xs[j]? = some x → w.cell? ⟨bk, o + j, none⟩ = some (.string x)) (hbk : bk < w.heap.size) (hN : xs.length ≤ 140737488355328) (hcap : xs.length ≤ c) (hlen : (Lib.join (xs.map (·.data.toList)) sep.data.toList).length ≤ 140737488355328) :
 Calls Tryz.prog 203 #[.slice (some ⟨bk, o, none⟩) xs.length c, .string sep] w fun e w' => e = .returned (.string ⟨(Lib.join (xs.map (·.data.toList)) sep.data.toList).toArray⟩) ∧ Below w.heap.size w w' := Any.strings_Join Tryz.lays156 Tryz.Builder_Extra_156 bk o c xs sep w hcells hbk hN hcap hlen
def Tryz.lays172_ren : Go.Shelf.Ren := ⟨fun | 172 => 201 | 244 => 222 | 245 => 218 | 247 => 243 | 279 => 235 | 280 => 236 | 281 => 237 | 282 => 238 | 287 => 217 | 316 => 245 | 171 => 258 | 205 => 257 | 321 => 233 | 322 => 234 | 243 => 263 | 246 => 264 | 283 => 265 | 284 => 266 | 285 => 267 | 286 => 268 | 129 => 270 | 317 => 269 | 318 => 271 | 319 => 272 | 320 => 273 | 337 => 274 | 338 => 275 | n => n, fun | 9 => 9 | 3 => 3 | 75 => 134 | 76 => 142 | 4 => 4 | 5 => 5 | 167 => 160 | 37 => 22 | 0 => 0 | 85 => 169 | 2 => 2 | 168 => 162 | 53 => 132 | 175 => 135 | 46 => 129 | 210 => 172 | 127 => 153 | 145 => 184 | 143 => 182 | 21 => 21 | 171 => 186 | 173 => 189 | 212 => 192 | 51 => 168 | 20 => 20 | 213 => 193 | 232 => 196 | 233 => 197 | 80 => 113 | n => n, fun | 15 => 1 | 16 => 2 | 17 => 5 | 18 => 6 | 19 => 7 | n => n⟩
theorem Tryz.lays172 : Go.Proofs.Lays.n172 Tryz.prog Tryz.lays172_ren := {
 mixed := by kernel_rfl
 f129 := Tryz.func270.trans (congrArg some (by kernel_rfl))
 f171 := Tryz.func258.trans (congrArg some (by kernel_rfl))
 f172 := Tryz.func201.trans (congrArg some (by kernel_rfl))
 f205 := Tryz.func257.trans (congrArg some (by kernel_rfl))
 f243 := Tryz.func263.trans (congrArg some (by kernel_rfl))
 f244 := Tryz.func222.trans (congrArg some (by kernel_rfl))
 f245 := Tryz.func218.trans (congrArg some (by kernel_rfl))
 f246 := Tryz.func264.trans (congrArg some (by kernel_rfl))
 f247 := Tryz.func243.trans (congrArg some (by kernel_rfl))
 f279 := Tryz.func235.trans (congrArg some (by kernel_rfl))
 f280 := Tryz.func236.trans (congrArg some (by kernel_rfl))
 f281 := Tryz.func237.trans (congrArg some (by kernel_rfl))
 f282 := Tryz.func238.trans (congrArg some (by kernel_rfl))
 f283 := Tryz.func265.trans (congrArg some (by kernel_rfl))
 f284 := Tryz.func266.trans (congrArg some (by kernel_rfl))
 f285 := Tryz.func267.trans (congrArg some (by kernel_rfl))
 f286 := Tryz.func268.trans (congrArg some (by kernel_rfl))
 f287 := Tryz.func217.trans (congrArg some (by kernel_rfl))
 f316 := Tryz.func245.trans (congrArg some (by kernel_rfl))
 f317 := Tryz.func269.trans (congrArg some (by kernel_rfl))
 f318 := Tryz.func271.trans (congrArg some (by kernel_rfl))
 f319 := Tryz.func272.trans (congrArg some (by kernel_rfl))
 f320 := Tryz.func273.trans (congrArg some (by kernel_rfl))
 f321 := Tryz.func233.trans (congrArg some (by kernel_rfl))
 f322 := Tryz.func234.trans (congrArg some (by kernel_rfl))
 f337 := Tryz.func274.trans (congrArg some (by kernel_rfl))
 f338 := Tryz.func275.trans (congrArg some (by kernel_rfl))
 t0 := Tryz.underlying0
 a0 := Tryz.isAgg0
 z0 := Tryz.sizeOf0
 v0 := Tryz.zeroValue0
 t2 := Tryz.underlying2
 a2 := Tryz.isAgg2
 z2 := Tryz.sizeOf2
 v2 := Tryz.zeroValue2
 t3 := Tryz.underlying3
 a3 := Tryz.isAgg3
 z3 := Tryz.sizeOf3
 v3 := Tryz.zeroValue3
 t4 := Tryz.underlying4
 a4 := Tryz.isAgg4
 z4 := Tryz.sizeOf4
 v4 := Tryz.zeroValue4
 t5 := Tryz.underlying5
 a5 := Tryz.isAgg5
 z5 := Tryz.sizeOf5
 v5 := Tryz.zeroValue5
 t9 := Tryz.underlying9
 a9 := Tryz.isAgg9
 z9 := Tryz.sizeOf9
 v9 := Tryz.zeroValue9
 t20 := Tryz.underlying20
 a20 := Tryz.isAgg20
 z20 := Tryz.sizeOf20
 v20 := Tryz.zeroValue20
 t21 := Tryz.underlying21
 a21 := Tryz.isAgg21
 z21 := Tryz.sizeOf21
 v21 := Tryz.zeroValue21
 t37 := Tryz.underlying22
 a37 := Tryz.isAgg22
 z37 := Tryz.sizeOf22
 v37 := Tryz.zeroValue22
 t46 := Tryz.underlying129
 a46 := Tryz.isAgg129
 z46 := Tryz.sizeOf129
 v46 := Tryz.zeroValue129
 t51 := Tryz.underlying168
 a51 := Tryz.isAgg168
 z51 := Tryz.sizeOf168
 v51 := Tryz.zeroValue168
 t53 := Tryz.underlying132
 a53 := Tryz.isAgg132
 z53 := Tryz.sizeOf132
 v53 := Tryz.zeroValue132
 t75 := Tryz.underlying134
 a75 := Tryz.isAgg134
 z75 := Tryz.sizeOf134
 v75 := Tryz.zeroValue134
 t76 := Tryz.underlying142
 a76 := Tryz.isAgg142
 z76 := Tryz.sizeOf142
 v76 := Tryz.zeroValue142
 t85 := Tryz.underlying169
 a85 := Tryz.isAgg169
 z85 := Tryz.sizeOf169
 v85 := Tryz.zeroValue169
 t127 := Tryz.underlying153
 a127 := Tryz.isAgg153
 z127 := Tryz.sizeOf153
 v127 := Tryz.zeroValue153
 t143 := Tryz.underlying182
 a143 := Tryz.isAgg182
 z143 := Tryz.sizeOf182
 v143 := Tryz.zeroValue182
 t145 := Tryz.underlying184
 a145 := Tryz.isAgg184
 z145 := Tryz.sizeOf184
 v145 := Tryz.zeroValue184
 t167 := Tryz.underlying160
 a167 := Tryz.isAgg160
 z167 := Tryz.sizeOf160
 v167 := Tryz.zeroValue160
 t168 := Tryz.underlying162
 a168 := Tryz.isAgg162
 z168 := Tryz.sizeOf162
 v168 := Tryz.zeroValue162
 t171 := Tryz.underlying186
 a171 := Tryz.isAgg186
 z171 := Tryz.sizeOf186
 v171 := Tryz.zeroValue186
 t173 := Tryz.underlying189
 a173 := Tryz.isAgg189
 z173 := Tryz.sizeOf189
 v173 := Tryz.zeroValue189
 t175 := Tryz.underlying135
 a175 := Tryz.isAgg135
 z175 := Tryz.sizeOf135
 v175 := Tryz.zeroValue135
 t210 := Tryz.underlying172
 a210 := Tryz.isAgg172
 z210 := Tryz.sizeOf172
 v210 := Tryz.zeroValue172
 t212 := Tryz.underlying192
 a212 := Tryz.isAgg192
 z212 := Tryz.sizeOf192
 v212 := Tryz.zeroValue192
 t213 := Tryz.underlying193
 a213 := Tryz.isAgg193
 z213 := Tryz.sizeOf193
 t232 := Tryz.underlying196
 a232 := Tryz.isAgg196
 z232 := Tryz.sizeOf196
 v232 := Tryz.zeroValue196
 t233 := Tryz.underlying197
 a233 := Tryz.isAgg197
 z233 := Tryz.sizeOf197
 v233 := Tryz.zeroValue197
 g15 := by kernel_rfl
 g16 := by kernel_rfl
 g17 := by kernel_rfl
 g18 := by kernel_rfl
 g19 := by kernel_rfl }
open Go.RowKit in
theorem Tryz.strconv_Atoi (s : ByteArray) (n : Int) (hl : s.size ≤ 18) (h : Lib.atoi s.data.toList = some n) (w : World) :
 Calls Tryz.prog 201 #[.string s] w fun e w' => e = .returned (.tuple #[.int .i64 n, .nilIface]) ∧ ∃ t, w' = Lib.bytesWorld w 5 t := Any.strconv_Atoi Tryz.lays172 s n hl h w
end
section
open Go.RowKit Go.Shelf
theorem dec_ok : ∀ (l : List Int) (acc : Nat), (∀ d ∈ l, 48 ≤ d ∧ d ≤ 57) → ∃ m : Nat, Lib.decFrom acc (l.map fun n => UInt8.ofNat n.toNat) = some m ∧ (m : Int) = l.foldl (fun a d => a * 10 + (d - 48)) (acc : Int)
 | [], acc, _ => ⟨acc, rfl, rfl⟩
 | d :: l, acc, h => by
   have hd := h d (List.mem_cons_self ..);obtain ⟨m, h1, h2⟩ := dec_ok l (acc * 10 + (d.toNat - 48)) fun x hx => h x (List.mem_cons_of_mem _ hx)
   refine ⟨m, ?_, ?_⟩
   · rw [List.map_cons, Lib.decFrom]
     have hv : Lib.digitVal (UInt8.ofNat d.toNat) = some (d.toNat - 48) := by
      have ht : (UInt8.ofNat d.toNat).toNat = d.toNat := by simp only [UInt8.toNat_ofNat']; omega
      unfold Lib.digitVal;have h1 : (48 : UInt8) ≤ UInt8.ofNat d.toNat := by rw [UInt8.le_iff_toNat_le, ht]; show 48 ≤ _; omega
      have h2 : UInt8.ofNat d.toNat ≤ (57 : UInt8) := by rw [UInt8.le_iff_toNat_le, ht]; show _ ≤ 57; omega
      simp [h1, h2, ht];omega
     rw [hv];exact h1
   · rw [h2, List.foldl_cons]
     congr 1
     omega
theorem atoi_ok {l : List Int} (h : NumOk l) : Lib.atoi (strOfNums l).data.toList = some (decV l) := by
 obtain ⟨h1, h2, h3⟩ := h;obtain ⟨m, hm, he⟩ := dec_ok l 0 h3;rw [strOfNums_data];cases l with
 | nil => simp at h1
 | cons d l =>
   have hd := h3 d (List.mem_cons_self ..);have ht : (UInt8.ofNat d.toNat).toNat = d.toNat := by simp only [UInt8.toNat_ofNat']; omega
   have e1 : (UInt8.ofNat d.toNat == 45) = false := by
    rw [beq_eq_false_iff_ne];intro e;have := congrArg UInt8.toNat e;rw [ht] at this;simp at this;omega
   have e2 : (UInt8.ofNat d.toNat == 43) = false := by
    rw [beq_eq_false_iff_ne];intro e;have := congrArg UInt8.toNat e;rw [ht] at this;simp at this;omega
   rw [List.map_cons, Lib.atoi, e1, e2]
   have hn : Lib.decNat (UInt8.ofNat d.toNat :: l.map fun n => UInt8.ofNat n.toNat) = some m := by
    unfold Lib.decNat;rw [← List.map_cons (f := fun n : Int => UInt8.ofNat n.toNat)];simpa using hm
   rw [hn];show some (m : Int) = _
   rw [he];rfl
theorem decV_lt {l : List Int} (h : NumOk l) : 0 ≤ decV l ∧ decV l < 1000000000000000000 := by
 obtain ⟨h1, h2, h3⟩ := h;obtain ⟨m, hm, he⟩ := dec_ok l 0 h3;have := Lib.decFrom_lt18 hm (by simp; omega);have e : decV l = (m : Int) := by rw [he]; rfl
 omega
theorem wantKind_tk {c : Cx} {k : Int} {s s' : PS} {t : Tok} (h : wantKindP c k s = .ok t s') : t = s.tk ∧ s.tk.1 = k := by
 unfold wantKindP at h;split at h
 · exact ⟨next_tk h, by assumption⟩
 · cases h
theorem number_rq {E : En} (hE : E.Ok) {nv : Value} {s : PS} {W : World} (h : RAt E nv s W) (hne : numberP E.c s ≠ .out) : Calls Tryz.prog 152 #[.pointer (some ⟨E.M, 0, none⟩)] W (RQ E (fun v : Int => .int .i64 v) nv s W (numberP E.c s)) := by
 obtain ⟨R, hR⟩ : ∃ R, numberP E.c s = R := ⟨_, rfl⟩;rw [hR] at hne ⊢;simp only [numberP] at hR;have hp1 := bd_ne (p := wantKindP E.c 3) hR hne;have HC1 := Hi (wantKind_rq hE h 3 hp1);have hfine := h.le.2.2;clear hE h hne;cases hq1 : wantKindP E.c 3 s with
 | out => exact absurd hq1 hp1
 | no s1 =>
   have hR1 := (bd_no hq1).symm.trans hR;subst hR1;replace HC1 := rn HC1 hq1;clear hq1 hp1 hR;go_enter Tryz.func152, Tryz.ntmps152;go_wp2_with (go_at_call 161; refine (U HC1).mono ?_)
   rintro e w1 ⟨rfl, nv1, h1⟩
   have H1 := Hi h1;clear h1;go_wp2;exact ⟨rfl, rfl, nv1, U H1⟩
 | ok a1 s1 =>
   obtain ⟨rfl, hk⟩ := wantKind_tk hq1;have hno := hfine.1 hk;have hR1 := (bd_ok hq1).symm.trans hR;replace HC1 := ro HC1 hq1;have hR2 : (.ok (decV s.tk.2.1) s1 : Res Int) = R := hR1;subst hR2;have HA := Hi fun w => Tryz.strconv_Atoi (strOfNums s.tk.2.1) (decV s.tk.2.1) (by rw [strOfNums_size]; have := hno.2.1; omega) (atoi_ok hno) w
   obtain ⟨v, hv⟩ : ∃ v, decV s.tk.2.1 = v := ⟨_, rfl⟩;rw [hv] at HA ⊢;unfold tkV at HC1;clear hq1 hp1 hR hR1 hno hfine hv hk;go_enter Tryz.func152, Tryz.ntmps152;go_wp2_with (go_at_call 161; refine (U HC1).mono ?_)
   rintro e w1 ⟨rfl, nv1, h1⟩
   have H1 := Hi h1;clear h1;have q1 := tf1 s.tk.1 (strOfNums s.tk.2.1) (s.tk.2.2.1 : Int) (s.tk.2.2.2 : Int) w1;go_wp2_with (go_at_call 201; refine (U HA w1).mono ?_)
   rintro e w2 ⟨rfl, t2, hw2⟩
   have H2 := Hi ((U H1).below (by rw [hw2]; exact Lib.bytesWorld_below _ _ _ : Below w1.heap.size w1 w2));clear hw2;go_wp2;go_ret;exact ⟨rfl, nv1, U H2⟩
theorem str_rq {E : En} (hE : E.Ok) {nv : Value} {s : PS} {W : World} (h : RAt E nv s W) (hne : strP E.c s ≠ .out) : Calls Tryz.prog 246 #[.pointer (some ⟨E.M, 0, none⟩)] W (RQ E (fun n : Nat => .int .i64 (n : Int)) nv s W (strP E.c s)) := by
 obtain ⟨R, hR⟩ : ∃ R, strP E.c s = R := ⟨_, rfl⟩;rw [hR] at hne ⊢;simp only [strP] at hR;have HNE := Hi hne;have hp1 := bd_ne (p := nextP E.c) hR hne;obtain ⟨a1, s1, hq1⟩ := next_ok hp1;have HC1 := Hi (rq_ok (next_rq hE h hp1) hq1);have HR1 := Hi ((bd_ok hq1).symm.trans hR);unfold tkV at HC1;clear hE h hR hne hp1 hq1;go_enter Tryz.func246, Tryz.ntmps246;go_wp2_with (go_at_call 53; refine (U HC1).mono ?_)
 rintro e w1 ⟨rfl, nv1, h1⟩
 have H1 := Hi (h1.below ((Below.refl _ w1).alloc NL (.cells #[.int .i64 a1.1, .string (strOfNums a1.2.1), .int .i64 (a1.2.2.1 : Int), .int .i64 (a1.2.2.2 : Int)] 40)));clear h1;have hp2 : putP ⟨11, a1.2.1, 0, [], a1.2.2.1⟩ s1 ≠ .out := fun e => U HNE ((U HR1).symm.trans e)
 have hq2 := put_ok hp2;have hR2 := hq2.symm.trans (U HR1);subst hR2;have HC2 := Hi (rq_ok (put_rq (U H1).1 ⟨11, a1.2.1, 0, [], a1.2.2.1⟩ none 0 ⟨none, 0, rfl, NL, Nat.zero_le _, .inl rfl⟩ hp2) hq2);simp only [e0', List.length_nil] at HC2;clear hp2 hq2;go_wp2_with (go_at_call 32; refine (U HC2).mono ?_)
 rintro e w2 ⟨rfl, nv2, h2⟩
 have H2 := Hi ((U H1).trans h2);clear h2;go_wp2;go_ret;exact ⟨rfl, nv2, U H2⟩
theorem primary_step {E : En} (hE : E.Ok) {n : Nat}  (IT : IHA E n .template 247 #[.pointer (some ⟨E.M, 0, none⟩)]) (IE : IHL E n (.enclosed [91] [93] .expr) 158 #[.pointer (some ⟨E.M, 0, none⟩), .string ⟨#[91]⟩, .string ⟨#[93]⟩, .func (.func 24) #[.pointer (some ⟨E.M, 0, none⟩)] #[]]) (IR : IHB E n .pair 248 [[44]] #[.string ⟨#[44]⟩]) (IN : IHA E n .newThing 249 #[.pointer (some ⟨E.M, 0, none⟩)]) (IU : IHA E n .super 250 #[.pointer (some ⟨E.M, 0, none⟩)]) (IX : IHA E n .expr 24 #[.pointer (some ⟨E.M, 0, none⟩)]) : IHA E (n + 1) .primary 226 #[.pointer (some ⟨E.M, 0, none⟩)] := by
 intro nv s W h hne;obtain ⟨R, hR⟩ : ∃ R, parP E.c (n + 1) .primary s = R := ⟨_, rfl⟩;rw [hR] at hne ⊢;simp only [parP, bodyP] at hR;have HR0 := Hi hR;have H0 := Hi (Lf.refl h);have HE := Hi hE;have HNE := Hi hne;have HIT := Hi IT;have HIE := Hi IE;have HIR := Hi IR;have HIN := Hi IN;have HIU := Hi IU;have HIX := Hi IX;clear hR hne h hE IT IE IR IN IU IX;go_enter Tryz.func226, Tryz.ntmps226;have d1 := (U H0).1.rd.tok.2.2.1;have hl1 := (U H0).1.rd.lt;have hR1 := U HR0;rw [bd_ok (p := atP) rfl] at hR1;replace HR0 := Hi hR1;clear hR1;have c2_2 := (U H0).1.rd.tok.1;have hl2 := (U H0).1.rd.lt;have hR2 := U HR0;rw [bd_ok (p := kindP) rfl] at hR2;have H2 := Hi (U H0);by_cases hk2_0 : s.tk.1 = 3
 · rw [hk2_0] at c2_2 hR2
   simp (config := { decide := true }) only [if_true, if_false, or_true, true_or] at hR2;have HR2 := Hi hR2;clear hR2;have hp3 := bd_ne (p := numberP E.c) (U HR2) (U HNE);have HC3 := Hi (number_rq (U HE) (U H2).1 hp3);cases hq3 : numberP E.c s with
   | out => exact absurd hq3 hp3
   | no s3 =>
     have hR3 := (bd_no hq3).symm.trans (U HR2);subst hR3;replace HC3 := rn HC3 hq3;clear hq3 hp3;go_wp2_with (go_at_call 152; refine (U HC3).mono ?_)
     rintro e w3 ⟨rfl, nv3, h3⟩
     have H3 := Hi ((U H2).trans h3);clear h3;go_wp2;exact ⟨rfl, rfl, nv3, U H3⟩
   | ok a3 s3 =>
     have HR3 := br hq3 HR2;replace HC3 := ro HC3 hq3;clear hq3 hp3;go_wp2_with (go_at_call 152; refine (U HC3).mono ?_)
     rintro e w3 ⟨rfl, nv3, h3⟩
     have H3 := Hi ((U H2).trans h3);clear h3;have hp4 := bd_ne (p := putP ⟨10, [], a3, [], s.tk.2.2.1⟩) (U HR3) (U HNE);obtain ⟨a4, s4, hq4⟩ : ∃ a s', putP ⟨10, [], a3, [], s.tk.2.2.1⟩ s3 = .ok a s' := put_ex hp4;have HC4 := Hi (rq_ok (put_rq (U H3).1 ⟨10, [], a3, [], s.tk.2.2.1⟩ none 0 ⟨none, 0, rfl, NL, Nat.zero_le _, .inl rfl⟩ hp4) hq4);simp only [e0', List.length_cons, List.length_nil] at HC4;have HR4 := br hq4 HR3;clear hq4 hp4;go_wp2_with (go_at_call 32; refine (U HC4).mono ?_)
     rintro e w4 ⟨rfl, nv4, h4⟩
     have H4 := Hi ((U H3).trans h4);clear h4;have hR4 : (.ok [a4] s4 : Res (List Nat)) = R := U HR4;subst hR4;go_wp2;go_ret;exact ⟨rfl, nv4, U H4⟩
 by_cases hk2_1 : s.tk.1 = 4
 · rw [hk2_1] at c2_2 hR2
   simp (config := { decide := true }) only [if_true, if_false, or_true, true_or] at hR2;have HR2 := Hi hR2;clear hR2 hk2_0;have hp5 := bd_ne (p := strP E.c) (U HR2) (U HNE);have HC5 := Hi (str_rq (U HE) (U H2).1 hp5);cases hq5 : strP E.c s with
   | out => exact absurd hq5 hp5
   | no s5 =>
     have hR5 := (bd_no hq5).symm.trans (U HR2);subst hR5;replace HC5 := rn HC5 hq5;clear hq5 hp5;go_wp2_with (go_at_call 246; refine (U HC5).mono ?_)
     rintro e w5 ⟨rfl, nv5, h5⟩
     have H5 := Hi ((U H2).trans h5);clear h5;go_wp2;exact ⟨rfl, rfl, nv5, U H5⟩
   | ok a5 s5 =>
     have HR5 := br hq5 HR2;replace HC5 := ro HC5 hq5;clear hq5 hp5;go_wp2_with (go_at_call 246; refine (U HC5).mono ?_)
     rintro e w5 ⟨rfl, nv5, h5⟩
     have H5 := Hi ((U H2).trans h5);clear h5;have hR5 : (.ok [a5] s5 : Res (List Nat)) = R := U HR5;subst hR5;go_wp2;go_ret;exact ⟨rfl, nv5, U H5⟩
 by_cases hk2_2 : s.tk.1 = 5
 · rw [hk2_2] at c2_2 hR2
   simp (config := { decide := true }) only [if_true, if_false, or_true, true_or] at hR2;have HR2 := Hi hR2;clear hR2 hk2_0 hk2_1;have hp6 : parP E.c n .template s ≠ .out := fun e => U HNE ((U HR2).symm.trans e)
   have HC6 := Hi (U HIT _ _ _ (U H2).1 hp6);cases hq6 : parP E.c n .template s with
   | out => exact absurd hq6 hp6
   | no s6 =>
     have hR6 := hq6.symm.trans (U HR2);subst hR6;replace HC6 := rn HC6 hq6;clear hq6 hp6;go_wp2_with (go_at_call 247; refine (U HC6).mono ?_)
     rintro e w6 ⟨rfl, nv6, h6⟩
     have H6 := Hi ((U H2).trans h6);clear h6;go_wp2;exact ⟨rfl, rfl, nv6, U H6⟩
   | ok a6 s6 =>
     have HR6 := Hi (hq6.symm.trans (U HR2));replace HC6 := ro HC6 hq6;clear hq6 hp6;go_wp2_with (go_at_call 247; refine (U HC6).mono ?_)
     rintro e w6 ⟨rfl, nv6, h6⟩
     have H6 := Hi ((U H2).trans h6);clear h6;have hR6 := U HR6;subst hR6;go_wp2;go_ret;exact ⟨rfl, nv6, U H6⟩
 by_cases hk2_3 : s.tk.1 = 6
 · rw [hk2_3] at c2_2 hR2
   simp (config := { decide := true }) only [if_true, if_false, or_true, true_or] at hR2;have HR2 := Hi hR2;clear hR2 hk2_0 hk2_1 hk2_2;have hp7 : parP E.c n .template s ≠ .out := fun e => U HNE ((U HR2).symm.trans e)
   have HC7 := Hi (U HIT _ _ _ (U H2).1 hp7);cases hq7 : parP E.c n .template s with
   | out => exact absurd hq7 hp7
   | no s7 =>
     have hR7 := hq7.symm.trans (U HR2);subst hR7;replace HC7 := rn HC7 hq7;clear hq7 hp7;go_wp2_with (go_at_call 247; refine (U HC7).mono ?_)
     rintro e w7 ⟨rfl, nv7, h7⟩
     have H7 := Hi ((U H2).trans h7);clear h7;go_wp2;exact ⟨rfl, rfl, nv7, U H7⟩
   | ok a7 s7 =>
     have HR7 := Hi (hq7.symm.trans (U HR2));replace HC7 := ro HC7 hq7;clear hq7 hp7;go_wp2_with (go_at_call 247; refine (U HC7).mono ?_)
     rintro e w7 ⟨rfl, nv7, h7⟩
     have H7 := Hi ((U H2).trans h7);clear h7;have hR7 := U HR7;subst hR7;go_wp2;go_ret;exact ⟨rfl, nv7, U H7⟩
 by_cases hk2_4 : s.tk.1 = 1
 · rw [hk2_4] at c2_2 hR2
   simp (config := { decide := true }) only [if_true, if_false, or_true, true_or] at hR2;have HR2 := Hi hR2;clear hR2 hk2_0 hk2_1 hk2_2 hk2_3;have hp8 := bd_ne (p := nameP E.c) (U HR2) (U HNE);have HC8 := Hi (name_rq (U HE) (U H2).1 hp8);cases hq8 : nameP E.c s with
   | out => exact absurd hq8 hp8
   | no s8 =>
     have hR8 := (bd_no hq8).symm.trans (U HR2);subst hR8;replace HC8 := rn HC8 hq8;clear hq8 hp8;go_wp2_with (go_at_call 103; refine (U HC8).mono ?_)
     rintro e w8 ⟨rfl, nv8, h8⟩
     have H8 := Hi ((U H2).trans h8);clear h8;go_wp2;exact ⟨rfl, rfl, nv8, U H8⟩
   | ok a8 s8 =>
     have HR8 := br hq8 HR2;replace HC8 := ro HC8 hq8;clear hq8 hp8;go_wp2_with (go_at_call 103; refine (U HC8).mono ?_)
     rintro e w8 ⟨rfl, nv8, h8⟩
     have H8 := Hi ((U H2).trans h8);clear h8;have hp9 := bd_ne (p := putP ⟨17, a8, 0, [], s.tk.2.2.1⟩) (U HR8) (U HNE);obtain ⟨a9, s9, hq9⟩ : ∃ a s', putP ⟨17, a8, 0, [], s.tk.2.2.1⟩ s8 = .ok a s' := put_ex hp9;have HC9 := Hi (rq_ok (put_rq (U H8).1 ⟨17, a8, 0, [], s.tk.2.2.1⟩ none 0 ⟨none, 0, rfl, NL, Nat.zero_le _, .inl rfl⟩ hp9) hq9);simp only [e0', List.length_cons, List.length_nil] at HC9;have HR9 := br hq9 HR8;clear hq9 hp9;go_wp2_with (go_at_call 32; refine (U HC9).mono ?_)
     rintro e w9 ⟨rfl, nv9, h9⟩
     have H9 := Hi ((U H8).trans h9);clear h9;have hR9 : (.ok [a9] s9 : Res (List Nat)) = R := U HR9;subst hR9;go_wp2;go_ret;exact ⟨rfl, nv9, U H9⟩
 simp only [hk2_0, hk2_1, hk2_2, hk2_3, hk2_4, if_false, or_self] at hR2;have HR2 := Hi hR2;clear hR2;have hkb2_0 : (s.tk.1 == 3) = false := beq_eq_false_iff_ne.2 hk2_0;have hkb2_1 : (s.tk.1 == 4) = false := beq_eq_false_iff_ne.2 hk2_1;have hkb2_2 : (s.tk.1 == 5) = false := beq_eq_false_iff_ne.2 hk2_2;have hkb2_3 : (s.tk.1 == 6) = false := beq_eq_false_iff_ne.2 hk2_3;have hkb2_4 : (s.tk.1 == 1) = false := beq_eq_false_iff_ne.2 hk2_4;clear hk2_0 hk2_1 hk2_2 hk2_3 hk2_4;obtain ⟨t2_10, t3_10, t4_10, t5_10⟩ := (U H2).1.rd.tok;have hl10 := (U H2).1.rd.lt;have HC10 := Hi (mark_any s.tk W);have hbm10 : Bys (mark s.tk) := mark_bys (U H2).1.by'
 have hR10 := U HR2;rw [bd_ok (p := markP) rfl] at hR10;unfold tkV at HC10;obtain ⟨m10, hm10⟩ : ∃ m, mark s.tk = m := ⟨_, rfl⟩;rw [hm10] at HC10 hbm10 hR10;have HM10 := Hi hm10;clear hm10;by_cases e10_0 : m10 = [116, 114, 117, 101]
 · subst e10_0
   simp (config := { decide := true }) only [if_true, if_false] at hR10;have HR10 := Hi hR10;rw [show strOfNums [116, 114, 117, 101] = ⟨#[116, 114, 117, 101]⟩ from rfl] at HC10;clear hR10 hbm10;go_wp2_with (go_at_call 50; refine (U HC10).mono ?_)
   rintro e w10 ⟨rfl, h10⟩
   have H10 := Hi ((U H2).below h10);clear h10;have hp11 := bd_ne (p := aloneP E.c 13) (U HR10) (U HNE);have HC11 := Hi (alone_rq (U HE) (U H10).1 13 hp11);cases hq11 : aloneP E.c 13 s with
   | out => exact absurd hq11 hp11
   | no s11 =>
     have hR11 := (bd_no hq11).symm.trans (U HR10);subst hR11;replace HC11 := rn HC11 hq11;clear hq11 hp11;go_wp2_with (go_at_call 59; refine (U HC11).mono ?_)
     rintro e w11 ⟨rfl, nv11, h11⟩
     have H11 := Hi ((U H10).trans h11);clear h11;go_wp2;exact ⟨rfl, rfl, nv11, U H11⟩
   | ok a11 s11 =>
     have HR11 := br hq11 HR10;replace HC11 := ro HC11 hq11;clear hq11 hp11;go_wp2_with (go_at_call 59; refine (U HC11).mono ?_)
     rintro e w11 ⟨rfl, nv11, h11⟩
     have H11 := Hi ((U H10).trans h11);clear h11;have hR11 : (.ok [a11] s11 : Res (List Nat)) = R := U HR11;subst hR11;go_wp2;go_ret;exact ⟨rfl, nv11, U H11⟩
 by_cases e10_1 : m10 = [102, 97, 108, 115, 101]
 · subst e10_1
   simp (config := { decide := true }) only [if_true, if_false] at hR10;have HR10 := Hi hR10;rw [show strOfNums [102, 97, 108, 115, 101] = ⟨#[102, 97, 108, 115, 101]⟩ from rfl] at HC10;clear hR10 hbm10;go_wp2_with (go_at_call 50; refine (U HC10).mono ?_)
   rintro e w10 ⟨rfl, h10⟩
   have H10 := Hi ((U H2).below h10);clear h10;have hp12 := bd_ne (p := aloneP E.c 14) (U HR10) (U HNE);have HC12 := Hi (alone_rq (U HE) (U H10).1 14 hp12);cases hq12 : aloneP E.c 14 s with
   | out => exact absurd hq12 hp12
   | no s12 =>
     have hR12 := (bd_no hq12).symm.trans (U HR10);subst hR12;replace HC12 := rn HC12 hq12;clear hq12 hp12;go_wp2_with (go_at_call 59; refine (U HC12).mono ?_)
     rintro e w12 ⟨rfl, nv12, h12⟩
     have H12 := Hi ((U H10).trans h12);clear h12;go_wp2;exact ⟨rfl, rfl, nv12, U H12⟩
   | ok a12 s12 =>
     have HR12 := br hq12 HR10;replace HC12 := ro HC12 hq12;clear hq12 hp12;go_wp2_with (go_at_call 59; refine (U HC12).mono ?_)
     rintro e w12 ⟨rfl, nv12, h12⟩
     have H12 := Hi ((U H10).trans h12);clear h12;have hR12 : (.ok [a12] s12 : Res (List Nat)) = R := U HR12;subst hR12;go_wp2;go_ret;exact ⟨rfl, nv12, U H12⟩
 by_cases e10_2 : m10 = [110, 117, 108, 108]
 · subst e10_2
   simp (config := { decide := true }) only [if_true, if_false] at hR10;have HR10 := Hi hR10;rw [show strOfNums [110, 117, 108, 108] = ⟨#[110, 117, 108, 108]⟩ from rfl] at HC10;clear hR10 hbm10;go_wp2_with (go_at_call 50; refine (U HC10).mono ?_)
   rintro e w10 ⟨rfl, h10⟩
   have H10 := Hi ((U H2).below h10);clear h10;have hp13 := bd_ne (p := aloneP E.c 15) (U HR10) (U HNE);have HC13 := Hi (alone_rq (U HE) (U H10).1 15 hp13);cases hq13 : aloneP E.c 15 s with
   | out => exact absurd hq13 hp13
   | no s13 =>
     have hR13 := (bd_no hq13).symm.trans (U HR10);subst hR13;replace HC13 := rn HC13 hq13;clear hq13 hp13;go_wp2_with (go_at_call 59; refine (U HC13).mono ?_)
     rintro e w13 ⟨rfl, nv13, h13⟩
     have H13 := Hi ((U H10).trans h13);clear h13;go_wp2;exact ⟨rfl, rfl, nv13, U H13⟩
   | ok a13 s13 =>
     have HR13 := br hq13 HR10;replace HC13 := ro HC13 hq13;clear hq13 hp13;go_wp2_with (go_at_call 59; refine (U HC13).mono ?_)
     rintro e w13 ⟨rfl, nv13, h13⟩
     have H13 := Hi ((U H10).trans h13);clear h13;have hR13 : (.ok [a13] s13 : Res (List Nat)) = R := U HR13;subst hR13;go_wp2;go_ret;exact ⟨rfl, nv13, U H13⟩
 by_cases e10_3 : m10 = [117, 110, 100, 101, 102, 105, 110, 101, 100]
 · subst e10_3
   simp (config := { decide := true }) only [if_true, if_false] at hR10;have HR10 := Hi hR10;rw [show strOfNums [117, 110, 100, 101, 102, 105, 110, 101, 100] = ⟨#[117, 110, 100, 101, 102, 105, 110, 101, 100]⟩ from rfl] at HC10;clear hR10 hbm10;go_wp2_with (go_at_call 50; refine (U HC10).mono ?_)
   rintro e w10 ⟨rfl, h10⟩
   have H10 := Hi ((U H2).below h10);clear h10;have hp14 := bd_ne (p := aloneP E.c 16) (U HR10) (U HNE);have HC14 := Hi (alone_rq (U HE) (U H10).1 16 hp14);cases hq14 : aloneP E.c 16 s with
   | out => exact absurd hq14 hp14
   | no s14 =>
     have hR14 := (bd_no hq14).symm.trans (U HR10);subst hR14;replace HC14 := rn HC14 hq14;clear hq14 hp14;go_wp2_with (go_at_call 59; refine (U HC14).mono ?_)
     rintro e w14 ⟨rfl, nv14, h14⟩
     have H14 := Hi ((U H10).trans h14);clear h14;go_wp2;exact ⟨rfl, rfl, nv14, U H14⟩
   | ok a14 s14 =>
     have HR14 := br hq14 HR10;replace HC14 := ro HC14 hq14;clear hq14 hp14;go_wp2_with (go_at_call 59; refine (U HC14).mono ?_)
     rintro e w14 ⟨rfl, nv14, h14⟩
     have H14 := Hi ((U H10).trans h14);clear h14;have hR14 : (.ok [a14] s14 : Res (List Nat)) = R := U HR14;subst hR14;go_wp2;go_ret;exact ⟨rfl, nv14, U H14⟩
 by_cases e10_4 : m10 = [116, 104, 105, 115]
 · subst e10_4
   simp (config := { decide := true }) only [if_true, if_false] at hR10;have HR10 := Hi hR10;rw [show strOfNums [116, 104, 105, 115] = ⟨#[116, 104, 105, 115]⟩ from rfl] at HC10;clear hR10 hbm10;go_wp2_with (go_at_call 50; refine (U HC10).mono ?_)
   rintro e w10 ⟨rfl, h10⟩
   have H10 := Hi ((U H2).below h10);clear h10;have hp15 := bd_ne (p := aloneP E.c 18) (U HR10) (U HNE);have HC15 := Hi (alone_rq (U HE) (U H10).1 18 hp15);cases hq15 : aloneP E.c 18 s with
   | out => exact absurd hq15 hp15
   | no s15 =>
     have hR15 := (bd_no hq15).symm.trans (U HR10);subst hR15;replace HC15 := rn HC15 hq15;clear hq15 hp15;go_wp2_with (go_at_call 59; refine (U HC15).mono ?_)
     rintro e w15 ⟨rfl, nv15, h15⟩
     have H15 := Hi ((U H10).trans h15);clear h15;go_wp2;exact ⟨rfl, rfl, nv15, U H15⟩
   | ok a15 s15 =>
     have HR15 := br hq15 HR10;replace HC15 := ro HC15 hq15;clear hq15 hp15;go_wp2_with (go_at_call 59; refine (U HC15).mono ?_)
     rintro e w15 ⟨rfl, nv15, h15⟩
     have H15 := Hi ((U H10).trans h15);clear h15;have hR15 : (.ok [a15] s15 : Res (List Nat)) = R := U HR15;subst hR15;go_wp2;go_ret;exact ⟨rfl, nv15, U H15⟩
 by_cases e10_5 : m10 = [91]
 · subst e10_5
   simp (config := { decide := true }) only [if_true, if_false] at hR10;have HR10 := Hi hR10;rw [show strOfNums [91] = ⟨#[91]⟩ from rfl] at HC10;clear hR10 hbm10;go_wp2_with (go_at_call 50; refine (U HC10).mono ?_)
   rintro e w10 ⟨rfl, h10⟩
   have H10 := Hi ((U H2).below h10);clear h10;have hp16 := bd_ne (p := parP E.c n (.enclosed [91] [93] .expr)) (U HR10) (U HNE);have HC16 := Hi (U HIE _ _ _ (U H10).1 hp16);cases hq16 : parP E.c n (.enclosed [91] [93] .expr) s with
   | out => exact absurd hq16 hp16
   | no s16 =>
     have hR16 := (bd_no hq16).symm.trans (U HR10);subst hR16;replace HC16 := Hi (rql_no (U HC16) hq16);clear hq16 hp16;go_wp2_with (go_at_call 158; refine (U HC16).mono ?_)
     rintro e w16 ⟨rfl, nv16, h16⟩
     have H16 := Hi ((U H10).trans h16);clear h16;go_wp2;exact ⟨rfl, rfl, nv16, U H16⟩
   | ok a16 s16 =>
     have HR16 := br hq16 HR10;replace HC16 := Hi (rql_ok (U HC16) hq16);clear hq16 hp16;go_wp2_with (go_at_call 158; refine (U HC16).mono ?_)
     rintro e w16 ⟨ka16, kc16, nv16, rfl, hk16, h16⟩
     have H16 := Hi ((U H10).trans h16);have HK16 := Hi hk16;clear h16 hk16;have hp17 := bd_ne (p := putP ⟨19, [], 0, a16, s.tk.2.2.1⟩) (U HR16) (U HNE);obtain ⟨a17, s17, hq17⟩ : ∃ a s', putP ⟨19, [], 0, a16, s.tk.2.2.1⟩ s16 = .ok a s' := put_ex hp17;have HC17 := Hi (rq_ok (put_rq (U H16).1 ⟨19, [], 0, a16, s.tk.2.2.1⟩ ka16 kc16 (U HK16) hp17) hq17);have HR17 := br hq17 HR16;clear hq17 hp17;simp only [e0'] at HC17;go_wp2_with (go_at_call 32; refine (U HC17).mono ?_)
     rintro e w17 ⟨rfl, nv17, h17⟩
     have H17 := Hi ((U H16).trans h17);replace HK16 := Hi ((U HK16).fz (U H16).1 h17);clear h17;have hR17 : (.ok [a17] s17 : Res (List Nat)) = R := U HR17;subst hR17;go_wp2;go_ret;exact ⟨rfl, nv17, U H17⟩
 by_cases e10_6 : m10 = [123]
 · subst e10_6
   simp (config := { decide := true }) only [if_true, if_false] at hR10;have HR10 := Hi hR10;rw [show strOfNums [123] = ⟨#[123]⟩ from rfl] at HC10;clear hR10 hbm10;go_wp2_with (go_at_call 50; refine (U HC10).mono ?_)
   rintro e w10 ⟨rfl, h10⟩
   have H10 := Hi ((U H2).below h10);clear h10;have hp18 := bd_ne (p := parP E.c n (.braced .pair [[44]])) (U HR10) (U HNE);have H18p := Hi ((U H10).below ((Below.refl _ w10).alloc NL (.cells #[.string ⟨#[44]⟩] 9)));have HC18 := Hi (U HIR _ _ _ _ (U H18p).1 (World.alloc_heap_new w10 _) hp18);simp only [List.length_cons, List.length_nil] at HC18;cases hq18 : parP E.c n (.braced .pair [[44]]) s with
   | out => exact absurd hq18 hp18
   | no s18 =>
     have hR18 := (bd_no hq18).symm.trans (U HR10);subst hR18;replace HC18 := Hi (rql_no (U HC18) hq18);clear hq18 hp18;go_wp2_with (go_at_call 105; refine (U HC18).mono ?_)
     rintro e w18 ⟨rfl, nv18, h18⟩
     have H18 := Hi ((U H18p).trans h18);clear h18;go_wp2;exact ⟨rfl, rfl, nv18, U H18⟩
   | ok a18 s18 =>
     have HR18 := br hq18 HR10;replace HC18 := Hi (rql_ok (U HC18) hq18);clear hq18 hp18;go_wp2_with (go_at_call 105; refine (U HC18).mono ?_)
     rintro e w18 ⟨ka18, kc18, nv18, rfl, hk18, h18⟩
     have H18 := Hi ((U H18p).trans h18);have HK18 := Hi hk18;clear h18 hk18;have hp19 := bd_ne (p := putP ⟨20, [], 0, a18, s.tk.2.2.1⟩) (U HR18) (U HNE);obtain ⟨a19, s19, hq19⟩ : ∃ a s', putP ⟨20, [], 0, a18, s.tk.2.2.1⟩ s18 = .ok a s' := put_ex hp19;have HC19 := Hi (rq_ok (put_rq (U H18).1 ⟨20, [], 0, a18, s.tk.2.2.1⟩ ka18 kc18 (U HK18) hp19) hq19);have HR19 := br hq19 HR18;clear hq19 hp19;simp only [e0'] at HC19;go_wp2_with (go_at_call 32; refine (U HC19).mono ?_)
     rintro e w19 ⟨rfl, nv19, h19⟩
     have H19 := Hi ((U H18).trans h19);replace HK18 := Hi ((U HK18).fz (U H18).1 h19);clear h19;have hR19 : (.ok [a19] s19 : Res (List Nat)) = R := U HR19;subst hR19;go_wp2;go_ret;exact ⟨rfl, nv19, U H19⟩
 by_cases e10_7 : m10 = [110, 101, 119]
 · subst e10_7
   simp (config := { decide := true }) only [if_true, if_false] at hR10;have HR10 := Hi hR10;rw [show strOfNums [110, 101, 119] = ⟨#[110, 101, 119]⟩ from rfl] at HC10;clear hR10 hbm10;go_wp2_with (go_at_call 50; refine (U HC10).mono ?_)
   rintro e w10 ⟨rfl, h10⟩
   have H10 := Hi ((U H2).below h10);clear h10;have hp20 : parP E.c n .newThing s ≠ .out := fun e => U HNE ((U HR10).symm.trans e)
   have HC20 := Hi (U HIN _ _ _ (U H10).1 hp20);cases hq20 : parP E.c n .newThing s with
   | out => exact absurd hq20 hp20
   | no s20 =>
     have hR20 := hq20.symm.trans (U HR10);subst hR20;replace HC20 := rn HC20 hq20;clear hq20 hp20;go_wp2_with (go_at_call 249; refine (U HC20).mono ?_)
     rintro e w20 ⟨rfl, nv20, h20⟩
     have H20 := Hi ((U H10).trans h20);clear h20;go_wp2;exact ⟨rfl, rfl, nv20, U H20⟩
   | ok a20 s20 =>
     have HR20 := Hi (hq20.symm.trans (U HR10));replace HC20 := ro HC20 hq20;clear hq20 hp20;go_wp2_with (go_at_call 249; refine (U HC20).mono ?_)
     rintro e w20 ⟨rfl, nv20, h20⟩
     have H20 := Hi ((U H10).trans h20);clear h20;have hR20 := U HR20;subst hR20;go_wp2;go_ret;exact ⟨rfl, nv20, U H20⟩
 by_cases e10_8 : m10 = [115, 117, 112, 101, 114]
 · subst e10_8
   simp (config := { decide := true }) only [if_true, if_false] at hR10;have HR10 := Hi hR10;rw [show strOfNums [115, 117, 112, 101, 114] = ⟨#[115, 117, 112, 101, 114]⟩ from rfl] at HC10;clear hR10 hbm10;go_wp2_with (go_at_call 50; refine (U HC10).mono ?_)
   rintro e w10 ⟨rfl, h10⟩
   have H10 := Hi ((U H2).below h10);clear h10;have hp21 : parP E.c n .super s ≠ .out := fun e => U HNE ((U HR10).symm.trans e)
   have HC21 := Hi (U HIU _ _ _ (U H10).1 hp21);cases hq21 : parP E.c n .super s with
   | out => exact absurd hq21 hp21
   | no s21 =>
     have hR21 := hq21.symm.trans (U HR10);subst hR21;replace HC21 := rn HC21 hq21;clear hq21 hp21;go_wp2_with (go_at_call 250; refine (U HC21).mono ?_)
     rintro e w21 ⟨rfl, nv21, h21⟩
     have H21 := Hi ((U H10).trans h21);clear h21;go_wp2;exact ⟨rfl, rfl, nv21, U H21⟩
   | ok a21 s21 =>
     have HR21 := Hi (hq21.symm.trans (U HR10));replace HC21 := ro HC21 hq21;clear hq21 hp21;go_wp2_with (go_at_call 250; refine (U HC21).mono ?_)
     rintro e w21 ⟨rfl, nv21, h21⟩
     have H21 := Hi ((U H10).trans h21);clear h21;have hR21 := U HR21;subst hR21;go_wp2;go_ret;exact ⟨rfl, nv21, U H21⟩
 have g10_0 := mark_ne hbm10 (l := [116, 114, 117, 101]) (by intro z hz; simp at hz; omega) e10_0;have g10_1 := mark_ne hbm10 (l := [102, 97, 108, 115, 101]) (by intro z hz; simp at hz; omega) e10_1;have g10_2 := mark_ne hbm10 (l := [110, 117, 108, 108]) (by intro z hz; simp at hz; omega) e10_2;have g10_3 := mark_ne hbm10 (l := [117, 110, 100, 101, 102, 105, 110, 101, 100]) (by intro z hz; simp at hz; omega) e10_3;have g10_4 := mark_ne hbm10 (l := [116, 104, 105, 115]) (by intro z hz; simp at hz; omega) e10_4;have g10_5 := mark_ne hbm10 (l := [91]) (by intro z hz; simp at hz; omega) e10_5;have g10_6 := mark_ne hbm10 (l := [123]) (by intro z hz; simp at hz; omega) e10_6;have g10_7 := mark_ne hbm10 (l := [110, 101, 119]) (by intro z hz; simp at hz; omega) e10_7;have g10_8 := mark_ne hbm10 (l := [115, 117, 112, 101, 114]) (by intro z hz; simp at hz; omega) e10_8;skip
 rw [if_neg e10_0, if_neg e10_1, if_neg e10_2, if_neg e10_3, if_neg e10_4, if_neg e10_5, if_neg e10_6, if_neg e10_7, if_neg e10_8] at hR10;obtain ⟨S10, hS10⟩ : ∃ S, strOfNums m10 = S := ⟨_, rfl⟩;rw [hS10] at HC10 g10_0 g10_1 g10_2 g10_3 g10_4 g10_5 g10_6 g10_7 g10_8;have HR10 := Hi hR10;clear hR10 hS10 hbm10 e10_0 e10_1 e10_2 e10_3 e10_4 e10_5 e10_6 e10_7 e10_8;replace g10_0 : (S10.toList == [116, 114, 117, 101]) = false := g10_0;replace g10_1 : (S10.toList == [102, 97, 108, 115, 101]) = false := g10_1;replace g10_2 : (S10.toList == [110, 117, 108, 108]) = false := g10_2;replace g10_3 : (S10.toList == [117, 110, 100, 101, 102, 105, 110, 101, 100]) = false := g10_3;replace g10_4 : (S10.toList == [116, 104, 105, 115]) = false := g10_4;replace g10_5 : (S10.toList == [91]) = false := g10_5;replace g10_6 : (S10.toList == [123]) = false := g10_6;replace g10_7 : (S10.toList == [110, 101, 119]) = false := g10_7;replace g10_8 : (S10.toList == [115, 117, 112, 101, 114]) = false := g10_8;go_wp2_with (go_at_call 50; refine (U HC10).mono ?_)
 rintro e w10 ⟨rfl, h10⟩
 have H10 := Hi ((U H2).below h10);clear h10;have hp22 := bd_ne (p := wantP E.c [40]) (U HR10) (U HNE);have HC22 := Hi (want_rq (U HE) (U H10).1 (x := ⟨#[40]⟩) ⟨rfl, by intro z hz; simp at hz; omega⟩ hp22);cases hq22 : wantP E.c [40] s with
 | out => exact absurd hq22 hp22
 | no s22 =>
   have hR22 := (bd_no hq22).symm.trans (U HR10);subst hR22;replace HC22 := rn HC22 hq22;clear hq22 hp22;go_wp2_with (go_at_call 94; refine (U HC22).mono ?_)
   rintro e w22 ⟨rfl, nv22, h22⟩
   have H22 := Hi ((U H10).trans h22);clear h22;go_wp2;exact ⟨rfl, rfl, nv22, U H22⟩
 | ok a22 s22 =>
   have HR22 := br hq22 HR10;replace HC22 := ro HC22 hq22;clear hq22 hp22;go_wp2_with (go_at_call 94; refine (U HC22).mono ?_)
   rintro e w22 ⟨rfl, nv22, h22⟩
   have H22 := Hi ((U H10).trans h22);clear h22;have hp23 := bd_ne (p := parP E.c n .expr) (U HR22) (U HNE);have HC23 := Hi (U HIX _ _ _ (U H22).1 hp23);cases hq23 : parP E.c n .expr s22 with
   | out => exact absurd hq23 hp23
   | no s23 =>
     have hR23 := (bd_no hq23).symm.trans (U HR22);subst hR23;replace HC23 := rn HC23 hq23;clear hq23 hp23;go_wp2_with (go_at_call 24; refine (U HC23).mono ?_)
     rintro e w23 ⟨rfl, nv23, h23⟩
     have H23 := Hi ((U H22).trans h23);clear h23;go_wp2;exact ⟨rfl, rfl, nv23, U H23⟩
   | ok a23 s23 =>
     have HR23 := br hq23 HR22;replace HC23 := ro HC23 hq23;clear hq23 hp23;go_wp2_with (go_at_call 24; refine (U HC23).mono ?_)
     rintro e w23 ⟨rfl, nv23, h23⟩
     have H23 := Hi ((U H22).trans h23);clear h23;have hp24 := bd_ne (p := wantP E.c [41]) (U HR23) (U HNE);have HC24 := Hi (want_rq (U HE) (U H23).1 (x := ⟨#[41]⟩) ⟨rfl, by intro z hz; simp at hz; omega⟩ hp24);cases hq24 : wantP E.c [41] s23 with
     | out => exact absurd hq24 hp24
     | no s24 =>
       have hR24 := (bd_no hq24).symm.trans (U HR23);subst hR24;replace HC24 := rn HC24 hq24;clear hq24 hp24;go_wp2_with (go_at_call 94; refine (U HC24).mono ?_)
       rintro e w24 ⟨rfl, nv24, h24⟩
       have H24 := Hi ((U H23).trans h24);clear h24;go_wp2;exact ⟨rfl, rfl, nv24, U H24⟩
     | ok a24 s24 =>
       have HR24 := br hq24 HR23;replace HC24 := ro HC24 hq24;clear hq24 hp24;go_wp2_with (go_at_call 94; refine (U HC24).mono ?_)
       rintro e w24 ⟨rfl, nv24, h24⟩
       have H24 := Hi ((U H23).trans h24);clear h24;have hR24 : (.ok a23 s24 : Res (List Nat)) = R := U HR24;subst hR24;go_wp2;go_ret;exact ⟨rfl, nv24, U H24⟩
theorem number_lt {c : Cx} {s s' : PS} {v : Int} (hf : TkFine s.tk) (h : numberP c s = .ok v s') : 0 ≤ v ∧ v < 1000000000000000000 := by
 obtain ⟨t, s1, h1, h2⟩ := bd_inv h;obtain ⟨rfl, hk⟩ := wantKind_tk h1;cases h2;exact decV_lt (hf.1 hk)
theorem plainType_step {E : En} (hE : E.Ok) {n : Nat}  (IF : IHA E n (.funcType [61, 62]) 150 #[.pointer (some ⟨E.M, 0, none⟩), .string ⟨#[61, 62]⟩]) (IA : IHA E n .anyType 22 #[.pointer (some ⟨E.M, 0, none⟩)]) (IOb : IHA E n .objectType 151 #[.pointer (some ⟨E.M, 0, none⟩)]) (IR : IHA E n .typeRef 153 #[.pointer (some ⟨E.M, 0, none⟩)]) : IHA E (n + 1) .plainType 93 #[.pointer (some ⟨E.M, 0, none⟩)] := by
 intro nv s W h hne;obtain ⟨R, hR⟩ : ∃ R, parP E.c (n + 1) .plainType s = R := ⟨_, rfl⟩;rw [hR] at hne ⊢;simp only [parP, bodyP] at hR;have HR0 := Hi hR;have H0 := Hi (Lf.refl h);have HE := Hi hE;have HNE := Hi hne;have HIF := Hi IF;have HIA := Hi IA;have HIO := Hi IOb;have HIR := Hi IR;clear hR hne h hE IF IA IOb IR;go_enter Tryz.func93, Tryz.ntmps93;have d1 := (U H0).1.rd.tok.2.2.1;have hl1 := (U H0).1.rd.lt;have hR1 := U HR0;rw [bd_ok (p := atP) rfl] at hR1;replace HR0 := Hi hR1;clear hR1;have HC2 := Hi (paramsAhead_any (U HE) (U H0).1);obtain ⟨b2, hb2⟩ : ∃ b, (paramsAheadP E.c) s = b := ⟨_, rfl⟩;rw [hb2] at HC2;have hR2 : testP (paramsAheadP E.c) s = .ok b2 s := by show Res.ok ((paramsAheadP E.c) s) s = _; rw [hb2]
 have HR2 := br hR2 HR0;clear hb2 hR2;go_wp2_with (go_at_call 95; refine (U HC2).mono ?_)
 rintro e w2 ⟨rfl, h2⟩
 have H2 := Hi ((U H0).below h2);clear h2;cases b2 with
 | false =>
   try simp only [Bool.false_eq_true, if_false] at HR2
   have hp3 := bd_ne (p := takeP E.c [40]) (U HR2) (U HNE);obtain ⟨b3, s3, hq3⟩ := take_ok hp3;have HC3 := Hi (rq_ok (take_rq (U HE) (U H2).1 (x := ⟨#[40]⟩) ⟨rfl, by intro z hz; simp at hz; omega⟩ hp3) hq3);have HR3 := br hq3 HR2;clear hq3 hp3;go_wp2_with (go_at_call 42; refine (U HC3).mono ?_)
   rintro e w3 ⟨rfl, nv3, h3⟩
   have H3 := Hi ((U H2).trans h3);clear h3;cases b3 with
   | false =>
     try simp only [Bool.false_eq_true, if_false] at HR3
     have HC4 := Hi (ris_any E.M E.tv s3.n s3.tk nv3 E.lv E.cv E.bv w3 (U H3).1.rd (U H3).1.by' ⟨#[123]⟩ [123] ⟨rfl, by intro z hz; simp at hz; omega⟩);have hR4 := U HR3;rw [bd_ok (p := testP (isP [123])) rfl] at hR4;have HR4 := Hi hR4;clear hR4;obtain ⟨b4, hb4⟩ : ∃ b, isP [123] s3 = b := ⟨_, rfl⟩;rw [show isT s3.tk [123] = b4 from hb4] at HC4;simp only [hb4] at HR4;clear hb4;go_wp2_with (go_at_call 92; refine (U HC4).mono ?_)
     rintro e w4 ⟨rfl, h4⟩
     have H4 := Hi ((U H3).below h4);clear h4;cases b4 with
     | false =>
       try simp only [Bool.false_eq_true, if_false] at HR4
       have hp5 := bd_ne (p := takeP E.c [45]) (U HR4) (U HNE);obtain ⟨b5, s5, hq5⟩ := take_ok hp5;have HC5 := Hi (rq_ok (take_rq (U HE) (U H4).1 (x := ⟨#[45]⟩) ⟨rfl, by intro z hz; simp at hz; omega⟩ hp5) hq5);have HR5 := br hq5 HR4;clear hq5 hp5;go_wp2_with (go_at_call 42; refine (U HC5).mono ?_)
       rintro e w5 ⟨rfl, nv5, h5⟩
       have H5 := Hi ((U H4).trans h5);clear h5;cases b5 with
       | false =>
         try simp only [Bool.false_eq_true, if_false] at HR5
         have c2_6 := (U H5).1.rd.tok.1;have hl6 := (U H5).1.rd.lt;have hR6 := U HR5;rw [bd_ok (p := kindP) rfl] at hR6;have H6 := Hi (U H5);by_cases hk6_0 : s5.tk.1 = 3
         · rw [hk6_0] at c2_6 hR6
           simp (config := { decide := true }) only [if_true, if_false, or_true, true_or] at hR6;have HR6 := Hi hR6;clear hR6;have hp7 := bd_ne (p := numberP E.c) (U HR6) (U HNE);have HC7 := Hi (number_rq (U HE) (U H6).1 hp7);cases hq7 : numberP E.c s5 with
           | out => exact absurd hq7 hp7
           | no s7 =>
             have hR7 := (bd_no hq7).symm.trans (U HR6);subst hR7;replace HC7 := rn HC7 hq7;clear hq7 hp7;go_wp2_with (go_at_call 152; refine (U HC7).mono ?_)
             rintro e w7 ⟨rfl, nv7, h7⟩
             have H7 := Hi ((U H6).trans h7);clear h7;go_wp2;exact ⟨rfl, rfl, nv7, U H7⟩
           | ok a7 s7 =>
             have HR7 := br hq7 HR6;replace HC7 := ro HC7 hq7;clear hq7 hp7;go_wp2_with (go_at_call 152; refine (U HC7).mono ?_)
             rintro e w7 ⟨rfl, nv7, h7⟩
             have H7 := Hi ((U H6).trans h7);clear h7;have hp8 := bd_ne (p := putP ⟨81, [], a7, [], s.tk.2.2.1⟩) (U HR7) (U HNE);obtain ⟨a8, s8, hq8⟩ : ∃ a s', putP ⟨81, [], a7, [], s.tk.2.2.1⟩ s7 = .ok a s' := put_ex hp8;have HC8 := Hi (rq_ok (put_rq (U H7).1 ⟨81, [], a7, [], s.tk.2.2.1⟩ none 0 ⟨none, 0, rfl, NL, Nat.zero_le _, .inl rfl⟩ hp8) hq8);simp only [e0', List.length_cons, List.length_nil] at HC8;have HR8 := br hq8 HR7;clear hq8 hp8;go_wp2_with (go_at_call 32; refine (U HC8).mono ?_)
             rintro e w8 ⟨rfl, nv8, h8⟩
             have H8 := Hi ((U H7).trans h8);clear h8;have hR8 : (.ok [a8] s8 : Res (List Nat)) = R := U HR8;subst hR8;go_wp2;go_ret;exact ⟨rfl, nv8, U H8⟩
         by_cases hk6_1 : s5.tk.1 = 4
         · rw [hk6_1] at c2_6 hR6
           simp (config := { decide := true }) only [if_true, if_false, or_true, true_or] at hR6;have HR6 := Hi hR6;clear hR6 hk6_0;have hp9 := bd_ne (p := nextP E.c) (U HR6) (U HNE);obtain ⟨a9, s9, hq9⟩ : ∃ a s', nextP E.c s5 = .ok a s' := next_ok hp9;have HC9 := Hi (rq_ok (next_rq (U HE) (U H6).1 hp9) hq9);have HR9 := br hq9 HR6;clear hq9 hp9;unfold tkV at HC9;go_wp2_with (go_at_call 53; refine (U HC9).mono ?_)
           rintro e w9 ⟨rfl, nv9, h9⟩
           have H9 := Hi ((U H6).trans h9);clear h9;have q19 := tf1 a9.1 (strOfNums a9.2.1) (a9.2.2.1 : Int) (a9.2.2.2 : Int) w9;have hp10 := bd_ne (p := putP ⟨82, a9.2.1, 0, [], s.tk.2.2.1⟩) (U HR9) (U HNE);obtain ⟨a10, s10, hq10⟩ : ∃ a s', putP ⟨82, a9.2.1, 0, [], s.tk.2.2.1⟩ s9 = .ok a s' := put_ex hp10;have HC10 := Hi (rq_ok (put_rq (U H9).1 ⟨82, a9.2.1, 0, [], s.tk.2.2.1⟩ none 0 ⟨none, 0, rfl, NL, Nat.zero_le _, .inl rfl⟩ hp10) hq10);simp only [e0', List.length_cons, List.length_nil] at HC10;have HR10 := br hq10 HR9;clear hq10 hp10;go_wp2_with (go_at_call 32; refine (U HC10).mono ?_)
           rintro e w10 ⟨rfl, nv10, h10⟩
           have H10 := Hi ((U H9).trans h10);clear h10;have hR10 : (.ok [a10] s10 : Res (List Nat)) = R := U HR10;subst hR10;go_wp2;go_ret;exact ⟨rfl, nv10, U H10⟩
         simp only [hk6_0, hk6_1, if_false, or_self] at hR6;have HR6 := Hi hR6;clear hR6;have hkb6_0 : (s5.tk.1 == 3) = false := beq_eq_false_iff_ne.2 hk6_0;have hkb6_1 : (s5.tk.1 == 4) = false := beq_eq_false_iff_ne.2 hk6_1;clear hk6_0 hk6_1;have hp11 : parP E.c n .typeRef s5 ≠ .out := fun e => U HNE ((U HR6).symm.trans e)
         have HC11 := Hi (U HIR _ _ _ (U H6).1 hp11);cases hq11 : parP E.c n .typeRef s5 with
         | out => exact absurd hq11 hp11
         | no s11 =>
           have hR11 := hq11.symm.trans (U HR6);subst hR11;replace HC11 := rn HC11 hq11;clear hq11 hp11;go_wp2_with (go_at_call 153; refine (U HC11).mono ?_)
           rintro e w11 ⟨rfl, nv11, h11⟩
           have H11 := Hi ((U H6).trans h11);clear h11;go_wp2;exact ⟨rfl, rfl, nv11, U H11⟩
         | ok a11 s11 =>
           have HR11 := Hi (hq11.symm.trans (U HR6));replace HC11 := ro HC11 hq11;clear hq11 hp11;go_wp2_with (go_at_call 153; refine (U HC11).mono ?_)
           rintro e w11 ⟨rfl, nv11, h11⟩
           have H11 := Hi ((U H6).trans h11);clear h11;have hR11 := U HR11;subst hR11;go_wp2;go_ret;exact ⟨rfl, nv11, U H11⟩
       | true =>
         try simp only [if_true] at HR5
         have hfine5 := (U H5).1.le.2.2;have hp12 := bd_ne (p := numberP E.c) (U HR5) (U HNE);have HC12 := Hi (number_rq (U HE) (U H5).1 hp12);cases hq12 : numberP E.c s5 with
         | out => exact absurd hq12 hp12
         | no s12 =>
           have hR12 := (bd_no hq12).symm.trans (U HR5);subst hR12;replace HC12 := rn HC12 hq12;clear hq12 hp12;go_wp2_with (go_at_call 152; refine (U HC12).mono ?_)
           rintro e w12 ⟨rfl, nv12, h12⟩
           have H12 := Hi ((U H5).trans h12);clear h12;go_wp2;exact ⟨rfl, rfl, nv12, U H12⟩
         | ok a12 s12 =>
           have HR12 := br hq12 HR5;have hb12 := number_lt hfine5 hq12;have HV12 := Hi (show IntKind.i64.wrap (-a12) = -a12 by rw [IntKind.wrap_i64]; omega);replace HC12 := ro HC12 hq12;clear hq12 hp12 hb12;go_wp2_with (go_at_call 152; refine (U HC12).mono ?_)
           rintro e w12 ⟨rfl, nv12, h12⟩
           have H12 := Hi ((U H5).trans h12);clear h12;have hwv12 := U HV12;have hp13 := bd_ne (p := putP ⟨81, [], (-a12), [], s.tk.2.2.1⟩) (U HR12) (U HNE);obtain ⟨a13, s13, hq13⟩ : ∃ a s', putP ⟨81, [], (-a12), [], s.tk.2.2.1⟩ s12 = .ok a s' := put_ex hp13;have HC13 := Hi (rq_ok (put_rq (U H12).1 ⟨81, [], (-a12), [], s.tk.2.2.1⟩ none 0 ⟨none, 0, rfl, NL, Nat.zero_le _, .inl rfl⟩ hp13) hq13);simp only [e0', List.length_cons, List.length_nil] at HC13;have HR13 := br hq13 HR12;clear hq13 hp13;go_wp2_with (go_at_call 32; refine (U HC13).mono ?_)
           rintro e w13 ⟨rfl, nv13, h13⟩
           have H13 := Hi ((U H12).trans h13);clear h13;have hR13 : (.ok [a13] s13 : Res (List Nat)) = R := U HR13;subst hR13;go_wp2;go_ret;exact ⟨rfl, nv13, U H13⟩
     | true =>
       try simp only [if_true] at HR4
       have hp14 : parP E.c n .objectType s3 ≠ .out := fun e => U HNE ((U HR4).symm.trans e)
       have HC14 := Hi (U HIO _ _ _ (U H4).1 hp14);cases hq14 : parP E.c n .objectType s3 with
       | out => exact absurd hq14 hp14
       | no s14 =>
         have hR14 := hq14.symm.trans (U HR4);subst hR14;replace HC14 := rn HC14 hq14;clear hq14 hp14;go_wp2_with (go_at_call 151; refine (U HC14).mono ?_)
         rintro e w14 ⟨rfl, nv14, h14⟩
         have H14 := Hi ((U H4).trans h14);clear h14;go_wp2;exact ⟨rfl, rfl, nv14, U H14⟩
       | ok a14 s14 =>
         have HR14 := Hi (hq14.symm.trans (U HR4));replace HC14 := ro HC14 hq14;clear hq14 hp14;go_wp2_with (go_at_call 151; refine (U HC14).mono ?_)
         rintro e w14 ⟨rfl, nv14, h14⟩
         have H14 := Hi ((U H4).trans h14);clear h14;have hR14 := U HR14;subst hR14;go_wp2;go_ret;exact ⟨rfl, nv14, U H14⟩
   | true =>
     try simp only [if_true] at HR3
     have hp15 := bd_ne (p := parP E.c n .anyType) (U HR3) (U HNE);have HC15 := Hi (U HIA _ _ _ (U H3).1 hp15);cases hq15 : parP E.c n .anyType s3 with
     | out => exact absurd hq15 hp15
     | no s15 =>
       have hR15 := (bd_no hq15).symm.trans (U HR3);subst hR15;replace HC15 := rn HC15 hq15;clear hq15 hp15;go_wp2_with (go_at_call 22; refine (U HC15).mono ?_)
       rintro e w15 ⟨rfl, nv15, h15⟩
       have H15 := Hi ((U H3).trans h15);clear h15;go_wp2;exact ⟨rfl, rfl, nv15, U H15⟩
     | ok a15 s15 =>
       have HR15 := br hq15 HR3;replace HC15 := ro HC15 hq15;clear hq15 hp15;go_wp2_with (go_at_call 22; refine (U HC15).mono ?_)
       rintro e w15 ⟨rfl, nv15, h15⟩
       have H15 := Hi ((U H3).trans h15);clear h15;have hp16 := bd_ne (p := wantP E.c [41]) (U HR15) (U HNE);have HC16 := Hi (want_rq (U HE) (U H15).1 (x := ⟨#[41]⟩) ⟨rfl, by intro z hz; simp at hz; omega⟩ hp16);cases hq16 : wantP E.c [41] s15 with
       | out => exact absurd hq16 hp16
       | no s16 =>
         have hR16 := (bd_no hq16).symm.trans (U HR15);subst hR16;replace HC16 := rn HC16 hq16;clear hq16 hp16;go_wp2_with (go_at_call 94; refine (U HC16).mono ?_)
         rintro e w16 ⟨rfl, nv16, h16⟩
         have H16 := Hi ((U H15).trans h16);clear h16;go_wp2;exact ⟨rfl, rfl, nv16, U H16⟩
       | ok a16 s16 =>
         have HR16 := br hq16 HR15;replace HC16 := ro HC16 hq16;clear hq16 hp16;go_wp2_with (go_at_call 94; refine (U HC16).mono ?_)
         rintro e w16 ⟨rfl, nv16, h16⟩
         have H16 := Hi ((U H15).trans h16);clear h16;have hR16 : (.ok a15 s16 : Res (List Nat)) = R := U HR16;subst hR16;go_wp2;go_ret;exact ⟨rfl, nv16, U H16⟩
 | true =>
   try simp only [if_true] at HR2
   have hp17 : parP E.c n (.funcType [61, 62]) s ≠ .out := fun e => U HNE ((U HR2).symm.trans e)
   have HC17 := Hi (U HIF _ _ _ (U H2).1 hp17);cases hq17 : parP E.c n (.funcType [61, 62]) s with
   | out => exact absurd hq17 hp17
   | no s17 =>
     have hR17 := hq17.symm.trans (U HR2);subst hR17;replace HC17 := rn HC17 hq17;clear hq17 hp17;go_wp2_with (go_at_call 150; refine (U HC17).mono ?_)
     rintro e w17 ⟨rfl, nv17, h17⟩
     have H17 := Hi ((U H2).trans h17);clear h17;go_wp2;exact ⟨rfl, rfl, nv17, U H17⟩
   | ok a17 s17 =>
     have HR17 := Hi (hq17.symm.trans (U HR2));replace HC17 := ro HC17 hq17;clear hq17 hp17;go_wp2_with (go_at_call 150; refine (U HC17).mono ?_)
     rintro e w17 ⟨rfl, nv17, h17⟩
     have H17 := Hi ((U H2).trans h17);clear h17;have hR17 := U HR17;subst hR17;go_wp2;go_ret;exact ⟨rfl, nv17, U H17⟩
end
end Go.Proofs.YtofgphapjjofnaaGreatDoor
