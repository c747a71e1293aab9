/- The builder within a shower: copyCheck, WriteString, Len, String. -/
import Derived.Lib.Strings
import Derived.Lib.Slices
import Derived.Lib.Walk
import Derived.Lib.Builder
import Derived.Lib.AppendStr
import Derived.Lib.UnsafeStr
import Derived.Laws.Externs
import Derived.BigRegion
import Derived.Test.YtdgocaokmmhenaaGreatDoorH7
namespace Go.Proofs.YtdgocaokmmhenaaGreatDoor
set_option linter.unusedSimpArgs false
set_option linter.unusedVariables false
set_option maxRecDepth 100000
set_option maxHeartbeats 2000000
open Go.RowKit

theorem sizeB : (Tryz.prog.info? 84).map (·.size) = some 2 := by kernel_rfl
theorem liesB : liesAt Tryz.prog Tryz.prog.depth 86 (4 / Tryz.prog.cellsOf 86) 1 84 1 = true := by kernel_rfl
theorem infoByte : (Tryz.prog.info? 5).map (fun i => (i.zero, i.size, i.bytes)) = some (some (.int .u8 0), 1, 1) := by kernel_rfl
/-- A shower at block sb whose text's row lies at bv; M tells whose a block is. -/
structure ShAt (w : World) (M : Nat → Nat) (sb hb : Nat) (p bv : Value) (bs : List Value) (lg : Bool) : Prop where
  box : Bx w sb #[ptr hb, p, bv, .bool lg] 86
  row : w.ownsRow 0 5 1 bv bs.length bs
  ms : M sb = 1
  mr : ∀ g, bv.ownBlock = some g → M g = 2
  fr : ∀ k, w.heap.size ≤ k → M k = 0
  pp : p = .pointer none ∨ p = .pointer (some ⟨sb, 1, none⟩)
theorem cc_used (b : Nat) (w : World) (h0 : w.cell? ⟨b, 1, none⟩ = some (.pointer (some ⟨b, 1, none⟩))) :
    Calls Tryz.prog 127 #[.pointer (some ⟨b, 1, none⟩)] w fun e w' => e = .returned (.tuple #[]) ∧ w' = w := by
  obtain ⟨j, hj, _⟩ := Option.map_eq_some_iff.1 sizeB
  go_enter Tryz.func127, Tryz.ntmps127
  go_wp2
  rw [Lib.run_neq_ptr_same w _ Tryz.underlying81 hj]
  go_wp2
  go_end0
  exact ⟨rfl, rfl⟩
theorem cc_fresh (b : Nat) (w : World) (h0 : w.cell? ⟨b, 1, none⟩ = some (.pointer none)) (hsh : w.shape? b = some (86, 4)) (hfz : w.frozen? ⟨b, 1, none⟩ = false) :
    Calls Tryz.prog 127 #[.pointer (some ⟨b, 1, none⟩)] w fun e w' => e = .returned (.tuple #[]) ∧ w' = w.setCell ⟨b, 1, none⟩ (.pointer (some ⟨b, 1, none⟩)) := by
  obtain ⟨j, hj, hjs⟩ := Option.map_eq_some_iff.1 sizeB
  go_enter Tryz.func127, Tryz.ntmps127
  go_wp2
  rw [Lib.run_to_unsafe w ⟨b, 1, none⟩ Tryz.underlying81 Tryz.underlying182 hj (by rw [hjs]; decide) hsh (by show 1 < 4; decide)]
  simp only [Result.andThen]
  rw [Oper.upon_value]
  go_wp2
  rw [run_callFunc_extern Tryz.func131 (by kernel_rfl) (by kernel_rfl) (by kernel_rfl) (e := Extern.AbiNoEscape.same) (by kernel_rfl)]
  rw [Lib.run_noEscape]
  simp only [Result.andThen]
  rw [Oper.upon_value]
  go_wp2
  rw [Lib.run_from_unsafe w ⟨b, 1, none⟩ Tryz.underlying182 Tryz.underlying81 hj hsh liesB]
  simp only [Result.andThen]
  rw [Oper.upon_value]
  go_wp2
  go_end0
  exact ⟨rfl, rfl⟩
/-- Appending a string: the row stays where it is, or lies in a new block. -/
theorem append_str_where {P : Program} (w : World) (base : Nat) (t u ty e : TypeId) (i : TypeInfo) (ht : P.underlying t = some (.slice e)) (hu : P.underlying u = some .string) (hi : P.info? e = some i) (hz : i.zero = some (.int .u8 0))
    (hsize : i.size = 1) (hby : i.bytes = 1) (v : Value) (n : Nat) (xs : List Value) (hown : w.ownsRow base e 1 v n xs) (s : ByteArray) (h63 : n + s.size ≤ maxLen) (hbytes : n + s.size ≤ 140737488355328)
    {v' : Value} {w' : World} (hr : (Builtin.append_ #[t, u] ty #[v, .string s]).run P w = .ok v' w') : ∀ k, v'.ownBlock = some k → v.ownBlock = some k ∨ w.heap.size ≤ k := by
  intro k hk
  have hsmall : n + s.size ≤ 9223372036854775807 := by simp only [maxLen] at h63; omega
  have hxl : xs.length = n := by simpa using hown.1
  rcases hown.2 with ⟨rfl, rfl⟩ | ⟨g, cap, cur, rfl, hbg, hg, hnc, hcm, hcs, htake⟩
  · have hown' : w.ownsRow w.heap.size e 1 (.slice none 0 0) 0 [] := World.ownsRow_nil w w.heap.size e 1
    obtain ⟨v2, w2, hr2, h2, _⟩ := Lib.run_append_own_string (P := P) w w.heap.size t u ty e i ht hu hi hz hsize hby _ 0 [] hown' s h63 hbytes (Nat.le_refl _)
    rw [hr] at hr2
    cases hr2
    rcases h2.2 with ⟨rfl, _⟩ | ⟨g, cap, cur, rfl, hbg, _⟩
    · simp [Value.ownBlock] at hk
    · simp only [Value.ownBlock, Option.some.injEq] at hk; exact .inr (by omega)
  · by_cases hroom : n + s.size ≤ cap
    · have hcs' : cur.size = cap := by simpa using hcs
      have hr2 := Lib.run_append_room_string (P := P) w t u ty e i ht hu hi hsize g n cap cur hg s hroom (by omega)
      rw [hr] at hr2
      cases hr2
      exact .inl hk
    · have holds : ∀ j u, xs[j]? = some u → w.cell? ((⟨g, 0, none⟩ : Addr).add j) = some u := hown.cells (g := g) rfl
      have hr2 := Lib.run_append_grow_string (P := P) w t u ty e i (.int .u8 0) ht hu hi hz ⟨g, 0, none⟩ n cap xs (by rw [hsize]; simpa using hxl) holds s (by omega) (by omega) (by rw [hby]; exact growslice_fits (by omega) (by omega))
      rw [hr] at hr2
      cases hr2
      simp only [Value.ownBlock, Option.some.injEq] at hk
      exact .inr (by omega)

/-- The operation, for the walk, with where the row lies. -/
theorem wpList_append_str {P : Program} {w : World} {ops : Array Oper} {rest : List Oper} {o : Oper} {a : Act} {Q : Exit → Act → World → Prop} (hgd : o.guard = none) (sl x : Operand) (t u : TypeId)
    (ho : o.op = .call { callee := .builtin .append, args := #[sl, x], argTypes := #[t, u] })
    (base : Nat) (e : TypeId) (i : TypeInfo) (ht : P.underlying t = some (.slice e)) (hu : P.underlying u = some .string) (hi : P.info? e = some i) (hz : i.zero = some (.int .u8 0))
    (hsize : i.size = 1) (hby : i.bytes = 1)
    (v : Value) (n : Nat) (xs : List Value) (hs : a.eval sl = v) (hown : w.ownsRow base e 1 v n xs) (s : ByteArray) (hx : a.eval x = .string s)
    (h63 : n + s.size ≤ maxLen) (hbytes : n + s.size ≤ 140737488355328) (hbase : base ≤ w.heap.size)
    (h : ∀ v' w', w'.ownsRow base e 1 v' (n + s.size) (xs ++ Lib.strCells s) → w.grownBy w' v.ownBlock → (∀ k, v'.ownBlock = some k → v.ownBlock = some k ∨ w.heap.size ≤ k) → wpList P ops Q rest (a.put o.dst v') w') : wpList P ops Q (o :: rest) a w := by
  refine wpList_plain hgd fun K hK => ?_
  obtain ⟨v', w', hr, h2, h3, _⟩ := Lib.run_append_own_string (P := P) w base t u o.type e i ht hu hi hz hsize hby v n xs hown s h63 hbytes hbase
  have h5 := append_str_where (P := P) w base t u o.type e i ht hu hi hz hsize hby v n xs hown s h63 hbytes hr
  unfold Oper.wp execOp
  simp only [ho, resolve, invoke, builtin, Sem.run_bind, Sem.run_pure, Result.andThen_ok, List.map_toArray, List.map_cons, List.map_nil, hs, hx, hr]
  exact hK _ _ (h v' w' h2 h3 h5)


variable {w W : World} {M : Nat → Nat} {sb hb : Nat} {p bv : Value} {bs : List Value} {lg : Bool}
theorem ShAt.nb (h : ShAt W M sb hb p bv bs lg) : bv.ownBlock ≠ some sb := fun e => by have := h.mr sb e; rw [h.ms] at this; omega
theorem cc_any (h : ShAt W M sb hb p bv bs lg) : Calls Tryz.prog 127 #[.pointer (some ⟨sb, 1, none⟩)] W fun e w' => e = .returned (.tuple #[]) ∧ ShAt w' M sb hb (.pointer (some ⟨sb, 1, none⟩)) bv bs lg ∧ W.grownBy w' (some sb) ∧ w'.heap.size = W.heap.size := by
  rcases h.pp with rfl | rfl
  · refine (cc_fresh sb W (h.box.cell 1 rfl) (by have := h.box; unfold Bx at this; simp [World.shape?, this]) (h.box.free 1)).mono ?_
    rintro e w' ⟨rfl, rfl⟩
    have hk : ∀ k, k ≠ sb → (W.setCell ⟨sb, 1, none⟩ (.pointer (some ⟨sb, 1, none⟩))).heap[k]? = W.heap[k]? := fun k hne => Below.heap_setCell _ _ _ _ hne
    have hsz : (W.setCell ⟨sb, 1, none⟩ (.pointer (some ⟨sb, 1, none⟩))).heap.size = W.heap.size := by simp [World.setCell]
    refine ⟨rfl, ⟨by simpa using h.box.set (i := 1) (.pointer (some ⟨sb, 1, none⟩)), row_keep h.row fun g hg => hk g (fun e => h.nb (e ▸ hg)), h.ms, h.mr, fun k hk' => h.fr k (by rw [← hsz]; exact hk'), .inr rfl⟩, ⟨rfl, rfl, rfl, Nat.le_of_eq hsz.symm, fun k _ hne => hk k (fun e => hne (by rw [e]))⟩, hsz⟩
  · refine (cc_used sb W (h.box.cell 1 rfl)).mono ?_
    rintro e w' ⟨rfl, rfl⟩
    exact ⟨rfl, h, ⟨rfl, rfl, rfl, Nat.le_refl _, fun _ _ _ => rfl⟩, rfl⟩
/-- The labels when the row may lie in a new block. -/
def rowM (M : Nat → Nat) (N : Nat) (v : Value) : Nat → Nat := fun k => if k < N then M k else if v.ownBlock = some k then 2 else 0
theorem ws_any (h : ShAt W M sb hb p bv bs lg) (s : ByteArray) (hlen : bs.length + s.size ≤ 140737488355328) :
    Calls Tryz.prog 125 #[.pointer (some ⟨sb, 1, none⟩), .string s] W fun e w' => e = .returned (.tuple #[.int .i64 s.size, .nilIface]) ∧ ∃ M' p' bv', ShAt w' M' sb hb p' bv' (bs ++ Lib.strCells s) lg ∧ St M M' W w' := by
  obtain ⟨i0, hi, hz0, hz1, hz2⟩ := info_parts infoByte
  go_enter Tryz.func125, Tryz.ntmps125
  go_wp2_with (go_at_call 127; refine (cc_any h).mono ?_)
  rintro e w1 ⟨rfl, h1, hg1, hs1⟩
  have c2 := h1.box.cell 2 rfl
  have H1 := hide h1
  have HG1 := hide hg1
  have HS1 := hide hs1
  have hown := h1.row
  clear hg1 hs1 h1
  go_wp2_with (at_builtin; refine wpList_append_str rfl _ _ 82 9 rfl 0 5 i0 Tryz.underlying82 Tryz.underlying9 hi hz0 hz1 hz2 _ _ _ rfl hown s rfl ?c3 ?c4 ?c5 ?_)
  case c3 => unfold maxLen; omega
  case c4 => omega
  case c5 => omega
  intro v' w2 hown' hgrow hwh
  have hlt := (unhide H1).box.lt
  have hb2 : Bx w2 sb #[ptr hb, .pointer (some ⟨sb, 1, none⟩), bv, .bool lg] 86 := (hgrow.block sb hlt (fun e => (unhide H1).nb e.symm)).trans (unhide H1).box
  have d2 := hb2.cell 2 rfl
  have f2 := hb2.free 2
  have HB2 := hide hb2
  have HWH := hide hwh
  have HGR := hide hgrow
  have HOW := hide hown'
  obtain ⟨ao, n', cap, rfl⟩ : ∃ ao n' cap, v' = .slice ao n' cap := by
    rcases hown'.2 with ⟨h0, _⟩ | ⟨g, cap, cur, hv, _⟩
    · exact ⟨none, 0, 0, h0⟩
    · exact ⟨_, _, cap, hv⟩
  clear hb2 hwh hgrow hown' hown
  go_wp2
  refine bodyPost_ret (by simp [results, Tryz.results125, go_sem]; rfl) rfl ?_
  have hgr := unhide HGR
  have hown' := unhide HOW
  have hsz : w2.heap.size = (w2.setCell ⟨sb, 2, none⟩ (.slice ao n' cap)).heap.size := by simp [World.setCell]
  have hk : ∀ k, k ≠ sb → (w2.setCell ⟨sb, 2, none⟩ (.slice ao n' cap)).heap[k]? = w2.heap[k]? := fun k hne => Below.heap_setCell _ _ _ _ hne
  have hne : ∀ g, (Value.slice ao n' cap).ownBlock = some g → g ≠ sb := fun g hg e => by
    rcases unhide HWH g hg with h' | h'
    · exact (unhide H1).nb (e ▸ h')
    · omega
  have hrl : ∀ g, bv.ownBlock = some g → g < w1.heap.size := fun g hg => row_lt (unhide H1).row hg
  refine ⟨rfl, rowM M w1.heap.size (.slice ao n' cap), .pointer (some ⟨sb, 1, none⟩), .slice ao n' cap, ⟨by simpa using (unhide HB2).set (i := 2) (.slice ao n' cap), ?_, ?_, fun g hg => ?_, fun k hk' => ?_, .inr rfl⟩, ?_⟩
  · have := row_keep hown' (w' := w2.setCell ⟨sb, 2, none⟩ (.slice ao n' cap)) fun g hg => hk g (hne g hg)
    simpa [Lib.strCells_length] using this
  · simp [rowM, hlt, h.ms]
  · unfold rowM
    split
    · rcases unhide HWH g hg with h' | h'
      · exact h.mr g h'
      · omega
    · first | rfl | rw [if_pos hg]
  · rw [← hsz] at hk'
    unfold rowM
    have := hgr.size
    rw [if_neg (by omega), if_neg (fun e => by have := row_lt hown' e; omega)]
  · have hs1 := unhide HS1
    have hg1 := unhide HG1
    refine ⟨hgr.os.trans hg1.os, hgr.tape.trans hg1.tape, hgr.output.trans hg1.output, by rw [← hsz]; have := hgr.size; omega, fun k hk' => by simp [rowM]; omega, fun k hk' h0 => ?_⟩
    rw [hk k (fun e => by rw [e, h.ms] at h0; omega), hgr.block k (by omega) (fun e => by have := h.mr k e.symm; omega), hg1.block k hk' (fun e => by cases e; rw [h.ms] at h0; omega)]
theorem len_any (h : ShAt W M sb hb p bv bs lg) (hlen : bs.length ≤ 140737488355328) : Calls Tryz.prog 124 #[.pointer (some ⟨sb, 1, none⟩)] W fun e w' => e = .returned (.int .i64 bs.length) ∧ w' = W := by
  have c2 := h.box.cell 2 rfl
  obtain ⟨a, c, hv⟩ : ∃ a c, bv = .slice a bs.length c := by
    rcases h.row.2 with ⟨h1, h2⟩ | ⟨g, cap, cur, h1, _⟩
    · exact ⟨none, 0, by rw [h1, h2]⟩
    · exact ⟨_, _, h1⟩
  subst hv
  clear h
  go_enter Tryz.func124, Tryz.ntmps124
  go_wp2
  go_ret
  exact ⟨rfl, rfl⟩
theorem string_any {l : List UInt8} (h : ShAt W M sb hb p bv (Lib.byteCells l) lg) (h0 : l ≠ []) : Calls Tryz.prog 44 #[.pointer (some ⟨sb, 1, none⟩)] W fun e w' => e = .returned (.string ⟨l.toArray⟩) ∧ ∃ g, M g = 2 ∧ w' = W.drew.freeze ⟨g, 0, none⟩ l.length := by
  have hl0 : l.length ≠ 0 := by simpa using h0
  have hown := h.row
  rw [Lib.byteCells_length] at hown
  obtain ⟨g, cap, cur, rfl, hbg, hg, hnc, hcm, hcs, htake⟩ : ∃ g cap cur, bv = .slice (some ⟨g, 0, none⟩) l.length cap ∧ 0 ≤ g ∧ W.heap[g]? = some (.cells cur 5 (0, 0)) ∧ l.length ≤ cap ∧ cap ≤ maxLen ∧ cur.size = cap * 1 ∧ cur.toList.take (l.length * 1) = Lib.byteCells l := by
    rcases hown.2 with ⟨_, hz⟩ | ⟨g, cap, cur, hv, r⟩
    · exact absurd hz hl0
    · exact ⟨g, cap, cur, hv, r⟩
  have c1 : W.drew.cell? ⟨sb, 2, none⟩ = some (.slice (some ⟨g, 0, none⟩) l.length cap) := h.box.cell 2 rfl
  have hSD : (Builtin.unsafeSliceData_ #[82] 131 #[.slice (some ⟨g, 0, none⟩) l.length cap]).run Tryz.prog W.drew = .ok (.pointer (some ⟨g, 0, none⟩)) W.drew :=
    Lib.run_unsafeSliceData_row _ _ _ _ _ _ (by omega)
  have hUS : (Builtin.unsafeString_ #[131, 3] 9 #[.pointer (some ⟨g, 0, none⟩), .int .i64 l.length]).run Tryz.prog W.drew = .ok (.string ⟨l.toArray⟩) (W.drew.freeze ⟨g, 0, none⟩ l.length) := by
    refine Lib.run_unsafeString_row W.drew 131 3 9 5 Tryz.underlying131 (by kernel_rfl) g cur.size (by have hg' : W.drew.heap[g]? = some (.cells cur 5 (0, 0)) := hg; simp [World.shape?, hg']) l h0 (by omega) (by unfold maxLen at hcm; omega) ?_
    intro j x hx
    exact hown.cells (g := g) rfl j (.int .u8 x.toNat) (by simp [Lib.byteCells, hx])
  have HM := hide (h.mr g rfl)
  clear h hown hbg hg hcs htake
  go_enter Tryz.func44, Tryz.ntmps44
  go_wp2
  go_region
  all_goals (go_wp2; go_ret; exact ⟨rfl, g, unhide HM, rfl⟩)
end Go.Proofs.YtdgocaokmmhenaaGreatDoor
