/- find: a member of an object, or of the nearest one behind it. -/
import Derived.LoopTactic
import Derived.Test.YtdgocaokmmhenaaGreatDoorHA
namespace Go.Proofs.YtdgocaokmmhenaaGreatDoor
set_option linter.unusedSimpArgs false
set_option linter.unusedVariables false
set_option maxRecDepth 100000
set_option maxHeartbeats 2000000
open Go.RowKit Go.Shelf

variable {w W : World} {l : Ly} {hb : Nat} {H : PH}
/-- The member of the nearest one that has it. -/
def findP (ths : List Th) (key : ByteArray) (i : Nat) : Option PV :=
  match ths[i]? with
  | none => none
  | some t => match look t.slots key with
    | some v => some v
    | none => match t.beh with
      | none => none
      | some j => if j < i then findP ths key j else none
termination_by i
def findO (ths : List Th) (key : ByteArray) : Option Nat → Option PV
  | none => none
  | some i => findP ths key i
theorem findP_eq (ths : List Th) (key : ByteArray) (i : Nat) (t : Th) (hi : ths[i]? = some t) (hb : ∀ j, t.beh = some j → j < i) : findP ths key i = match look t.slots key with
    | some v => some v
    | none => findO ths key t.beh := by
  rw [findP, hi]
  simp only
  cases look t.slots key with
  | some v => rfl
  | none =>
    cases hbe : t.beh with
    | none => rfl
    | some j => simp [findO, hb j hbe]
theorem law9 : Maps.Keyed Tryz.prog 9 := Maps.string_keyed Tryz.underlying9
theorem zero32 (w : World) : (zeroValue 23).run Tryz.prog w = .ok (.agg (Vc 0 0 ⟨#[]⟩)) w := by kernel_rfl
theorem vElem_zero : vElem (.agg (Vc 0 0 ⟨#[]⟩)) = some (vD PV.und, []) := rfl
theorem key9 {s : ByteArray} (hs : s.size ≤ maxLen) : keyOf Tryz.prog 9 (.string s) = some (keyL s) := WideMaps.keyOf_string_mk Tryz.underlying9 hs
/-- The look-up in a thing's members. -/
theorem look_run {i : Nat} {t : Th} {mv : Option Nat} {kv : Value} (h : ObAt W l i t mv kv) (s : ByteArray) (hs : s.size ≤ maxLen) : (Instr.lookup 119 (.map mv) (.string s) true).run Tryz.prog W = .ok (.tuple #[((look t.slots s).getD PV.und).agg, .bool (look t.slots s).isSome]) W := by
  cases mv with
  | none =>
    rw [h.nomap rfl]
    show _ = Result.ok (Value.tuple #[PV.und.agg, .bool false]) W
    kernel_rfl
  | some m =>
    obtain ⟨⟨D, ho, hD⟩, _⟩ := h.map m rfl
    obtain ⟨v, ps, hrun, hv⟩ := ho.look_ok law9 Tryz.underlying119 (zero32 W) vElem_zero (key9 hs)
    rw [hrun, hD.has]
    congr 3
    cases hl : look t.slots s with
    | none =>
      have : Maps.has D (keyL s) = false := by rw [hD.has, hl]; rfl
      rw [Maps.atKey_of_not_has this] at hv
      rw [vElem_inv hv]; rfl
    | some x =>
      rw [hD.at' s x hl] at hv
      rw [vElem_inv hv]; rfl
theorem res_vb {P : Program} {fn : Func} {p u : Tmp} {ty : TypeId} (h : fn.results = #[.cell p ty, .tmp u]) (tmps : Array Value) (w : World) (g : Nat) (t : TypeId) (cs : Array Value) (fr : Nat × Nat) (d : TypeDesc)
    (hp : tmps.getD p undef = .pointer (some ⟨g, 0, none⟩)) (hg : w.heap[g]? = some (.cells cs t fr))
    (hu : P.underlying ty = some d) (hd : (match d with | .struct _ | .array _ _ => true | _ => false) = true) (hi : (P.info? ty).map (·.size) = some cs.size) :
    (results fn tmps).run P w = .ok (.tuple #[.agg cs, tmps.getD u undef]) w := by
  have hp' : tmps[p]?.getD undef = .pointer (some ⟨g, 0, none⟩) := by simpa using hp
  simp [results, h, hp', asAddr, run_loadVar_row w g t ty cs fr d hg hu hd hi]
theorem ret_vb {fn : Func} {p u : Tmp} (h : fn.results = #[.cell p 23, .tmp u]) {a : Act} {w W : World} {g : Nat} {B : Nat} {k n k0 n0 : Int} {t t0 : ByteArray} {bo : Bool} {x y z : Value} (hp : a.tmps.getD p undef = .pointer (some ⟨g, 0, none⟩)) (hu : a.tmps.getD u undef = .bool bo) (hg : Bv w g k0 n0 t0) (hx : #[x, y, z] = Vc k n t) (hb : Below B W w) (hB : B ≤ g) (hd : a.defers = []) :
    bodyPost Tryz.prog fn (fun e w' => e = .returned (.tuple #[.agg (Vc k n t), .bool bo]) ∧ Below B W w') .ret a (put3 w g x y z) := by
  refine bodyPost_ret ((res_vb h _ _ g 23 (Vc k n t) (0, 0) _ hp (by rw [← hx]; exact Bx.puts hg x y z) Tryz.underlying23 rfl (by rw [info32]; rfl)).trans (by rw [hu])) hd ⟨rfl, below_put3 hb hB _ _ _⟩
theorem find_103 (h : HAt W l hb H) (i : Nat) (t : Th) (hi : H.ths[i]? = some t) (hk : t.kind = 2) (key : ByteArray) (is : Bool) (hq : (key.toList == [108, 101, 110, 103, 116, 104]) = is) : Calls Tryz.prog 138 #[ptr (l.bx i), .string key] W fun e w' => e = .returned (.tuple #[(if is then PV.agg ⟨3, t.vals.length, ByteArray.empty⟩ else PV.und.agg), .bool is]) ∧ Below W.heap.size W w' := by
  obtain ⟨W2, hW2, b2, hb2, hz⟩ := one_box W
  have B2 := hide b2
  have HB := hide hb2
  have HZ := hide hz
  obtain ⟨d0, d1, d2, g0, g1, g2, lt'⟩ := b2.all
  obtain ⟨_, _, sv, har⟩ := ((h.below hb2).th i t hi).arr hk
  obtain ⟨a, c, _, c0, hc⟩ := har.cells
  have hvl := (vals_len h hi).1
  have HN : Hid (Ret 67 #[.int .i64 t.vals.length] (.agg (Vc 3 t.vals.length ByteArray.empty))) := number_any _
  obtain ⟨b, hbb⟩ : ∃ b, l.bx i = b := ⟨_, rfl⟩
  rw [hbb] at c0 ⊢
  unfold PV.agg PV.und ptr
  unfold Vc at HN ⊢
  clear h har hc b2 hb2 hz hi hbb hk
  cases is
  · go_enter Tryz.func138, Tryz.ntmps138
    go_wp2
    exact ret_vb Tryz.results138 rfl rfl (unhide B2) rfl (unhide HB) (by omega) rfl
  · go_enter Tryz.func138, Tryz.ntmps138
    go_wp2_with (go_at_call 67; refine (unhide HN _).mono ?_; rintro e w1 ⟨rfl, hb'⟩; have hz := unhide HZ; have E2 := hide ((unhide B2).below hb' (by omega)); obtain ⟨d0, d1, d2, g0, g1, g2, lt'⟩ := (unhide E2).all)
    have hz := unhide HZ
    exact ret_vb Tryz.results138 rfl rfl (unhide E2) rfl ((unhide HB).trans (hb'.mono (by omega))) (by omega) rfl
theorem find_80 (h : HAt W l hb H) (i : Nat) (t : Th) (hi : H.ths[i]? = some t) (hk : t.kind ≠ 2) (key : ByteArray) (hs : key.size ≤ maxLen) : Calls Tryz.prog 114 #[ptr (l.bx i), .string key] W fun e w' => e = .returned (.tuple #[((findP H.ths key i).getD PV.und).agg, .bool (findP H.ths key i).isSome]) ∧ Below W.heap.size W w' := by
  obtain ⟨W2, hW2, b2, hb2, hz⟩ := one_box W
  obtain ⟨f, hf⟩ : ∃ f, findP H.ths key i = f := ⟨_, rfl⟩
  have HH : Hid (∀ w', Below W2.heap.size W2 w' → HAt w' l hb H) := fun w' hb' => h.below (Below.up hb2 hb')
  have B2 := hide b2
  have HB := hide hb2
  have HZ := hide hz
  have HF := hide hf
  have HS := hide hs
  have HI := hide hi
  have HK := hide hk
  clear h b2 hb2 hz hi hk hs
  rw [hf]
  clear hf
  unfold PV.agg ptr
  unfold Vc
  go_enter Tryz.func114, Tryz.ntmps114
  go_wp2
  go_loopw [0] (fun o wr => ∃ oi : Option Nat, o = bpv l oi ∧ (∀ j, oi = some j → ∃ u : Th, H.ths[j]? = some u ∧ u.kind ≠ 2) ∧ findO H.ths key oi = f ∧ Below W2.heap.size W2 wr) (fun o _ => match o with | .pointer (some a) => l.L a.block | _ => 0)
  case atStart => exact ⟨some i, rfl, fun j hj => by cases hj; exact ⟨t, unhide HI, unhide HK⟩, unhide HF, Below.refl _ _⟩
  case round =>
    obtain ⟨oi, rfl, hth, hfo, hB⟩ := hrel
    have HTH := hide hth
    have HFO := hide hfo
    have HBR := hide hB
    clear hth hfo hB
    cases oi with
    | none =>
      obtain ⟨d0, d1, d2, g0, g1, g2, lt'⟩ := ((unhide B2).below (unhide HBR) (by have := unhide HZ; omega)).all
      have hff : none = f := unhide HFO
      have HFF := hide hff
      unfold bpv
      go_wp2
      have hff := unhide HFF
      subst hff
      exact ret_vb Tryz.results114 rfl rfl ((unhide B2).below (unhide HBR) (by have := unhide HZ; omega)) rfl ((unhide HB).trans ((unhide HBR).mono (unhide HB).size)) (Nat.le_refl _) rfl
    | some j =>
      obtain ⟨u, hu, huk⟩ := unhide HTH j rfl
      have hth := (unhide HH wr (unhide HBR)).th j u hu
      obtain ⟨_, mv, kv, hob⟩ := hth.obj huk
      have hrun := look_run hob key (unhide HS)
      have hfe : findP H.ths key j = f := unhide HFO
      rw [findP_eq H.ths key j u hu hth.beh] at hfe
      obtain ⟨b, hbb⟩ : ∃ b, l.bx j = b := ⟨_, rfl⟩
      have hlb : l.L b = 3 * j + 3 := by rw [← hbb]; exact hth.lb
      have hbx := hob.box
      rw [hbb] at hbx
      obtain ⟨q, hq⟩ := bpv_form l u.beh
      rw [hq] at hbx
      have c0 := hbx.cell 0 rfl
      have c1 := hbx.cell 1 rfl
      have hbl := hbx.lt
      obtain ⟨W3, hW3, ⟨n0, n1, n2, o0, o1, o2⟩, hx3, hb3, hz3⟩ := new3 wr (.int .i64 0) (.int .i64 0) (.string ⟨#[]⟩) 23
      have e0 := (hb3.cell (p := ⟨b, 0, none⟩) hbl).trans c0
      have X3 := hide (show Bv W3 wr.heap.size 0 0 ⟨#[]⟩ from hx3)
      have R2 := hide (((unhide B2).below (unhide HBR) (by have := unhide HZ; omega)).below hb3 (by have := unhide HZ; have := (unhide HBR).size; omega))
      obtain ⟨d0, d1, d2, g0, g1, g2, lt'⟩ := (unhide R2).all
      have HB3 := hide hb3
      have HZ3 := hide hz3
      have HFE := hide hfe
      have HLB := hide hlb
      have HQ := hide hq
      have hwr : W.heap.size + 2 ≤ wr.heap.size + 1 := by have := unhide HZ; have := (unhide HBR).size; omega
      have HTB := hide (fun k (hk' : u.beh = some k) => And.intro (hth.beh k hk') ((unhide HH wr (unhide HBR)).obj j u k hu hk'))
      have HZR := hide (Nat.le_trans (Nat.le_of_eq (unhide HZ).symm) (unhide HBR).size)
      rw [show bpv l (some j) = .pointer (some ⟨b, 0, none⟩) from by simp [bpv, ptr, hbb]]
      clear hu huk hth hob hfe hlb hbx hq hx3 hb3 hz3 hbb
      cases hl : look u.slots key with
      | some v =>
        rw [hl] at hrun HFE
        have hff : some v = f := unhide HFE
        have HFF := hide hff
        simp only [Option.getD_some, Option.isSome_some] at hrun
        unfold PV.agg Vc at hrun
        clear hff HFE HFO
        go_wp2
        have hff := unhide HFF
        subst hff
        have hz := unhide HZ
        have hz3 := unhide HZ3
        exact ret_vb Tryz.results114 rfl rfl (Bx.puts_ne (unhide R2) (by omega) _ _ _) rfl (below_put3 ((unhide HB).trans (((unhide HBR).trans ((unhide HB3).mono (unhide HBR).size)).mono (by omega))) (by omega) _ _ _) (Nat.le_refl _) rfl
      | none =>
        rw [hl] at hrun HFE
        simp only [Option.getD_none, Option.isSome_none] at hrun
        unfold PV.agg PV.und Vc at hrun
        clear HFO
        go_wp2
        have hz := unhide HZ
        refine ⟨⟨u.beh, (unhide HQ).symm, fun k hk' => ?_, unhide HFE, ?_⟩, ?_⟩
        · obtain ⟨_, x, hx, hxk⟩ := unhide HTB k hk'
          exact ⟨x, hx, by omega⟩
        · exact below_put3 ((unhide HBR).trans ((unhide HB3).mono (unhide HBR).size)) (unhide HBR).size _ _ _
        · have hq := unhide HQ
          have hlb := unhide HLB
          cases hbe : u.beh with
          | none =>
            rw [hbe] at hq
            simp [bpv] at hq
            rw [← hq]
            simp [hlb]
          | some k =>
            obtain ⟨h1, x, hx, _⟩ := unhide HTB k hbe
            rw [hbe] at hq
            have hL := ((unhide HH wr (unhide HBR)).th k x hx).lb
            have : q = some ⟨l.bx k, 0, none⟩ := by simpa [bpv, ptr] using hq.symm
            rw [this]
            simp [hlb, hL]
            omega
end Go.Proofs.YtdgocaokmmhenaaGreatDoor
