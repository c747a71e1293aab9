/- tree.fits in general: a node is as the table says. -/
import Derived.Test.YtnnpkomedpjlcaaGreatDoorT7
import Derived.Test.YtnnpkomedpjlcaaGreatDoorTA
import Derived.Test.YtnnpkomedpjlcaaGreatDoorTB
import Derived.Test.YtnnpkomedpjlcaaGreatDoorTE
import Derived.Test.YtnnpkomedpjlcaaGreatDoorTG
import Derived.Test.YtnnpkomedpjlcaaGreatDoorTH
namespace Go.Proofs.YtnnpkomedpjlcaaGreatDoor
set_option linter.unusedSimpArgs false
set_option linter.unusedVariables false
open Go.RowKit Go.Shelf

def plOf : Nat → Plc
  | 59 => pAny
  | 60 => pStmt
  | 62 => (pList pTyp)
  | 65 => pTyp
  | 66 => (pK 85)
  | 69 => (pList pParam)
  | 92 => pExpr
  | 94 => (pK 21)
  | 95 => (pList (pK 67))
  | 96 => (pOr (pK 63) pExpr)
  | 100 => pAsg
  | 101 => (pList pExpr)
  | 102 => pNew
  | 121 => (pK 63)
  | 123 => (pOr pTyp (pK 1))
  | 124 => (pOr (pK 43) (pK 1))
  | 125 => (pList (pK 80))
  | 126 => pMem
  | 128 => (pOr pExpr (pK 1))
  | 129 => (pList (pK 66))
  | 131 => (pK 48)
  | 132 => (pOr pStmt (pK 50))
  | 133 => pExp
  | 134 => (pK 84)
  | 135 => (pOr (pK 53) (pOr (pK 63) (pK 1)))
  | 136 => pLet
  | 137 => (pOr (pK 62) (pK 1))
  | 138 => (pOr (pK 63) (pK 1))
  | _ => pAny
def txOf : Nat → ByteArray → Bool
  | 61 => tnB
  | 64 => goodB
  | 67 => nameB
  | 97 => (hasT unL)
  | 98 => (hasT binL)
  | 99 => (hasT asgL)
  | _ => fun _ => true
def nmOf : Nat → Int → Bool
  | 63 => (fun k => decide (-9007199254740991 ≤ k) && decide (k ≤ 9007199254740991))
  | 68 => zo
  | 91 => (fun k => decide (0 ≤ k) && decide (k ≤ 9007199254740991))
  | 122 => zo
  | 127 => (fun k => k == 0 || k == 4)
  | 130 => zo
  | 140 => (fun k => decide (0 ≤ k) && decide (k ≤ 7))
  | _ => fun _ => true
def alOf : Nat → List Nd → List Int → Bool
  | 70 => two
  | 93 => pcs
  | 139 => cof
  | _ => fun _ _ => true
def alM : Nat → Nat
  | 70 => 0
  | 93 => 0
  | 139 => 3
  | _ => 0
def plF : List Nat := [59, 60, 62, 65, 66, 69, 92, 94, 95, 96, 100, 101, 102, 121, 123, 124, 125, 126, 128, 129, 131, 132, 133, 134, 135, 136, 137, 138]
set_option maxRecDepth 100000 in
theorem pl_ok' : ∀ f ∈ plF, PlOk f (plOf f) ∧ Ent f := by
  intro f hf
  simp only [plF, List.mem_cons, List.not_mem_nil, or_false] at hf
  rcases hf with rfl | rfl | rfl | rfl | rfl | rfl | rfl | rfl | rfl | rfl | rfl | rfl | rfl | rfl | rfl | rfl | rfl | rfl | rfl | rfl | rfl | rfl | rfl | rfl | rfl | rfl | rfl | rfl
  · exact ⟨anyNode_ok, enters_of Tryz.func59 (by kernel_rfl) rfl⟩
  · exact ⟨stmt_ok, enters_of Tryz.func60 (by kernel_rfl) rfl⟩
  · exact ⟨types_ok, enters_of Tryz.func62 (by kernel_rfl) rfl⟩
  · exact ⟨typ_ok, enters_of Tryz.func65 (by kernel_rfl) rfl⟩
  · exact ⟨typeProp_ok, enters_of Tryz.func66 (by kernel_rfl) rfl⟩
  · exact ⟨params_ok, enters_of Tryz.func69 (by kernel_rfl) rfl⟩
  · exact ⟨expr_ok, enters_of Tryz.func92 (by kernel_rfl) rfl⟩
  · exact ⟨prop_ok, enters_of Tryz.func94 (by kernel_rfl) rfl⟩
  · exact ⟨typeParams_ok, enters_of Tryz.func95 (by kernel_rfl) rfl⟩
  · exact ⟨blockOrExpr_ok, enters_of Tryz.func96 (by kernel_rfl) rfl⟩
  · exact ⟨assigned_ok, enters_of Tryz.func100 (by kernel_rfl) rfl⟩
  · exact ⟨exprs_ok, enters_of Tryz.func101 (by kernel_rfl) rfl⟩
  · exact ⟨mov_ok, enters_of Tryz.func102 (by kernel_rfl) rfl⟩
  · exact ⟨block_ok, enters_of Tryz.func121 (by kernel_rfl) rfl⟩
  · exact ⟨typeOrNone_ok, enters_of Tryz.func123 (by kernel_rfl) rfl⟩
  · exact ⟨baseOrNone_ok, enters_of Tryz.func124 (by kernel_rfl) rfl⟩
  · exact ⟨typeNames_ok, enters_of Tryz.func125 (by kernel_rfl) rfl⟩
  · exact ⟨members_ok, enters_of Tryz.func126 (by kernel_rfl) rfl⟩
  · exact ⟨exprOrNone_ok, enters_of Tryz.func128 (by kernel_rfl) rfl⟩
  · exact ⟨markedParams_ok, enters_of Tryz.func129 (by kernel_rfl) rfl⟩
  · exact ⟨enumMember_ok, enters_of Tryz.func131 (by kernel_rfl) rfl⟩
  · exact ⟨stmtOrExport_ok, enters_of Tryz.func132 (by kernel_rfl) rfl⟩
  · exact ⟨exported_ok, enters_of Tryz.func133 (by kernel_rfl) rfl⟩
  · exact ⟨typeObject_ok, enters_of Tryz.func134 (by kernel_rfl) rfl⟩
  · exact ⟨elseOrNone_ok, enters_of Tryz.func135 (by kernel_rfl) rfl⟩
  · exact ⟨letOrNone_ok, enters_of Tryz.func136 (by kernel_rfl) rfl⟩
  · exact ⟨catchOrNone_ok, enters_of Tryz.func137 (by kernel_rfl) rfl⟩
  · exact ⟨blockOrNone_ok, enters_of Tryz.func138 (by kernel_rfl) rfl⟩
def txF : List Nat := [61, 64, 67, 97, 98, 99]
set_option maxRecDepth 100000 in
theorem tx_ok' : ∀ f ∈ txF, TextOk f (txOf f) ∧ Ent f := by
  intro f hf
  simp only [txF, List.mem_cons, List.not_mem_nil, or_false] at hf
  rcases hf with rfl | rfl | rfl | rfl | rfl | rfl
  · exact ⟨typeName_text, enters_of Tryz.func61 (by kernel_rfl) rfl⟩
  · exact ⟨good_ok, enters_of Tryz.func64 (by kernel_rfl) rfl⟩
  · exact ⟨name_ok, enters_of Tryz.func67 (by kernel_rfl) rfl⟩
  · exact ⟨unary_ok, enters_of Tryz.func97 (by kernel_rfl) rfl⟩
  · exact ⟨binary_ok, enters_of Tryz.func98 (by kernel_rfl) rfl⟩
  · exact ⟨assign_ok, enters_of Tryz.func99 (by kernel_rfl) rfl⟩
def nmF : List Nat := [63, 68, 91, 122, 127, 130, 140]
set_option maxRecDepth 100000 in
theorem nm_ok' : ∀ f ∈ nmF, IntOk f (nmOf f) ∧ Ent f := by
  intro f hf
  simp only [nmF, List.mem_cons, List.not_mem_nil, or_false] at hf
  rcases hf with rfl | rfl | rfl | rfl | rfl | rfl | rfl
  · exact ⟨signedNumber_ok, enters_of Tryz.func63 (by kernel_rfl) rfl⟩
  · exact ⟨noneOrOptional_ok, enters_of Tryz.func68 (by kernel_rfl) rfl⟩
  · exact ⟨number_ok, enters_of Tryz.func91 (by kernel_rfl) rfl⟩
  · exact ⟨letOrConst_ok, enters_of Tryz.func122 (by kernel_rfl) rfl⟩
  · exact ⟨noneOrReadonly_ok, enters_of Tryz.func127 (by kernel_rfl) rfl⟩
  · exact ⟨noneOrConst_ok, enters_of Tryz.func130 (by kernel_rfl) rfl⟩
  · exact ⟨marks_ok, enters_of Tryz.func140 (by kernel_rfl) rfl⟩
def alF : List Nat := [70, 93, 139]
set_option maxRecDepth 100000 in
theorem al_ok' : ∀ f ∈ alF, AllOk f (alM f) (alOf f) ∧ Ent f := by
  intro f hf
  simp only [alF, List.mem_cons, List.not_mem_nil, or_false] at hf
  rcases hf with rfl | rfl | rfl
  · exact ⟨two_ok, enters_of Tryz.func70 (by kernel_rfl) rfl⟩
  · exact ⟨pcs_ok, enters_of Tryz.func93 (by kernel_rfl) rfl⟩
  · exact ⟨cof_ok, enters_of Tryz.func139 (by kernel_rfl) rfl⟩

/-- Which function stands at a place. -/
def pfOf (r : RowV) (i : Nat) : Option Nat := match r.m with | some f => some f | none => [r.k0, r.k1, r.k2, r.k3].getD i none
def oin (o : Option Nat) (l : List Nat) : Bool := match o with | none => true | some f => l.contains f
/-- The row's functions are places, texts, numbers. -/
def rowFine (r : RowV) : Bool := oin r.t txF && oin r.n nmF && oin r.k0 plF && oin r.k1 plF && oin r.k2 plF && oin r.k3 plF && oin r.m plF && oin r.a alF && (match r.a with | none => true | some f => alM f == 0 || (r.m.isNone && alM f == 3 && r.k0.isSome && r.k1.isSome && r.k2.isSome))
def rowN : RowV := ⟨none, none, none, none, none, none, none, none⟩
def txP (r : RowV) (s : ByteArray) : Bool := match r.t with | none => s.toList.isEmpty | some f => txOf f s
def nmP (r : RowV) (n : Int) : Bool := match r.n with | none => n == 0 | some f => nmOf f n
def kidP (r : RowV) (l : List Nd) (ks : List Int) : Bool := upQ l ks (pfOf r) (fun i => plOf ((pfOf r i).getD 0)) ks.length && (r.m.isSome || (pfOf r ks.length).isNone) && (r.a.isNone || alOf (r.a.getD 0) l ks)
/-- A node is as the table says. -/
def fitP (l : List Nd) (n : Nat) : Bool := (tabT (nd l n).kind).isSome && txP ((tabT (nd l n).kind).getD rowN) (nd l n).text && nmP ((tabT (nd l n).kind).getD rowN) (nd l n).num && kidP ((tabT (nd l n).kind).getD rowN) l (nd l n).kids

theorem oin_mem {o : Option Nat} {l : List Nat} (h : oin o l = true) {f : Nat} (e : o = some f) : f ∈ l := by subst e; simpa [oin] using h
theorem rowFine_parts {r : RowV} (h : rowFine r = true) : oin r.t txF = true ∧ oin r.n nmF = true ∧ (∀ i f, pfOf r i = some f → f ∈ plF) ∧ (∀ f, r.a = some f → f ∈ alF ∧ (alM f = 0 ∨ (r.m = none ∧ alM f = 3 ∧ r.k0.isSome = true ∧ r.k1.isSome = true ∧ r.k2.isSome = true))) := by
  simp only [rowFine, Bool.and_eq_true] at h
  obtain ⟨⟨⟨⟨⟨⟨⟨⟨h1, h2⟩, h3⟩, h4⟩, h5⟩, h6⟩, h7⟩, h8⟩, h9⟩ := h
  refine ⟨h1, h2, fun i f hf => ?_, fun f hf => ⟨oin_mem h8 hf, ?_⟩⟩
  · unfold pfOf at hf
    split at hf
    · rename_i g hg
      cases hf
      exact oin_mem h7 hg
    · rcases i with _ | _ | _ | _ | i
      · exact oin_mem h3 (by simpa using hf)
      · exact oin_mem h4 (by simpa using hf)
      · exact oin_mem h5 (by simpa using hf)
      · exact oin_mem h6 (by simpa using hf)
      · simp at hf
  · rw [hf] at h9
    simp only [Bool.or_eq_true, Bool.and_eq_true, beq_iff_eq] at h9
    rcases h9 with h | ⟨⟨⟨⟨a1, a2⟩, a3⟩, a4⟩, a5⟩
    · exact .inl h
    · exact .inr ⟨Option.isNone_iff_eq_none.1 a1, a2, a3, a4, a5⟩
theorem lookup_mem {k : Int} {r : RowV} : ∀ {l : List (Int × RowV)}, l.lookup k = some r → r ∈ l.map (·.2)
  | [], h => by cases h
  | (a, b) :: l, h => by
    simp only [List.lookup] at h
    split at h
    · cases h; simp
    · have := lookup_mem h
      simp only [List.map_cons, List.mem_cons]
      exact .inr this
set_option maxRecDepth 100000 in
theorem tabT_fine (k : Int) : rowFine ((tabT k).getD rowN) = true := by
  have hS : (tabSL.map (·.2)).all rowFine = true := by decide
  have hE : (tabEL.map (·.2)).all rowFine = true := by decide
  have hT : (tabTL.map (·.2)).all rowFine = true := by decide
  have h0 : rowFine rowN = true := by decide
  simp only [tabT]
  split
  · rename_i r hr
    exact List.all_eq_true.1 hT r (lookup_mem hr)
  · simp only [tabE]
    split
    · rename_i r hr
      exact List.all_eq_true.1 hE r (lookup_mem hr)
    · simp only [tabS]
      split
      · rename_i r hr
        exact List.all_eq_true.1 hS r (lookup_mem hr)
      · exact h0

theorem fv_getD (a b c d : Option Nat) (i : Nat) : [fv a, fv b, fv c, fv d].getD i .nilFunc = fv ([a, b, c, d].getD i none) := by
  rcases i with _ | _ | _ | _ | i <;> simp [fv]
theorem row_text (r : RowV) (hr : rowFine r = true) (s : ByteArray) (hs : s.size ≤ 4294967280) (W : World) : Calls Tryz.prog 53 #[r.val, .string s] W fun e w' => e = .returned (.bool (txP r s)) ∧ Below W.heap.size W w' := by
  obtain ⟨h1, _⟩ := rowFine_parts hr
  obtain ⟨t, n, k0, k1, k2, k3, m, a⟩ := r
  cases t with
  | none => exact takesText_none _ _ _ _ _ _ _ s W
  | some f =>
    obtain ⟨a1, a2⟩ := tx_ok' f (oin_mem h1 rfl)
    exact takesText_some f _ a1 a2 _ _ _ _ _ _ _ s hs W
theorem row_num (r : RowV) (hr : rowFine r = true) (x : Int) (W : World) : Calls Tryz.prog 54 #[r.val, .int .i64 x] W fun e w' => e = .returned (.bool (nmP r x)) ∧ Below W.heap.size W w' := by
  obtain ⟨_, h1, _⟩ := rowFine_parts hr
  obtain ⟨t, n, k0, k1, k2, k3, m, a⟩ := r
  cases n with
  | none => exact takesNum_none _ _ _ _ _ _ _ x W
  | some f =>
    obtain ⟨a1, a2⟩ := nm_ok' f (oin_mem h1 rfl)
    exact takesNum_some f _ a1 a2 _ _ _ _ _ _ _ x W
theorem row_place (r : RowV) (i : Nat) (W : World) : Calls Tryz.prog 72 #[r.val, .int .i64 (i : Int)] W fun e w' => e = .returned (fv (pfOf r i)) ∧ Below W.heap.size W w' := by
  obtain ⟨t, n, k0, k1, k2, k3, m, a⟩ := r
  cases m with
  | some f => exact placeOf_more f _ _ _ _ _ _ _ _ W
  | none =>
    have := placeOf_at (fv t) (fv n) (fv k0) (fv k1) (fv k2) (fv k3) (fv a) i W
    rw [fv_getD] at this
    exact this
theorem row_kids (r : RowV) (hr : rowFine r = true) (W : World) (M : Nat) (v : Value) (l : List Nd) (ks : List Int) (a : Option Addr) (cap : Nat)
    (hN : Nodes W M v l) (hK : KidsAt W M a ks) (hlen : ks.length ≤ 17592186044416) (hcap : ks.length ≤ cap) (hcm : cap ≤ maxLen) (hM : M ≤ W.heap.size) :
    Calls Tryz.prog 55 #[r.val, v, .slice a ks.length cap] W fun e w' => e = .returned (.bool (kidP r l ks)) ∧ Below W.heap.size W w' := by
  obtain ⟨_, _, h3, h4⟩ := rowFine_parts hr
  refine takesKids_any (fv r.t) (fv r.n) (fv r.k0) (fv r.k1) (fv r.k2) (fv r.k3) r.m r.a (alOf (r.a.getD 0)) (match r.a with | none => 0 | some f => alM f) (pfOf r) (fun i => plOf ((pfOf r i).getD 0)) W M v l ks a cap hN hK hlen hcap hcm hM (fun i W => row_place r i W) (fun i f hf => ?_) (fun f hf => ?_) (fun hm hn hs => ?_) (fun f hf => ?_)
  · have := pl_ok' f (h3 i f hf)
    rw [hf]; exact this
  · rw [hf]
    exact al_ok' f (h4 f hf).1
  · cases ha : r.a with
    | none => exact Nat.zero_le _
    | some f =>
      rcases (h4 f ha).2 with h0 | ⟨_, h0, a0, a1, a2⟩
      · simp only [h0]; exact Nat.zero_le _
      · simp only [h0]
        unfold pfOf at hn
        rw [hm] at hn
        match hks : ks.length, hn with
        | 0, hn => simp at hn; rw [hn] at a0; cases a0
        | 1, hn => simp at hn; rw [hn] at a1; cases a1
        | 2, hn => simp at hn; rw [hn] at a2; cases a2
        | n + 3, _ => omega
  · cases ha : r.a with
    | none => rfl
    | some g =>
      rcases (h4 g ha).2 with h0 | ⟨h, _⟩
      · simp only [h0]
      · rw [hf] at h; cases h

theorem fits_ok : PlOk 32 fitP := fun W M v l n hN hn hM => by
  have hr := tabT_fine (nd l n).kind
  obtain ⟨hb1, hb2⟩ := hN.2.1 n hn
  have h48 := table_any (nd l n).kind W
  generalize hro : tabT (nd l n).kind = ro at h48
  rw [hro] at hr
  have e48 : Calls Tryz.prog 52 #[.int .i64 (nd l n).kind] W fun e w' => e = .returned (.tuple #[(ro.getD rowN).val, .bool ro.isSome]) ∧ Below W.heap.size W w' := by
    refine Calls.mono h48 fun e w' h => ?_
    cases ro with
    | none => exact h
    | some r => exact h
  have := fits_core (ro.getD rowN).t (ro.getD rowN).n (ro.getD rowN).k0 (ro.getD rowN).k1 (ro.getD rowN).k2 (ro.getD rowN).k3 (ro.getD rowN).m (ro.getD rowN).a ro.isSome (txP (ro.getD rowN) (nd l n).text) (nmP (ro.getD rowN) (nd l n).num) (kidP (ro.getD rowN) l (nd l n).kids) W M v l n hN hn hM e48
    (fun W' _ => row_text _ hr _ hb1 W') (fun W' _ => row_num _ hr _ W') (fun W' a cap hB hK h1 h2 => row_kids _ hr W' M v l _ a cap (hN.keep hB hM) hK hb2 h1 h2 (Nat.le_trans hM hB.size))
  refine Calls.mono this fun e w' h => ⟨?_, h.2⟩
  rw [h.1]
  simp only [fitP, hro]
end Go.Proofs.YtnnpkomedpjlcaaGreatDoor
