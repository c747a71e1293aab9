/- Towards the law: TH TI TJ TK. -/
import Derived.BigQuiet
import Derived.Deep.QuietTactic
import Derived.Laws.AppendOwn
import Derived.Laws.EntriesVeiled
import Derived.Laws.OwnMore
import Derived.Lib.Slices
import Derived.LoopN
import Derived.RangeFuncBox
import Derived.WalkSmall
import Derived.Test.YtofgphapjjofnaaGreatDoorZD
import Derived.Test.YtofgphapjjofnaaGreatDoorZE
import Derived.Test.YtofgphapjjofnaaGreatDoorZF
import Derived.Test.YtofgphapjjofnaaGreatDoorZG
set_option linter.unusedSimpArgs false
set_option linter.unusedVariables false
set_option maxRecDepth 100000
set_option maxHeartbeats 8000000
namespace Go.Proofs.YtofgphapjjofnaaGreatDoor.Tr
section
open Go.RowKit
attribute [local go_sem] run_store_fv
theorem region_C {P : Program} {C : World → Prop} {id : Nat} {Q : Exit → Act → World → Prop} {a : Act} {w : World} {l : List Oper} (hm : P.follows .mixedOrders = true) (hB : Region.lexB .any l.toArray = true) (hC : C { w with drawn := w.drawn + 1 })
 (h : wpQuiet P l.toArray C (fun a' => ∀ w', C w' → Q .normal a' w') l a) : (Code.region id l.toArray true).wp P Q a w :=
 wp_region_quiet (C := C) hm hB hC (by simpa using h)
theorem fits_core (r0 r1 r2 r3 r4 r5 r6 r7 : Option Nat) (b tB nB kB : Bool) (W : World) (M : Nat) (v : Value) (l : List Nd) (n : Nat) (hN : Nodes W M v l) (hn : n < l.length) (hM : M ≤ W.heap.size)
 (h48 : Calls Tryz.prog 33 #[.int .i64 (nd l n).kind] W fun e w' => e = .returned (.tuple #[.agg #[fv r0, fv r1, fv r2, fv r3, fv r4, fv r5, fv r6, fv r7], .bool b]) ∧ Below W.heap.size W w')
 (h49 : ∀ W', Below W.heap.size W W' → Calls Tryz.prog 34 #[.agg #[fv r0, fv r1, fv r2, fv r3, fv r4, fv r5, fv r6, fv r7], .string (nd l n).text] W' fun e w' => e = .returned (.bool tB) ∧ Below W'.heap.size W' w')
 (h50 : ∀ W', Below W.heap.size W W' → Calls Tryz.prog 35 #[.agg #[fv r0, fv r1, fv r2, fv r3, fv r4, fv r5, fv r6, fv r7], .int .i64 (nd l n).num] W' fun e w' => e = .returned (.bool nB) ∧ Below W'.heap.size W' w')
 (h51 : ∀ W' a cap, Below W.heap.size W W' → KidsAt W' M a (nd l n).kids → (nd l n).kids.length ≤ cap → cap ≤ maxLen → Calls Tryz.prog 36 #[.agg #[fv r0, fv r1, fv r2, fv r3, fv r4, fv r5, fv r6, fv r7], v, .slice a (nd l n).kids.length cap] W' fun e w' => e = .returned (.bool kB) ∧ Below W'.heap.size W' w') :
 Calls Tryz.prog 18 #[v, .int .i64 (n : Int)] W fun e w' => e = .returned (.bool (b && tB && nB && kB)) ∧ Below W.heap.size W w' := by
 obtain ⟨bb, o, cap, ka, kc, rfl, hcap, hmx, hb, d0, d1, d2, d3, d4, hkc, hkm, hK⟩ := hN.at hn;have hlt : (n : Int) < l.length := by omega
 have hbW : bb < W.heap.size := Nat.lt_of_lt_of_le hb hM;have H48 := Hi h48;have H49 := Hi h49;have H50 := Hi h50;have H51 : Hid (∀ W', Below W.heap.size W W' → Calls Tryz.prog 36 #[.agg #[fv r0, fv r1, fv r2, fv r3, fv r4, fv r5, fv r6, fv r7], .slice (some ⟨bb, o, none⟩) l.length cap, .slice ka (nd l n).kids.length kc] W' fun e w' => e = .returned (.bool kB) ∧ Below W'.heap.size W' w') := fun W' hW' => h51 W' ka kc hW' (hK.keep hW' hM) hkc hkm
 clear hN hn hcap hmx h48 h49 h50 h51 hK hkc hkm;go_enter Tryz.func18, Tryz.ntmps18;go_wp2_with (go_at_call 33; refine (U H48).mono ?_; rintro e w1 ⟨rfl, hB1⟩);obtain ⟨W2, hW2⟩ : ∃ W2, w1.alloc (.cells #[fv r0, fv r1, fv r2, fv r3, fv r4, fv r5, fv r6, fv r7] 81) = W2 := ⟨_, rfl⟩;have hr2 : W2.heap[w1.heap.size]? = some (.cells #[fv r0, fv r1, fv r2, fv r3, fv r4, fv r5, fv r6, fv r7] 81) := by rw [← hW2]; exact World.alloc_heap_new w1 _
 have hz2 : W2.heap.size = w1.heap.size + 1 := by rw [← hW2]; simp
 have hB2 : Below W.heap.size W W2 := by rw [← hW2]; exact hB1.alloc hB1.size _
 rw [hW2];clear hW2;have hz1 := hB1.size;refine region_C (C := fun w' => Below (w1.heap.size + 1) W2 w') (by kernel_rfl) (by kernel_rfl) (Below.refl _ _).drew ?_
 have HC : Hid (∀ w', Below (w1.heap.size + 1) W2 w' → W2.heap.size ≤ w'.heap.size ∧ Below W.heap.size W w' ∧ w'.heap[w1.heap.size]? = some (.cells #[fv r0, fv r1, fv r2, fv r3, fv r4, fv r5, fv r6, fv r7] 81) ∧
  w'.cell? ⟨bb, o + n * 5 + 1, none⟩ = some (.string (nd l n).text) ∧ w'.cell? ⟨bb, o + n * 5 + 2, none⟩ = some (.int .i64 (nd l n).num) ∧ w'.cell? ⟨bb, o + n * 5 + 3, none⟩ = some (.slice ka (nd l n).kids.length kc)) := fun w' hw => by
  have h3 : Below W.heap.size W w' := hB2.trans (hw.mono (by omega));exact ⟨hw.size, h3, (hw.block _ (by omega)).trans hr2, (h3.cell (p := ⟨bb, o + n * 5 + 1, none⟩) hbW).trans d1, (h3.cell (p := ⟨bb, o + n * 5 + 2, none⟩) hbW).trans d2, (h3.cell (p := ⟨bb, o + n * 5 + 3, none⟩) hbW).trans d3⟩
 clear d0 d1 d2 d3 d4 hr2;cases b with
 | false =>
   repeat (first
    | go_big_quiet_skip
    | (go_big_quiet_want
       go_big_quiet_op
       first
        | go_big_quiet_on
        | (apply Exists.intro
           refine ⟨fun w hw => ?_, ?_⟩
           first
            | rfl
            | exact (U H49 w (U HC w hw).2.1).mono fun e w2 h => ⟨h.1, hw.trans (h.2.mono (Nat.le_trans (Nat.le_of_eq hz2.symm) hw.size))⟩
            | exact (U H50 w (U HC w hw).2.1).mono fun e w2 h => ⟨h.1, hw.trans (h.2.mono (Nat.le_trans (Nat.le_of_eq hz2.symm) hw.size))⟩
            | exact (U H51 w (U HC w hw).2.1).mono fun e w2 h => ⟨h.1, hw.trans (h.2.mono (Nat.le_trans (Nat.le_of_eq hz2.symm) hw.size))⟩
            | (obtain ⟨hsz, hBw, hr, e1, e2, e3⟩ := U HC w hw
               obtain ⟨g0, g1, g2, g3, g4, g5, g6, g7⟩ := cells8 hr;go_simp
               first | done | rfl | exact ⟨rfl, rfl⟩)
           go_big_quiet_on)))
   refine wpQuiet_nil ?_;intro w5 hw5;have hBf := (U HC w5 hw5).2.1;go_wp2;go_ret;exact ⟨rfl, hBf⟩
 | true =>
   cases tB with
   | false =>
     repeat (first
      | go_big_quiet_skip
      | (go_big_quiet_want
         go_big_quiet_op
         first
          | go_big_quiet_on
          | (apply Exists.intro
             refine ⟨fun w hw => ?_, ?_⟩
             first
              | rfl
              | exact (U H49 w (U HC w hw).2.1).mono fun e w2 h => ⟨h.1, hw.trans (h.2.mono (Nat.le_trans (Nat.le_of_eq hz2.symm) hw.size))⟩
              | exact (U H50 w (U HC w hw).2.1).mono fun e w2 h => ⟨h.1, hw.trans (h.2.mono (Nat.le_trans (Nat.le_of_eq hz2.symm) hw.size))⟩
              | exact (U H51 w (U HC w hw).2.1).mono fun e w2 h => ⟨h.1, hw.trans (h.2.mono (Nat.le_trans (Nat.le_of_eq hz2.symm) hw.size))⟩
              | (obtain ⟨hsz, hBw, hr, e1, e2, e3⟩ := U HC w hw
                 obtain ⟨g0, g1, g2, g3, g4, g5, g6, g7⟩ := cells8 hr;go_simp
                 first | done | rfl | exact ⟨rfl, rfl⟩)
             go_big_quiet_on)))
     refine wpQuiet_nil ?_;intro w5 hw5;have hBf := (U HC w5 hw5).2.1;go_wp2;go_ret;exact ⟨rfl, hBf⟩
   | true =>
     cases nB with
     | false =>
       repeat (first
        | go_big_quiet_skip
        | (go_big_quiet_want
           go_big_quiet_op
           first
            | go_big_quiet_on
            | (apply Exists.intro
               refine ⟨fun w hw => ?_, ?_⟩
               first
                | rfl
                | exact (U H49 w (U HC w hw).2.1).mono fun e w2 h => ⟨h.1, hw.trans (h.2.mono (Nat.le_trans (Nat.le_of_eq hz2.symm) hw.size))⟩
                | exact (U H50 w (U HC w hw).2.1).mono fun e w2 h => ⟨h.1, hw.trans (h.2.mono (Nat.le_trans (Nat.le_of_eq hz2.symm) hw.size))⟩
                | exact (U H51 w (U HC w hw).2.1).mono fun e w2 h => ⟨h.1, hw.trans (h.2.mono (Nat.le_trans (Nat.le_of_eq hz2.symm) hw.size))⟩
                | (obtain ⟨hsz, hBw, hr, e1, e2, e3⟩ := U HC w hw
                   obtain ⟨g0, g1, g2, g3, g4, g5, g6, g7⟩ := cells8 hr;go_simp
                   first | done | rfl | exact ⟨rfl, rfl⟩)
               go_big_quiet_on)))
       refine wpQuiet_nil ?_;intro w5 hw5;have hBf := (U HC w5 hw5).2.1;go_wp2;go_ret;exact ⟨rfl, hBf⟩
     | true =>
       repeat (first
        | go_big_quiet_skip
        | (go_big_quiet_want
           go_big_quiet_op
           first
            | go_big_quiet_on
            | (apply Exists.intro
               refine ⟨fun w hw => ?_, ?_⟩
               first
                | rfl
                | exact (U H49 w (U HC w hw).2.1).mono fun e w2 h => ⟨h.1, hw.trans (h.2.mono (Nat.le_trans (Nat.le_of_eq hz2.symm) hw.size))⟩
                | exact (U H50 w (U HC w hw).2.1).mono fun e w2 h => ⟨h.1, hw.trans (h.2.mono (Nat.le_trans (Nat.le_of_eq hz2.symm) hw.size))⟩
                | exact (U H51 w (U HC w hw).2.1).mono fun e w2 h => ⟨h.1, hw.trans (h.2.mono (Nat.le_trans (Nat.le_of_eq hz2.symm) hw.size))⟩
                | (obtain ⟨hsz, hBw, hr, e1, e2, e3⟩ := U HC w hw
                   obtain ⟨g0, g1, g2, g3, g4, g5, g6, g7⟩ := cells8 hr;go_simp
                   first | done | rfl | exact ⟨rfl, rfl⟩)
               go_big_quiet_on)))
       refine wpQuiet_nil ?_;intro w5 hw5;have hBf := (U HC w5 hw5).2.1;go_wp2;go_ret;exact ⟨rfl, hBf⟩
end
section
open Go.RowKit Go.Shelf
def plOf : Nat → Plc
 | 74 => pAny
 | 75 => pStmt
 | 77 => (pList pTyp)
 | 80 => pTyp
 | 81 => (pK 85)
 | 84 => (pList pParam)
 | 128 => pExpr
 | 130 => (pK 21)
 | 131 => (pList (pK 67))
 | 132 => (pOr (pK 63) pExpr)
 | 136 => pAsg
 | 137 => (pList pExpr)
 | 138 => pNew
 | 172 => (pK 63)
 | 174 => (pOr pTyp (pK 1))
 | 175 => (pOr (pK 43) (pK 1))
 | 176 => (pList (pK 80))
 | 177 => pMem
 | 179 => (pOr pExpr (pK 1))
 | 180 => (pList (pK 66))
 | 182 => (pK 48)
 | 183 => (pOr pStmt (pK 50))
 | 184 => pExp
 | 185 => (pK 84)
 | 186 => (pOr (pK 53) (pOr (pK 63) (pK 1)))
 | 187 => pLet
 | 188 => (pOr (pK 62) (pK 1))
 | 189 => (pOr (pK 63) (pK 1))
 | _ => pAny
def txOf : Nat → ByteArray → Bool
 | 76 => tnB
 | 79 => goodB
 | 82 => nameB
 | 133 => (hasT unL)
 | 134 => (hasT binL)
 | 135 => (hasT asgL)
 | _ => fun _ => true
def nmOf : Nat → Int → Bool
 | 78 => (fun k => decide (-9007199254740991 ≤ k) && decide (k ≤ 9007199254740991))
 | 83 => zo
 | 127 => (fun k => decide (0 ≤ k) && decide (k ≤ 9007199254740991))
 | 173 => zo
 | 178 => (fun k => k == 0 || k == 4)
 | 181 => zo
 | 191 => (fun k => decide (0 ≤ k) && decide (k ≤ 7))
 | _ => fun _ => true
def alOf : Nat → List Nd → List Int → Bool
 | 85 => two
 | 129 => pcs
 | 190 => cof
 | _ => fun _ _ => true
def alM : Nat → Nat
 | 85 => 0
 | 129 => 0
 | 190 => 3
 | _ => 0
def plF : List Nat := [74, 75, 77, 80, 81, 84, 128, 130, 131, 132, 136, 137, 138, 172, 174, 175, 176, 177, 179, 180, 182, 183, 184, 185, 186, 187, 188, 189]
theorem pl_ok' : ∀ f ∈ plF, PlOk f (plOf f) ∧ Ent f := by
 intro f hf;simp only [plF, List.mem_cons, List.not_mem_nil, or_false] at hf;rcases hf with rfl | rfl | rfl | rfl | rfl | rfl | rfl | rfl | rfl | rfl | rfl | rfl | rfl | rfl | rfl | rfl | rfl | rfl | rfl | rfl | rfl | rfl | rfl | rfl | rfl | rfl | rfl | rfl
 · exact ⟨anyNode_ok, enters_of Tryz.func74 (by kernel_rfl) rfl⟩
 · exact ⟨stmt_ok, enters_of Tryz.func75 (by kernel_rfl) rfl⟩
 · exact ⟨types_ok, enters_of Tryz.func77 (by kernel_rfl) rfl⟩
 · exact ⟨typ_ok, enters_of Tryz.func80 (by kernel_rfl) rfl⟩
 · exact ⟨typeProp_ok, enters_of Tryz.func81 (by kernel_rfl) rfl⟩
 · exact ⟨params_ok, enters_of Tryz.func84 (by kernel_rfl) rfl⟩
 · exact ⟨expr_ok, enters_of Tryz.func128 (by kernel_rfl) rfl⟩
 · exact ⟨prop_ok, enters_of Tryz.func130 (by kernel_rfl) rfl⟩
 · exact ⟨typeParams_ok, enters_of Tryz.func131 (by kernel_rfl) rfl⟩
 · exact ⟨blockOrExpr_ok, enters_of Tryz.func132 (by kernel_rfl) rfl⟩
 · exact ⟨assigned_ok, enters_of Tryz.func136 (by kernel_rfl) rfl⟩
 · exact ⟨exprs_ok, enters_of Tryz.func137 (by kernel_rfl) rfl⟩
 · exact ⟨mov_ok, enters_of Tryz.func138 (by kernel_rfl) rfl⟩
 · exact ⟨block_ok, enters_of Tryz.func172 (by kernel_rfl) rfl⟩
 · exact ⟨typeOrNone_ok, enters_of Tryz.func174 (by kernel_rfl) rfl⟩
 · exact ⟨baseOrNone_ok, enters_of Tryz.func175 (by kernel_rfl) rfl⟩
 · exact ⟨typeNames_ok, enters_of Tryz.func176 (by kernel_rfl) rfl⟩
 · exact ⟨members_ok, enters_of Tryz.func177 (by kernel_rfl) rfl⟩
 · exact ⟨exprOrNone_ok, enters_of Tryz.func179 (by kernel_rfl) rfl⟩
 · exact ⟨markedParams_ok, enters_of Tryz.func180 (by kernel_rfl) rfl⟩
 · exact ⟨enumMember_ok, enters_of Tryz.func182 (by kernel_rfl) rfl⟩
 · exact ⟨stmtOrExport_ok, enters_of Tryz.func183 (by kernel_rfl) rfl⟩
 · exact ⟨exported_ok, enters_of Tryz.func184 (by kernel_rfl) rfl⟩
 · exact ⟨typeObject_ok, enters_of Tryz.func185 (by kernel_rfl) rfl⟩
 · exact ⟨elseOrNone_ok, enters_of Tryz.func186 (by kernel_rfl) rfl⟩
 · exact ⟨letOrNone_ok, enters_of Tryz.func187 (by kernel_rfl) rfl⟩
 · exact ⟨catchOrNone_ok, enters_of Tryz.func188 (by kernel_rfl) rfl⟩
 · exact ⟨blockOrNone_ok, enters_of Tryz.func189 (by kernel_rfl) rfl⟩
def txF : List Nat := [76, 79, 82, 133, 134, 135]
theorem tx_ok' : ∀ f ∈ txF, TextOk f (txOf f) ∧ Ent f := by
 intro f hf;simp only [txF, List.mem_cons, List.not_mem_nil, or_false] at hf;rcases hf with rfl | rfl | rfl | rfl | rfl | rfl
 · exact ⟨typeName_text, enters_of Tryz.func76 (by kernel_rfl) rfl⟩
 · exact ⟨good_ok, enters_of Tryz.func79 (by kernel_rfl) rfl⟩
 · exact ⟨name_ok, enters_of Tryz.func82 (by kernel_rfl) rfl⟩
 · exact ⟨unary_ok, enters_of Tryz.func133 (by kernel_rfl) rfl⟩
 · exact ⟨binary_ok, enters_of Tryz.func134 (by kernel_rfl) rfl⟩
 · exact ⟨assign_ok, enters_of Tryz.func135 (by kernel_rfl) rfl⟩
def nmF : List Nat := [78, 83, 127, 173, 178, 181, 191]
theorem nm_ok' : ∀ f ∈ nmF, IntOk f (nmOf f) ∧ Ent f := by
 intro f hf;simp only [nmF, List.mem_cons, List.not_mem_nil, or_false] at hf;rcases hf with rfl | rfl | rfl | rfl | rfl | rfl | rfl
 · exact ⟨signedNumber_ok, enters_of Tryz.func78 (by kernel_rfl) rfl⟩
 · exact ⟨noneOrOptional_ok, enters_of Tryz.func83 (by kernel_rfl) rfl⟩
 · exact ⟨number_ok, enters_of Tryz.func127 (by kernel_rfl) rfl⟩
 · exact ⟨letOrConst_ok, enters_of Tryz.func173 (by kernel_rfl) rfl⟩
 · exact ⟨noneOrReadonly_ok, enters_of Tryz.func178 (by kernel_rfl) rfl⟩
 · exact ⟨noneOrConst_ok, enters_of Tryz.func181 (by kernel_rfl) rfl⟩
 · exact ⟨marks_ok, enters_of Tryz.func191 (by kernel_rfl) rfl⟩
def alF : List Nat := [85, 129, 190]
theorem al_ok' : ∀ f ∈ alF, AllOk f (alM f) (alOf f) ∧ Ent f := by
 intro f hf;simp only [alF, List.mem_cons, List.not_mem_nil, or_false] at hf;rcases hf with rfl | rfl | rfl
 · exact ⟨two_ok, enters_of Tryz.func85 (by kernel_rfl) rfl⟩
 · exact ⟨pcs_ok, enters_of Tryz.func129 (by kernel_rfl) rfl⟩
 · exact ⟨cof_ok, enters_of Tryz.func190 (by kernel_rfl) rfl⟩
def pfOf (r : RowV) (i : Nat) : Option Nat := match r.m with | some f => some f | none => [r.k0, r.k1, r.k2, r.k3].getD i none
def oin (o : Option Nat) (l : List Nat) : Bool := match o with | none => true | some f => l.contains f
def rowFine (r : RowV) : Bool := oin r.t txF && oin r.n nmF && oin r.k0 plF && oin r.k1 plF && oin r.k2 plF && oin r.k3 plF && oin r.m plF && oin r.a alF && (match r.a with | none => true | some f => alM f == 0 || (r.m.isNone && alM f == 3 && r.k0.isSome && r.k1.isSome && r.k2.isSome))
def rowN : RowV := ⟨none, none, none, none, none, none, none, none⟩
def txP (r : RowV) (s : ByteArray) : Bool := match r.t with | none => s.toList.isEmpty | some f => txOf f s
def nmP (r : RowV) (n : Int) : Bool := match r.n with | none => n == 0 | some f => nmOf f n
def kidP (r : RowV) (l : List Nd) (ks : List Int) : Bool := upQ l ks (pfOf r) (fun i => plOf ((pfOf r i).getD 0)) ks.length && (r.m.isSome || (pfOf r ks.length).isNone) && (r.a.isNone || alOf (r.a.getD 0) l ks)
def fitP (l : List Nd) (n : Nat) : Bool := (tabT (nd l n).kind).isSome && txP ((tabT (nd l n).kind).getD rowN) (nd l n).text && nmP ((tabT (nd l n).kind).getD rowN) (nd l n).num && kidP ((tabT (nd l n).kind).getD rowN) l (nd l n).kids
theorem oin_mem {o : Option Nat} {l : List Nat} (h : oin o l = true) {f : Nat} (e : o = some f) : f ∈ l := by subst e; simpa [oin] using h
theorem rowFine_parts {r : RowV} (h : rowFine r = true) : oin r.t txF = true ∧ oin r.n nmF = true ∧ (∀ i f, pfOf r i = some f → f ∈ plF) ∧ (∀ f, r.a = some f → f ∈ alF ∧ (alM f = 0 ∨ (r.m = none ∧ alM f = 3 ∧ r.k0.isSome = true ∧ r.k1.isSome = true ∧ r.k2.isSome = true))) := by
 simp only [rowFine, Bool.and_eq_true] at h;obtain ⟨⟨⟨⟨⟨⟨⟨⟨h1, h2⟩, h3⟩, h4⟩, h5⟩, h6⟩, h7⟩, h8⟩, h9⟩ := h;refine ⟨h1, h2, fun i f hf => ?_, fun f hf => ⟨oin_mem h8 hf, ?_⟩⟩
 · unfold pfOf at hf
   split at hf
   · rename_i g hg
     cases hf;exact oin_mem h7 hg
   · rcases i with _ | _ | _ | _ | i
     · exact oin_mem h3 (by simpa using hf)
     · exact oin_mem h4 (by simpa using hf)
     · exact oin_mem h5 (by simpa using hf)
     · exact oin_mem h6 (by simpa using hf)
     · simp at hf
 · rw [hf] at h9
   simp only [Bool.or_eq_true, Bool.and_eq_true, beq_iff_eq] at h9;rcases h9 with h | ⟨⟨⟨⟨a1, a2⟩, a3⟩, a4⟩, a5⟩
   · exact .inl h
   · exact .inr ⟨Option.isNone_iff_eq_none.1 a1, a2, a3, a4, a5⟩
theorem lookup_mem {k : Int} {r : RowV} : ∀ {l : List (Int × RowV)}, l.lookup k = some r → r ∈ l.map (·.2)
 | [], h => by cases h
 | (a, b) :: l, h => by
   simp only [List.lookup] at h;split at h
   · cases h; simp
   · have := lookup_mem h
     simp only [List.map_cons, List.mem_cons];exact .inr this
theorem tabT_fine (k : Int) : rowFine ((tabT k).getD rowN) = true := by
 have hS : (tabSL.map (·.2)).all rowFine = true := by decide
 have hE : (tabEL.map (·.2)).all rowFine = true := by decide
 have hT : (tabTL.map (·.2)).all rowFine = true := by decide
 have h0 : rowFine rowN = true := by decide
 simp only [tabT];split
 · rename_i r hr
   exact List.all_eq_true.1 hT r (lookup_mem hr)
 · simp only [tabE]
   split
   · rename_i r hr
     exact List.all_eq_true.1 hE r (lookup_mem hr)
   · simp only [tabS]
     split
     · rename_i r hr
       exact List.all_eq_true.1 hS r (lookup_mem hr)
     · exact h0
theorem fv_getD (a b c d : Option Nat) (i : Nat) : [fv a, fv b, fv c, fv d].getD i .nilFunc = fv ([a, b, c, d].getD i none) := by
 rcases i with _ | _ | _ | _ | i <;> simp [fv]
theorem row_text (r : RowV) (hr : rowFine r = true) (s : ByteArray) (hs : s.size ≤ 4294967280) (W : World) : Calls Tryz.prog 34 #[r.val, .string s] W fun e w' => e = .returned (.bool (txP r s)) ∧ Below W.heap.size W w' := by
 obtain ⟨h1, _⟩ := rowFine_parts hr;obtain ⟨t, n, k0, k1, k2, k3, m, a⟩ := r;cases t with
 | none => exact takesText_none _ _ _ _ _ _ _ s W
 | some f =>
   obtain ⟨a1, a2⟩ := tx_ok' f (oin_mem h1 rfl);exact takesText_some f _ a1 a2 _ _ _ _ _ _ _ s hs W
theorem row_num (r : RowV) (hr : rowFine r = true) (x : Int) (W : World) : Calls Tryz.prog 35 #[r.val, .int .i64 x] W fun e w' => e = .returned (.bool (nmP r x)) ∧ Below W.heap.size W w' := by
 obtain ⟨_, h1, _⟩ := rowFine_parts hr;obtain ⟨t, n, k0, k1, k2, k3, m, a⟩ := r;cases n with
 | none => exact takesNum_none _ _ _ _ _ _ _ x W
 | some f =>
   obtain ⟨a1, a2⟩ := nm_ok' f (oin_mem h1 rfl);exact takesNum_some f _ a1 a2 _ _ _ _ _ _ _ x W
theorem row_place (r : RowV) (i : Nat) (W : World) : Calls Tryz.prog 87 #[r.val, .int .i64 (i : Int)] W fun e w' => e = .returned (fv (pfOf r i)) ∧ Below W.heap.size W w' := by
 obtain ⟨t, n, k0, k1, k2, k3, m, a⟩ := r;cases m with
 | some f => exact placeOf_more f _ _ _ _ _ _ _ _ W
 | none =>
   have := placeOf_at (fv t) (fv n) (fv k0) (fv k1) (fv k2) (fv k3) (fv a) i W;rw [fv_getD] at this;exact this
theorem row_kids (r : RowV) (hr : rowFine r = true) (W : World) (M : Nat) (v : Value) (l : List Nd) (ks : List Int) (a : Option Addr) (cap : Nat)
 (hN : Nodes W M v l) (hK : KidsAt W M a ks) (hlen : ks.length ≤ 17592186044416) (hcap : ks.length ≤ cap) (hcm : cap ≤ maxLen) (hM : M ≤ W.heap.size) :
 Calls Tryz.prog 36 #[r.val, v, .slice a ks.length cap] W fun e w' => e = .returned (.bool (kidP r l ks)) ∧ Below W.heap.size W w' := by
 obtain ⟨_, _, h3, h4⟩ := rowFine_parts hr;refine takesKids_any (fv r.t) (fv r.n) (fv r.k0) (fv r.k1) (fv r.k2) (fv r.k3) r.m r.a (alOf (r.a.getD 0)) (match r.a with | none => 0 | some f => alM f) (pfOf r) (fun i => plOf ((pfOf r i).getD 0)) W M v l ks a cap hN hK hlen hcap hcm hM (fun i W => row_place r i W) (fun i f hf => ?_) (fun f hf => ?_) (fun hm hn hs => ?_) (fun f hf => ?_)
 · have := pl_ok' f (h3 i f hf)
   rw [hf]; exact this
 · rw [hf]
   exact al_ok' f (h4 f hf).1
 · cases ha : r.a with
   | none => exact Nat.zero_le _
   | some f =>
     rcases (h4 f ha).2 with h0 | ⟨_, h0, a0, a1, a2⟩
     · simp only [h0]; exact Nat.zero_le _
     · simp only [h0]
       unfold pfOf at hn;rw [hm] at hn;match hks : ks.length, hn with
       | 0, hn => simp at hn; rw [hn] at a0; cases a0
       | 1, hn => simp at hn; rw [hn] at a1; cases a1
       | 2, hn => simp at hn; rw [hn] at a2; cases a2
       | n + 3, _ => omega
 · cases ha : r.a with
   | none => rfl
   | some g =>
     rcases (h4 g ha).2 with h0 | ⟨h, _⟩
     · simp only [h0]
     · rw [hf] at h; cases h
theorem fits_ok : PlOk 18 fitP := fun W M v l n hN hn hM => by
 have hr := tabT_fine (nd l n).kind;obtain ⟨hb1, hb2⟩ := hN.2.1 n hn;have h48 := table_any (nd l n).kind W;generalize hro : tabT (nd l n).kind = ro at h48;rw [hro] at hr
 have e48 : Calls Tryz.prog 33 #[.int .i64 (nd l n).kind] W fun e w' => e = .returned (.tuple #[(ro.getD rowN).val, .bool ro.isSome]) ∧ Below W.heap.size W w' := by
  refine Calls.mono h48 fun e w' h => ?_
  cases ro with
  | none => exact h
  | some r => exact h
 have := fits_core (ro.getD rowN).t (ro.getD rowN).n (ro.getD rowN).k0 (ro.getD rowN).k1 (ro.getD rowN).k2 (ro.getD rowN).k3 (ro.getD rowN).m (ro.getD rowN).a ro.isSome (txP (ro.getD rowN) (nd l n).text) (nmP (ro.getD rowN) (nd l n).num) (kidP (ro.getD rowN) l (nd l n).kids) W M v l n hN hn hM e48
  (fun W' _ => row_text _ hr _ hb1 W') (fun W' _ => row_num _ hr _ W') (fun W' a cap hB hK h1 h2 => row_kids _ hr W' M v l _ a cap (hN.keep hB hM) hK hb2 h1 h2 (Nat.le_trans hM hB.size))
 refine Calls.mono this fun e w' h => ⟨?_, h.2⟩
 rw [h.1];simp only [fitP, hro]
end
section
def lookK (rc : Nat → Int × Nat) (n : Nat) : List Int → Nat → Int × Nat
 | [], next => (-1, next)
 | k :: ks, next => if k = (next : Int) then (if (rc next).1 < 0 then lookK rc n ks (rc next).2 else rc next) else ((n : Int), next)
def lookP (l : List Nd) : Nat → Nat → Int × Nat
 | 0, n => ((n : Int), n + 1)
 | f + 1, n => if fitP l n then lookK (lookP l f) n (nd l n).kids (n + 1) else ((n : Int), n + 1)
def outP (l : List Nd) (r : Int × Nat) : Int × Int := if r.1 < 0 then (if r.2 < l.length then ((r.2 : Int), 7) else (-1, 0)) else (r.1, 7)
def chkP (l : List Nd) : Int × Int := if l.length = 0 then (0, 7) else outP l (lookP l l.length 0)
theorem fit_ins {l : List Nd} {n : Nat} (h : fitP l n = true) : ∀ k ∈ (nd l n).kids, ins l k = true := by
 simp only [fitP, kidP, Bool.and_eq_true] at h;intro k hk;obtain ⟨j, hj⟩ := List.getElem?_of_mem hk;have := upQ_ins h.2.1.1 j (List.getElem?_eq_some_iff.1 hj).1;rw [List.getD_eq_getElem?_getD, hj] at this;exact this
def LookOk (l : List Nd) (rc : Nat → Int × Nat) (lo : Nat) : Prop := ∀ m, lo ≤ m → m < l.length → m + 1 ≤ (rc m).2 ∧ (rc m).2 ≤ l.length
theorem lookK_ok {l : List Nd} {rc : Nat → Int × Nat} {n : Nat} : ∀ (ks : List Int) (next : Nat), LookOk l rc next → (∀ k ∈ ks, ins l k = true) → next ≤ l.length → next ≤ (lookK rc n ks next).2 ∧ (lookK rc n ks next).2 ≤ l.length
 | [], next, _, _, hl => ⟨NL, hl⟩
 | k :: ks, next, hr, hi, hl => by
   simp only [lookK];split
   · rename_i hk
     have hk' := (ins_iff'.1 (hi k (by simp))).2;have h1 := hr next NL (by omega);split
     · have := lookK_ok (n := n) ks (rc next).2 (fun m hm hm2 => hr m (by omega) hm2) (fun k hk => hi k (by simp [hk])) h1.2
       exact ⟨by omega, this.2⟩
     · exact ⟨by omega, h1.2⟩
   · exact ⟨NL, hl⟩
theorem lookK_congr {l : List Nd} {rc rc' : Nat → Int × Nat} {n : Nat} : ∀ (ks : List Int) (next : Nat), LookOk l rc next → (∀ m, next ≤ m → m < l.length → rc m = rc' m) → (∀ k ∈ ks, ins l k = true) → lookK rc n ks next = lookK rc' n ks next
 | [], next, _, _, _ => rfl
 | k :: ks, next, hr, he, hi => by
   simp only [lookK];split
   · rename_i hk
     have hk' := (ins_iff'.1 (hi k (by simp))).2;have h1 := hr next NL (by omega);rw [← he next NL (by omega)];split
     · exact lookK_congr ks _ (fun m hm hm2 => hr m (by omega) hm2) (fun m hm hm2 => he m (by omega) hm2) (fun k hk => hi k (by simp [hk]))
     · rfl
   · rfl
theorem lookP_ok {l : List Nd} : ∀ (f n : Nat), n < l.length → n + 1 ≤ (lookP l f n).2 ∧ (lookP l f n).2 ≤ l.length
 | 0, n, hn => ⟨NL, hn⟩
 | f + 1, n, hn => by
   simp only [lookP];split
   · rename_i hf
     exact lookK_ok _ _ (fun m _ hm => lookP_ok f m hm) (fit_ins hf) hn
   · exact ⟨NL, hn⟩
theorem lookP_fuel {l : List Nd} : ∀ (d n f f' : Nat), l.length - n ≤ d → n < l.length → l.length - n ≤ f → l.length - n ≤ f' → lookP l f n = lookP l f' n
 | 0, n, f, f', hd, hn, _, _ => by omega
 | d + 1, n, 0, f', hd, hn, hf, hf' => by omega
 | d + 1, n, f + 1, 0, hd, hn, hf, hf' => by omega
 | d + 1, n, f + 1, f' + 1, hd, hn, hf, hf' => by
   simp only [lookP];split
   · rename_i hfit
     exact lookK_congr _ _ (fun m _ hm => lookP_ok f m hm) (fun m hm hm2 => lookP_fuel d m f f' (by omega) hm2 (by omega) (by omega)) (fit_ins hfit)
   · rfl
def contP (l : List Nd) : List (Nat × List Int) → Nat → Int × Nat
 | [], next => (-1, next)
 | (n, ks) :: st, next => if (lookK (lookP l l.length) n ks next).1 < 0 then contP l st (lookK (lookP l l.length) n ks next).2 else lookK (lookP l l.length) n ks next
theorem cont_pop (l : List Nd) (n : Nat) (st : List (Nat × List Int)) (next : Nat) : contP l ((n, []) :: st) next = contP l st next := by simp [contP, lookK]
theorem cont_off {l : List Nd} {n : Nat} {k : Int} {ks : List Int} {st : List (Nat × List Int)} {next : Nat} (h : k ≠ (next : Int)) : contP l ((n, k :: ks) :: st) next = ((n : Int), next) := by
 simp only [contP, lookK, if_neg h];rw [if_neg (by omega)]
theorem cont_bad {l : List Nd} {n : Nat} {ks : List Int} {st : List (Nat × List Int)} {next : Nat} (hl : next < l.length) (h : fitP l next = false) : contP l ((n, (next : Int) :: ks) :: st) next = ((next : Int), next + 1) := by
 obtain ⟨f, hf⟩ : ∃ f, l.length = f + 1 := ⟨l.length - 1, by omega⟩;have e : lookP l l.length next = ((next : Int), next + 1) := by rw [hf]; simp [lookP, h]
 have hn : ¬ (next : Int) < 0 := by omega
 simp only [contP, lookK, if_true, e, if_neg hn]
theorem cont_push {l : List Nd} {n : Nat} {ks : List Int} {st : List (Nat × List Int)} {next : Nat} (hl : next < l.length) (h : fitP l next = true) : contP l ((n, (next : Int) :: ks) :: st) next = contP l ((next, (nd l next).kids) :: (n, ks) :: st) (next + 1) := by
 obtain ⟨f, hf⟩ : ∃ f, l.length = f + 1 := ⟨l.length - 1, by omega⟩
 have e : lookP l l.length next = lookK (lookP l l.length) next (nd l next).kids (next + 1) := by
  have e1 : lookP l l.length next = lookK (lookP l f) next (nd l next).kids (next + 1) := by rw [hf]; simp [lookP, h]
  rw [e1];exact lookK_congr _ _ (fun m _ hm => lookP_ok f m hm) (fun m hm hm2 => lookP_fuel (l.length - m) m f l.length NL hm2 (by omega) (by omega)) (fit_ins h)
 rw [show contP l ((next, (nd l next).kids) :: (n, ks) :: st) (next + 1) = (if (lookP l l.length next).1 < 0 then contP l ((n, ks) :: st) (lookP l l.length next).2 else lookP l l.length next) from by rw [e]; rfl];show (if (lookK (lookP l l.length) n ((next : Int) :: ks) next).1 < 0 then contP l st (lookK (lookP l l.length) n ((next : Int) :: ks) next).2 else lookK (lookP l l.length) n ((next : Int) :: ks) next) = _
 by_cases hb : (lookP l l.length next).1 < 0
 · have e2 : lookK (lookP l l.length) n ((next : Int) :: ks) next = lookK (lookP l l.length) n ks (lookP l l.length next).2 := by simp only [lookK, if_true, if_pos hb]
   rw [e2, if_pos hb];rfl
 · have e2 : lookK (lookP l l.length) n ((next : Int) :: ks) next = lookP l l.length next := by simp only [lookK, if_true, if_neg hb]
   rw [e2, if_neg hb, if_neg hb]
theorem chk_start {l : List Nd} (hl : 0 < l.length) (h : fitP l 0 = true) : chkP l = outP l (contP l [(0, (nd l 0).kids)] 1) := by
 obtain ⟨f, hf⟩ : ∃ f, l.length = f + 1 := ⟨l.length - 1, by omega⟩
 have e : lookP l l.length 0 = lookK (lookP l l.length) 0 (nd l 0).kids 1 := by
  have e1 : lookP l l.length 0 = lookK (lookP l f) 0 (nd l 0).kids 1 := by rw [hf]; simp [lookP, h]
  rw [e1];exact lookK_congr _ _ (fun m _ hm => lookP_ok f m hm) (fun m hm hm2 => lookP_fuel (l.length - m) m f l.length NL hm2 (by omega) (by omega)) (fit_ins h)
 have h0 : ¬ l.length = 0 := by omega
 simp only [chkP, if_neg h0, e, contP];split
 · rename_i hb
   simp only [outP, hb, if_true];rw [if_pos (by decide : (-1 : Int) < 0)]
 · rfl
theorem chk_bad {l : List Nd} (hl : 0 < l.length) (h : fitP l 0 = false) : chkP l = (0, 7) := by
 obtain ⟨f, hf⟩ : ∃ f, l.length = f + 1 := ⟨l.length - 1, by omega⟩;have h0 : ¬ l.length = 0 := by omega
 have e : lookP l l.length 0 = (0, 1) := by rw [hf]; simp [lookP, h]
 simp only [chkP, if_neg h0, e, outP];rfl
end
section
open Go.RowKit Go.Shelf
theorem infoOpen : (Tryz.prog.info? 54).map (fun i => (i.zero, i.size, i.bytes)) = some (some (.agg #[.int .i64 0, .slice none 0 0]), 2, 32) := by kernel_rfl
theorem info_parts {t : TypeId} {z : Value} {s b : Nat} (h : (Tryz.prog.info? t).map (fun i => (i.zero, i.size, i.bytes)) = some (some z, s, b)) : ∃ i, Tryz.prog.info? t = some i ∧ i.zero = some z ∧ i.size = s ∧ i.bytes = b := by
 cases hi : Tryz.prog.info? t with
 | none => rw [hi] at h; cases h
 | some i => rw [hi] at h; simp at h; exact ⟨i, rfl, h.1, h.2.1, h.2.2⟩
theorem size3 (w : World) : (sizeOf 3).run Tryz.prog w = .ok 1 w := by kernel_rfl
theorem under27 : Tryz.prog.underlying 32 = some (.slice (Tryz.prog.elem 32)) := by kernel_rfl
theorem elem27 : Tryz.prog.elem 32 = 3 := by kernel_rfl
theorem size61 (w : World) : (sizeOf 54).run Tryz.prog w = .ok 2 w := by kernel_rfl
theorem under62 : Tryz.prog.underlying 55 = some (.slice (Tryz.prog.elem 55)) := by kernel_rfl
theorem elem62 : Tryz.prog.elem 55 = 54 := by kernel_rfl
theorem kids_tail (M : Nat) (a : Option Addr) (k : Int) (ks : List Int) (cap : Nat) (hc : ks.length + 1 ≤ cap) (hm : cap ≤ maxLen) :
 ∃ a' c', (∀ W', (Instr.slice 32 (.slice a (ks.length + 1) cap) (some (.int .i64 1)) none none).run Tryz.prog W' = .ok (.slice a' ks.length c') W') ∧ ks.length ≤ c' ∧ c' ≤ maxLen ∧ ∀ W', KidsAt W' M a (k :: ks) → KidsAt W' M a' ks := by
 refine ⟨if cap = 1 then a else a.map (·.add 1), cap - 1, fun W' => ?_, by omega, by omega, ?_⟩
 · rw [run_slice_l W' 32 a (ks.length + 1) cap under27 .i64 1 (by omega) (by omega), elem27, size3]
   rfl
 · intro W' h
   by_cases h0 : ks = []
   · exact .inl h0
   · rcases h with h | ⟨b, o, rfl, hb, hk⟩
     · cases h
     · have hl : 0 < ks.length := List.length_pos_iff.2 h0
       refine .inr ⟨b, o + 1, ?_, hb, fun j hj => ?_⟩
       · rw [if_neg (by omega)]
         rfl
       · have := hk (j + 1) (by simp; omega)
         rw [show o + 1 + j = o + (j + 1) from by omega, this];simp
theorem stack_pop (g n cap h : Nat) (hh : h ≤ n) (hc : n ≤ cap) (W' : World) : (Instr.slice 55 (.slice (some ⟨g, 0, none⟩) n cap) none (some (.int .i64 (h : Int))) none).run Tryz.prog W' = .ok (.slice (some ⟨g, 0, none⟩) h cap) W' := by
 rw [run_slice_h W' 55 (some ⟨g, 0, none⟩) n cap under62 .i64 h (by omega) (by omega), elem62, size61];simp [sliced, Result.andThen];intro _; rfl
theorem ownsRow_below {w w' : World} {base : Nat} {e : TypeId} {size : Nat} {v : Value} {n : Nat} {xs : List Value} (h : w.ownsRow base e size v n xs) (hb : Below w.heap.size w w') : w'.ownsRow base e size v n xs :=
 h.kept (row := none) ⟨hb.os, hb.tape, hb.output, hb.size, fun k hk _ => hb.block k hk⟩ (by cases e : v.ownBlock <;> simp)
structure SE where
 n : Nat
 ks : List Int
 a : Option Addr
 cap : Nat
def flatS (es : List SE) : List Value := es.flatMap fun x => [.int .i64 (x.n : Int), .slice x.a x.ks.length x.cap]
theorem flatS_len (es : List SE) : (flatS es).length = es.length * 2 := by
 induction es with
 | nil => rfl
 | cons x es ih => simp only [flatS, List.flatMap_cons, List.length_append, List.length_cons] at ih ⊢; simp only [ih]; simp; omega
theorem flatS_snoc (es : List SE) (x : SE) : flatS (es ++ [x]) = flatS es ++ [.int .i64 (x.n : Int), .slice x.a x.ks.length x.cap] := by simp [flatS]
def SE.fine (W : World) (M : Nat) (l : List Nd) (x : SE) : Prop := KidsAt W M x.a x.ks ∧ x.ks.length ≤ x.cap ∧ x.cap ≤ maxLen ∧ x.n < l.length ∧ (∀ k ∈ x.ks, ins l k = true) ∧ x.ks.length ≤ 17592186044416
def stk (es : List SE) : List (Nat × List Int) := (es.map fun x => (x.n, x.ks)).reverse
theorem stk_snoc (es : List SE) (x : SE) : stk (es ++ [x]) = (x.n, x.ks) :: stk es := by simp [stk]
theorem check_ok (W : World) (M : Nat) (v : Value) (l : List Nd) (hN : Nodes W M v l) (hM : M ≤ W.heap.size) :
 Calls Tryz.prog 9 #[.agg #[v]] W fun e w' => e = .returned (.tuple #[.int .i64 (chkP l).1, .int .i64 (chkP l).2]) ∧ Below W.heap.size W w' := by
 obtain ⟨i0, hi, hz0, hz1, hz2⟩ := info_parts infoOpen;have HN := Hi hN;have hlen := hN.1;have HF := Hi fits_ok;obtain ⟨va, vc, rfl, hvc, hvm⟩ := hN.len;have hB0 : Below W.heap.size W (W.alloc (.cells #[.slice va l.length vc] 25)) := (Below.refl _ W).alloc NL _;by_cases h0 : l.length = 0
 · have HR : Hid (chkP l = (0, 7)) := by show chkP l = (0, 7); simp [chkP, h0]
   rw [h0];rw [h0] at hB0;clear hN;go_enter Tryz.func9, Tryz.ntmps9;go_wp2;go_ret2
   rw [U HR];exact ⟨rfl, hB0⟩
 have h0' : ((l.length : Int) == 0) = false := by simp only [beq_eq_false_iff_ne]; omega
 have hpos : 0 < l.length := by omega
 cases hf0 : fitP l 0 with
 | false =>
   have HR : Hid (chkP l = (0, 7)) := chk_bad hpos hf0;have HF0 := Hi hf0;clear hN hf0 h0;go_enter Tryz.func9, Tryz.ntmps9;go_wp2_with (go_at_call 18; refine (U HF _ M _ l 0 ((U HN).keep hB0 hM) hpos (Nat.le_trans hM hB0.size)).mono ?_; rintro e w2 ⟨he, hB2⟩; rw [U HF0] at he; subst he);go_ret2
   rw [U HR];exact ⟨rfl, hB0.trans (hB2.mono hB0.size)⟩
 | true =>
   have HST := Hi (chk_start hpos hf0);have HF0 := Hi hf0;have HI0 := Hi (fit_ins hf0);have HK0 := Hi (hN.2.1 0 hpos).2;clear hN hf0 h0;obtain ⟨b, o, cap', ka, kc, hv, _, _, hb, d0, d1, d2, d3, d4, hkc, hkm, hK⟩ := (U HN).at hpos;obtain ⟨rfl, rfl⟩ : va = some ⟨b, o, none⟩ ∧ cap' = vc := by injection hv with h1 _ h3; exact ⟨h1, h3.symm⟩
   have hbW : b < W.heap.size := Nat.lt_of_lt_of_le hb hM;have hl0 : (0 : Int) < l.length := by omega
   rw [Nat.zero_mul, Nat.add_zero] at d0 d1 d2 d3 d4;have HKK := Hi hK;clear hv d0 d1 d2 d4 hK;go_enter Tryz.func9, Tryz.ntmps9;go_wp2_with (go_at_call 18; refine (U HF _ M _ l 0 ((U HN).keep hB0 hM) hpos (Nat.le_trans hM hB0.size)).mono ?_; rintro e w2 ⟨he, hB2⟩; rw [U HF0] at he; subst he; have hBW2 := hB0.trans (hB2.mono hB0.size); have d3 := (hBW2.cell (p := ⟨b, o + 3, none⟩) hbW).trans d3);have hs2 := hBW2.size;have hBW3 : Below W.heap.size W (w2.alloc (.cells #[.int .i64 0, .slice ka (nd l 0).kids.length kc] 54)) := hBW2.alloc hs2 _
   have hown0 : (w2.alloc (.cells #[.int .i64 0, .slice ka (nd l 0).kids.length kc] 54)).ownsRow W.heap.size 54 2 (.slice (some ⟨w2.heap.size, 0, none⟩) 1 1) 1 (flatS [⟨0, (nd l 0).kids, ka, kc⟩]) :=
    World.ownsRow_lit w2 #[.int .i64 0, .slice ka (nd l 0).kids.length kc] 1 hs2 (by unfold maxLen; omega) rfl
   have HO0 := Hi hown0;clear hown0 d3;go_loopw [5, 6] (fun t5 t6 wr => ∃ (es : List SE) (next : Nat), t6 = .int .i64 (next : Int) ∧ wr.ownsRow W.heap.size 54 2 t5 es.length (flatS es) ∧ (∀ x ∈ es, x.fine W M l) ∧ next ≤ l.length ∧ es.length ≤ next ∧ outP l (contP l (stk es) next) = chkP l ∧ Below W.heap.size W wr) (fun t5 t6 _ => 2 * (l.length - (intOf t6).toNat) + (match t5 with | .slice _ n _ => n | _ => 0))
   case atStart =>
    refine ⟨[⟨0, (nd l 0).kids, ka, kc⟩], 1, rfl, U HO0, fun x hx => ?_, hpos, NL, (U HST).symm, hBW3⟩;obtain rfl := List.mem_singleton.1 hx;exact ⟨U HKK, hkc, hkm, hpos, U HI0, U HK0⟩
   case round =>
    obtain ⟨es, next, rfl, hown, hfine, hnl, hel, hout, hB⟩ := hrel;have HFN := Hi hfine;have HOUT := Hi hout;clear hfine hout;rcases List.eq_nil_or_concat es with rfl | ⟨es', x, rfl⟩
    · obtain ⟨ao, cp, rfl⟩ : ∃ ao cp, u5 = .slice ao 0 cp := by
       rcases hown.2 with ⟨h, _⟩ | ⟨gw, cap, cur, h, _⟩
       · exact ⟨none, 0, h⟩
       · exact ⟨_, cap, h⟩
      clear hown;by_cases hnx : next < l.length
      · have hnx' : (next : Int) < l.length := by omega
        have HR : Hid (chkP l = ((next : Int), 7)) := by show chkP l = _; rw [← U HOUT]; simp [stk, contP, outP, hnx]
        go_wp2;go_ret2
        rw [U HR];exact ⟨rfl, hB⟩
      · have hnx' : ¬ (next : Int) < l.length := by omega
        have HR : Hid (chkP l = (-1, 0)) := by show chkP l = _; rw [← U HOUT]; simp [stk, contP, outP, hnx]
        go_wp2;go_ret2
        rw [U HR];exact ⟨rfl, hB⟩
    · have hkl : (es' ++ [x]).length = es'.length + 1 := by simp
      rw [List.concat_eq_append, hkl, flatS_snoc] at hown;rw [List.concat_eq_append, hkl] at hel;have hx := U HFN x (by simp);have HES : Hid (∀ y ∈ es', y.fine W M l) := fun y hy => U HFN y (by simp [hy])
      have HO2 : Hid (outP l (contP l ((x.n, x.ks) :: stk es') next) = chkP l) := by rw [← stk_snoc, ← List.concat_eq_append]; exact U HOUT
      have hfl := flatS_len es';clear HFN HOUT hkl;obtain ⟨k, hk⟩ : ∃ k, es'.length = k := ⟨_, rfl⟩;rw [hk] at hown hel hfl
      obtain ⟨g, cp, rfl, hgl, hcp⟩ : ∃ g cp, u5 = .slice (some ⟨g, 0, none⟩) (k + 1) cp ∧ g < wr.heap.size ∧ k + 1 ≤ cp := by
       rcases hown.2 with ⟨_, h⟩ | ⟨gw, cap, cur, h, _, hh, h1, _⟩
       · omega
       · exact ⟨gw, cap, h, (Array.getElem?_eq_some_iff.1 hh).1, h1⟩
      have hgb : W.heap.size ≤ g := (hown.lt g rfl).1
      have c0 : wr.cell? ⟨g, k * 2, none⟩ = some (.int .i64 (x.n : Int)) := by
       rw [hown.cellAt (k * 2) (by omega), List.getElem?_append_right (by omega), hfl, Nat.sub_self]; rfl
      have c1 : wr.cell? ⟨g, k * 2 + 1, none⟩ = some (.slice x.a x.ks.length x.cap) := by
       rw [hown.cellAt (k * 2 + 1) (by omega), List.getElem?_append_right (by omega), hfl, show k * 2 + 1 - k * 2 = 1 from by omega]; rfl
      have fz : wr.frozen? ⟨g, k * 2 + 1, none⟩ = false := hown.frozenAt _;have HOWN := Hi hown;clear hown;obtain ⟨xn, xks, xa, xc⟩ := x;obtain ⟨hx1, hx2, hx3, hx4, hx5, hx6⟩ := hx;simp only at hx1 hx2 hx3 hx4 hx5 hx6 c0 c1;cases xks with
      | nil =>
        have hpop := stack_pop g (k + 1) cp k (by omega) hcp;have HR : Hid (outP l (contP l (stk es') next) = chkP l) := by rw [← U HO2]; exact congrArg (outP l) (cont_pop l xn (stk es') next).symm
        have HO3 := Hi (ownsRow_pop hfl (U HOWN));simp only [List.length_nil] at c1;go_wp2;refine ⟨⟨es', next, rfl, by rw [hk]; exact U HO3, U HES, hnl, by omega, U HR, hB⟩, ?_⟩;simp [intOf]
      | cons k0 ks =>
        simp only [List.length_cons] at c1 hx2 hx6
        obtain ⟨kb, ko, rfl, hkb, hkc0⟩ : ∃ kb ko, xa = some ⟨kb, ko, none⟩ ∧ kb < M ∧ W.cell? ⟨kb, ko, none⟩ = some (.int .i64 k0) := by
         rcases hx1 with h | ⟨kb, ko, h1, h2, h3⟩
         · cases h
         · exact ⟨kb, ko, h1, h2, by simpa using h3 0 (by simp)⟩
        have dk := (hB.cell (p := ⟨kb, ko, none⟩) (Nat.lt_of_lt_of_le hkb hM)).trans hkc0;obtain ⟨a', c', hsl, hc1, hc2, hc3⟩ := kids_tail M (some ⟨kb, ko, none⟩) k0 ks xc hx2 hx3;have hx1' := hc3 W hx1;obtain ⟨hst, hgr⟩ := (U HOWN).stored (k * 2 + 1) (.slice a' ks.length c')
        have hset : (flatS es' ++ [Value.int .i64 (xn : Int), .slice (some ⟨kb, ko, none⟩) (ks.length + 1) xc]).set (k * 2 + 1) (.slice a' ks.length c') = flatS (es' ++ [⟨xn, ks, a', c'⟩]) := by
         rw [flatS_snoc, List.set_append_right _ _ (by omega), hfl, show k * 2 + 1 - k * 2 = 1 from by omega]; rfl
        simp only [List.length_cons] at hst;rw [hset] at hst;obtain ⟨wr', hwr'⟩ : ∃ wr', wr.setCell ⟨g, k * 2 + 1, none⟩ (.slice a' ks.length c') = wr' := ⟨_, rfl⟩;have hBr : Below W.heap.size W wr' := by rw [← hwr']; exact hB.setCell (p := ⟨g, k * 2 + 1, none⟩) hgb _
        rw [hwr'] at hst
        have e0 : wr'.cell? ⟨g, k * 2, none⟩ = some (.int .i64 (xn : Int)) := by
         rw [hst.cellAt (k * 2) (by omega), flatS_snoc, List.getElem?_append_right (by omega), hfl, Nat.sub_self]; rfl
        have hgl' : g < wr'.heap.size := (hst.lt g rfl).2;have HST := Hi hst;have HC3 := Hi hc3;have hk0 : ins l k0 = true := hx5 k0 (by simp);clear hst hgr hset hkc0 hc3 hx1;by_cases hkn : k0 = (next : Int)
        · subst hkn
          have hnx := (ins_iff'.1 hk0).2;have hnx' : next < l.length := by omega
          obtain ⟨b2, o2, cap2, kn, kcn, hv, _, _, _, _, _, _, dn3, _, hkcn, hkmn, hKn⟩ := (U HN).at hnx';obtain ⟨rfl, rfl⟩ : b2 = b ∧ o2 = o := by injection hv with h1 _ h3; injection h1 with h1; injection h1 with h1 h2; exact ⟨h1.symm, h2.symm⟩
          have HKN := Hi hKn;clear hv hKn;cases hft : fitP l next with
          | false =>
            have HR : Hid (chkP l = ((next : Int), 7)) := by
             show chkP l = _
             have e := U HO2;rw [cont_bad hnx' hft] at e;rw [← e]; simp [outP]; omega
            have HFT := Hi hft;clear hft;go_wp2_with (go_at_call 18; refine (U HF _ M _ l next ((U HN).keep hBr hM) hnx' (Nat.le_trans hM hBr.size)).mono ?_; rintro e w3 ⟨he, hB3⟩; rw [U HFT] at he; subst he);go_ret2
            rw [U HR];exact ⟨rfl, hBr.trans (hB3.mono hBr.size)⟩
          | true =>
            have HR : Hid (outP l (contP l (stk (es' ++ [⟨xn, ks, a', c'⟩] ++ [⟨next, (nd l next).kids, kn, kcn⟩])) (next + 1)) = chkP l) := by
             rw [stk_snoc, stk_snoc, ← U HO2];exact congrArg (outP l) (cont_push hnx' hft).symm
            have HFT := Hi hft;have HIN := Hi (fit_ins hft);clear hft;go_wp2_with (first | (go_at_call 18; refine (U HF _ M _ l next ((U HN).keep hBr hM) hnx' (Nat.le_trans hM hBr.size)).mono ?_; rintro e w3 ⟨he, hB3⟩; rw [U HFT] at he; subst he; have hBW3' := hBr.trans (hB3.mono hBr.size); have dn3 := (hBW3'.cell (p := ⟨b2, o2 + next * 5 + 3, none⟩) hbW).trans dn3; have HO3 := Hi (ownsRow_below (U HST) hB3)) | (at_builtin; refine wpList_append_own _ rfl _ _ 55 rfl W.heap.size 54 i0 _ 2 32 Tryz.underlying55 hi hz0 hz1 hz2 rfl (by decide) _ _ _ rfl ((U HO3).alloc _) ⟨w3.heap.size, 0, none⟩ 1 1 [.int .i64 (next : Int), .slice kn (nd l next).kids.length kcn] rfl rfl ?c1 ?c2 ?c3 ?c4 ?c5 ?_))
            case c1 =>
             intro j u hj;rw [Addr.add_lit, Nat.zero_add, World.cell?_alloc_mark];rw [← hj]; simp
            case c2 => intro u hu; simp at hu; rcases hu with rfl | rfl <;> rfl
            case c3 => unfold maxLen; omega
            case c4 => omega
            case c5 => have h1 := hBW3'.size; simp; omega
            intro v' w4 hown4 hg4 _;have hB4 : Below W.heap.size W w4 := (hBW3'.alloc hBW3'.size _).grown hg4 (by have h1 := hBW3'.size; simp; omega) (fun j hj => by simp [Value.ownBlock] at hj; omega)
            have HO4 : Hid (w4.ownsRow W.heap.size 54 2 v' (k + 1 + 1) (flatS (es' ++ [⟨xn, ks, a', c'⟩] ++ [⟨next, (nd l next).kids, kn, kcn⟩]))) := by
             show w4.ownsRow W.heap.size 54 2 v' (k + 1 + 1) _
             rw [flatS_snoc]; exact hown4
            obtain ⟨g4, cp4, rfl⟩ := ownsRow_succ hown4;clear hown4 hg4;go_wp2;refine ⟨⟨es' ++ [⟨xn, ks, a', c'⟩] ++ [⟨next, (nd l next).kids, kn, kcn⟩], next + 1, by go_num, by simp only [List.length_append, List.length_cons, List.length_nil, hk]; exact U HO4, fun y hy => ?_, by omega, by simp only [List.length_append, List.length_cons, List.length_nil, hk]; omega, U HR, hB4⟩, ?_⟩
            · simp only [List.mem_append, List.mem_singleton] at hy
              rcases hy with (hy | rfl) | rfl
              · exact U HES y hy
              · exact ⟨hx1', hc1, hc2, hx4, fun k hk => hx5 k (by simp [hk]), by simp; omega⟩
              · exact ⟨U HKN, hkcn, hkmn, hnx', U HIN, ((U HN).2.1 next hnx').2⟩
            · simp [intOf]; omega
        · have hkn' : (k0 != (next : Int)) = true := by simpa using hkn
          have HR : Hid (chkP l = ((xn : Int), 7)) := by
           show chkP l = _
           have e := U HO2;rw [cont_off hkn] at e;rw [← e]; simp [outP]; omega
          clear hkn;go_wp2;go_ret2
          rw [U HR];exact ⟨rfl, hBr⟩
end
end Go.Proofs.YtofgphapjjofnaaGreatDoor.Tr
