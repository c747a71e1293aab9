/- The texts of ParseChains, as the strings that the law builds; what Expr answers. -/
import Derived.Test.YtofgphapjjofnaaGreatDoorCG
import Derived.Test.YtofgphapjjofnaaGreatDoorBD
namespace Go.Proofs.YtofgphapjjofnaaGreatDoor
set_option linter.unusedSimpArgs false
set_option linter.unusedVariables false
open Go.RowKit Go.Shelf

def prS (x : Nat) : ByteArray := if x = 0 then ⟨#[46, 98]⟩ else if x = 1 then ⟨#[91, 48, 93]⟩ else if x = 2 then ⟨#[40, 49, 41]⟩ else ⟨#[33]⟩
def chS (ps : List Nat) : ByteArray := ps.foldl (fun a x => a ++ prS x) ⟨#[97]⟩
theorem chS_snoc (ps : List Nat) (x : Nat) : chS (ps ++ [x]) = chS ps ++ prS x := by simp [chS, List.foldl_append]
theorem prS_byl {x : Nat} (hx : x < 4) : byl (prS x) = prB x := by
  obtain rfl | rfl | rfl | rfl : x = 0 ∨ x = 1 ∨ x = 2 ∨ x = 3 := by omega
  all_goals decide +kernel
theorem chS_go : ∀ (ps : List Nat) (A : ByteArray), (∀ q ∈ ps, q < 4) → byl (ps.foldl (fun a x => a ++ prS x) A) = byl A ++ flB ps
  | [], A, _ => by simp [flB]
  | x :: ps, A, h => by
    rw [List.foldl_cons, chS_go ps _ fun q hq => h q (List.mem_cons_of_mem _ hq), byl_app, prS_byl (h x (List.mem_cons_self ..)), flB, List.append_assoc]
def chB (ps : List Nat) : List Int := 97 :: flB ps
theorem chS_byl {ps : List Nat} (h : ∀ q ∈ ps, q < 4) : byl (chS ps) = chB ps := by
  unfold chS
  rw [chS_go ps _ h]
  rfl
theorem flB_len : ∀ (ps : List Nat), (flB ps).length ≤ 3 * ps.length
  | [] => by simp [flB]
  | x :: ps => by
    have := flB_len ps
    have h : (prB x).length ≤ 3 := by unfold prB; (repeat' split) <;> simp
    simp only [flB, List.length_append, List.length_cons]
    omega
theorem chS_size {ps : List Nat} (h : ∀ q ∈ ps, q < 4) : (chS ps).size ≤ 3 * ps.length + 1 := by
  have h1 := (byl_str (chS_byl h)).1
  have h2 := flB_len ps
  simp only [chB, List.length_cons] at h1
  omega
theorem prS_size {x : Nat} (hx : x < 4) : (prS x).size ≤ 3 := by
  obtain rfl | rfl | rfl | rfl : x = 0 ∨ x = 1 ∨ x = 2 ∨ x = 3 := by omega
  all_goals decide
/-- What Expr answers to the text of a chain. -/
theorem chn_read {ps : List Nat} (hp : ∀ q ∈ ps, q < 4) (hl : ps.length ≤ 40) : ∃ (N : Nat) (F : World → Nat × World) (T : List PN), ((∀ j, j < ps.length → ∃ z p, T[j]? = some z ∧ ps[ps.length - 1 - j]? = some p ∧ z.kind = kdI p ∧ ∃ l, z.kids = (j + 1) :: l) ∧ ∃ z, T[ps.length]? = some z ∧ z.kind = 17) ∧ (∀ w, (convert 9 22 (.string (chS ps))).run Tryz.prog w = .ok (.slice (some ⟨w.heap.size, 0, none⟩) N (F w).1) (F w).2) ∧ (∀ w, Below w.heap.size w (F w).2) ∧ ∀ w w', Below (F w).2.heap.size (F w).2 w' → ErrG w' 1 → ErrG w' 2 → Calls Tryz.prog 15 #[.slice (some ⟨w.heap.size, 0, none⟩) N (F w).1] w' (AnsQ (.tree T) w') := by
  obtain ⟨hsz, hgs, hby⟩ := byl_str (chS_byl hp)
  have hle : (chB ps).length ≤ 4000 := by
    have := flB_len ps
    simp only [chB, List.length_cons]
    omega
  obtain ⟨F, hF⟩ := conv_ex (chS ps) (by omega) (by rw [hsz]; simp [chB])
  have hfun : gS (chS ps) = gOf (chB ps) := funext hgs
  rw [hfun, hsz] at hF
  obtain ⟨x', s', T, r1, r2, r3, r4, r5, r6, r7⟩ := chain_read hp hl
  have hH : Has (gOf (chB ps)) (chB ps).length 1 ps := ⟨fun r hr => by
    unfold gOf chB
    rw [List.getD_eq_getElem?_getD, Nat.add_comm, List.getElem?_cons_succ, List.getD_eq_getElem?_getD], by simp only [chB, List.length_cons]; omega⟩
  have hsc := sc_all hp (show gOf (chB ps) 0 = 97 from rfl) hH
  have htk : toksOf (gOf (chB ps)) (chB ps).length = chL ps := by
    unfold toksOf
    rw [hsc, List.map_map]
    show List.map _ (chL ps) = chL ps
    have e : ((fun x : TokD => x.1) ∘ fun t : Tok => (t, (0 : Int))) = id := rfl
    rw [e, List.map_id]
  obtain ⟨g1, g2, g3⟩ := chL_good hp hl
  have hok : okI (scI (gOf (chB ps)) (chB ps).length 0 []) := fun t ht => by
    rw [hsc] at ht
    obtain ⟨u, _, rfl⟩ := List.mem_map.1 ht
    rfl
  have hlen : (scI (gOf (chB ps)) (chB ps).length 0 []).length = (chL ps).length := by rw [hsc, List.length_map]; rfl
  refine ⟨(chB ps).length, F, T, ⟨r6, r7⟩, fun w => (hF w).1, fun w => (hF w).2.1, fun w w' hw e1 e2 => ?_⟩
  have s2 : w.heap.size < w'.heap.size := Nat.lt_of_lt_of_le (by rw [(hF w).2.2.1]; omega) hw.size
  have hT := tokens_good (W := w') (a := some ⟨w.heap.size, 0, none⟩) (cap := (F w).1) (gOf_by hby) hle (fun w'' hw'' => (hF w).2.2.2 w'' (hw.trans (hw''.mono hw.size))) s2 (fun h => by cases h) e1 e2 hok (by omega) (by omega)
  rw [htk] at hT
  have := ans_ok_expr hT g1 g2 (chL_deep hp hl) r2 (by simpa [hd0] using r3) (by simp only [hd0, List.getD_cons_zero]; rw [r4]; exact r5) r1
  simp only [hd0, List.getD_cons_zero] at this
  rw [r4] at this
  exact this
end Go.Proofs.YtofgphapjjofnaaGreatDoor
