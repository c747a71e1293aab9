/- The texts of ParseSplits, their reading, the trees that come of it. -/
import Derived.Test.YtofgphapjjofnaaGreatDoorVT
import Derived.Test.YtofgphapjjofnaaGreatDoorZI
namespace Go.Proofs.YtofgphapjjofnaaGreatDoor
set_option linter.unusedSimpArgs false
set_option linter.unusedVariables false
open Go.RowKit Go.Shelf

/-- The bytes of a string. -/
def byl (A : ByteArray) : List Int := A.data.toList.map fun b => (b.toNat : Int)
theorem byl_app (A B : ByteArray) : byl (A ++ B) = byl A ++ byl B := by simp [byl]
theorem byl_str {A : ByteArray} {bs : List Int} (h : byl A = bs) : A.size = bs.length ∧ (∀ j, gS A j = gOf bs j) ∧ Bys bs := by
  rw [← h]
  refine ⟨by unfold byl; rw [List.length_map, Array.length_toList]; rfl, fun j => ?_, fun z hz => ?_⟩
  · unfold gS gOf byl
    rw [List.getD_eq_getElem?_getD, List.getElem?_map, Array.getElem?_toList]
    cases A.data[j]? with
    | none => rfl
    | some x => rfl
  · obtain ⟨b, _, rfl⟩ := List.mem_map.1 hz
    have := b.toNat_lt
    omega
theorem conv_ex (s : ByteArray) (hs : s.size ≤ 4000) (hp : 0 < s.size) : ∃ F : World → Nat × World, ∀ w, (convert 9 22 (.string s)).run Tryz.prog w = .ok (.slice (some ⟨w.heap.size, 0, none⟩) s.size (F w).1) (F w).2 ∧ Below w.heap.size w (F w).2 ∧ (F w).2.heap.size = w.heap.size + 1 ∧ ∀ w', Below (F w).2.heap.size (F w).2 w' → Sl w' w.heap.size (.slice (some ⟨w.heap.size, 0, none⟩) s.size (F w).1) s.size (gS s) := by
  have h : ∀ w, ∃ x : Nat × World, (convert 9 22 (.string s)).run Tryz.prog w = .ok (.slice (some ⟨w.heap.size, 0, none⟩) s.size x.1) x.2 ∧ Below w.heap.size w x.2 ∧ x.2.heap.size = w.heap.size + 1 ∧ ∀ w', Below x.2.heap.size x.2 w' → Sl w' w.heap.size (.slice (some ⟨w.heap.size, 0, none⟩) s.size x.1) s.size (gS s) := fun w => by
    obtain ⟨cap, C, fr, h1, h2, h3, h4⟩ := conv_str s w (by omega)
    refine ⟨(cap, w.drew.alloc (.cells C 5 fr)), h1, (Below.refl _ w).drew.alloc (Nat.le_refl _) _, by simp, fun w' hw => .inr ⟨0, cap, rfl, hp, h2, h3, fun j hj => ?_⟩⟩
    have e : w'.heap[w.heap.size]? = some (.cells C 5 fr) := (hw.block _ (by simp)).trans (al_at w.drew _)
    rw [Nat.zero_add]
    simp [World.cell?, e, h4 j hj]
  exact ⟨fun w => Classical.choose (h w), fun w => Classical.choose_spec (h w)⟩
def enB (b : Bool) : List Int := if b then [62, 32] else [62]
def rpB (L : List Int) : Nat → List Int
  | 0 => []
  | i + 1 => rpB L i ++ L
def spB (b : Bool) (n : Nat) : List Int := rpB [65, 60] n ++ [66] ++ rpB (enB b) n
def aS : Nat → ByteArray
  | 0 => ⟨#[]⟩
  | i + 1 => aS i ++ ⟨#[65, 60]⟩
def eS (b : Bool) : Nat → ByteArray
  | 0 => ⟨#[]⟩
  | i + 1 => if b then (eS b i ++ ⟨#[62]⟩) ++ ⟨#[32]⟩ else eS b i ++ ⟨#[62]⟩
theorem aS_byl : ∀ i, byl (aS i) = rpB [65, 60] i
  | 0 => rfl
  | i + 1 => by rw [aS, byl_app, aS_byl i]; rfl
theorem eS_byl (b : Bool) : ∀ i, byl (eS b i) = rpB (enB b) i
  | 0 => rfl
  | i + 1 => by
    cases b with
    | true => rw [eS, if_pos rfl, byl_app, byl_app, eS_byl true i, List.append_assoc]; rfl
    | false => rw [eS, if_neg (by decide), byl_app, eS_byl false i]; rfl
def spS (b : Bool) (n : Nat) : ByteArray := (aS n ++ ⟨#[66]⟩) ++ eS b n
theorem spS_byl (b : Bool) (n : Nat) : byl (spS b n) = spB b n := by
  unfold spS spB
  rw [byl_app, byl_app, aS_byl, eS_byl]
  rfl
theorem rpB_len (L : List Int) : ∀ i, (rpB L i).length = L.length * i
  | 0 => rfl
  | i + 1 => by rw [rpB, List.length_append, rpB_len L i, Nat.mul_succ]
theorem enB_len (b : Bool) : (enB b).length ≤ 2 := by cases b <;> decide
theorem sp_sizes (b : Bool) (i : Nat) : (aS i).size ≤ 2 * i ∧ (eS b i).size ≤ 2 * i := by
  have h1 := (byl_str (aS_byl i)).1
  have h2 := (byl_str (eS_byl b i)).1
  rw [rpB_len] at h1 h2
  have h3 := enB_len b
  have : (enB b).length * i ≤ 2 * i := Nat.mul_le_mul_right _ h3
  have h4 : ([65, 60] : List Int).length = 2 := rfl
  rw [h4] at h1
  exact ⟨by omega, by omega⟩
/-- A node as the tree's texts have it. -/
def toNd (x : PN) : Tr.Nd := ⟨x.kind, strOfNums x.text, x.num, x.kids.map (fun k : Nat => (k : Int)), (x.loc : Int)⟩
/-- How many TypeNames there are among the first ones. -/
def cnt (t : List PN) : Nat → Nat
  | 0 => 0
  | j + 1 => cnt t j + (if (t.getD j pn0).kind = 80 then 1 else 0)
end Go.Proofs.YtofgphapjjofnaaGreatDoor
