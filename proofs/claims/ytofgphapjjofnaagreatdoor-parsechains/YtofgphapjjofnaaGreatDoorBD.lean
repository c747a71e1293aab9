/- The texts of ParseBounds: as bytes, as the strings that the law builds. -/
import Derived.Test.YtofgphapjjofnaaGreatDoorBC
namespace Go.Proofs.YtofgphapjjofnaaGreatDoor
set_option linter.unusedSimpArgs false
set_option linter.unusedVariables false
open Go.RowKit Go.Shelf

theorem flat_len (L : List Int) : ∀ n, (List.replicate n L).flatten.length = L.length * n
  | 0 => rfl
  | n + 1 => by rw [List.replicate_succ, List.flatten_cons, List.length_append, flat_len L n, Nat.mul_succ]; omega
theorem flat_get {L : List Int} : ∀ (n j r : Nat), r < L.length → j < n → ((List.replicate n L).flatten)[L.length * j + r]? = L[r]?
  | 0, j, r, _, hj => by omega
  | n + 1, 0, r, hr, _ => by
    rw [List.replicate_succ, List.flatten_cons, Nat.mul_zero, Nat.zero_add, List.getElem?_append_left hr]
  | n + 1, j + 1, r, hr, hj => by
    rw [List.replicate_succ, List.flatten_cons, List.getElem?_append_right (by rw [Nat.mul_succ]; omega), ← flat_get n j r hr (by omega)]
    congr 1
    rw [Nat.mul_succ]; omega
def bndB (k n : Nat) : List Int := ((List.replicate n (opB k)).flatten ++ [49]) ++ List.replicate n (shC k)
theorem opB_len {k : Nat} (hk : k < 4) : (opB k).length = opW k := by
  obtain rfl | rfl | rfl | rfl : k = 0 ∨ k = 1 ∨ k = 2 ∨ k = 3 := by omega
  all_goals rfl
theorem bnd_len {k n : Nat} (hk : k < 4) : (bndB k n).length = opW k * n + 1 + n := by
  unfold bndB
  rw [List.length_append, List.length_append, flat_len, opB_len hk, List.length_replicate]
  rfl
theorem bnd_bndB {k n : Nat} (hk : k < 4) : Bnd k n (gOf (bndB k n)) (bndB k n).length := by
  have hw := opB_len hk
  have hf : ((List.replicate n (opB k)).flatten).length = opW k * n := by rw [flat_len, hw]
  refine ⟨hk, bnd_len hk, fun j hj r hr => ?_, ?_, fun j hj => ?_⟩
  · have hlt : opW k * j + r < opW k * n := by
      have : opW k * (j + 1) ≤ opW k * n := Nat.mul_le_mul_left _ hj
      rw [Nat.mul_succ] at this
      omega
    unfold gOf bndB
    rw [List.getD_eq_getElem?_getD, List.getElem?_append_left (by rw [List.length_append, hf]; omega), List.getElem?_append_left (by rw [hf]; exact hlt), ← hw, flat_get n j r (by rw [hw]; exact hr) hj, List.getD_eq_getElem?_getD]
  · unfold gOf bndB
    rw [List.getD_eq_getElem?_getD, List.getElem?_append_left (by rw [List.length_append, hf, List.length_singleton]; omega), List.getElem?_append_right (by rw [hf]; omega), hf, Nat.sub_self]
    rfl
  · unfold gOf bndB
    rw [List.getD_eq_getElem?_getD, List.getElem?_append_right (by rw [List.length_append, hf, List.length_singleton]; omega), List.length_append, hf, List.length_singleton, show opW k * n + 1 + j - (opW k * n + 1) = j by omega, List.getElem?_replicate, if_pos hj]
    rfl
/-- The bytes of a string. -/
def byl (A : ByteArray) : List Int := A.data.toList.map fun b => (b.toNat : Int)
theorem byl_app (A B : ByteArray) : byl (A ++ B) = byl A ++ byl B := by simp [byl]
theorem byl_str {A : ByteArray} {bs : List Int} (h : byl A = bs) : A.size = bs.length ∧ (∀ j, gS A j = gOf bs j) ∧ Bys bs := by
  rw [← h]
  refine ⟨by unfold byl; rw [List.length_map, Array.length_toList]; rfl, fun j => ?_, fun z hz => ?_⟩
  · unfold gS gOf byl
    rw [List.getD_eq_getElem?_getD, List.getElem?_map, Array.getElem?_toList]
    cases A.data[j]? with
    | none => rfl
    | some x => rfl
  · obtain ⟨b, _, rfl⟩ := List.mem_map.1 hz
    have := b.toNat_lt
    omega
def opS (k : Nat) : ByteArray := if k = 0 then ⟨#[40]⟩ else if k = 1 then ⟨#[91]⟩ else if k = 2 then ⟨#[102, 40]⟩ else ⟨#[123, 97, 58, 32]⟩
def shS (k : Nat) : ByteArray := if k = 1 then ⟨#[93]⟩ else if k = 3 then ⟨#[125]⟩ else ⟨#[41]⟩
def opsS (k : Nat) : Nat → ByteArray
  | 0 => ⟨#[]⟩
  | i + 1 => opsS k i ++ opS k
def shsS (k : Nat) : Nat → ByteArray
  | 0 => ⟨#[]⟩
  | i + 1 => shS k ++ shsS k i
theorem opS_byl {k : Nat} (hk : k < 4) : byl (opS k) = opB k ∧ byl (shS k) = [shC k] := by
  obtain rfl | rfl | rfl | rfl : k = 0 ∨ k = 1 ∨ k = 2 ∨ k = 3 := by omega
  all_goals exact ⟨by decide +kernel, by decide +kernel⟩
theorem opsS_byl {k : Nat} (hk : k < 4) : ∀ i, byl (opsS k i) = (List.replicate i (opB k)).flatten
  | 0 => rfl
  | i + 1 => by rw [opsS, byl_app, opsS_byl hk i, (opS_byl hk).1, List.replicate_succ', List.flatten_append]; simp
theorem shsS_byl {k : Nat} (hk : k < 4) : ∀ i, byl (shsS k i) = List.replicate i (shC k)
  | 0 => rfl
  | i + 1 => by rw [shsS, byl_app, shsS_byl hk i, (opS_byl hk).2, List.replicate_succ]; rfl
def bndS (k n : Nat) : ByteArray := (opsS k n ++ ⟨#[49]⟩) ++ shsS k n
theorem bndS_byl {k n : Nat} (hk : k < 4) : byl (bndS k n) = bndB k n := by
  unfold bndS bndB
  rw [byl_app, byl_app, opsS_byl hk, shsS_byl hk]
  rfl
theorem opW_le {k : Nat} : opW k ≤ 4 := by unfold opW; split <;> (try split) <;> decide
theorem ops_size {k : Nat} (hk : k < 4) (i : Nat) (hi : i ≤ 200) : (opsS k i).size ≤ 800 ∧ (shsS k i).size ≤ 200 ∧ (opS k).size = opW k ∧ (shS k).size = 1 := by
  have h1 := (byl_str (opsS_byl hk i)).1
  have h2 := (byl_str (shsS_byl hk i)).1
  have h3 := (byl_str (opS_byl hk).1).1
  have h4 := (byl_str (opS_byl hk).2).1
  rw [flat_len, opB_len hk] at h1
  rw [List.length_replicate] at h2
  rw [opB_len hk] at h3
  have := opW_le (k := k)
  have : opW k * i ≤ 4 * i := Nat.mul_le_mul_right _ this
  exact ⟨by omega, by omega, h3, h4⟩
theorem conv_ex (s : ByteArray) (hs : s.size ≤ 4000) (hp : 0 < s.size) : ∃ F : World → Nat × World, ∀ w, (convert 9 22 (.string s)).run Tryz.prog w = .ok (.slice (some ⟨w.heap.size, 0, none⟩) s.size (F w).1) (F w).2 ∧ Below w.heap.size w (F w).2 ∧ (F w).2.heap.size = w.heap.size + 1 ∧ ∀ w', Below (F w).2.heap.size (F w).2 w' → Sl w' w.heap.size (.slice (some ⟨w.heap.size, 0, none⟩) s.size (F w).1) s.size (gS s) := by
  have h : ∀ w, ∃ x : Nat × World, (convert 9 22 (.string s)).run Tryz.prog w = .ok (.slice (some ⟨w.heap.size, 0, none⟩) s.size x.1) x.2 ∧ Below w.heap.size w x.2 ∧ x.2.heap.size = w.heap.size + 1 ∧ ∀ w', Below x.2.heap.size x.2 w' → Sl w' w.heap.size (.slice (some ⟨w.heap.size, 0, none⟩) s.size x.1) s.size (gS s) := fun w => by
    obtain ⟨cap, C, fr, h1, h2, h3, h4⟩ := conv_str s w (by omega)
    refine ⟨(cap, w.drew.alloc (.cells C 5 fr)), h1, (Below.refl _ w).drew.alloc (Nat.le_refl _) _, by simp, fun w' hw => .inr ⟨0, cap, rfl, hp, h2, h3, fun j hj => ?_⟩⟩
    have e : w'.heap[w.heap.size]? = some (.cells C 5 fr) := (hw.block _ (by simp)).trans (al_at w.drew _)
    rw [Nat.zero_add]
    simp [World.cell?, e, h4 j hj]
  exact ⟨fun w => Classical.choose (h w), fun w => Classical.choose_spec (h w)⟩
def bndR (k a m : Nat) : Bool := (List.range m).all fun i => (ansB (bndB k (a + i)) 2000 .expr).isSome
theorem bndR_get {k a m n : Nat} (h : bndR k a m = true) (h1 : a ≤ n) (h2 : n < a + m) : ∃ t, ansB (bndB k n) 2000 .expr = some t := by
  have := List.all_eq_true.1 h (n - a) (List.mem_range.2 (by omega))
  rw [show a + (n - a) = n by omega] at this
  exact Option.isSome_iff_exists.1 this
end Go.Proofs.YtofgphapjjofnaaGreatDoor
