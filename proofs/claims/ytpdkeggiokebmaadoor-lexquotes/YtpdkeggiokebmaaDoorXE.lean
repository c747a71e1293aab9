/- The known text's tokens, one by one. -/
import Derived.Test.YtpdkeggiokebmaaDoorXD
namespace Go.Proofs.YtpdkeggiokebmaaDoor
set_option linter.unusedSimpArgs false
set_option linter.unusedVariables false
open Go.RowKit Go.Shelf

set_option maxRecDepth 100000 in
set_option maxHeartbeats 1000000 in
theorem res_let (W : World) : Calls Tryd.prog 65 #[.string ⟨#[108, 101, 116]⟩] W fun x W' => x = .returned (.bool true) ∧ W' = W := by
  go_enter Tryd.func65, Tryd.ntmps65
  go_wp2
  go_ret
  exact ⟨rfl, rfl⟩
set_option maxRecDepth 100000 in
set_option maxHeartbeats 1000000 in
theorem res_x (W : World) : Calls Tryd.prog 65 #[.string ⟨#[120]⟩] W fun x W' => x = .returned (.bool false) ∧ W' = W := by
  go_enter Tryd.func65, Tryd.ntmps65
  go_wp2
  go_ret
  exact ⟨rfl, rfl⟩

def hasD (l : List ByteArray) (v : ByteArray) : Bool := l.any fun s => v.data.toList == s.data.toList
def lsgD (g : Nat → Int) : Nat → ByteArray
  | 0 => ⟨#[]⟩
  | L + 1 => if hasD (sgnL (L + 1)) (strOfNums (upto g (L + 1))) then strOfNums (upto g (L + 1)) else lsgD g L
theorem hasD_eq (l : List ByteArray) (v : ByteArray) : hasT l v = hasD l v := by simp [hasT, hasD, ba_toList]
theorem lsgD_eq (g : Nat → Int) : ∀ L, lsg g L = lsgD g L
  | 0 => rfl
  | L + 1 => by simp only [lsg, lsgD, hasD_eq, lsgD_eq g L]

/-- The known text. -/
def sK : ByteArray := ⟨#[108, 101, 116, 32, 120, 32, 61, 32, 34, 97, 92, 110, 34, 59]⟩
def gT (j : Nat) : Int := gS sK j
theorem gT_bd (j : Nat) : 0 ≤ gT j ∧ gT j ≤ 255 := gS_bd sK j
def k1 : Value := tokV 2 ⟨#[108, 101, 116]⟩ 0 3
def k2 : Value := tokV 1 ⟨#[120]⟩ 4 5
def k3 : Value := tokV 9 ⟨#[61]⟩ 6 7
def k4 : Value := tokV 4 ⟨#[97, 10]⟩ 8 13
def k5 : Value := tokV 9 ⟨#[59]⟩ 13 14
/-- How far the scan has come. -/
def RK (at' : Nat) (pre : List Value) : Prop :=
  (at' = 0 ∧ pre = []) ∨ (at' = 3 ∧ pre = [k1]) ∨ (at' = 4 ∧ pre = [k1]) ∨ (at' = 5 ∧ pre = [k1, k2]) ∨ (at' = 6 ∧ pre = [k1, k2]) ∨ (at' = 7 ∧ pre = [k1, k2, k3]) ∨ (at' = 8 ∧ pre = [k1, k2, k3]) ∨ (at' = 13 ∧ pre = [k1, k2, k3, k4]) ∨ (at' = 14 ∧ pre = [k1, k2, k3, k4, k5])

theorem stop1 : Stop isLD gT 14 1 3 := ⟨by decide, by decide, fun j h1 h2 => by rcases (by omega : j = 1 ∨ j = 2) with rfl | rfl <;> decide, .inr (by decide)⟩
theorem stop2 : Stop isLD gT 14 5 5 := ⟨by decide, by decide, fun j h1 h2 => by omega, .inr (by decide)⟩
theorem sub1 : strOfNums (sub gT 0 3) = ⟨#[108, 101, 116]⟩ := by decide
theorem sub2 : strOfNums (sub gT 4 5) = ⟨#[120]⟩ := by decide
theorem ls1 : lsg (fun j => gT (6 + j)) (min 3 (14 - 6)) = ⟨#[61]⟩ := by rw [lsgD_eq]; decide
theorem ls2 : lsg (fun j => gT (13 + j)) (min 3 (14 - 13)) = ⟨#[59]⟩ := by rw [lsgD_eq]; decide

theorem stepK (M c : Nat) (a : Option Addr) (cap : Nat) : StepC M c a 14 cap gT (.slice none 0 0) RK := by
  intro at' pre h hlt
  rcases h with ⟨rfl, rfl⟩ | ⟨rfl, rfl⟩ | ⟨rfl, rfl⟩ | ⟨rfl, rfl⟩ | ⟨rfl, rfl⟩ | ⟨rfl, rfl⟩ | ⟨rfl, rfl⟩ | ⟨rfl, rfl⟩ | ⟨rfl, rfl⟩
  · refine ⟨fun h => absurd h (by decide), fun _ => ⟨by decide, 2, ⟨#[108, 101, 116]⟩, 3, by decide, by decide, .inr (.inl ⟨rfl, rfl⟩), fun W hM hS hc => ?_⟩⟩
    refine tok_word M c a 14 cap gT 0 _ 2 3 _ W hM hS hc (by decide) (by decide) (by decide) (fun W hM hS hc => ?_)
    have := word_any M c a 14 cap gT 0 3 _ true W hM hS hc (by decide) (by decide) stop1 (fun W => by rw [sub1]; exact res_let W)
    rw [sub1] at this
    exact this
  · exact ⟨fun _ => .inr (.inr (.inl ⟨rfl, rfl⟩)), fun h => absurd h (by decide)⟩
  · refine ⟨fun h => absurd h (by decide), fun _ => ⟨by decide, 1, ⟨#[120]⟩, 5, by decide, by decide, .inr (.inr (.inr (.inl ⟨rfl, rfl⟩))), fun W hM hS hc => ?_⟩⟩
    refine tok_word M c a 14 cap gT 4 _ 1 5 _ W hM hS hc (by decide) (by decide) (by decide) (fun W hM hS hc => ?_)
    have := word_any M c a 14 cap gT 4 5 _ false W hM hS hc (by decide) (by decide) stop2 (fun W => by rw [sub2]; exact res_x W)
    rw [sub2] at this
    exact this
  · exact ⟨fun _ => .inr (.inr (.inr (.inr (.inl ⟨rfl, rfl⟩)))), fun h => absurd h (by decide)⟩
  · refine ⟨fun h => absurd h (by decide), fun _ => ⟨by decide, 9, ⟨#[61]⟩, 7, by decide, by decide, .inr (.inr (.inr (.inr (.inr (.inl ⟨rfl, rfl⟩))))), fun W hM hS hc => ?_⟩⟩
    refine tok_sign M c a 14 cap gT 6 _ 9 7 _ W hM hS hc (by decide) (by decide) (by decide) (by decide) (by decide) (by decide) (by decide) (by decide) (fun W hM hS hc => ?_)
    exact sign_plain M c a 14 cap gT 6 _ ⟨#[61]⟩ W hM hS hc (by decide) (by decide) ls1 (by decide) (by rw [ba_toList]; decide) (by rw [ba_toList]; decide) (by rw [ba_toList]; decide)
  · exact ⟨fun _ => .inr (.inr (.inr (.inr (.inr (.inr (.inl ⟨rfl, rfl⟩)))))), fun h => absurd h (by decide)⟩
  · refine ⟨fun h => absurd h (by decide), fun _ => ⟨by decide, 4, ⟨#[97, 10]⟩, 13, by decide, by decide, .inr (.inr (.inr (.inr (.inr (.inr (.inr (.inl ⟨rfl, rfl⟩))))))), fun W hM hS hc => ?_⟩⟩
    refine tok_quote M c a 14 cap gT 8 _ 4 13 _ W hM hS hc (by decide) (by decide) (by decide) (fun W hM hS hc => ?_)
    exact quoted_k M c a 14 cap gT gT_bd 8 _ W hM hS hc (by decide) (by decide) (by decide) (by decide) (by decide) (by decide)
  · refine ⟨fun h => absurd h (by decide), fun _ => ⟨by decide, 9, ⟨#[59]⟩, 14, by decide, by decide, .inr (.inr (.inr (.inr (.inr (.inr (.inr (.inr ⟨rfl, rfl⟩))))))), fun W hM hS hc => ?_⟩⟩
    refine tok_sign M c a 14 cap gT 13 _ 9 14 _ W hM hS hc (by decide) (by decide) (by decide) (by decide) (by decide) (by decide) (by decide) (by decide) (fun W hM hS hc => ?_)
    exact sign_plain M c a 14 cap gT 13 _ ⟨#[59]⟩ W hM hS hc (by decide) (by decide) ls2 (by decide) (by rw [ba_toList]; decide) (by rw [ba_toList]; decide) (by rw [ba_toList]; decide)
  · omega
end Go.Proofs.YtpdkeggiokebmaaDoor
