/- The heap stays what it is where nothing of it is written; thingOf, array, object, behind. -/
import Derived.Test.YtdgocaokmmhenaaGreatDoorH1
namespace Go.Proofs.YtdgocaokmmhenaaGreatDoor
set_option linter.unusedSimpArgs false
set_option linter.unusedVariables false
set_option maxRecDepth 100000
open Go.RowKit

variable {w W : World} {l : Ly} {hb : Nat} {H : PH}
theorem row_lt {w : World} {b e s n : Nat} {v : Value} {xs : List Value} (h : w.ownsRow b e s v n xs) {g : Nat} (hg : v.ownBlock = some g) : g < w.heap.size := (h.lt g hg).2
theorem ArAt.keep {w w' : World} {l l' : Ly} {i : Nat} {t : Th} {sv : Value} (h : ArAt w l i t sv) (hb : l'.bx i = l.bx i) (hx : ∀ k, k < w.heap.size → l.L k = 3 * i + 3 ∨ l.L k = 3 * i + 5 → w'.heap[k]? = w.heap[k]?) (hL : ∀ k, k < w.heap.size → l'.L k = l.L k) (h0 : l.L (l.bx i) = 3 * i + 3) : ArAt w' l' i t sv where
  box := by rw [hb]; exact (hx _ h.box.lt (.inl h0)).trans h.box
  row := row_keep h.row fun g hg => hx g (row_lt h.row hg) (.inr (h.lr g hg))
  lr := fun g hg => (hL g (row_lt h.row hg)).trans (h.lr g hg)
theorem ObAt.keep {w w' : World} {l l' : Ly} {i : Nat} {t : Th} {mv : Option Nat} {kv : Value} (h : ObAt w l i t mv kv) (hb : l'.bx i = l.bx i) (hj : ∀ j, t.beh = some j → l'.bx j = l.bx j) (hx : ∀ k, k < w.heap.size → l.L k = 3 * i + 3 ∨ l.L k = 3 * i + 4 ∨ l.L k = 3 * i + 5 → w'.heap[k]? = w.heap[k]?) (hL : ∀ k, k < w.heap.size → l'.L k = l.L k) (h0 : l.L (l.bx i) = 3 * i + 3) : ObAt w' l' i t mv kv where
  box := by
    rw [hb]
    have e : bpv l' t.beh = bpv l t.beh := by
      cases hbe : t.beh with
      | none => rfl
      | some j => simp [bpv, hj j hbe]
    rw [e]
    exact (hx _ h.box.lt (.inl h0)).trans h.box
  map := fun m hm => ⟨_root_.Go.Proofs.YtdgocaokmmhenaaGreatDoor.map_keep (h.map m hm).1 (hx m (h.map m hm).1.lt (.inr (.inl (h.map m hm).2))), (hL m (h.map m hm).1.lt).trans (h.map m hm).2⟩
  nomap := h.nomap
  row := row_keep h.row fun g hg => hx g (row_lt h.row hg) (.inr (.inr (h.lr g hg)))
  lr := fun g hg => (hL g (row_lt h.row hg)).trans (h.lr g hg)
theorem ThAt.lt {i : Nat} {t : Th} (h : ThAt w l i t) : l.bx i < w.heap.size := by
  by_cases e : t.kind = 2
  · obtain ⟨_, _, sv, ha⟩ := h.arr e; exact ha.box.lt
  · obtain ⟨_, mv, kv, ho⟩ := h.obj e; exact ho.box.lt
theorem ThAt.keep {w w' : World} {l l' : Ly} {i : Nat} {t : Th} (h : ThAt w l i t) (hb : l'.bx i = l.bx i) (hj : ∀ j, t.beh = some j → l'.bx j = l.bx j) (hx : ∀ k, k < w.heap.size → l.L k = 3 * i + 3 ∨ l.L k = 3 * i + 4 ∨ l.L k = 3 * i + 5 → w'.heap[k]? = w.heap[k]?) (hL : ∀ k, k < w.heap.size → l'.L k = l.L k) : ThAt w' l' i t where
  lb := by rw [hb, hL _ h.lt, h.lb]
  kd := h.kd
  arr := fun e => by
    obtain ⟨h1, h2, sv, ha⟩ := h.arr e
    exact ⟨h1, h2, sv, ha.keep hb (fun k hk ho => hx k hk (by omega)) hL h.lb⟩
  obj := fun e => by
    obtain ⟨h1, mv, kv, ho⟩ := h.obj e
    exact ⟨h1, mv, kv, ho.keep hb hj hx hL h.lb⟩
  beh := h.beh
theorem HAt.below {w' : World} (h : HAt W l hb H) (k : Below W.heap.size W w') : HAt w' l hb H where
  box := by
    obtain ⟨sv, h1, h2, h3⟩ := h.box
    exact ⟨sv, (k.block hb h1.lt).trans h1, row_keep h2 fun g hg => k.block g (row_lt h2 hg), h3⟩
  lh := h.lh
  fresh := fun j hj => h.fresh j (Nat.le_trans k.size hj)
  th := fun i t hi => (h.th i t hi).keep rfl (fun _ _ => rfl) (fun j hj _ => k.block j hj) (fun _ _ => rfl)
  obj := h.obj
  room := h.room
  sum := h.sum
  used := h.used
/-- What a value stands for. -/
theorem thingOf_ref (h : HAt W l hb H) (n : Int) (t : ByteArray) : Calls Tryz.prog 42 #[ptr hb, .agg (Vc 5 n t)] W fun e w' => e = .returned (thR l H n) ∧ Below W.heap.size W w' := by
  have HB := hide (below_one W (.cells #[.int .i64 5, .int .i64 n, .string t] 23))
  have HH := hide (h.below (unhide HB))
  obtain ⟨x, y, hr⟩ : ∃ x y, thR l H n = .tuple #[x, y] := by unfold thR; split; exact ⟨_, _, rfl⟩; split; exact ⟨_, _, rfl⟩; exact ⟨_, _, rfl⟩
  have HT := hide (thing_any (unhide HH) n)
  rw [hr] at HT ⊢
  clear h hr
  unfold Vc
  unfold ptr at HT ⊢
  go_enter Tryz.func42, Tryz.ntmps42
  go_wp2_with (first | (go_at_call 61; refine (unhide HT).mono ?_; rintro e' w1 ⟨rfl, hb1⟩; have HB1 := hide (hb1); clear hb1))
  refine bodyPost_ret (by simp [results, Tryz.results42, go_sem]) rfl ⟨rfl, (unhide HB).trans ((unhide HB1).mono (unhide HB).size)⟩
theorem thingOf_no (k n : Int) (t : ByteArray) (hk : k ≠ 5) (hp : Value) (W : World) : Calls Tryz.prog 42 #[hp, .agg (Vc k n t)] W fun e w' => e = .returned (.tuple #[.nilIface, .bool false]) ∧ Below W.heap.size W w' := by
  have HB := hide (below_one W (.cells #[.int .i64 k, .int .i64 n, .string t] 23))
  unfold Vc
  go_enter Tryz.func42, Tryz.ntmps42
  go_wp2
  refine bodyPost_ret (by simp [results, Tryz.results42, go_sem]) rfl ⟨rfl, unhide HB⟩
end Go.Proofs.YtdgocaokmmhenaaGreatDoor
