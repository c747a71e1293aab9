/- Bytes turned into a string, and the comparing function literal of shucklaw1.TextGo. -/
import Derived.Laws.BytesArg
import Derived.Lib.OthersKept
import Derived.Test.YtponficlejjafaaDoorU0
import Derived.Test.YtponficlejjafaaDoorS4
namespace Go.Proofs.YtponficlejjafaaDoor
set_option linter.unusedSimpArgs false
set_option linter.unusedVariables false
open Go.RowKit Go.Shelf

theorem gS_nums (g : Nat → Int) (hg : ∀ j, 0 ≤ g j ∧ g j ≤ 255) (len j : Nat) (hj : j < len) : gS (strOfNums (upto g len)) j = g j := by
  have h := hg j
  have hj' : j < (upto g len).length := by rw [upto_length]; exact hj
  have e : (upto g len)[j]? = some (g j) := by simp [upto, hj]
  simp only [gS, strOfNums, List.getElem?_toArray, List.getElem?_map, e, Option.map_some, Option.getD_some]
  rw [UInt8.toNat_ofNat']
  omega
theorem conv_run {a : Option Addr} {len cap : Nat} {g : Nat → Int} {w : World} (hR : Src w (.slice a len cap) len g) : (convert 22 9 (.slice a len cap)).run Tryd.prog w = .ok (.string (strOfNums (upto g len))) w := by
  rcases hR with ⟨h, rfl⟩ | ⟨ad, cap', h, hc⟩
  · cases h
    exact run_convert_bytes_nil w 22 5 Tryd.underlying22 Tryd.underlying5 0 0 9 Tryd.underlying9
  · cases h
    have hl : (loadCells ad len).run Tryd.prog w = .ok ((upto g len).map (Value.int .u8)).toArray w := by
      have := run_loadCells_list (P := Tryd.prog) w ad ((upto g len).map (Value.int .u8)) (fun j v hj => by
        have hjl : j < len := by
          have := (List.getElem?_eq_some_iff.1 hj).1
          simpa [upto] using this
        rw [hc j hjl, ← hj]
        simp [upto, hjl])
      simpa [upto] using this
    rw [run_convert_bytes_string w 22 9 5 _ len cap Tryd.underlying22 Tryd.underlying5 Tryd.underlying9, run_bytesToString w _ len cap (upto g len) hl, foldl_push_bytes]
    simp [strOfNums, ByteArray.empty, ByteArray.emptyWithCapacity]
    rfl

/-- The places, the runes, as cells. -/
def pcs (g : Nat → Int) (len m : Nat) : List Value := upto (fun k => Value.int .i64 (posn g len k : Int)) m
def rcs (g : Nat → Int) (len m : Nat) : List Value := upto (fun k => Value.int .i32 (dRune g len (posn g len k))) m

theorem upto_get {α : Type} (f : Nat → α) {k j : Nat} (h : j < k) : (upto f k)[j]? = some (f j) := by simp [upto, h]
theorem one_cell {w : World} {base m n : Nat} {e : TypeId} {v u : Value} {xs : List Value} (h : w.ownsRow base e 1 v m xs) (hn : n < m) (hx : xs[n]? = some u) : ∃ gw cap, v = .slice (some ⟨gw, 0, none⟩) m cap ∧ m ≤ cap ∧ cap ≤ maxLen ∧ w.cell? ⟨gw, n, none⟩ = some u := by
  rcases h.2 with ⟨_, h0⟩ | ⟨gw, cap, cur, rfl, _, _, h1, h2, _, _⟩
  · omega
  · refine ⟨gw, cap, rfl, h1, h2, ?_⟩
    have := h.cells (g := gw) rfl n _ hx
    rw [Addr.add_lit, Nat.zero_add] at this
    exact this

set_option maxHeartbeats 1000000 in
theorem go_yes (Bo Bn Bp Br : Nat) (n m : Nat) (v u : Value) (g : Nat → Int) (len base : Nat) (x : Nat × Int) (A : World) (h1 : n ≤ 1048576) (ho : Boxed A Bo 4 (.bool true)) (hn : Boxed A Bn 3 (.int .i64 n)) (hp : Boxed A Bp 38 v) (hr : Boxed A Br 39 u)
    (hown : A.ownsRow base 3 1 v m (pcs g len m)) (hown' : A.ownsRow base 21 1 u m (rcs g len m)) (hne : Bo ≠ Bn) (hm : m ≤ 1048576) :
    Calls Tryd.prog 19 #[.int .i64 (x.1 : Int), .int .i32 x.2, .pointer (some ⟨Bo, 0, none⟩), .pointer (some ⟨Bn, 0, none⟩), .pointer (some ⟨Bp, 0, none⟩), .pointer (some ⟨Br, 0, none⟩)] A fun e A' =>
      e = .returned (.bool (fits g len m n x)) ∧ A' = (A.setCell ⟨Bo, 0, none⟩ (.bool (fits g len m n x))).setCell ⟨Bn, 0, none⟩ (.int .i64 ((n : Int) + 1)) := by
  have c1 := ho.cell
  have f1 := ho.frozen
  have cn := hn.cell
  have cp := hp.cell
  have cr := hr.cell
  obtain ⟨xe, xr⟩ := x
  by_cases hlt : n < m
  · obtain ⟨gw, cap, rfl, hc1, hc2, hA0⟩ := one_cell hown hlt (upto_get _ hlt)
    obtain ⟨gw', cap', rfl, hc1', hc2', hA1⟩ := one_cell hown' hlt (upto_get _ hlt)
    clear hown hown'
    unfold maxLen at hc2 hc2'
    have hlt' : (n : Int) < m := by omega
    by_cases he : xe = posn g len n
    · have he' : ((xe : Int) == (posn g len n : Int)) = true := by simp [he]
      by_cases hr : xr = dRune g len (posn g len n)
      · have hr' : (xr == dRune g len (posn g len n)) = true := by simp [hr]
        have HF : Hid (fits g len m n (xe, xr) = true) := by show fits g len m n (xe, xr) = true; simp [fits, hlt, he, hr]
        clear he hr
        have c2 := (hn.other hne.symm (.bool true)).cell
        have f2 := (hn.other hne.symm (.bool true)).frozen
        have c3 := ((ho.set (.bool true)).other hne (.int .i64 ((n : Int) + 1))).cell
        go_enter Tryd.func19, Tryd.ntmps19
        go_wp2
        go_ret
        rw [unhide HF]
        exact ⟨rfl, rfl⟩
      · have hr' : (xr == dRune g len (posn g len n)) = false := by simp [hr]
        have HF : Hid (fits g len m n (xe, xr) = false) := by show fits g len m n (xe, xr) = false; simp [fits, hr]
        clear he hr
        have c2 := (hn.other hne.symm (.bool false)).cell
        have f2 := (hn.other hne.symm (.bool false)).frozen
        have c3 := ((ho.set (.bool false)).other hne (.int .i64 ((n : Int) + 1))).cell
        go_enter Tryd.func19, Tryd.ntmps19
        go_wp2
        go_ret
        rw [unhide HF]
        exact ⟨rfl, rfl⟩
    · have he' : ((xe : Int) == (posn g len n : Int)) = false := by simp; omega
      have HF : Hid (fits g len m n (xe, xr) = false) := by show fits g len m n (xe, xr) = false; simp [fits, he]
      clear he
      have c2 := (hn.other hne.symm (.bool false)).cell
      have f2 := (hn.other hne.symm (.bool false)).frozen
      have c3 := ((ho.set (.bool false)).other hne (.int .i64 ((n : Int) + 1))).cell
      go_enter Tryd.func19, Tryd.ntmps19
      go_wp2
      go_ret
      rw [unhide HF]
      exact ⟨rfl, rfl⟩
  · obtain ⟨ao, cap, rfl⟩ : ∃ ao cap, v = .slice ao m cap := by
      rcases hown.2 with ⟨h, h0⟩ | ⟨gw, cap, cur, h, _⟩
      · exact ⟨none, 0, by rw [h, h0]⟩
      · exact ⟨_, cap, h⟩
    have hlt' : ¬ (n : Int) < m := by omega
    have HF : Hid (fits g len m n (xe, xr) = false) := by show fits g len m n (xe, xr) = false; simp [fits, hlt]
    clear hown hown'
    have c2 := (hn.other hne.symm (.bool false)).cell
    have f2 := (hn.other hne.symm (.bool false)).frozen
    have c3 := ((ho.set (.bool false)).other hne (.int .i64 ((n : Int) + 1))).cell
    go_enter Tryd.func19, Tryd.ntmps19
    go_wp2
    go_ret
    rw [unhide HF]
    exact ⟨rfl, rfl⟩

theorem enter19 : ∀ args w, (callFunc 19 args).run Tryd.prog w = .ok (.enter 19 args) w := enters_of Tryd.func19 (by kernel_rfl) rfl

theorem go_run {g : Nat → Int} (hg : ∀ j, 0 ≤ g j ∧ g j ≤ 255) {len m Bo Bn Bp Br Bk c base : Nat} {v u sv : Value} {W : World} (hlen : len ≤ 1048576) (hm : Runes g len m)
    (ho : Boxed W Bo 4 (.bool true)) (hn : Boxed W Bn 3 (.int .i64 0)) (hp : Boxed W Bp 38 v) (hr : Boxed W Br 39 u) (hown : W.ownsRow base 3 1 v m (pcs g len m)) (hown' : W.ownsRow base 21 1 u m (rcs g len m)) (hBk : Boxed W Bk 22 sv) (hS : Sl W c sv len g) (hc : c < W.heap.size)
    (n1 : Bo ≠ Bn) (n2 : Bp ≠ Bo) (n3 : Bp ≠ Bn) (n4 : Br ≠ Bo) (n5 : Br ≠ Bn) (n6 : Bk ≠ Bo) (n7 : Bk ≠ Bn) (n8 : c ≠ Bo) (n9 : c ≠ Bn) (nv : v.ownBlock ≠ some Bn) :
    Calls Tryd.prog 33 #[.func (.func 19) #[] #[.pointer (some ⟨Bo, 0, none⟩), .pointer (some ⟨Bn, 0, none⟩), .pointer (some ⟨Bp, 0, none⟩), .pointer (some ⟨Br, 0, none⟩)], .pointer (some ⟨Bk, 0, none⟩)] W fun e A =>
      (∃ u, e = .returned u) ∧ Fr (fun k => k = Bo ∨ k = Bn) W A ∧ Boxed A Bo 4 (.bool true) ∧ Boxed A Bn 3 (.int .i64 (m : Int)) := by
  have hml := hm.le
  have nv1 : ∀ k, v.ownBlock = some k → ¬ (k = Bo ∨ k = Bn) := by
    rintro k hk (rfl | rfl)
    · exact ho.not_row (by decide) hown hk.symm
    · exact nv hk
  have nv2 : ∀ k, u.ownBlock = some k → ¬ (k = Bo ∨ k = Bn) := by
    rintro k hk (rfl | rfl)
    · exact ho.not_row (by decide) hown' hk.symm
    · exact hn.not_row (by decide) hown' hk.symm
  refine (runes1_any enter19 hg hBk hS hc
    (fun pre A => SoFar g len m pre ∧ Boxed A Bo 4 (.bool true) ∧ Boxed A Bn 3 (.int .i64 (pre.length : Int)) ∧ Fr (fun k => k = Bo ∨ k = Bn) W A)
    (fun pre A => ¬ SoFar g len m pre) ?_ (fun pre A B h _ => h) ?_ ⟨soFar_nil _ _ _, ho, hn, Fr.refl _ _⟩).mono ?_
  · rintro pre A B ⟨h1, h3, h4, h5⟩ hb
    exact ⟨h1, boxed_below h3 hb ho.lt, boxed_below h4 hb hn.lt, h5.below hb⟩
  · rintro pre x A ⟨h1, h3, h4, h5⟩ hl hsz
    have hpm := h1.2
    have a1 := ho.lt
    have a2 := hn.lt
    have keep : ∀ (u : Bool) (t : Int) k, (W.heap.size ≤ k ∧ k < A.heap.size) ∨ k = Bk ∨ k = c → ((A.setCell ⟨Bo, 0, none⟩ (.bool u)).setCell ⟨Bn, 0, none⟩ (.int .i64 t)).heap[k]? = A.heap[k]? := by
      intro u t k hk
      rw [Below.heap_setCell _ _ _ _ (by show k ≠ Bn; rcases hk with ⟨h, _⟩ | rfl | rfl <;> omega), Below.heap_setCell _ _ _ _ (by show k ≠ Bo; rcases hk with ⟨h, _⟩ | rfl | rfl <;> omega)]
    refine (go_yes Bo Bn Bp Br pre.length m v u g len base x A (by omega) h3 h4 (boxed_fr hp h5 (by rintro (h | h) <;> omega)) (boxed_fr hr h5 (by rintro (h | h) <;> omega)) (ownsRow_fr hown h5 nv1) (ownsRow_fr hown' h5 nv2) n1 (by omega)).mono ?_
    rintro e A' ⟨rfl, rfl⟩
    refine ⟨(KeepsOthers.setCell _ _ _).trans (KeepsOthers.setCell _ _ _), keep _ _, ?_⟩
    cases hf : fits g len m pre.length x with
    | true =>
      refine .inl ⟨rfl, (soFar_snoc h1).1 hf, (h3.set _).other n1 _, ?_, (h5.setCell _ _ (.inl rfl)).setCell _ _ (.inr rfl)⟩
      rw [List.length_append, List.length_singleton, Int.natCast_add]
      exact (h4.other n1.symm _).set _
    | false => exact .inr ⟨rfl, (soFar_snoc h1).2 hf⟩
  · rintro e A ⟨he, ⟨m', hm', h1, h3, h4, h5⟩ | ⟨k, hk, h1⟩⟩
    · obtain rfl := hm'.unique hm
      rw [upto_length] at h4
      exact ⟨he, h5, h3, h4⟩
    · exact absurd (soFar_upto hm hk) h1
end Go.Proofs.YtponficlejjafaaDoor
