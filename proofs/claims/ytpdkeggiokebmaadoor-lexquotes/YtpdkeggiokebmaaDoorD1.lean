/- text.Quote: a quote, what stands for each rune, a quote; given what text.quoted answers at the runes that come. -/
import Derived.Laws.IdiomStrings
import Derived.Test.YtpdkeggiokebmaaDoorSh
import Derived.Test.YtpdkeggiokebmaaDoorB3
import Derived.Test.YtpdkeggiokebmaaDoorC1
namespace Go.Proofs.YtpdkeggiokebmaaDoor
set_option linter.unusedSimpArgs false
set_option linter.unusedVariables false
open Go.RowKit Go.Shelf

attribute [local go_sem] Oper.semAt_some

/-- The bytes of a string, by their places. -/
def gS (s : ByteArray) (j : Nat) : Int := ((s.data[j]?.getD 0).toNat : Int)
theorem gS_bd (s : ByteArray) (j : Nat) : 0 ≤ gS s j ∧ gS s j ≤ 255 := by
  have := (s.data[j]?.getD 0).toNat_lt
  unfold gS; omega

theorem conv_str (s : ByteArray) (w : World) (hs : s.size ≤ 4294967296) : ∃ cap C fr, (convert 9 22 (.string s)).run Tryd.prog w = .ok (.slice (some ⟨w.heap.size, 0, none⟩) s.size cap) (w.drew.alloc (.cells C 5 fr)) ∧
    s.size ≤ cap ∧ cap ≤ maxLen ∧ ∀ j, j < s.size → C[j]? = some (.int .u8 (gS s j)) := by
  refine ⟨_, _, _, run_bytes_of_string w 9 22 5 s Tryd.underlying9 Tryd.underlying22 Tryd.underlying5, grownCap_ge _ _ _ _, grownCap_le_maxLen _ _ _ _ (by unfold maxLen; omega), fun j hj => ?_⟩
  have hj' : j < s.data.size := hj
  have hj2 : j < s.size := hj
  simp [bytesRow, Array.getElem?_append, hj', hj2, gS]

/-- What stands for runes. -/
def flat (quo : Int → List UInt8) (l : List (Nat × Int)) : List UInt8 := l.flatMap fun x => quo x.2
theorem flat_snoc (quo : Int → List UInt8) (l : List (Nat × Int)) (x : Nat × Int) : flat quo (l ++ [x]) = flat quo l ++ quo x.2 := by simp [flat]
theorem flat_le {quo : Int → List UInt8} {l : List (Nat × Int)} (h : ∀ x ∈ l, (quo x.2).length ≤ 16) : (flat quo l).length ≤ 16 * l.length := by
  induction l with
  | nil => simp [flat]
  | cons x l ih =>
    have := h x (by simp)
    have := ih fun y hy => h y (by simp [hy])
    simp only [flat, List.flatMap_cons, List.length_append, List.length_cons] at *
    omega

/-- Between two rounds of Quote. -/
def QuI {R : Nat × Int → Prop} (quo : Int → List UInt8) (w : World) (c1 c2 : Nat) (pre : List { x : Nat × Int // R x }) (W : World) : Prop :=
  ∃ v, (BAt w.heap.size w.heap.size (.pointer (some ⟨w.heap.size, 0, none⟩)) v (Lib.byteCells (34 :: flat quo (pre.map (·.1)))) W ∧ v.ownBlock ≠ some c1 ∧ v.ownBlock ≠ some c2 ∧ c1 < W.heap.size) ∧ Below w.heap.size w W
theorem quI_own {R : Nat × Int → Prop} (quo : Int → List UInt8) (w : World) (c1 c2 B : Nat) (hB : w.heap.size ≤ B) : OwnFrom B (QuI (R := R) quo w c1 c2) := fun s A C row hs hg hr => by
  obtain ⟨v, ⟨h1, h2, h3, h5⟩, h4⟩ := hs
  exact ⟨v, ⟨h1.kept hg (fun r e => (hr r e).2), h2, h3, Nat.lt_of_lt_of_le h5 hg.size⟩, ownFrom_below (β := Unit) (Nat.le_refl _) hB () A C row h4 hg hr⟩

set_option maxRecDepth 100000 in
set_option maxHeartbeats 2000000 in
theorem quote_in (s : ByteArray) (w : World) (hs : s.size ≤ 4294967296) (R : Nat × Int → Prop) (hR : ∀ k, posn (gS s) s.size k < s.size → R (endAt (gS s) s.size k)) (quo : Int → List UInt8) (hql : ∀ x, R x → (quo x.2).length ≤ 16)
    (hq : ∀ x, R x → ∀ w : World, Calls Tryd.prog 29 #[.int .i32 x.2] w fun e w' => e = .returned (.string ⟨(quo x.2).toArray⟩) ∧ Below w.heap.size w w') :
    CallsIn Fence.wide 6 Tryd.prog 19 #[.string s] w fun e w' => (∃ m, Runes (gS s) s.size m ∧ e = .returned (.string ⟨(34 :: flat quo (upto (endAt (gS s) s.size) m) ++ [34]).toArray⟩)) ∧ Below w.heap.size w w' := by
  have HQ := hide hq
  have HQL := hide hql
  have HR := hide hR
  clear hq hql hR
  refine callsIn_of_wp_marks Tryd.func19 rfl trivial ?_ rfl
  simp only [Tryd.ntmps19, List.size_toArray, List.length_cons, List.length_nil, Nat.reduceAdd, Nat.reduceSub, Array.replicate_succ, Array.replicate_zero, List.push_toArray, List.append_toArray, List.nil_append, List.cons_append]
  have hfr : BAt w.heap.size w.heap.size (.pointer none) (.slice none 0 0) [] (w.alloc (.cells #[.pointer none, .slice none 0 0] 52)) := ⟨Nat.le_refl _, World.alloc_heap_new w _, World.ownsRow_nil _ _ _ _, by simp [Value.ownBlock]⟩
  gi_wp2_with (refine ⟨trivial, ?_⟩; gi_at_call 26; refine (callsIn_wide.2 (wb_any w.heap.size w.heap.size _ _ [] 34 _ (.inl rfl) hfr (by simp) (by simp))).mono ?_; rintro e w1 ⟨rfl, v1, hb1, _, hB1⟩)
  have hw1 := hb1.lt
  have hB1' : Below w.heap.size w w1 := ((Below.refl _ w).alloc (Nat.le_refl _) _).trans hB1
  have HV1 : Hid (∀ k, w1.heap.size ≤ k → v1.ownBlock ≠ some k) := fun k hk e => by have := (hb1.2.2.1.lt k e).2; omega
  obtain ⟨cap, C, fr, hcv, hcap, hcm, hC⟩ := conv_str s w1 hs
  rw [hcv]
  simp only [Result.andThen]
  rw [Oper.uponIn_value]
  gi_wp2_with (refine ⟨trivial, ?_⟩; gi_at_call 27; refine (ends_in _ _ _ _ _).mono ?_; rintro e w' ⟨rfl, rfl⟩)
  obtain ⟨W0, hW0⟩ : ∃ W0, ((w1.alloc (.cells C 5 fr)).alloc (.cells #[.slice (some ⟨w1.heap.size, 0, none⟩) s.size cap] 22)).drew = W0 := ⟨_, rfl⟩
  have hsz : W0.heap.size = w1.heap.size + 1 + 1 := by rw [← hW0]; simp
  have hbx : Boxed W0 (w1.heap.size + 1) 22 (.slice (some ⟨w1.heap.size, 0, none⟩) s.size cap) := by
    have := Boxed.new (w1.alloc (.cells C 5 fr)) 22 (.slice (some ⟨w1.heap.size, 0, none⟩) s.size cap)
    rw [World.size_alloc] at this
    rw [← hW0]; exact this
  have hBW : Below w1.heap.size w1 W0 := by rw [← hW0]; exact (((Below.refl _ w1).alloc (Nat.le_refl _) _).alloc (by simp) _).drew
  have hcC : ∀ j, j < s.size → W0.cell? ⟨w1.heap.size, 0 + j, none⟩ = some (.int .u8 (gS s j)) := fun j hj => by
    have h1 : W0.heap[w1.heap.size]? = some (.cells C 5 fr) := by
      rw [← hW0]; exact (Below.heap_alloc (w1.alloc (.cells C 5 fr)) _ _ (by simp)).trans (World.alloc_heap_new w1 _)
    rw [Lib.cell_of_heap h1, Nat.zero_add]; exact hC j hj
  rw [hW0]
  have hSl : Sl W0 w1.heap.size (.slice (some ⟨w1.heap.size, 0, none⟩) s.size cap) s.size (gS s) := by
    by_cases h0 : s.size = 0
    · exact .inl ⟨_, _, by rw [h0], h0⟩
    · exact .inr ⟨0, cap, rfl, by omega, hcap, hcm, hcC⟩
  have hB0 : BAt w.heap.size w.heap.size (.pointer (some ⟨w.heap.size, 0, none⟩)) v1 (Lib.byteCells [34]) W0 := hb1.below hBW
  clear hW0 hcC hC hcv
  refine wpIn_rangeFunc_ownF rfl (by omega) (gf := 37) (lb := #[.pointer (some ⟨w1.heap.size + 1, 0, none⟩)]) rfl trivial (enters_of Tryd.func37 (by kernel_rfl) rfl)
    (ends_stopsR (6 - 1) (by omega) (w1.heap.size + 1) w1.heap.size (.slice (some ⟨w1.heap.size, 0, none⟩) s.size cap) s.size (gS s) (gS_bd s) W0 (by omega) (by omega) hbx.cell hSl R (unhide HR)) (fun h k => h.trans k) (keepS_b (fun k hk => by rcases hk with rfl | rfl <;> omega)) (Below.refl _ _) (fun _ => rfl)
    (QuI quo w (w1.heap.size + 1) w1.heap.size) (fun _ _ _ => False) (quI_own quo w _ _ _ (by omega)) (fun _ _ _ _ _ hs _ _ => hs)
    ⟨v1, ⟨hB0, unhide HV1 _ (by omega), unhide HV1 _ (by omega), by omega⟩, hB1'.trans (hBW.mono (by omega))⟩
    (fun x => { tmps := #[.string s, undef, .string { data := #[] }, .pointer (some ⟨w.heap.size, 0, none⟩), undef, .int .i32 x.1.2, .nilIface, .string s, .slice (some ⟨w1.heap.size, 0, none⟩) s.size cap, .func (.func 37) #[] #[.pointer (some ⟨w1.heap.size + 1, 0, none⟩)], .int .i64 x.1.1, .int .i32 x.1.2, undef, undef, undef, undef, undef], defers := [] }) ?assign ?body ?done ?stop
  case assign =>
    intro l x W K hK
    gi_wp2
    exact hK
  case body =>
    rintro l pre ⟨⟨xe, xr⟩, hx⟩ W ⟨v, ⟨hBA, hn1, hn2, hc1⟩, hB⟩ hlt
    have hbs : (Lib.byteCells (34 :: flat quo (pre.map (·.1)))).length + (quo xr).length ≤ 140737488355328 := by
      have h1 := flat_le (quo := quo) (l := pre.map (·.1)) (fun y hy => by obtain ⟨z, hz, rfl⟩ := List.mem_map.1 hy; exact unhide HQL z.1 z.2)
      have h2 := unhide HQL (xe, xr) hx
      rw [Lib.byteCells_length]
      simp only [List.length_map] at h1
      simp only [List.length_cons] at *
      omega
    have HBS := hide hbs
    clear hbs
    have hH := hide (unhide HQ (xe, xr) hx W)
    clear HQ
    gi_wp2_with (refine ⟨trivial, ?_⟩; gi_at_call 29; refine (CallsIn.inRound l (callsIn_wide.2 (unhide hH))).mono ?_; rintro e W2 ⟨rfl, hb2⟩)
    have hBA2 := hBA.below hb2
    have hAW : w.heap.size ≤ W.heap.size := hB.size
    have hAW2 : w.heap.size ≤ W2.heap.size := Nat.le_trans hAW hb2.size
    refine ⟨trivial, ?_⟩
    refine (CallsIn.inRound l (callsIn_wide.2 (ws_any w.heap.size w.heap.size _ v _ ⟨(quo xr).toArray⟩ W2 (.inr rfl) hBA2 (by have := unhide HBS; simpa [ByteArray.size] using this) hAW2))).mono ?_
    rintro e W3 ⟨rfl, v', hB3, hk3, hwh, hbl3⟩
    gi_wp2
    have hks : KeepS (fun k => k = w1.heap.size + 1 ∨ k = w1.heap.size) W W3 := by
      intro k hk
      have hkl : k < W.heap.size := by rcases hk with rfl | rfl <;> omega
      have hks := hb2.size
      rw [hk3 k (by omega) (by rcases hk with rfl | rfl <;> omega) (by rcases hk with rfl | rfl <;> assumption), hb2.block k hkl]
    have hfl : Lib.byteCells (34 :: flat quo (pre.map (·.1))) ++ Lib.strCells ⟨(quo xr).toArray⟩ = Lib.byteCells (34 :: flat quo ((pre ++ [(⟨(xe, xr), hx⟩ : { x : Nat × Int // R x })]).map (·.1))) := by
      simp [Lib.byteCells, Lib.strCells, flat]
    rw [hfl] at hB3
    have hks2 := hb2.size
    refine ⟨(others_of_below hb2).trans (KeptB.others hBA2 hk3 hbl3.size), hks, v', ⟨hB3, ?_, ?_, ?_⟩, (hB.trans (hb2.mono hAW)).trans hbl3⟩
    · intro e; rcases hwh _ e with h | h
      · exact hn1 h
      · omega
    · intro e; rcases hwh _ e with h | h
      · exact hn2 h
      · omega
    · have := hbl3.size; omega
  case done =>
    rintro D ys W hD ⟨m, hm, hys⟩ ⟨v, ⟨hBA, _, _, _⟩, hB⟩ hK
    have hlen : (Lib.byteCells (34 :: flat quo (ys.map (·.1)))).length + 1 ≤ 140737488355328 := by
      have h1 := flat_le (quo := quo) (l := ys.map (·.1)) (fun y hy => by obtain ⟨z, hz, rfl⟩ := List.mem_map.1 hy; exact unhide HQL z.1 z.2)
      have h2 := hm.le
      rw [Lib.byteCells_length]
      rw [hys] at h1 ⊢
      rw [upto_length] at h1
      simp only [List.length_cons] at *
      omega
    have hAW : w.heap.size ≤ W.heap.size := hB.size
    have HL := hide hlen
    clear hlen
    gi_wp2_with (refine ⟨trivial, ?_⟩; gi_at_call 26; refine (callsIn_wide.2 (wb_any w.heap.size w.heap.size _ _ _ 34 _ (.inr rfl) hBA (unhide HL) hAW)).mono ?_; rintro e W2 ⟨rfl, v2, hb2, hk2, hB2⟩)
    have hcell : Lib.byteCells (34 :: flat quo (ys.map (·.1))) ++ [.int .u8 34] = Lib.byteCells (34 :: flat quo (ys.map (·.1)) ++ [34]) := by simp [Lib.byteCells]
    rw [hcell] at hb2
    have hAW2 : w.heap.size ≤ W2.heap.size := Nat.le_trans hAW hB2.size
    have hK2 := (KeptB.others hBA hk2 hB2.size).same D _ hK rfl
    clear hcell
    refine ⟨trivial, ?_⟩
    refine (callsIn_wide.2 (Tryd.Builder_String_k w.heap.size w.heap.size _ W2 (.inr hb2.is) hAW2)).mono ?_
    rintro e W3 ⟨rfl, hB3, hO3⟩
    have hK3 : W3.heap[D]? = some (.deferred (some [])) := hO3 D _ hK2 (by intro e; have := Option.some.inj e; subst this; rw [hb2.2.1] at hK2; cases hK2) (by intro c fz e; cases e)
    gi_wp2
    refine ⟨by simp, .inl ⟨_, _, rfl, run_takeDeferred hK3, ?_⟩⟩
    refine ⟨_, results_tmp rfl _ _ _, ⟨m, hm, ?_⟩, ?_⟩
    · rw [← hys]; rfl
    · exact (hB.trans (hB2.trans hB3)).trans (belowK_b (w := w) (Nat.le_refl _) _ D _ (.deferred none) (by omega) hK3 rfl rfl)
  case stop =>
    rintro D c pre W _ _ h _
    exact h.elim
end Go.Proofs.YtpdkeggiokebmaaDoor
