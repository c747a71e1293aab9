/- Towards the law: GT. -/
import Derived.Test.YtdliannkiijeiaaGreatDoorM2
import Derived.Test.YtdliannkiijeiaaGreatDoorMG
import Derived.Test.YtdliannkiijeiaaGreatDoorMSA
set_option linter.unusedSimpArgs false
set_option linter.unusedVariables false
set_option maxRecDepth 100000
set_option maxHeartbeats 8000000
namespace Go.Proofs.YtdliannkiijeiaaGreatDoor
section
open Go.RowKit Go.Shelf
theorem by_of {g : Nat → Int} (hg : ∀ j, 0 ≤ g j ∧ g j ≤ 255) {a b : Nat} : Bys (sub g a b) := by
 intro z hz;unfold sub upto at hz;obtain ⟨j, _, rfl⟩ := List.mem_map.1 hz;exact hg _
theorem sub_len {g : Nat → Int} {a b : Nat} : (sub g a b).length = b - a := by unfold sub upto; simp
theorem sub_get {g : Nat → Int} {a b : Nat} {p : Int → Prop} (h : ∀ j, a ≤ j → j < b → p (g j)) : ∀ z ∈ sub g a b, p z := by
 intro z hz;unfold sub upto at hz;obtain ⟨j, hj, rfl⟩ := List.mem_map.1 hz;have := List.mem_range.1 hj;exact h _ (by omega) (by omega)
theorem quoF_by {g : Nat → Int} {len : Nat} {mk : Int} : ∀ (f i : Nat) {t : List Int} {e : Nat}, quoF g len mk f i = some (t, e) → Bys t ∧ t.length ≤ 4 * f
 | 0, i, t, e, h => by cases h
 | f + 1, i, t, e, h => by
   have cons : ∀ (r : Int) (u : List Int), Bys u ∧ u.length ≤ 4 * f → Bys (Lib.encodeRuneZ r ++ u) ∧ (Lib.encodeRuneZ r ++ u).length ≤ 4 * (f + 1) := fun r u hu => by
    refine ⟨fun z hz => ?_, ?_⟩
    · rcases List.mem_append.1 hz with q | q
      · have := Lib.encodeRuneZ_byte r z q; omega
      · exact hu.1 z q
    · have := (Lib.encodeRuneZ_length r).2
      rw [List.length_append];omega
   unfold quoF at h;split at h
   · cases h
   split at h
   · cases h
   split at h
   · cases h; exact ⟨(by intro z hz; cases hz), by simp⟩
   split at h
   · split at h
     · cases h
     · split at h
       · cases h
       · rename_i hq
         cases h;exact cons _ _ (quoF_by f _ hq)
   · split at h
     · cases h
     · rename_i hq
       cases h;exact cons _ _ (quoF_by f _ hq)
theorem pieF_by {g : Nat → Int} {len : Nat} : ∀ (f i : Nat) {t : List Int} {b : Bool} {e : Nat}, pieF g len f i = some (t, b, e) → Bys t ∧ t.length ≤ 4 * f
 | 0, i, t, b, e, h => by cases h
 | f + 1, i, t, b, e, h => by
   have cons : ∀ (r : Int) (u : List Int), Bys u ∧ u.length ≤ 4 * f → Bys (Lib.encodeRuneZ r ++ u) ∧ (Lib.encodeRuneZ r ++ u).length ≤ 4 * (f + 1) := fun r u hu => by
    refine ⟨fun z hz => ?_, ?_⟩
    · rcases List.mem_append.1 hz with q | q
      · have := Lib.encodeRuneZ_byte r z q; omega
      · exact hu.1 z q
    · have := (Lib.encodeRuneZ_length r).2
      rw [List.length_append];omega
   unfold pieF at h;split at h
   · cases h
   split at h
   · cases h; exact ⟨(by intro z hz; cases hz), by simp⟩
   split at h
   · cases h; exact ⟨(by intro z hz; cases hz), by simp⟩
   split at h
   · split at h
     · cases h
     · split at h
       · cases h
       · rename_i hq
         cases h;exact cons _ _ (pieF_by f _ hq)
   · split at h
     · cases h
     · rename_i hq
       cases h;exact cons _ _ (pieF_by f _ hq)
theorem decx_low {g : Nat → Int} {i : Nat} (h0 : 49 ≤ g i) : ∀ n, (∀ j, j ≤ n → isD (g (i + j)) = true) → (10 : Int) ^ n ≤ decVx g i (n + 1)
 | 0, h => by simp [decVx]; omega
 | n + 1, h => by
   have ih := decx_low h0 n fun j hj => h j (by omega)
   have := isD_bd (h (n + 1) (by omega));show (10 : Int) ^ (n + 1) ≤ decVx g i (n + 1) * 10 + (g (i + (n + 1)) - 48)
   rw [Int.pow_succ];omega
structure TkG (len : Nat) (t : Tok) : Prop where
 by' : Bys t.2.1
 num : t.1 = 3 → NumOk t.2.1
 lng : t.2.1.length ≤ 40000
 sg : slen t ≤ 3
 fit : t.2.2.1 + slen t ≤ len
theorem slen_ne {t : Tok} (h : t.1 ≠ 9) : slen t = 0 := by unfold slen; rw [if_neg h]
theorem tokP_fine {g : Nat → Int} (hg : ∀ j, 0 ≤ g j ∧ g j ≤ 255) {len i : Nat} {bs : List Bool} {k : Int} {t : List Int} {e : Nat} {bs' : List Bool} (hlen : len ≤ 4000) (hi : i < len) (h : tokP g len i bs = some (k, t, e, bs')) : TkG len (k, t, i, e) ∧ k ≠ 10 ∧ i + slen (k, t, i, e) ≤ e ∧ e ≤ len := by
 have hadv := tokP_adv hi h
 have fin : ∀ {k : Int} {t : List Int}, k ≠ 9 → k ≠ 3 → k ≠ 10 → Bys t → t.length ≤ 40000 → TkG len (k, t, i, e) ∧ k ≠ 10 ∧ i + slen (k, t, i, e) ≤ e ∧ e ≤ len := fun {k t} h9 h3 h10 hb hl => by
  have := slen_ne (t := (k, t, i, e)) h9;exact ⟨⟨hb, fun e => absurd e h3, hl, by omega, by show i + _ ≤ _; omega⟩, h10, by omega, by omega⟩
 unfold tokP at h;split at h
 · cases h
   refine fin ?_ ?_ ?_ (by_of hg) (by rw [sub_len]; omega) <;> (split <;> decide)
 split at h
 · rename_i hl hd
   split at h
   · rename_i hok
     cases h;have hsp := stopI_spec (p := isD) (g := g) (len := len) (i := i) (by omega);have hne : i < numEnd g len i := hadv.1;have hdg : ∀ j, i ≤ j → j < numEnd g len i → isD (g j) = true := hsp.2.2.1;refine ⟨⟨by_of hg, fun _ => ⟨by rw [sub_len]; omega, ?_, sub_get (p := fun d => 48 ≤ d ∧ d ≤ 57) fun j h1 h2 => isD_bd (hdg j h1 h2)⟩, by rw [sub_len]; omega, ?_, ?_⟩, by decide, ?_, by omega⟩
     · rw [sub_len]
       simp only [numOk, Bool.and_eq_true, decide_eq_true_eq] at hok;obtain ⟨⟨q1, q2⟩, q3⟩ := hok;by_cases h48 : g i = 48
       · have : ¬ i + 1 < numEnd g len i := fun hc => by simp [h48, hc] at q2
         omega
       · obtain ⟨n, hn⟩ : ∃ n, numEnd g len i - i = n + 1 := ⟨numEnd g len i - i - 1, by omega⟩
         rw [hn] at q1 ⊢;have b0 := isD_bd (hdg i (by omega) hne);have := decx_low (g := g) (i := i) (by omega) n fun j hj => hdg _ (by omega) (by omega)
         by_cases hc : n < 18
         · omega
         · exfalso
           have hp : (10 : Int) ^ 18 ≤ 10 ^ n := by
            have := Nat.pow_le_pow_right (n := 10) (by decide) (show 18 ≤ n by omega);exact_mod_cast this
           have : (10 : Int) ^ 18 = 1000000000000000000 := by decide
           omega
     · rw [slen_ne (show (3 : Int) ≠ 9 by decide)]; omega
     · show i + _ ≤ _; rw [slen_ne (show (3 : Int) ≠ 9 by decide)]; omega
     · rw [slen_ne (show (3 : Int) ≠ 9 by decide)]; omega
   · cases h
 split at h
 · unfold quoP at h
   cases hq : quoI g len (g i) (i + 1) with
   | none => rw [hq] at h; cases h
   | some y =>
     obtain ⟨u, e'⟩ := y;rw [hq] at h;cases h;obtain ⟨q1, q2⟩ := quoF_by _ _ hq;exact fin (k := 4) (t := u) (by decide) (by decide) (by decide) q1 (by omega)
 split at h
 · cases hq : pieI g len (i + 1) with
   | none => rw [hq] at h; cases h
   | some y =>
     obtain ⟨u, b, e'⟩ := y;rw [hq] at h;obtain ⟨q1, q2⟩ := pieF_by _ _ hq;cases b <;> (cases h; exact fin (by decide) (by decide) (by decide) q1 (by omega))
 split at h
 · cases hq : pieI g len (i + 1) with
   | none => rw [hq] at h; cases h
   | some y =>
     obtain ⟨u, b, e'⟩ := y;rw [hq] at h;obtain ⟨q1, q2⟩ := pieF_by _ _ hq;cases b <;> (cases h; exact fin (by decide) (by decide) (by decide) q1 (by omega))
 have hs := sgN_le g len i
 have sgn : ∀ {e : Nat}, e = i + sgN g len i → TkG len (9, sub g i e, i, e) ∧ (9 : Int) ≠ 10 ∧ i + slen (9, sub g i e, i, e) ≤ e ∧ e ≤ len := fun {e} he => by
  have h9 : slen (9, sub g i e, i, e) = sgN g len i := by unfold slen; rw [if_pos rfl]; show (sub g i e).length = _; rw [sub_len]; omega
  exact ⟨⟨by_of hg, fun e => absurd e (show ¬ (9 : Int) = 3 by decide), by rw [sub_len]; omega, by omega, by show i + _ ≤ _; omega⟩, by decide, by omega, by omega⟩
 unfold sigQ at h;split at h
 · cases h
 split at h
 · cases h; exact sgn rfl
 split at h
 · cases h; exact sgn rfl
 · cases h; exact sgn rfl
def ChT (len : Nat) : Nat → List Tok → Prop
 | _, [] => False
 | i, [t] => t = (10, [], len, len) ∧ i ≤ len
 | i, t :: u :: l => (TkG len t ∧ t.1 ≠ 10 ∧ i ≤ t.2.2.1) ∧ ChT len (t.2.2.1 + slen t) (u :: l)
theorem ChT.low {len i j : Nat} {l : List Tok} (h : ChT len j l) (hij : i ≤ j) : ChT len i l := by
 match l, h with
 | [t], h => exact ⟨h.1, Nat.le_trans hij h.2⟩
 | t :: u :: l, h => exact ⟨⟨h.1.1, h.1.2.1, Nat.le_trans hij h.1.2.2⟩, h.2⟩
theorem ok_tl {a : TokD} {l : List TokD} (h : okI (a :: l)) : okI l := fun t ht => h t (by simp [ht])
theorem sc_chain {g : Nat → Int} (hg : ∀ j, 0 ≤ g j ∧ g j ≤ 255) {len : Nat} (hlen : len ≤ 4000) : ∀ (n i : Nat) (bs : List Bool), len - i ≤ n → i ≤ len → okI (scI g len i bs) → ChT len i ((scI g len i bs).map (·.1)) := by
 intro n;induction n with
 | zero =>
   intro i bs hn hi hok;rw [sc_end (by omega)];exact ⟨rfl, by omega⟩
 | succ n ih =>
   intro i bs hn hi hok;by_cases hil : i < len
   · by_cases hb : blk (g i) = true
     · rw [sc_blk hil hb] at hok ⊢
       exact (ih (i + 1) bs (by omega) (by omega) hok).low (by omega)
     · by_cases h1 : g i = 47 ∧ i + 1 < len ∧ g (i + 1) = 47
       · rw [sc_line h1.2.1 h1.1 h1.2.2] at hok ⊢
         have hsp := stopI_spec (p := fun c => c != 10) (g := g) (len := len) (i := i) (by omega)
         have : i < stopI (fun c => c != 10) g len i := by
          rcases Nat.lt_or_ge i (stopI (fun c => c != 10) g len i) with q | q
          · exact q
          · exfalso
            have e : stopI (fun c => c != 10) g len i = i := by omega
            rw [e] at hsp;rcases hsp.2.2.2 with r | r
            · omega
            · rw [h1.1] at r; cases r
         exact (ih _ bs (by omega) hsp.2.1 hok).low (by omega)
       · by_cases h2 : g i = 47 ∧ i + 1 < len ∧ g (i + 1) = 42
         · rw [sc_rem h2.2.1 h2.1 h2.2.2] at hok ⊢
           by_cases h3 : remI g len (i + 2) + 1 < len
           · rw [if_pos h3] at hok ⊢
             have : i + 2 ≤ remI g len (i + 2) := remF_ge _ _;exact (ih _ bs (by omega) (by omega) hok).low (by omega)
           · rw [if_neg h3] at hok
             have := hok ((0, [], i, 0), 3) (by simp);simp at this
         · have hng : NoGap g len i := ⟨by simpa using hb, h1, h2⟩
           cases ht : tokP g len i bs with
           | none =>
             rw [sc_bad hil hng ht] at hok;have := hok ((0, [], i, 0), 3) (by simp);simp at this
           | some y =>
             obtain ⟨k, t, e, bs'⟩ := y;obtain ⟨f1, f2, f3, f4⟩ := tokP_fine hg hlen hil ht;have hadv := tokP_adv hil ht;rw [sc_tok hil hng ht] at hok ⊢;have hr := ih e bs' (by omega) f4 (ok_tl hok);rw [List.map_cons];generalize (scI g len e bs').map (·.1) = l at hr;match l, hr with
             | u :: l, hr => exact ⟨⟨f1, f2, NL⟩, hr.low f3⟩
   · rw [sc_end hil]
     exact ⟨rfl, by omega⟩
theorem ChT.len {len i : Nat} : ∀ {l : List Tok}, ChT len i l → 0 < l.length
 | [t], _ => by simp
 | t :: u :: l, _ => by simp
theorem ChT.all {len : Nat} : ∀ {l : List Tok} {i : Nat}, ChT len i l → ∀ t ∈ l, TkG len t
 | [t], i, h, x, hx => by
   simp only [List.mem_singleton] at hx;subst hx;rw [h.1];exact ⟨(by intro z hz; cases hz), fun e => absurd e (show ¬ (10 : Int) = 3 by decide), by simp, by simp [slen], by simp [slen]⟩
 | t :: u :: l, i, h, x, hx => by
   rcases List.mem_cons.1 hx with e | e
   · subst e; exact h.1.1
   · exact ChT.all h.2 x e
theorem ChT.last {len : Nat} : ∀ {l : List Tok} {i : Nat}, ChT len i l → ∀ t, l[l.length - 1]? = some t → t.1 = 10
 | [t], i, h, x, hx => by
   simp at hx;subst hx;rw [h.1]
 | t :: u :: l, i, h, x, hx => by
   refine ChT.last h.2 x ?_;simpa using hx
theorem ChT.next {len : Nat} : ∀ {l : List Tok} {i : Nat}, ChT len i l → ∀ j t u, l[j]? = some t → l[j + 1]? = some u → t.2.2.1 + slen t ≤ u.2.2.1
 | [t], i, h, j, x, y, hx, hy => by simp at hy
 | t :: u :: l, i, h, 0, x, y, hx, hy => by
   simp at hx hy;subst hx hy;match l, h with
   | [], h => rw [h.2.1]; exact h.2.2
   | v :: l, h => exact h.2.1.2.2
 | t :: u :: l, i, h, j + 1, x, y, hx, hy => ChT.next h.2 j x y (by simpa using hx) (by simpa using hy)
theorem ChT.cx {len i : Nat} {l : List Tok} (h : ChT len i l) (cl : List Nat) : CxOk ⟨l, cl⟩ len :=
 ⟨fun t ht => by have := (h.all t ht).sg; omega, h.last, h.next, fun t ht => (h.all t ht).fit⟩
theorem clF_ok {N : Nat} : ∀ (l : List Tok) (i : Nat) (op cl : List Nat), i + l.length = N → (∀ t, l[l.length - 1]? = some t → t.1 = 10) → cl.length = N → (∀ k ∈ cl, k = 0 ∨ k + 1 < N) → (clF l i op cl).length = N ∧ ∀ k ∈ clF l i op cl, k = 0 ∨ k + 1 < N
 | [], i, op, cl, hN, hl, hc, hk => ⟨hc, hk⟩
 | t :: l, i, op, cl, hN, hl, hc, hk => by
   have hl' : ∀ u, l[l.length - 1]? = some u → u.1 = 10 := fun u hu => by
    cases l with
    | nil => simp at hu
    | cons v l => exact hl u (by simpa using hu)
   have hN' : i + 1 + l.length = N := by simp at hN; omega
   unfold clF;split
   · exact clF_ok l (i + 1) _ cl hN' hl' hc hk
   · cases op with
     | nil => exact clF_ok l (i + 1) _ cl hN' hl' hc hk
     | cons o op' =>
       simp only;split
       · rename_i hcl
         have hlt : i + 1 < N := by
          cases l with
          | nil =>
            exfalso
            have h10 : t.1 = 10 := hl t (by simp);rcases hcl with e | e
            · omega
            · simp [isT, mark, h10] at e
          | cons v l => simp at hN'; omega
         refine clF_ok l (i + 1) op' _ hN' hl' (by rw [List.length_set]; exact hc) fun k hk' => ?_
         rcases List.mem_or_eq_of_mem_set hk' with e | e
         · exact hk k e
         · exact .inr (by omega)
       · exact clF_ok l (i + 1) _ cl hN' hl' hc hk
theorem ChT.cl {len i : Nat} {l : List Tok} (h : ChT len i l) : (clL l).length = l.length ∧ ∀ k ∈ clL l, k ≠ 0 → k + 1 < l.length := by
 obtain ⟨h1, h2⟩ := clF_ok (N := l.length) l 0 [] (List.replicate l.length 0) (by simp) h.last (by simp) fun k hk => .inl (List.mem_replicate.1 hk).2
 exact ⟨h1, fun k hk hk0 => (h2 k hk).resolve_left hk0⟩
end
end Go.Proofs.YtdliannkiijeiaaGreatDoor
