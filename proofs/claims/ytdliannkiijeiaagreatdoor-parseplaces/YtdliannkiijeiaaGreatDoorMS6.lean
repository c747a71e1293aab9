/- Towards the law: S6 S7. -/
import Derived.Test.YtdliannkiijeiaaGreatDoorMS1
import Derived.Test.YtdliannkiijeiaaGreatDoorMS3
import Derived.Test.YtdliannkiijeiaaGreatDoorMS4
import Derived.Test.YtdliannkiijeiaaGreatDoorMS5
import Derived.Test.YtdliannkiijeiaaGreatDoorMSA
import Derived.Test.YtdliannkiijeiaaGreatDoorMSB
set_option linter.unusedSimpArgs false
set_option linter.unusedVariables false
set_option maxRecDepth 100000
set_option maxHeartbeats 8000000
namespace Go.Proofs.YtdliannkiijeiaaGreatDoor
section
theorem rank_pos {c : Cx} {x : Cmd} {s : PS} {p z : Nat} {L : List (Nat × List Nat × Nat)} (h : Arg c x s p L z) : 0 < rank x := by
 cases x <;> first | (simp only [rank]; done) | (simp only [rank]; omega) | (simp only [Arg] at h; simp only [rank]; omega)
theorem spec_all {c : Cx} {B : Nat} (hC : CxOk c B) : ∀ f x, Spec c B f x
 | 0, x => fun s p z L hS hE hA hf hN => by have := rank_pos hA; omega
 | f + 1, x => by
   have IH := spec_all hC f;by_cases h0 : gr0 x = true
   · exact st_0 hC IH x h0
   by_cases h1 : gr1 x = true
   · exact st_1 hC IH x h1
   by_cases h2 : gr2 x = true
   · exact st_2 hC IH x h2
   by_cases h3 : gr3 x = true
   · exact st_3 hC IH x h3
   cases x <;> first | exact st_typeArgs hC IH | exact st_callTypes hC IH | exact absurd rfl h0 | exact absurd rfl h1 | exact absurd rfl h2 | exact absurd rfl h3
def fuelT (l : List Tok) : Nat := 64 * (5 * l.length + 4) + 41
def start0 (l : List Tok) : PS := ⟨0, l.getD 0 tok0, [], List.replicate l.length false⟩
theorem par_whole {l : List Tok} {B : Nat} (hC : CxOk ⟨l, clL l⟩ B) (hpos : 0 < l.length) (hl : l.length ≤ 2000) {x : Cmd} (hx : x = .program ∨ x = .expr ∨ x = .anyType) :
 Wp (parP ⟨l, clL l⟩ (fuelT l) x) (start0 l) fun r s => St ⟨l, clL l⟩ B s ∧ r ≠ [] ∧ (∀ k ∈ r, k < s.nodes.length) ∧ sz s.nodes r ≤ s.nodes.length ∧ s.nodes.length ≤ 900000 := by
 have h0 : l[0]? = some (l.getD 0 tok0) := by rw [List.getD_eq_getElem?_getD, List.getElem?_eq_getElem hpos]; rfl
 have hS : St ⟨l, clL l⟩ B (start0 l) := ⟨hpos, ⟨_, h0, rfl, NL, NL, NL⟩, fun i y hy => by simp [start0] at hy⟩;have hE : Env (start0 l).nodes [] := fun q hq => by cases hq
 have hm : mea ⟨l, clL l⟩ (start0 l) ≤ 5 * l.length + 4 := by
  have := hS.sl hC;unfold mea;show 5 * (l.length - 0) + slen (start0 l).tk ≤ _
  omega
 have hn : (start0 l).nodes.length = 0 := rfl;have hA : Arg ⟨l, clL l⟩ x (start0 l) 0 [] 0 := by rcases hx with e | e | e <;> subst e <;> rfl
 have hr : rank x ≤ 41 := by rcases hx with e | e | e <;> subst e <;> decide
 have hw : rowy x = false := by rcases hx with e | e | e <;> subst e <;> rfl
 refine wp_mono (spec_all hC (fuelT l) x (start0 l) 0 0 [] hS hE hA (by unfold fuelT; omega) (by omega)) ?_;rintro r s ⟨a1, a2, a3, a4, a5, a6, a7, a8⟩;refine ⟨a1, a5 hw, fun k hk => (a3.1 k hk).lt, by omega, ?_⟩;split at a8
 · omega
 · have : nl x ≤ 2 := by cases x <;> simp [nl]
   omega
theorem sz_take {l : List PN} {B : Nat} (h : NOk B l) : ∀ j, j ≤ l.length → ∀ i x, i < j → l[i]? = some x → (szs (l.take j)).getD i 0 = 1 + sz (l.take j) x.kids
 | 0, _, i, x, hi, _ => by omega
 | j + 1, hj, i, x, hi, hx => by
   have e : l.take (j + 1) = l.take j ++ [l[j]] := by rw [List.take_append_getElem]
   have hlen : (l.take j).length = j := by rw [List.length_take]; omega
   have hk : ∀ k ∈ x.kids, k < (l.take j).length := fun k hk => by
    have := (h i x hx).2.1 k hk;omega
   rw [e, sz_snoc hk];by_cases hij : i = j
   · subst hij
     have : l[i] = x := by rw [List.getElem?_eq_getElem (by omega)] at hx; exact Option.some.inj hx
     rw [this, szs_snoc, List.getD_eq_getElem?_getD, List.getElem?_append_right (by rw [szs_len]; omega)];simp [szs_len, hlen]
   · rw [szs_snoc, List.getD_eq_getElem?_getD, List.getElem?_append_left (by rw [szs_len]; omega), ← List.getD_eq_getElem?_getD]
     exact sz_take h j (by omega) i x (by omega) hx
theorem sz_node {l : List PN} {B : Nat} (h : NOk B l) {n : Nat} {x : PN} (hx : l[n]? = some x) : sz l [n] = 1 + sz l x.kids := by
 have hn := (List.getElem?_eq_some_iff.1 hx).1;have := sz_take h l.length NL n x hn hx;rw [List.take_length] at this;unfold sz at *;simpa using this
def Gd (B : Nat) (T : List PN) (y : PN) : Prop := y.kind = 1 ∨ y.kind = 2 ∨ (y.loc ≤ B ∧ ∀ k ∈ y.kids, Bh T y.loc k)
def Kn (T U : List PN) : Prop := ∀ (i : Nat) (y : PN), T[i]? = some y → ∃ u, U[i]? = some u ∧ u.kind = y.kind ∧ u.loc = y.loc
theorem Bh.kn {T U : List PN} {p k : Nat} (h : Bh T p k) (hk : Kn T U) : Bh U p k := by
 obtain ⟨y, h1, h2⟩ := h;obtain ⟨u, e1, e2, e3⟩ := hk k y h1;exact ⟨u, e1, by rw [e2, e3]; exact h2⟩
theorem Gd.kn {B : Nat} {T U : List PN} {y : PN} (h : Gd B T y) (hk : Kn T U) : Gd B U y := by
 rcases h with e | e | ⟨e, e'⟩
 · exact .inl e
 · exact .inr (.inl e)
 · exact .inr (.inr ⟨e, fun k h => (e' k h).kn hk⟩)
structure Ly (B : Nat) (nodes : List PN) (n : Nat) (t : List PN) (r : List PN × Nat) : Prop where
 at' : r.2 = t.length
 len : r.1.length = t.length + sz nodes [n]
 old : ∀ i, i < t.length → r.1[i]? = t[i]?
 top : ∃ x y, nodes[n]? = some x ∧ r.1[t.length]? = some y ∧ y.kind = x.kind ∧ y.loc = x.loc
 gd : ∀ i, t.length ≤ i → ∀ y, r.1[i]? = some y → Gd B r.1 y
structure Lw (B : Nat) (nodes : List PN) (x : PN) (t : List PN) (ks : List Nat) (a : List PN × List Nat) : Prop where
 len : a.1.length = t.length + 1 + sz nodes ks
 old : ∀ i, i < t.length → a.1[i]? = t[i]?
 top : a.1[t.length]? = some x
 kid : ∀ p, (∀ k ∈ ks, Bh nodes p k) → ∀ k ∈ a.2, Bh a.1 p k
 gd : ∀ i, t.length < i → ∀ y, a.1[i]? = some y → Gd B a.1 y
theorem lay_ly {nodes : List PN} {B : Nat} (h : NOk B nodes) : ∀ (f n : Nat) (t : List PN), n < f → n < nodes.length → Ly B nodes n t (layP nodes f n t)
 | 0, n, t, hf, _ => by omega
 | f + 1, n, t, hf, hn => by
   obtain ⟨x, hx⟩ : ∃ x, nodes[n]? = some x := ⟨_, List.getElem?_eq_getElem hn⟩;have hxd : nodes.getD n ⟨0, [], 0, [], 0⟩ = x := by rw [List.getD_eq_getElem?_getD, hx]; rfl
   obtain ⟨_, hkn, hpl⟩ := h n x hx
   have key : ∀ (ks' ks : List Nat) (a : List PN × List Nat), (∀ k ∈ ks', k < n) → Lw B nodes x t ks a → Lw B nodes x t (ks ++ ks') (ks'.foldl (fun (a : List PN × List Nat) k => let y := layP nodes f k a.1; (y.1, a.2 ++ [y.2])) a) := by
    intro ks';induction ks' with
    | nil => intro ks a _ ha; simpa using ha
    | cons k ks' ih =>
      intro ks a hk ha;have hkl := hk k (by simp);have L := lay_ly h f k a.1 (by omega) (by omega)
      have hkn' : Kn a.1 (layP nodes f k a.1).1 := fun i y hy => by
       have := (List.getElem?_eq_some_iff.1 hy).1;exact ⟨y, by rw [L.old i this]; exact hy, rfl, rfl⟩
      rw [show ks ++ k :: ks' = (ks ++ [k]) ++ ks' by simp, List.foldl_cons];refine ih (ks ++ [k]) _ (fun j hj => hk j (by simp [hj])) ⟨?_, ?_, ?_, ?_, ?_⟩
      · show (layP nodes f k a.1).1.length = _
        rw [L.len, ha.len];unfold sz;rw [List.map_append, List.sum_append];omega
      · intro i hi
        show (layP nodes f k a.1).1[i]? = _
        rw [L.old i (by rw [ha.len]; omega)];exact ha.old i hi
      · show (layP nodes f k a.1).1[t.length]? = _
        rw [L.old _ (by rw [ha.len]; omega)];exact ha.top
      · intro p hp j hj
        show Bh (layP nodes f k a.1).1 p j
        rcases List.mem_append.1 hj with e | e
        · exact (ha.kid p (fun k' hk' => hp k' (by simp [hk'])) j e).kn hkn'
        · simp only [List.mem_singleton] at e
          subst e;obtain ⟨u, y, e1, e2, e3, e4⟩ := L.top;obtain ⟨v, g1, g2⟩ := hp k (by simp);rw [e1] at g1;cases g1;rw [L.at'];exact ⟨y, e2, by rw [e3, e4]; exact g2⟩
      · intro i hi y hy
        by_cases hia : i < a.1.length
        · have hy' : a.1[i]? = some y := by rw [← L.old i hia]; exact hy
          exact (ha.gd i hi y hy').kn hkn'
        · exact L.gd i (by omega) y hy
   have hL := key x.kids [] (t ++ [x], []) hkn ⟨by simp [sz], fun i hi => by rw [List.getElem?_append_left hi], by simp, fun p _ k hk => (by cases hk), fun i hi y hy => by
    have := (List.getElem?_eq_some_iff.1 hy).1;simp at this
    omega⟩
   rw [List.nil_append] at hL;show Ly B nodes n t (let x := nodes.getD n ⟨0, [], 0, [], 0⟩; let r := x.kids.foldl (fun (a : List PN × List Nat) k => let y := layP nodes f k a.1; (y.1, a.2 ++ [y.2])) (t ++ [x], []); (r.1.set t.length { x with kids := r.2 }, t.length))
   rw [hxd];simp only;generalize x.kids.foldl (fun (a : List PN × List Nat) k => let y := layP nodes f k a.1; (y.1, a.2 ++ [y.2])) (t ++ [x], []) = r at hL ⊢;have htl : t.length < r.1.length := (List.getElem?_eq_some_iff.1 hL.top).1
   have hkn2 : Kn r.1 (r.1.set t.length { x with kids := r.2 }) := fun i y hy => by
    by_cases hi : t.length = i
    · subst hi
      rw [hL.top] at hy;cases hy;exact ⟨{ x with kids := r.2 }, by rw [List.getElem?_set_self htl], rfl, rfl⟩
    · exact ⟨y, by rw [List.getElem?_set_ne hi]; exact hy, rfl, rfl⟩
   refine ⟨rfl, ?_, ?_, ⟨x, { x with kids := r.2 }, hx, ?_, rfl, rfl⟩, ?_⟩
   · show (r.1.set _ _).length = _
     rw [List.length_set, hL.len, sz_node h hx];omega
   · intro i hi
     show (r.1.set _ _)[i]? = _
     rw [List.getElem?_set_ne (by omega)];exact hL.old i hi
   · show (r.1.set _ _)[t.length]? = _
     rw [List.getElem?_set_self htl]
   · intro i hi y hy
     by_cases hit : t.length = i
     · subst hit
       rw [List.getElem?_set_self htl] at hy;cases hy;rcases hpl with e | e | ⟨e, e'⟩
       · exact .inl e
       · exact .inr (.inl e)
       · exact .inr (.inr ⟨e, fun k hk => (hL.kid x.loc e' k hk).kn hkn2⟩)
     · rw [List.getElem?_set_ne hit] at hy
       exact (hL.gd i (by omega) y hy).kn hkn2
end
end Go.Proofs.YtdliannkiijeiaaGreatDoor
