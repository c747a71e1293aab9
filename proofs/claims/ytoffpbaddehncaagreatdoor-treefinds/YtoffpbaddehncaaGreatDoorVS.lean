/- A tree within another: what Check looks at is moved along. -/
import Derived.Test.YtoffpbaddehncaaGreatDoorVO
import Derived.Test.YtoffpbaddehncaaGreatDoorTN
namespace Go.Proofs.YtoffpbaddehncaaGreatDoor
set_option linter.unusedSimpArgs false
set_option linter.unusedVariables false
open Go.RowKit

theorem sumP_ok {k b : Int} (h : -9223372036854775808 ≤ k + b ∧ k + b ≤ 9223372036854775807) (hk : k ≤ 9223372036854775807) : sumP k b = k + b := by
  unfold sumP
  rw [if_neg (by omega)]
  unfold wrap64
  omega
/-- t lies in L from p on, its kids moved along. -/
structure Emb (t L : List Nd) (p : Nat) : Prop where
  le : p + t.length ≤ L.length
  big : L.length ≤ 2199023255552
  at' : ∀ j, j < t.length → nd L (p + j) = shN (p : Int) (nd t j)
  up : ∀ j, j < t.length → ∀ k ∈ (nd t j).kids, ins t k = true ∧ (j : Int) < k
theorem Emb.kind {t L : List Nd} {p : Nat} (h : Emb t L p) {n : Nat} (hn : n < t.length) : (nd L (p + n)).kind = (nd t n).kind := by rw [h.at' n hn]; rfl
theorem Emb.num {t L : List Nd} {p : Nat} (h : Emb t L p) {n : Nat} (hn : n < t.length) : (nd L (p + n)).num = (nd t n).num := by rw [h.at' n hn]; rfl
theorem Emb.text {t L : List Nd} {p : Nat} (h : Emb t L p) {n : Nat} (hn : n < t.length) : (nd L (p + n)).text = (nd t n).text := by rw [h.at' n hn]; rfl
theorem Emb.kids {t L : List Nd} {p : Nat} (h : Emb t L p) {n : Nat} (hn : n < t.length) : (nd L (p + n)).kids = (nd t n).kids.map (fun k => k + (p : Int)) := by
  rw [h.at' n hn]
  refine List.map_congr_left fun k hk => ?_
  have h1 := ins_iff'.1 (h.up n hn k hk).1
  have h2 := h.le
  have h3 := h.big
  exact sumP_ok (by omega) (by omega)
theorem Emb.ins {t L : List Nd} {p : Nat} (h : Emb t L p) {k : Int} (hk : ins t k = true) : Go.Proofs.YtoffpbaddehncaaGreatDoor.ins L (k + (p : Int)) = true ∧ (k + (p : Int)).toNat = p + k.toNat ∧ k.toNat < t.length := by
  have h1 := ins_iff'.1 hk
  have h2 := h.le
  exact ⟨ins_iff'.2 ⟨by omega, by omega⟩, by omega, by omega⟩
theorem Emb.knds {t L : List Nd} {p : Nat} (h : Emb t L p) {n : Nat} (hn : n < t.length) : ∀ k ∈ (nd t n).kids, Go.Proofs.YtoffpbaddehncaaGreatDoor.ins t k = true := fun k hk => (h.up n hn k hk).1
/-- A place that looks at the node, its kids, its kids' kids alone. -/
def PSh (q : Plc) : Prop := ∀ (t L : List Nd) (p : Nat), Emb t L p → ∀ n, n < t.length → q L (p + n) = q t n
theorem psh_any : PSh pAny := fun _ _ _ _ _ _ => rfl
theorem psh_K (c : Int) : PSh (pK c) := fun t L p h n hn => by simp only [pK, h.kind hn]
theorem psh_expr : PSh pExpr := fun t L p h n hn => by simp only [pExpr, h.kind hn]
theorem psh_stmt : PSh pStmt := fun t L p h n hn => by simp only [pStmt, h.kind hn]
theorem psh_typ : PSh pTyp := fun t L p h n hn => by simp only [pTyp, h.kind hn]
theorem psh_param : PSh pParam := fun t L p h n hn => by simp only [pParam, h.kind hn, h.num hn]
theorem psh_asg : PSh pAsg := fun t L p h n hn => by simp only [pAsg, h.kind hn]
theorem psh_exp : PSh pExp := fun t L p h n hn => by simp only [pExp, h.kind hn, h.num hn]
theorem psh_let : PSh pLet := fun t L p h n hn => by simp only [pLet, pK, h.kind hn, h.num hn]
theorem psh_or {q r : Plc} (hq : PSh q) (hr : PSh r) : PSh (pOr q r) := fun t L p h n hn => by simp only [pOr, hq t L p h n hn, hr t L p h n hn]
theorem kAll_sh {q : Plc} (hq : PSh q) {t L : List Nd} {p : Nat} (h : Emb t L p) : ∀ ks : List Int, (∀ k ∈ ks, ins t k = true) → kAll q L (ks.map fun k => k + (p : Int)) = kAll q t ks
  | [], _ => rfl
  | k :: ks, hk => by
    obtain ⟨h1, h2, h3⟩ := h.ins (hk k (by simp))
    have ih := kAll_sh hq h ks (fun k' hk' => hk k' (by simp [hk']))
    simp only [kAll, List.map_cons, List.all_cons] at ih ⊢
    rw [ih, h1, h2, hk k (by simp), hq t L p h _ h3]
theorem psh_list {q : Plc} (hq : PSh q) : PSh (pList q) := fun t L p h n hn => by
  simp only [pList, h.kind hn, h.kids hn]
  rw [kAll_sh hq h _ (h.knds hn)]
theorem mem_sh {t L : List Nd} {p : Nat} (h : Emb t L p) : ∀ (ks : List Int) (c : Nat), (∀ k ∈ ks, ins t k = true) → mem L c (ks.map fun k => k + (p : Int)) = mem t c ks
  | [], _, _ => rfl
  | k :: ks, c, hk => by
    obtain ⟨h1, h2, h3⟩ := h.ins (hk k (by simp))
    have ih := fun c => mem_sh h ks c (fun k' hk' => hk k' (by simp [hk']))
    simp only [List.map_cons, mem, h1, h2, h.kind h3, ih, hk k (by simp)]
theorem psh_mem : PSh pMem := fun t L p h n hn => by
  simp only [pMem, h.kind hn, h.kids hn]
  rw [mem_sh h _ _ (h.knds hn)]
theorem mov_sh {t L : List Nd} {p : Nat} (h : Emb t L p) : ∀ (f n : Nat), n < t.length → mov L f (p + n) = mov t f n
  | 0, n, hn => by simp only [mov, h.kind hn]
  | f + 1, n, hn => by
    have hk := h.kids hn
    have hi := h.knds hn
    simp only [mov, hk, h.kind hn]
    cases hc : (nd t n).kids with
    | nil => rfl
    | cons k ks =>
      cases ks with
      | nil =>
        obtain ⟨h1, h2, h3⟩ := h.ins (hi k (by rw [hc]; simp))
        simp only [List.map_cons, List.map_nil, h1, h2, hi k (by rw [hc]; simp), mov_sh h f _ h3]
      | cons k2 ks => rfl
theorem mov_fuel {t : List Nd} (hup : ∀ j, j < t.length → ∀ k ∈ (nd t j).kids, ins t k = true ∧ (j : Int) < k) : ∀ (d n f f' : Nat), t.length - n ≤ d → n < t.length → t.length - n ≤ f → t.length - n ≤ f' → mov t f n = mov t f' n
  | 0, n, f, f', hd, hn, _, _ => by omega
  | d + 1, n, 0, f', hd, hn, hf, _ => by omega
  | d + 1, n, f + 1, 0, hd, hn, _, hf => by omega
  | d + 1, n, f + 1, f' + 1, hd, hn, hf, hf' => by
    simp only [mov]
    cases hc : (nd t n).kids with
    | nil => rfl
    | cons k ks =>
      cases ks with
      | nil =>
        have h1 := hup n hn k (by rw [hc]; simp)
        have h2 := ins_iff'.1 h1.1
        simp only []
        rw [mov_fuel hup d k.toNat f f' (by omega) (by omega) (by omega) (by omega)]
      | cons k2 ks => rfl
theorem psh_new : PSh pNew := fun t L p h n hn => by
  simp only [pNew]
  have := h.le
  rw [mov_sh h _ n hn, mov_fuel h.up (t.length - n) n L.length t.length (Nat.le_refl _) hn (by omega) (by omega)]
theorem plOf_sh (f : Nat) : PSh (plOf f) := by
  unfold plOf
  split <;> (repeat' (first | exact psh_any | exact psh_stmt | exact psh_typ | exact psh_expr | exact psh_param | exact psh_asg | exact psh_exp | exact psh_let | exact psh_mem | exact psh_new | exact psh_K _ | apply psh_or | apply psh_list))
theorem pcs_sh {t L : List Nd} {p : Nat} (h : Emb t L p) : ∀ ks : List Int, (∀ k ∈ ks, ins t k = true) → pcs L (ks.map fun k => k + (p : Int)) = pcs t ks
  | [], _ => rfl
  | [k], hk => by
    obtain ⟨h1, h2, h3⟩ := h.ins (hk k (by simp))
    simp only [List.map_cons, List.map_nil, pcs, h2, h.kind h3]
  | k :: k2 :: ks, hk => by
    obtain ⟨h1, h2, h3⟩ := h.ins (hk k (by simp))
    have ih := pcs_sh h ks (fun k' hk' => hk k' (by simp [hk']))
    simp only [List.map_cons, pcs, h2, h.kind h3, ih]
theorem getD_sh (ks : List Int) (p : Nat) (i : Nat) (hi : i < ks.length) : (ks.map fun k => k + (p : Int)).getD i 0 = ks.getD i 0 + (p : Int) := by
  simp [List.getD_eq_getElem?_getD, hi]
theorem cof_sh {t L : List Nd} {p : Nat} (h : Emb t L p) (ks : List Int) (hk : ∀ k ∈ ks, ins t k = true) (h3 : 3 ≤ ks.length) : cof L (ks.map fun k => k + (p : Int)) = cof t ks := by
  have g : ∀ i, i < ks.length → ins t (ks.getD i 0) = true := fun i hi => hk _ (by rw [List.getD_eq_getElem?_getD, List.getElem?_eq_getElem hi]; exact List.getElem_mem hi)
  obtain ⟨a1, a2, a3⟩ := h.ins (g 1 (by omega))
  obtain ⟨b1, b2, b3⟩ := h.ins (g 2 (by omega))
  simp only [cof, getD_sh ks p 1 (by omega), getD_sh ks p 2 (by omega), a2, b2, h.kind a3, h.kind b3]
theorem upQ_sh {t L : List Nd} {p : Nat} (h : Emb t L p) {ks : List Int} {pf : Nat → Option Nat} {pp : Nat → Plc} (hp : ∀ i, PSh (pp i)) (hk : ∀ k ∈ ks, ins t k = true) : ∀ i, i ≤ ks.length → upQ t ks pf pp i = true → upQ L (ks.map fun k => k + (p : Int)) pf pp i = true
  | 0, _, _ => rfl
  | i + 1, hi, hu => by
    simp only [upQ, Bool.and_eq_true] at hu ⊢
    obtain ⟨u1, u2, u3, u4⟩ := hu
    obtain ⟨a1, a2, a3⟩ := h.ins u3
    rw [getD_sh ks p i (by omega), a1, a2, hp i t L p h _ a3]
    exact ⟨upQ_sh h hp hk i (by omega) u1, u2, rfl, u4⟩
theorem fit_sh {t L : List Nd} {p : Nat} (h : Emb t L p) {n : Nat} (hn : n < t.length) (hf : fitP t n = true) : fitP L (p + n) = true := by
  have hi := h.knds hn
  simp only [fitP, Bool.and_eq_true] at hf ⊢
  rw [h.kind hn, h.text hn, h.num hn, h.kids hn]
  obtain ⟨⟨⟨f1, f2⟩, f3⟩, f4⟩ := hf
  refine ⟨⟨⟨f1, f2⟩, f3⟩, ?_⟩
  obtain ⟨r, hr⟩ : ∃ r, (tabT (nd t n).kind).getD rowN = r := ⟨_, rfl⟩
  have hrf := tabT_fine (nd t n).kind
  rw [hr] at f4 hrf ⊢
  simp only [kidP, Bool.and_eq_true] at f4 ⊢
  obtain ⟨⟨g1, g2⟩, g3⟩ := f4
  rw [List.length_map]
  refine ⟨⟨upQ_sh h (fun i => plOf_sh _) hi _ (Nat.le_refl _) g1, g2⟩, ?_⟩
  cases ha : r.a with
  | none => rfl
  | some f =>
    rw [ha] at g3
    simp only [Option.isNone_some, Bool.false_or, Option.getD_some] at g3 ⊢
    obtain ⟨hm, hq⟩ := (rowFine_parts hrf).2.2.2 f ha
    simp only [alF, List.mem_cons, List.not_mem_nil, or_false] at hm
    rcases hm with rfl | rfl | rfl
    · simp only [alOf, two, List.length_map] at g3 ⊢; exact g3
    · simp only [alOf] at g3 ⊢; rw [pcs_sh h _ hi]; exact g3
    · simp only [alOf] at g3 ⊢
      rw [cof_sh h _ hi ?_]
      · exact g3
      · rcases hq with hq | ⟨q1, _, q2, q3, q4⟩
        · exact absurd hq (by decide)
        · have hno : (pfOf r (nd t n).kids.length).isNone = true := by simpa [q1] using g2
          rcases hc : (nd t n).kids.length with _ | _ | _ | m
          · rw [hc] at hno; simp [pfOf, q1] at hno; rw [hno] at q2; cases q2
          · rw [hc] at hno; simp [pfOf, q1] at hno; rw [hno] at q3; cases q3
          · rw [hc] at hno; simp [pfOf, q1] at hno; rw [hno] at q4; cases q4
          · omega
theorem look_chain {l : List Nd} {n : Nat} : ∀ (ks : List Int) (next e : Nat), Chain l ks next e → lookK (lookP l l.length) n ks next = (-1, e)
  | [], next, e, h => by rw [show e = next from h]; rfl
  | k :: ks, next, e, h => by
    simp only [lookK]
    rw [if_pos h.1, if_pos h.2.1.2]
    exact look_chain ks _ _ h.2.2
theorem chain_sh {t L : List Nd} {p : Nat} : ∀ (ks : List Int) (next e : Nat), (∀ q, next ≤ q → Fine t q → Fine L (p + q) ∧ en L (p + q) = p + en t q) → Chain t ks next e → Chain L (ks.map fun k => k + (p : Int)) (p + next) (p + e)
  | [], next, e, _, h => by rw [show e = next from h]; rfl
  | k :: ks, next, e, hq, h => by
    obtain ⟨h1, h2, h3⟩ := h
    obtain ⟨a, b⟩ := hq next (Nat.le_refl _) h2
    have hle := h2.le
    refine ⟨by show k + (p : Int) = _; omega, a, ?_⟩
    rw [b]
    exact chain_sh ks _ _ (fun q hq' => hq q (by omega)) h3
theorem fine_of_chain {l : List Nd} {n e : Nat} (hn : n < l.length) (hf : fitP l n = true) (hc : Chain l (nd l n).kids (n + 1) e) : Fine l n ∧ en l n = e := by
  have h1 := look_step hn hf
  rw [look_chain _ _ _ hc] at h1
  exact ⟨⟨hn, by rw [h1]; exact (by decide : (-1 : Int) < 0)⟩, by rw [en, h1]⟩
theorem fine_sh {t L : List Nd} {p : Nat} (h : Emb t L p) : ∀ (d n : Nat), t.length - n ≤ d → Fine t n → Fine L (p + n) ∧ en L (p + n) = p + en t n
  | 0, n, hd, hf => by have := hf.1; omega
  | d + 1, n, hd, hf => by
    refine fine_of_chain (by have := hf.1; have := h.le; omega) (fit_sh h hf.1 hf.fit) ?_
    rw [h.kids hf.1]
    exact chain_sh _ _ _ (fun q hq hfq => fine_sh h d q (by omega) hfq) hf.chain
theorem chain_snoc {l : List Nd} : ∀ (ks : List Int) (next e : Nat), Chain l ks next e → Fine l e → Chain l (ks ++ [(e : Int)]) next (en l e)
  | [], next, e, h, hf => by
    obtain rfl : e = next := h
    exact ⟨rfl, hf, rfl⟩
  | k :: ks, next, e, h, hf => ⟨h.1, h.2.1, chain_snoc ks _ _ h.2.2 hf⟩
/-- A kid of a fine node stands further on. -/
theorem fine_up {l : List Nd} {n : Nat} (h : Fine l n) : ∀ k ∈ (nd l n).kids, ins l k = true ∧ (n : Int) < k := by
  have hc := h.chain
  have : ∀ (ks : List Int) (next e : Nat), Chain l ks next e → ∀ k ∈ ks, (next : Int) ≤ k := by
    intro ks
    induction ks with
    | nil => intro _ _ _ k hk; cases hk
    | cons k0 ks ih =>
      intro next e hc k hk
      rcases List.mem_cons.1 hk with rfl | hk
      · rw [hc.1]; exact Int.le_refl _
      · have := ih _ _ hc.2.2 k hk
        have := hc.2.1.le
        omega
  intro k hk
  have := this _ _ _ hc k hk
  exact ⟨h.ins k hk, by omega⟩
end Go.Proofs.YtoffpbaddehncaaGreatDoor
