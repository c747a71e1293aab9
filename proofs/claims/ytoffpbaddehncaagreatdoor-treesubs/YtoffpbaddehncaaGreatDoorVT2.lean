/- Trees within trees, and Make of a List. -/
import Derived.Test.YtoffpbaddehncaaGreatDoorTM2
import Derived.Test.YtoffpbaddehncaaGreatDoorTP2
import Derived.Test.YtoffpbaddehncaaGreatDoorVO
/- A tree within another: what Check looks at is moved along. -/
namespace Go.Proofs.YtoffpbaddehncaaGreatDoor
set_option linter.unusedSimpArgs false
set_option linter.unusedVariables false
open Go.RowKit

theorem sumP_ok {k b : Int} (h : -9223372036854775808 ≤ k + b ∧ k + b ≤ 9223372036854775807) (hk : k ≤ 9223372036854775807) : sumP k b = k + b := by
  unfold sumP
  rw [if_neg (by omega)]
  unfold wrap64
  omega
/-- t lies in L from p on, its kids moved along. -/
structure Emb (t L : List Nd) (p : Nat) : Prop where
  le : p + t.length ≤ L.length
  big : L.length ≤ 2199023255552
  at' : ∀ j, j < t.length → nd L (p + j) = shN (p : Int) (nd t j)
  up : ∀ j, j < t.length → ∀ k ∈ (nd t j).kids, ins t k = true ∧ (j : Int) < k
theorem Emb.kind {t L : List Nd} {p : Nat} (h : Emb t L p) {n : Nat} (hn : n < t.length) : (nd L (p + n)).kind = (nd t n).kind := by rw [h.at' n hn]; rfl
theorem Emb.num {t L : List Nd} {p : Nat} (h : Emb t L p) {n : Nat} (hn : n < t.length) : (nd L (p + n)).num = (nd t n).num := by rw [h.at' n hn]; rfl
theorem Emb.text {t L : List Nd} {p : Nat} (h : Emb t L p) {n : Nat} (hn : n < t.length) : (nd L (p + n)).text = (nd t n).text := by rw [h.at' n hn]; rfl
theorem Emb.kids {t L : List Nd} {p : Nat} (h : Emb t L p) {n : Nat} (hn : n < t.length) : (nd L (p + n)).kids = (nd t n).kids.map (fun k => k + (p : Int)) := by
  rw [h.at' n hn]
  refine List.map_congr_left fun k hk => ?_
  have h1 := ins_iff'.1 (h.up n hn k hk).1
  have h2 := h.le
  have h3 := h.big
  exact sumP_ok (by omega) (by omega)
theorem Emb.ins {t L : List Nd} {p : Nat} (h : Emb t L p) {k : Int} (hk : ins t k = true) : Go.Proofs.YtoffpbaddehncaaGreatDoor.ins L (k + (p : Int)) = true ∧ (k + (p : Int)).toNat = p + k.toNat ∧ k.toNat < t.length := by
  have h1 := ins_iff'.1 hk
  have h2 := h.le
  exact ⟨ins_iff'.2 ⟨by omega, by omega⟩, by omega, by omega⟩
theorem Emb.knds {t L : List Nd} {p : Nat} (h : Emb t L p) {n : Nat} (hn : n < t.length) : ∀ k ∈ (nd t n).kids, Go.Proofs.YtoffpbaddehncaaGreatDoor.ins t k = true := fun k hk => (h.up n hn k hk).1
/-- A place that looks at the node, its kids, its kids' kids alone. -/
def PSh (q : Plc) : Prop := ∀ (t L : List Nd) (p : Nat), Emb t L p → ∀ n, n < t.length → q L (p + n) = q t n
theorem psh_any : PSh pAny := fun _ _ _ _ _ _ => rfl
theorem psh_K (c : Int) : PSh (pK c) := fun t L p h n hn => by simp only [pK, h.kind hn]
theorem psh_expr : PSh pExpr := fun t L p h n hn => by simp only [pExpr, h.kind hn]
theorem psh_stmt : PSh pStmt := fun t L p h n hn => by simp only [pStmt, h.kind hn]
theorem psh_typ : PSh pTyp := fun t L p h n hn => by simp only [pTyp, h.kind hn]
theorem psh_param : PSh pParam := fun t L p h n hn => by simp only [pParam, h.kind hn, h.num hn]
theorem psh_asg : PSh pAsg := fun t L p h n hn => by simp only [pAsg, h.kind hn]
theorem psh_exp : PSh pExp := fun t L p h n hn => by simp only [pExp, h.kind hn, h.num hn]
theorem psh_let : PSh pLet := fun t L p h n hn => by simp only [pLet, pK, h.kind hn, h.num hn]
theorem psh_or {q r : Plc} (hq : PSh q) (hr : PSh r) : PSh (pOr q r) := fun t L p h n hn => by simp only [pOr, hq t L p h n hn, hr t L p h n hn]
theorem kAll_sh {q : Plc} (hq : PSh q) {t L : List Nd} {p : Nat} (h : Emb t L p) : ∀ ks : List Int, (∀ k ∈ ks, ins t k = true) → kAll q L (ks.map fun k => k + (p : Int)) = kAll q t ks
  | [], _ => rfl
  | k :: ks, hk => by
    obtain ⟨h1, h2, h3⟩ := h.ins (hk k (by simp))
    have ih := kAll_sh hq h ks (fun k' hk' => hk k' (by simp [hk']))
    simp only [kAll, List.map_cons, List.all_cons] at ih ⊢
    rw [ih, h1, h2, hk k (by simp), hq t L p h _ h3]
theorem psh_list {q : Plc} (hq : PSh q) : PSh (pList q) := fun t L p h n hn => by
  simp only [pList, h.kind hn, h.kids hn]
  rw [kAll_sh hq h _ (h.knds hn)]
theorem mem_sh {t L : List Nd} {p : Nat} (h : Emb t L p) : ∀ (ks : List Int) (c : Nat), (∀ k ∈ ks, ins t k = true) → mem L c (ks.map fun k => k + (p : Int)) = mem t c ks
  | [], _, _ => rfl
  | k :: ks, c, hk => by
    obtain ⟨h1, h2, h3⟩ := h.ins (hk k (by simp))
    have ih := fun c => mem_sh h ks c (fun k' hk' => hk k' (by simp [hk']))
    simp only [List.map_cons, mem, h1, h2, h.kind h3, ih, hk k (by simp)]
theorem psh_mem : PSh pMem := fun t L p h n hn => by
  simp only [pMem, h.kind hn, h.kids hn]
  rw [mem_sh h _ _ (h.knds hn)]
theorem mov_sh {t L : List Nd} {p : Nat} (h : Emb t L p) : ∀ (f n : Nat), n < t.length → mov L f (p + n) = mov t f n
  | 0, n, hn => by simp only [mov, h.kind hn]
  | f + 1, n, hn => by
    have hk := h.kids hn
    have hi := h.knds hn
    simp only [mov, hk, h.kind hn]
    cases hc : (nd t n).kids with
    | nil => rfl
    | cons k ks =>
      cases ks with
      | nil =>
        obtain ⟨h1, h2, h3⟩ := h.ins (hi k (by rw [hc]; simp))
        simp only [List.map_cons, List.map_nil, h1, h2, hi k (by rw [hc]; simp), mov_sh h f _ h3]
      | cons k2 ks => rfl
theorem mov_fuel {t : List Nd} (hup : ∀ j, j < t.length → ∀ k ∈ (nd t j).kids, ins t k = true ∧ (j : Int) < k) : ∀ (d n f f' : Nat), t.length - n ≤ d → n < t.length → t.length - n ≤ f → t.length - n ≤ f' → mov t f n = mov t f' n
  | 0, n, f, f', hd, hn, _, _ => by omega
  | d + 1, n, 0, f', hd, hn, hf, _ => by omega
  | d + 1, n, f + 1, 0, hd, hn, _, hf => by omega
  | d + 1, n, f + 1, f' + 1, hd, hn, hf, hf' => by
    simp only [mov]
    cases hc : (nd t n).kids with
    | nil => rfl
    | cons k ks =>
      cases ks with
      | nil =>
        have h1 := hup n hn k (by rw [hc]; simp)
        have h2 := ins_iff'.1 h1.1
        simp only []
        rw [mov_fuel hup d k.toNat f f' (by omega) (by omega) (by omega) (by omega)]
      | cons k2 ks => rfl
theorem psh_new : PSh pNew := fun t L p h n hn => by
  simp only [pNew]
  have := h.le
  rw [mov_sh h _ n hn, mov_fuel h.up (t.length - n) n L.length t.length (Nat.le_refl _) hn (by omega) (by omega)]
theorem plOf_sh (f : Nat) : PSh (plOf f) := by
  unfold plOf
  split <;> (repeat' (first | exact psh_any | exact psh_stmt | exact psh_typ | exact psh_expr | exact psh_param | exact psh_asg | exact psh_exp | exact psh_let | exact psh_mem | exact psh_new | exact psh_K _ | apply psh_or | apply psh_list))
theorem pcs_sh {t L : List Nd} {p : Nat} (h : Emb t L p) : ∀ ks : List Int, (∀ k ∈ ks, ins t k = true) → pcs L (ks.map fun k => k + (p : Int)) = pcs t ks
  | [], _ => rfl
  | [k], hk => by
    obtain ⟨h1, h2, h3⟩ := h.ins (hk k (by simp))
    simp only [List.map_cons, List.map_nil, pcs, h2, h.kind h3]
  | k :: k2 :: ks, hk => by
    obtain ⟨h1, h2, h3⟩ := h.ins (hk k (by simp))
    have ih := pcs_sh h ks (fun k' hk' => hk k' (by simp [hk']))
    simp only [List.map_cons, pcs, h2, h.kind h3, ih]
theorem getD_sh (ks : List Int) (p : Nat) (i : Nat) (hi : i < ks.length) : (ks.map fun k => k + (p : Int)).getD i 0 = ks.getD i 0 + (p : Int) := by
  simp [List.getD_eq_getElem?_getD, hi]
theorem cof_sh {t L : List Nd} {p : Nat} (h : Emb t L p) (ks : List Int) (hk : ∀ k ∈ ks, ins t k = true) (h3 : 3 ≤ ks.length) : cof L (ks.map fun k => k + (p : Int)) = cof t ks := by
  have g : ∀ i, i < ks.length → ins t (ks.getD i 0) = true := fun i hi => hk _ (by rw [List.getD_eq_getElem?_getD, List.getElem?_eq_getElem hi]; exact List.getElem_mem hi)
  obtain ⟨a1, a2, a3⟩ := h.ins (g 1 (by omega))
  obtain ⟨b1, b2, b3⟩ := h.ins (g 2 (by omega))
  simp only [cof, getD_sh ks p 1 (by omega), getD_sh ks p 2 (by omega), a2, b2, h.kind a3, h.kind b3]
theorem upQ_sh {t L : List Nd} {p : Nat} (h : Emb t L p) {ks : List Int} {pf : Nat → Option Nat} {pp : Nat → Plc} (hp : ∀ i, PSh (pp i)) (hk : ∀ k ∈ ks, ins t k = true) : ∀ i, i ≤ ks.length → upQ t ks pf pp i = true → upQ L (ks.map fun k => k + (p : Int)) pf pp i = true
  | 0, _, _ => rfl
  | i + 1, hi, hu => by
    simp only [upQ, Bool.and_eq_true] at hu ⊢
    obtain ⟨u1, u2, u3, u4⟩ := hu
    obtain ⟨a1, a2, a3⟩ := h.ins u3
    rw [getD_sh ks p i (by omega), a1, a2, hp i t L p h _ a3]
    exact ⟨upQ_sh h hp hk i (by omega) u1, u2, rfl, u4⟩
theorem fit_sh {t L : List Nd} {p : Nat} (h : Emb t L p) {n : Nat} (hn : n < t.length) (hf : fitP t n = true) : fitP L (p + n) = true := by
  have hi := h.knds hn
  simp only [fitP, Bool.and_eq_true] at hf ⊢
  rw [h.kind hn, h.text hn, h.num hn, h.kids hn]
  obtain ⟨⟨⟨f1, f2⟩, f3⟩, f4⟩ := hf
  refine ⟨⟨⟨f1, f2⟩, f3⟩, ?_⟩
  obtain ⟨r, hr⟩ : ∃ r, (tabT (nd t n).kind).getD rowN = r := ⟨_, rfl⟩
  have hrf := tabT_fine (nd t n).kind
  rw [hr] at f4 hrf ⊢
  simp only [kidP, Bool.and_eq_true] at f4 ⊢
  obtain ⟨⟨g1, g2⟩, g3⟩ := f4
  rw [List.length_map]
  refine ⟨⟨upQ_sh h (fun i => plOf_sh _) hi _ (Nat.le_refl _) g1, g2⟩, ?_⟩
  cases ha : r.a with
  | none => rfl
  | some f =>
    rw [ha] at g3
    simp only [Option.isNone_some, Bool.false_or, Option.getD_some] at g3 ⊢
    obtain ⟨hm, hq⟩ := (rowFine_parts hrf).2.2.2 f ha
    simp only [alF, List.mem_cons, List.not_mem_nil, or_false] at hm
    rcases hm with rfl | rfl | rfl
    · simp only [alOf, two, List.length_map] at g3 ⊢; exact g3
    · simp only [alOf] at g3 ⊢; rw [pcs_sh h _ hi]; exact g3
    · simp only [alOf] at g3 ⊢
      rw [cof_sh h _ hi ?_]
      · exact g3
      · rcases hq with hq | ⟨q1, _, q2, q3, q4⟩
        · exact absurd hq (by decide)
        · have hno : (pfOf r (nd t n).kids.length).isNone = true := by simpa [q1] using g2
          rcases hc : (nd t n).kids.length with _ | _ | _ | m
          · rw [hc] at hno; simp [pfOf, q1] at hno; rw [hno] at q2; cases q2
          · rw [hc] at hno; simp [pfOf, q1] at hno; rw [hno] at q3; cases q3
          · rw [hc] at hno; simp [pfOf, q1] at hno; rw [hno] at q4; cases q4
          · omega
theorem look_chain {l : List Nd} {n : Nat} : ∀ (ks : List Int) (next e : Nat), Chain l ks next e → lookK (lookP l l.length) n ks next = (-1, e)
  | [], next, e, h => by rw [show e = next from h]; rfl
  | k :: ks, next, e, h => by
    simp only [lookK]
    rw [if_pos h.1, if_pos h.2.1.2]
    exact look_chain ks _ _ h.2.2
theorem chain_sh {t L : List Nd} {p : Nat} : ∀ (ks : List Int) (next e : Nat), (∀ q, next ≤ q → Fine t q → Fine L (p + q) ∧ en L (p + q) = p + en t q) → Chain t ks next e → Chain L (ks.map fun k => k + (p : Int)) (p + next) (p + e)
  | [], next, e, _, h => by rw [show e = next from h]; rfl
  | k :: ks, next, e, hq, h => by
    obtain ⟨h1, h2, h3⟩ := h
    obtain ⟨a, b⟩ := hq next (Nat.le_refl _) h2
    have hle := h2.le
    refine ⟨by show k + (p : Int) = _; omega, a, ?_⟩
    rw [b]
    exact chain_sh ks _ _ (fun q hq' => hq q (by omega)) h3
theorem fine_of_chain {l : List Nd} {n e : Nat} (hn : n < l.length) (hf : fitP l n = true) (hc : Chain l (nd l n).kids (n + 1) e) : Fine l n ∧ en l n = e := by
  have h1 := look_step hn hf
  rw [look_chain _ _ _ hc] at h1
  exact ⟨⟨hn, by rw [h1]; exact (by decide : (-1 : Int) < 0)⟩, by rw [en, h1]⟩
theorem fine_sh {t L : List Nd} {p : Nat} (h : Emb t L p) : ∀ (d n : Nat), t.length - n ≤ d → Fine t n → Fine L (p + n) ∧ en L (p + n) = p + en t n
  | 0, n, hd, hf => by have := hf.1; omega
  | d + 1, n, hd, hf => by
    refine fine_of_chain (by have := hf.1; have := h.le; omega) (fit_sh h hf.1 hf.fit) ?_
    rw [h.kids hf.1]
    exact chain_sh _ _ _ (fun q hq hfq => fine_sh h d q (by omega) hfq) hf.chain
theorem chain_snoc {l : List Nd} : ∀ (ks : List Int) (next e : Nat), Chain l ks next e → Fine l e → Chain l (ks ++ [(e : Int)]) next (en l e)
  | [], next, e, h, hf => by
    obtain rfl : e = next := h
    exact ⟨rfl, hf, rfl⟩
  | k :: ks, next, e, h, hf => ⟨h.1, h.2.1, chain_snoc ks _ _ h.2.2 hf⟩
/-- A kid of a fine node stands further on. -/
theorem fine_up {l : List Nd} {n : Nat} (h : Fine l n) : ∀ k ∈ (nd l n).kids, ins l k = true ∧ (n : Int) < k := by
  have hc := h.chain
  have : ∀ (ks : List Int) (next e : Nat), Chain l ks next e → ∀ k ∈ ks, (next : Int) ≤ k := by
    intro ks
    induction ks with
    | nil => intro _ _ _ k hk; cases hk
    | cons k0 ks ih =>
      intro next e hc k hk
      rcases List.mem_cons.1 hk with rfl | hk
      · rw [hc.1]; exact Int.le_refl _
      · have := ih _ _ hc.2.2 k hk
        have := hc.2.1.le
        omega
  intro k hk
  have := this _ _ _ hc k hk
  exact ⟨h.ins k hk, by omega⟩
end Go.Proofs.YtoffpbaddehncaaGreatDoor

/- What Make makes of a List over trees that Check takes: Check takes it, and it is one deeper than the deepest. -/
namespace Go.Proofs.YtoffpbaddehncaaGreatDoor
set_option linter.unusedSimpArgs false
set_option linter.unusedVariables false
open Go.RowKit

theorem mk_pre (ts : List (List Nd)) (i : Nat) : ∀ n, i ≤ n → ∃ r, (mk ts n).1 = (mk ts i).1 ++ r
  | 0, h => by obtain rfl : i = 0 := by omega
               exact ⟨[], by simp⟩
  | n + 1, h => by
    by_cases e : i = n + 1
    · subst e; exact ⟨[], by simp⟩
    · obtain ⟨r, hr⟩ := mk_pre ts i n (by omega)
      simp only [mk]
      split
      · exact ⟨r, hr⟩
      · exact ⟨r ++ (ts.getD n []).map (shN ((mk ts n).1.length + 1 : Nat)), by rw [← List.append_assoc, ← hr]⟩
/-- The trees are all taken by Check. -/
def GoodTs (ts : List (List Nd)) : Prop := ∀ t ∈ ts, (chkP t).2 = 0
theorem good_at {ts : List (List Nd)} (h : GoodTs ts) {i : Nat} (hi : i < ts.length) : (chkP (ts.getD i [])).2 = 0 := h _ (by rw [List.getD_eq_getElem?_getD, List.getElem?_eq_getElem hi]; exact List.getElem_mem hi)
theorem make_len (root : Nd) (ts : List (List Nd)) : (makeT root ts).length = szs ts ts.length + 1 := by simp [makeT, mk_len]
theorem emb_make (root : Nd) {ts : List (List Nd)} (h : GoodTs ts) (hb : szs ts ts.length + 1 ≤ 2199023255552) {i : Nat} (hi : i < ts.length) : Emb (ts.getD i []) (makeT root ts) (szs ts i + 1) := by
  have hg := good_at h hi
  obtain ⟨hp, _, _⟩ := chk_fine hg
  have hm := szs_mono ts (show i + 1 ≤ ts.length from hi)
  simp only [szs] at hm
  refine ⟨by rw [make_len]; omega, by rw [make_len]; exact hb, fun j hj => ?_, fun j hj => fine_up (chk_all hg hj)⟩
  obtain ⟨r, hr⟩ := mk_pre ts (i + 1) ts.length hi
  have e1 : (mk ts (i + 1)).1 = (mk ts i).1 ++ (ts.getD i []).map (shN ((szs ts i + 1 : Nat) : Int)) := by
    simp only [mk]
    rw [if_neg (by omega), mk_len]
  have hl := mk_len ts i
  obtain ⟨t, ht⟩ : ∃ t, ts.getD i [] = t := ⟨_, rfl⟩
  rw [ht] at e1 hj ⊢
  have e2 : (makeT root ts)[szs ts i + 1 + j]? = some (shN ((szs ts i + 1 : Nat) : Int) (nd t j)) := by
    rw [show szs ts i + 1 + j = (szs ts i + j) + 1 from by omega]
    simp only [makeT, List.getElem?_cons_succ]
    rw [hr, e1, List.append_assoc, List.getElem?_append_right (by omega), hl, show szs ts i + j - szs ts i = j from by omega, List.getElem?_append_left (by simpa using hj), List.getElem?_map, List.getElem?_eq_getElem hj]
    simp [nd, List.getD_eq_getElem?_getD, List.getElem?_eq_getElem hj]
  show (makeT root ts).getD _ nd0 = _
  rw [List.getD_eq_getElem?_getD, e2]
  rfl
theorem chain_make (root : Nd) {ts : List (List Nd)} (h : GoodTs ts) (hb : szs ts ts.length + 1 ≤ 2199023255552) : ∀ i, i ≤ ts.length → Chain (makeT root ts) (mk ts i).2 1 (szs ts i + 1)
  | 0, _ => rfl
  | i + 1, hi => by
    have hg := good_at h (i := i) hi
    obtain ⟨hp, hf, he⟩ := chk_fine hg
    obtain ⟨f1, f2⟩ := fine_sh (emb_make root h hb hi) _ 0 (Nat.le_refl _) hf
    rw [Nat.add_zero] at f1 f2
    have hc := chain_snoc _ _ _ (chain_make root h hb i (by omega)) f1
    have e1 : (mk ts (i + 1)).2 = (mk ts i).2 ++ [((szs ts i + 1 : Nat) : Int)] := by
      simp only [mk]
      rw [if_neg (by omega), mk_len]
    rw [e1]
    rw [f2, he] at hc
    simp only [szs]
    rw [show szs ts i + (ts.getD i []).length + 1 = szs ts i + 1 + (ts.getD i []).length from by omega]
    exact hc
/-- The root of a List. -/
def rootL : Nd := ⟨2, ⟨#[]⟩, 0, [], 0⟩
theorem upQ_all {l : List Nd} {ks : List Int} {f : Nat} (hk : ∀ k ∈ ks, ins l k = true) (hp : ∀ n, plOf f l n = true) : ∀ i, i ≤ ks.length → upQ l ks (fun _ => some f) (fun _ => plOf f) i = true
  | 0, _ => rfl
  | i + 1, hi => by
    simp only [upQ, Bool.and_eq_true]
    exact ⟨upQ_all hk hp i (by omega), rfl, hk _ (by rw [List.getD_eq_getElem?_getD, List.getElem?_eq_getElem (by omega)]; exact List.getElem_mem _), hp _⟩
theorem chain_ins {l : List Nd} : ∀ (ks : List Int) (next e : Nat), Chain l ks next e → ∀ k ∈ ks, ins l k = true
  | [], _, _, _, k, hk => by cases hk
  | k0 :: ks, next, e, h, k, hk => by
    rcases List.mem_cons.1 hk with rfl | hk
    · have := h.2.1.1
      rw [h.1]
      exact ins_iff'.2 ⟨by omega, by omega⟩
    · exact chain_ins ks _ _ h.2.2 k hk
theorem fit_list {ts : List (List Nd)} (hc : ∀ k ∈ (mk ts ts.length).2, ins (makeT rootL ts) k = true) : fitP (makeT rootL ts) 0 = true := by
  have e0 : nd (makeT rootL ts) 0 = ⟨2, ⟨#[]⟩, 0, (mk ts ts.length).2, 0⟩ := rfl
  have er : (tabT 2).getD rowN = ⟨none, none, none, none, none, none, some 55, none⟩ := by rfl
  simp only [fitP, e0, Bool.and_eq_true]
  rw [er]
  refine ⟨⟨⟨by decide, by simp only [txP]; rw [ba_toList]; decide⟩, by decide⟩, ?_⟩
  simp only [kidP, Bool.and_eq_true]
  exact ⟨⟨upQ_all hc (fun _ => rfl) _ (Nat.le_refl _), rfl⟩, rfl⟩
theorem chk_make {ts : List (List Nd)} (h : GoodTs ts) (hb : szs ts ts.length + 1 ≤ 2199023255552) : (chkP (makeT rootL ts)).2 = 0 := by
  have hc := chain_make rootL h hb ts.length (Nat.le_refl _)
  have hl := make_len rootL ts
  obtain ⟨f1, f2⟩ := fine_of_chain (l := makeT rootL ts) (n := 0) (by omega) (fit_list (chain_ins _ _ _ hc)) hc
  have h0 : ¬ (makeT rootL ts).length = 0 := by omega
  have h1 := f1.2
  have h2 : (lookP (makeT rootL ts) (makeT rootL ts).length 0).2 = szs ts ts.length + 1 := f2
  simp only [chkP, if_neg h0, outP, if_pos h1, h2]
  rw [if_neg (by omega)]

theorem popZ_append : ∀ (s B : List Int), popZ (s ++ B) = if popZ s = [] then popZ B else popZ s ++ B
  | [], B => by simp [popZ]
  | c :: s, B => by
    simp only [List.cons_append, popZ]
    by_cases hc : c = 0
    · simp only [hc, if_true]; exact popZ_append s B
    · simp [hc]
theorem decT_append {s : List Int} (B : List Int) (h : s ≠ []) : decT (s ++ B) = decT s ++ B := by
  cases s with
  | nil => exact absurd rfl h
  | cons c s => rfl
/-- The stack from a node on, with nothing beneath it; so many nodes behind the node's own. -/
def rs (l : List Nd) (n : Nat) : Nat → List Int
  | 0 => [((nd l n).kids.length : Int)]
  | j + 1 => ((nd l (n + j + 1)).kids.length : Int) :: decT (popZ (rs l n j))
/-- Any stack: S j ahead of node n + j. -/
def Stk (l : List Nd) (n : Nat) (S : Nat → List Int) : Prop := ∀ j, S (j + 1) = ((nd l (n + j)).kids.length : Int) :: decT (popZ (S j))
/-- What is beneath is kept as long as the node's own is not through. -/
theorem stk_base {l : List Nd} {n m : Nat} {S : Nat → List Int} {B : List Int} (hS : Stk l n S) (h1 : decT (popZ (S 0)) = B) (hne : ∀ j, j + 1 < m → popZ (rs l n j) ≠ []) : ∀ j, j < m → S (j + 1) = rs l n j ++ B
  | 0, _ => by rw [hS 0, h1]; rfl
  | j + 1, hj => by
    have ih := stk_base hS h1 hne j (by omega)
    have h2 := hne j (by omega)
    rw [hS (j + 1), ih, popZ_append, if_neg h2, decT_append B h2]
    rfl
theorem stk_rs (l : List Nd) (n q : Nat) : Stk l (n + q + 1) (fun j => rs l n (q + j)) := fun j => by
  show rs l n (q + j + 1) = _
  simp only [rs]
  rw [show n + q + 1 + j = n + (q + j) + 1 from by omega]
/-- The stack of a fine node is through just at its end. -/
theorem rs_fine {l : List Nd} : ∀ (d n : Nat), l.length - n ≤ d → Fine l n → (∀ j, n + j + 1 < en l n → popZ (rs l n j) ≠ []) ∧ (∀ j, n + j + 1 = en l n → popZ (rs l n j) = [])
  | 0, n, hd, hf => by have := hf.1; omega
  | d + 1, n, hd, hf => by
    have key : ∀ (ks : List Int) (next e : Nat), n < next → Chain l ks next e → popZ (rs l n (next - n - 1)) = popZ [(ks.length : Int)] → (∀ j, next ≤ n + j + 1 → n + j + 1 < e → popZ (rs l n j) ≠ []) ∧ (∀ j, n + j + 1 = e → popZ (rs l n j) = []) := by
      intro ks
      induction ks with
      | nil =>
        intro next e hn hc h0
        obtain rfl : e = next := hc
        refine ⟨fun j h1 h2 => by omega, fun j hj => ?_⟩
        rw [show j = e - n - 1 from by omega, h0]
        simp [popZ]
      | cons k ks ih =>
        intro next e hn hc h0
        obtain ⟨hk, hfn, hc'⟩ := hc
        have hle := hfn.le
        obtain ⟨r1, r2⟩ := rs_fine d next (by omega) hfn
        obtain ⟨q, hq⟩ : ∃ q, next = n + q + 1 := ⟨next - n - 1, by omega⟩
        have e0 : next - n - 1 = q := by omega
        rw [e0] at h0
        have hpz : popZ [((k :: ks).length : Int)] = [((k :: ks).length : Int)] := by
          have : ¬ (((k :: ks).length : Nat) : Int) = 0 := by simp only [List.length_cons]; omega
          simp only [popZ, this, if_false]
        rw [hpz] at h0
        have hS := stk_rs l n q
        rw [← hq] at hS
        have hb := stk_base (m := en l next - next) hS (B := [(ks.length : Int)]) (by show decT (popZ (rs l n (q + 0))) = _; rw [Nat.add_zero, h0]; simp [decT]) (fun j hj => r1 j (by omega))
        have hb' : ∀ j, j < en l next - next → rs l n (q + j + 1) = rs l next j ++ [(ks.length : Int)] := fun j hj => hb j hj
        have hend : popZ (rs l n (en l next - n - 1)) = popZ [(ks.length : Int)] := by
          have h1 := hb' (en l next - next - 1) (by omega)
          rw [show en l next - n - 1 = q + (en l next - next - 1) + 1 from by omega, h1, popZ_append, if_pos (r2 _ (by omega))]
        obtain ⟨i1, i2⟩ := ih (en l next) e (by omega) hc' hend
        refine ⟨fun j h1 h2 => ?_, i2⟩
        by_cases hj : n + j + 1 < en l next
        · by_cases hjq : n + j + 1 = next
          · rw [show j = q from by omega, h0]; simp
          · obtain ⟨i, hi⟩ : ∃ i, j = q + i + 1 := ⟨j - q - 1, by omega⟩
            rw [hi, hb' i (by omega), popZ_append, if_neg (r1 i (by omega))]
            simp
        · exact i1 j (by omega) h2
    have h0 : popZ (rs l n (n + 1 - n - 1)) = popZ [((nd l n).kids.length : Int)] := by rw [show n + 1 - n - 1 = 0 from by omega]; rfl
    obtain ⟨k1, k2⟩ := key _ (n + 1) (en l n) (by omega) hf.chain h0
    exact ⟨fun j hj => k1 j (by omega) hj, k2⟩
theorem stAt_rs (t : List Nd) : ∀ j, stAt t (j + 1) = rs t 0 j
  | 0 => by simp [stAt, rs, popZ, decT]
  | j + 1 => by
    rw [stAt, stAt_rs t j, rs]
    simp
theorem stk_st (l : List Nd) (p : Nat) : Stk l p (fun j => stAt l (p + j)) := fun j => rfl
theorem rs_sh {t L : List Nd} {p : Nat} (h : Emb t L p) : ∀ j, j < t.length → rs L p j = rs t 0 j
  | 0, hj => by
    have := h.kids hj
    rw [Nat.add_zero] at this
    simp [rs, this]
  | j + 1, hj => by
    have := h.kids hj
    simp only [rs, rs_sh h j (by omega)]
    rw [show p + j + 1 = p + (j + 1) from by omega, this]
    simp
/-- The deepest of the first trees (-1: there is none). -/
def deepP (ts : List (List Nd)) : Nat → Int
  | 0 => -1
  | i + 1 => max (deepP ts i) (mdp (ts.getD i []) (ts.getD i []).length)
theorem mkr_all {ts : List (List Nd)} (h : GoodTs ts) : ∀ i, i ≤ ts.length → (mk ts i).2.length = i
  | 0, _ => rfl
  | i + 1, hi => by
    have hp := (chk_fine (good_at h (i := i) hi)).1
    simp only [mk]
    rw [if_neg (by omega)]
    simp [mkr_all h i (by omega)]
theorem deep_make {ts : List (List Nd)} (h : GoodTs ts) (hb : szs ts ts.length + 1 ≤ 2199023255552) : ∀ i, i ≤ ts.length → popZ (stAt (makeT rootL ts) (szs ts i + 1)) = popZ [((ts.length - i : Nat) : Int)] ∧ mdp (makeT rootL ts) (szs ts i + 1) = deepP ts i + 1
  | 0, _ => by
    have e0 : (nd (makeT rootL ts) 0).kids.length = ts.length := mkr_all h _ (Nat.le_refl _)
    constructor
    · simp only [szs, stAt, e0, popZ, decT, Nat.zero_add, Nat.sub_zero]
    · simp [szs, mdp, deepP, depAt, stAt, popZ]
  | i + 1, hi => by
    obtain ⟨h0, hm0⟩ := deep_make h hb i (by omega)
    have hE := emb_make rootL h hb (i := i) hi
    obtain ⟨t, ht⟩ : ∃ t, ts.getD i [] = t := ⟨_, rfl⟩
    have hg := good_at h (i := i) hi
    rw [ht] at hE hg
    obtain ⟨hp, hf, he⟩ := chk_fine hg
    obtain ⟨p, hpp⟩ : ∃ p, szs ts i + 1 = p := ⟨_, rfl⟩
    rw [hpp] at hE h0 hm0
    have hpos : ¬ ((ts.length - i : Nat) : Int) = 0 := by omega
    have hz : popZ [((ts.length - i : Nat) : Int)] = [((ts.length - i : Nat) : Int)] := by simp only [popZ, hpos, if_false]
    rw [hz] at h0
    obtain ⟨r1, r2⟩ := rs_fine _ 0 (Nat.le_refl _) hf
    simp only [Nat.zero_add] at r1 r2
    have hb1 := stk_base (m := t.length) (stk_st (makeT rootL ts) p) (B := [((ts.length - (i + 1) : Nat) : Int)]) (by show decT (popZ (stAt (makeT rootL ts) (p + 0))) = _; rw [Nat.add_zero, h0]; simp only [decT]; congr 1; omega) (fun j hj => by rw [rs_sh hE j (by omega)]; exact r1 j (by omega))
    have hst : ∀ j, j < t.length → stAt (makeT rootL ts) (p + j + 1) = rs t 0 j ++ [((ts.length - (i + 1) : Nat) : Int)] := fun j hj => by
      have := hb1 j hj
      rw [rs_sh hE j hj] at this
      exact this
    have hdep : ∀ j, j < t.length → depAt (makeT rootL ts) (p + j) = depAt t j + 1 := fun j hj => by
      cases j with
      | zero => simp [depAt, h0, stAt, popZ]
      | succ j =>
        have hne := r1 j (by omega)
        rw [depAt, show p + (j + 1) = p + j + 1 from by omega, hst j (by omega), popZ_append, if_neg hne, depAt, stAt_rs]
        simp
    have hmd : ∀ j, j < t.length → mdp (makeT rootL ts) (p + j + 1) = max (deepP ts i + 1) (mdp t (j + 1) + 1) := fun j => by
      induction j with
      | zero =>
        intro hj
        have hd0 := hdep 0 hj
        rw [Nat.add_zero] at hd0
        show max (mdp (makeT rootL ts) p) (depAt (makeT rootL ts) p : Int) = max (deepP ts i + 1) (max (mdp t 0) (depAt t 0 : Int) + 1)
        rw [hm0, hd0]
        have : depAt t 0 = 0 := rfl
        rw [this]
        simp only [mdp]
        omega
      | succ j ih =>
        intro hj
        have h1 := ih (by omega)
        have h2 := hdep (j + 1) hj
        show max (mdp (makeT rootL ts) (p + j + 1)) (depAt (makeT rootL ts) (p + (j + 1)) : Int) = max (deepP ts i + 1) (max (mdp t (j + 1)) (depAt t (j + 1) : Int) + 1)
        rw [h1, h2]
        omega
    have e1 : szs ts (i + 1) + 1 = p + (t.length - 1) + 1 := by simp only [szs, ht]; omega
    constructor
    · rw [e1, hst _ (by omega), popZ_append, if_pos (r2 _ (by omega))]
    · rw [e1, hmd _ (by omega), deepP, ht, show t.length - 1 + 1 = t.length from by omega]
      omega
end Go.Proofs.YtoffpbaddehncaaGreatDoor
