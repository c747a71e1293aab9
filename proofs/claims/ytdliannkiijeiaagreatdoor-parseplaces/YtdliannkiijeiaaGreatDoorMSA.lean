/- Towards the law: SA SB. -/
import Derived.Test.YtdliannkiijeiaaGreatDoorMH
set_option linter.unusedSimpArgs false
set_option linter.unusedVariables false
set_option maxRecDepth 100000
set_option maxHeartbeats 8000000
namespace Go.Proofs.YtdliannkiijeiaaGreatDoor
section
def slen (t : Tok) : Nat := if t.1 = 9 then t.2.1.length else 0
def mea (c : Cx) (s : PS) : Nat := 5 * (c.toks.length - s.n) + slen s.tk
structure CxOk (c : Cx) (B : Nat) : Prop where
 sg : ∀ t ∈ c.toks, slen t ≤ 4
 en : ∀ t, c.toks[c.toks.length - 1]? = some t → t.1 = 10
 nx : ∀ i t u, c.toks[i]? = some t → c.toks[i + 1]? = some u → t.2.2.1 + slen t ≤ u.2.2.1
 bd : ∀ t ∈ c.toks, t.2.2.1 + slen t ≤ B
def Bh (l : List PN) (p k : Nat) : Prop := ∃ y, l[k]? = some y ∧ (y.kind = 1 ∨ y.kind = 2 ∨ p ≤ y.loc)
def NOk (B : Nat) (l : List PN) : Prop := ∀ (i : Nat) (x : PN), l[i]? = some x → x.kids.length ≤ 1000000 ∧ (∀ k ∈ x.kids, k < i) ∧ (x.kind = 1 ∨ x.kind = 2 ∨ (x.loc ≤ B ∧ ∀ k ∈ x.kids, Bh l x.loc k))
structure St (c : Cx) (B : Nat) (s : PS) : Prop where
 lt : s.n < c.toks.length
 tk : ∃ t, c.toks[s.n]? = some t ∧ s.tk.1 = t.1 ∧ slen s.tk ≤ slen t ∧ t.2.2.1 ≤ s.tk.2.2.1 ∧ s.tk.2.2.1 + slen s.tk ≤ t.2.2.1 + slen t
 nd : NOk B s.nodes
def szs (l : List PN) : List Nat := l.foldl (fun a x => a ++ [1 + (x.kids.map fun k => a.getD k 0).sum]) []
def sz (n : List PN) (l : List Nat) : Nat := (l.map fun k => (szs n).getD k 0).sum
theorem szs_snoc (l : List PN) (x : PN) : szs (l ++ [x]) = szs l ++ [1 + sz l x.kids] := by
 unfold szs sz;rw [List.foldl_append];rfl
theorem szs_go : ∀ (l : List PN) (a : List Nat), (l.foldl (fun a x => a ++ [1 + (x.kids.map fun k => a.getD k 0).sum]) a).length = a.length + l.length
 | [], a => rfl
 | x :: l, a => by rw [List.foldl_cons, szs_go l, List.length_append, List.length_cons, List.length_cons, List.length_nil]; omega
theorem szs_len (l : List PN) : (szs l).length = l.length := by unfold szs; rw [szs_go]; simp
theorem sz_snoc {l : List PN} {x : PN} {m : List Nat} (h : ∀ k ∈ m, k < l.length) : sz (l ++ [x]) m = sz l m := by
 unfold sz;congr 1
 apply List.map_congr_left
 intro k hk;rw [szs_snoc, List.getD_eq_getElem?_getD, List.getD_eq_getElem?_getD, List.getElem?_append_left (by rw [szs_len]; exact h k hk)]
theorem sz_new {l : List PN} {x : PN} : sz (l ++ [x]) [l.length] = 1 + sz l x.kids := by
 unfold sz;rw [szs_snoc];simp [List.getD_eq_getElem?_getD, ← szs_len l, sz]
def Env (n : List PN) (L : List (Nat × List Nat × Nat)) : Prop := ∀ q ∈ L, (∀ k ∈ q.2.1, Bh n q.1 k) ∧ sz n q.2.1 ≤ q.2.2
def LHas (L : List (Nat × List Nat × Nat)) (a : Nat) (l : List Nat) (z : Nat) : Prop := ∀ n, Env n L → (∀ k ∈ l, Bh n a k) ∧ sz n l ≤ z
theorem Bh.lt {l : List PN} {p k : Nat} (h : Bh l p k) : k < l.length := (List.getElem?_eq_some_iff.1 h.choose_spec.1).1
theorem Bh.low {l : List PN} {p q k : Nat} (h : Bh l p k) (hq : q ≤ p) : Bh l q k := by
 obtain ⟨y, h1, h2⟩ := h;exact ⟨y, h1, by omega⟩
theorem Bh.app {l m : List PN} {p k : Nat} (h : Bh l p k) : Bh (l ++ m) p k := by
 have hl := h.lt;obtain ⟨y, h1, h2⟩ := h;exact ⟨y, by rw [List.getElem?_append_left hl]; exact h1, h2⟩
theorem Env.app {l : List PN} {x : PN} {L : List (Nat × List Nat × Nat)} (h : Env l L) : Env (l ++ [x]) L := fun q hq => ⟨fun k hk => ((h q hq).1 k hk).app, by rw [sz_snoc fun k hk => ((h q hq).1 k hk).lt]; exact (h q hq).2⟩
section
variable {L : List (Nat × List Nat × Nat)} {a b q x y z z1 z2 : Nat} {l m : List Nat} {e : Nat × List Nat × Nat}
theorem lh_nil : LHas L a [] 0 := fun n _ => ⟨fun k hk => (by cases hk), NL⟩
theorem lh_here (h : a ≤ q) : LHas ((q, l, z) :: L) a l z := fun n hE => ⟨fun k hk => ((hE (q, l, z) (by simp)).1 k hk).low h, (hE (q, l, z) (by simp)).2⟩
theorem lh_there (h : LHas L a l z) : LHas (e :: L) a l z := fun n hE => h n (fun q hq => hE q (by simp [hq]))
theorem lh_app (h : LHas L a l z1) (h2 : LHas L a m z2) : LHas L a (l ++ m) (z1 + z2) := fun n hE => ⟨fun k hk => by
 rcases List.mem_append.1 hk with e | e
 · exact (h n hE).1 k e
 · exact (h2 n hE).1 k e, by
 have h3 := (h n hE).2;have h4 := (h2 n hE).2;unfold sz at *;rw [List.map_append, List.sum_append]
 omega⟩
theorem lh_two (h : LHas L a [x] z1) (h2 : LHas L a (y :: m) z2) : LHas L a (x :: y :: m) (z1 + z2) := lh_app h h2
theorem sz_hd {n : List PN} (hl : l ≠ []) : sz n [hd0 l] ≤ sz n l := by
 cases l with
 | nil => exact absurd rfl hl
 | cons x m => unfold sz hd0; simp
theorem lh_hd (hl : l ≠ []) (h : LHas L a l z) : LHas L a [hd0 l] z := fun n hE => ⟨fun k hk => by
 cases l with
 | nil => exact absurd rfl hl
 | cons x m => exact (h n hE).1 k (by simp at hk; simp [hk, hd0]), Nat.le_trans (sz_hd hl) (h n hE).2⟩
theorem lh_low (h : LHas L b l z) (hab : a ≤ b) : LHas L a l z := fun n hE => ⟨fun k hk => ((h n hE).1 k hk).low hab, (h n hE).2⟩
theorem app_ne : l ++ [x] ≠ [] := by simp
end
theorem NOk.put {B : Nat} {l : List PN} (h : NOk B l) {x : PN} (h1 : x.kids.length ≤ 1000000) (h2 : ∀ k ∈ x.kids, k < l.length) (h3 : x.kind = 1 ∨ x.kind = 2 ∨ (x.loc ≤ B ∧ ∀ k ∈ x.kids, Bh l x.loc k)) : NOk B (l ++ [x]) := by
 intro i y hy;by_cases hi : i < l.length
 · rw [List.getElem?_append_left hi] at hy
   obtain ⟨e1, e2, e3⟩ := h i y hy;refine ⟨e1, e2, ?_⟩;rcases e3 with e | e | ⟨e, e'⟩
   · exact .inl e
   · exact .inr (.inl e)
   · exact .inr (.inr ⟨e, fun k hk => (e' k hk).app⟩)
 · rw [List.getElem?_append_right (by omega)] at hy
   have : i - l.length = 0 := by
    have := (List.getElem?_eq_some_iff.1 hy).1;simp at this;omega
   rw [this] at hy;cases hy;refine ⟨h1, fun k hk => Nat.lt_of_lt_of_le (h2 k hk) (by omega), ?_⟩;rcases h3 with e | e | ⟨e, e'⟩
   · exact .inl e
   · exact .inr (.inl e)
   · exact .inr (.inr ⟨e, fun k hk => (e' k hk).app⟩)
def Wp {α : Type} (p : Pr α) (s : PS) (Q : α → PS → Prop) : Prop := match p s with
 | .ok a s' => Q a s'
 | .no _ => True
 | .out => False
section
variable {β : Type} {Q : β → PS → Prop} {c : Cx} {B : Nat} {s : PS} {L : List (Nat × List Nat × Nat)}
theorem wp_mono {α : Type} {p : Pr α} {Q R : α → PS → Prop} (h : Wp p s Q) (hq : ∀ a s', Q a s' → R a s') : Wp p s R := by
 unfold Wp at *;split <;> simp_all
theorem wp_bd {α : Type} {p : Pr α} {k : α → Pr β} (h : Wp p s fun a s' => Wp (k a) s' Q) : Wp (bd p k) s Q := by
 unfold Wp at h ⊢;unfold bd;revert h
 generalize p s = r;intro h;cases r with
 | ok a s' => exact h
 | no s' => trivial
 | out => exact h
theorem wp_rt {a : β} (h : Q a s) : Wp (rt a) s Q := h
theorem wp_refuse : Wp (refuseP : Pr β) s Q := trivial
theorem wp_bat {k : Nat → Pr β} (h : Wp (k s.tk.2.2.1) s Q) : Wp (bd atP k) s Q := h
theorem wp_bkind {k : Int → Pr β} (h : Wp (k s.tk.1) s Q) : Wp (bd kindP k) s Q := h
theorem wp_bmark {k : List Int → Pr β} (h : Wp (k (mark s.tk)) s Q) : Wp (bd markP k) s Q := h
theorem wp_btest {f : PS → Bool} {k : Bool → Pr β} (h : Wp (k (f s)) s Q) : Wp (bd (testP f) k) s Q := h
theorem wp_t {a b : Pr β} (h : Wp a s Q) : Wp (if true = true then a else b) s Q := h
theorem wp_f {a b : Pr β} (h : Wp b s Q) : Wp (if false = true then a else b) s Q := h
theorem wp_tf {a b : Pr β} (h : Wp b s Q) : Wp (if true = false then a else b) s Q := h
theorem wp_ff {a b : Pr β} (h : Wp a s Q) : Wp (if false = false then a else b) s Q := h
theorem wp_ite {d : Prop} [Decidable d] {a b : Pr β} (h : d → Wp a s Q) (h2 : ¬ d → Wp b s Q) : Wp (if d then a else b) s Q := by
 split
 · exact h ‹_›
 · exact h2 ‹_›
theorem wp_bcap {α : Type} {l : List α} {k : Unit → Pr β} (hl : l.length < 1000000) (h : Wp (k ()) s Q) : Wp (bd (capP l) k) s Q := by
 unfold Wp bd capP;rw [if_pos hl];exact h
def Nx (c : Cx) (B : Nat) (L : List (Nat × List Nat × Nat)) (s s1 : PS) : Prop := St c B s1 ∧ Env s1.nodes L ∧ s1.nodes.length = s.nodes.length ∧ mea c s1 + 1 ≤ mea c s ∧ s.tk.2.2.1 ≤ s1.tk.2.2.1 ∧ s1.tk.2.2.1 ≤ B
theorem St.bd (hC : CxOk c B) (hS : St c B s) : s.tk.2.2.1 ≤ B := by
 obtain ⟨t, h1, _, _, _, h5⟩ := hS.tk;have := hC.bd t (List.mem_of_getElem? h1);omega
theorem St.sl (hC : CxOk c B) (hS : St c B s) : slen s.tk ≤ 4 := by
 obtain ⟨t, h1, _, h3, _, h5⟩ := hS.tk;have := hC.sg t (List.mem_of_getElem? h1);omega
theorem next_nx (hC : CxOk c B) (hS : St c B s) (h10 : s.tk.1 ≠ 10) (hE : Env s.nodes L) : ∃ s1, nextP c s = .ok s.tk s1 ∧ Nx c B L s s1 := by
 obtain ⟨t, h1, h2, h3, h4, h5⟩ := hS.tk
 have hlt : s.n + 1 < c.toks.length := by
  by_cases h : s.n + 1 < c.toks.length
  · exact h
  · have : s.n = c.toks.length - 1 := by have := hS.lt; omega
    rw [this] at h1;exact absurd (h2.trans (hC.en t h1)) h10
 have e : behindP c 1 s = c.toks[s.n + 1] := by
  unfold behindP;rw [Nat.min_eq_left (by omega), List.getD_eq_getElem?_getD, List.getElem?_eq_getElem hlt];rfl
 have hn := hC.nx s.n t _ h1 (List.getElem?_eq_getElem hlt);refine ⟨{ s with tk := behindP c 1 s, n := s.n + 1 }, by unfold nextP; rw [if_pos hlt], ⟨hlt, ⟨_, List.getElem?_eq_getElem hlt, ?_⟩, hS.nd⟩, hE, rfl, ?_, ?_, ?_⟩
 · show (behindP c 1 s).1 = _ ∧ slen (behindP c 1 s) ≤ _ ∧ _ ≤ (behindP c 1 s).2.2.1 ∧ (behindP c 1 s).2.2.1 + slen (behindP c 1 s) ≤ _
   rw [e];exact ⟨rfl, NL, NL, NL⟩
 · unfold mea
   show 5 * (c.toks.length - (s.n + 1)) + slen (behindP c 1 s) + 1 ≤ _
   have := hC.sg _ (List.getElem_mem hlt);rw [e];omega
 · show _ ≤ (behindP c 1 s).2.2.1
   rw [e];omega
 · show (behindP c 1 s).2.2.1 ≤ B
   rw [e];have := hC.bd _ (List.getElem_mem hlt);omega
theorem sa_mark {t : Tok} {x : List Int} (h : mark t = x) (hx : x ≠ []) : t.1 ≠ 10 := by
 intro e;unfold mark at h;rw [e] at h;simp at h;exact hx h
theorem ned_p {x : List Int} (h : isP x s = true) (hx : x ≠ []) : s.tk.1 ≠ 10 := sa_mark (by simpa [isP, isT] using h) hx
theorem ned_or {x y : List Int} {u v : Bool} (h : ((isP x s || isP y s) && u && v) = true) (hx : x ≠ []) (hy : y ≠ []) : s.tk.1 ≠ 10 := by
 simp only [Bool.and_eq_true, Bool.or_eq_true] at h;rcases h.1.1 with e | e
 · exact ned_p e hx
 · exact ned_p e hy
theorem ned_c {t : Tok} {l : List (List Int)} (h : l.contains (mark t) = true) (hx : [] ∉ l) : t.1 ≠ 10 := sa_mark rfl fun e => hx (by rw [e] at h; simpa using h)
theorem ned_n {t : Tok} {l : List (List Int)} (h : ¬ l.contains (mark t) = false) (hx : [] ∉ l) : t.1 ≠ 10 := ned_c (by simpa using h) hx
theorem wp_bnext {k : Tok → Pr β} (hC : CxOk c B) (hS : St c B s) (h10 : s.tk.1 ≠ 10) (hE : Env s.nodes L) (h : ∀ s1, Nx c B L s s1 → Wp (k s.tk) s1 Q) : Wp (bd (nextP c) k) s Q := by
 obtain ⟨s1, e, h1⟩ := next_nx hC hS h10 hE;unfold Wp bd;rw [e];exact h s1 h1
theorem wp_btake {x : List Int} {k : Bool → Pr β} (hC : CxOk c B) (hS : St c B s) (hE : Env s.nodes L) (hx : x ≠ []) (h1 : ∀ s1, Nx c B L s s1 → Wp (k true) s1 Q) (h2 : Wp (k false) s Q) : Wp (bd (takeP c x) k) s Q := by
 by_cases hp : isP x s = true
 · obtain ⟨s1, e, hn⟩ := next_nx hC hS (sa_mark (by simpa [isP, isT] using hp) hx) hE
   have := h1 s1 hn;unfold Wp bd takeP bd at *;simp only [hp, if_true, e];exact this
 · unfold Wp bd takeP
   rw [if_neg hp];exact h2
theorem wp_bwant {x : List Int} {k : Unit → Pr β} (hC : CxOk c B) (hS : St c B s) (hE : Env s.nodes L) (hx : x ≠ []) (h1 : ∀ s1, Nx c B L s s1 → Wp (k ()) s1 Q) : Wp (bd (wantP c x) k) s Q := by
 refine wp_bd ?_;unfold wantP;refine wp_btake hC hS hE hx (fun s1 hn => ?_) ?_
 · exact h1 s1 hn
 · trivial
theorem wp_bwk {n : Int} {k : Tok → Pr β} (hC : CxOk c B) (hS : St c B s) (hE : Env s.nodes L) (hn : n ≠ 10) (h1 : ∀ s1, Nx c B L s s1 → Wp (k s.tk) s1 Q) : Wp (bd (wantKindP c n) k) s Q := by
 by_cases hp : s.tk.1 = n
 · obtain ⟨s1, e, hn⟩ := next_nx hC hS (by omega) hE
   have := h1 s1 hn;unfold Wp bd wantKindP at *;simp only [if_pos hp, e];exact this
 · unfold Wp bd wantKindP
   simp only [if_neg hp]
theorem wp_bname {k : List Int → Pr β} (hC : CxOk c B) (hS : St c B s) (hE : Env s.nodes L) (h1 : ∀ s1, Nx c B L s s1 → Wp (k s.tk.2.1) s1 Q) : Wp (bd (nameP c) k) s Q := by
 refine wp_bd ?_;unfold nameP;exact wp_bwk hC hS hE (by decide) fun s1 hn => h1 s1 hn
theorem wp_bnum {k : Int → Pr β} (hC : CxOk c B) (hS : St c B s) (hE : Env s.nodes L) (h1 : ∀ s1, Nx c B L s s1 → Wp (k (decV s.tk.2.1)) s1 Q) : Wp (bd (numberP c) k) s Q := by
 refine wp_bd ?_;unfold numberP;exact wp_bwk hC hS hE (by decide) fun s1 hn => h1 s1 hn
theorem wp_bangle {k : Unit → Pr β} (hC : CxOk c B) (hS : St c B s) (hE : Env s.nodes L) (h1 : ∀ s1, Nx c B L s s1 → Wp (k ()) s1 Q) : Wp (bd (wantAngleP c) k) s Q := by
 cases hs : splitT s.tk with
 | none =>
   have : Wp (bd (wantP c [62]) k) s Q := wp_bwant hC hS hE (by decide) h1;unfold Wp bd wantAngleP at *;rw [hs];exact this
 | some u =>
   unfold splitT at hs;split at hs
   · rename_i hc
     cases hs;have h9 : slen s.tk = s.tk.2.1.length := by unfold slen; rw [if_pos hc.1]
     have h8 : slen (9, s.tk.2.1.tail, s.tk.2.2.1 + 1, s.tk.2.2.2) = s.tk.2.1.length - 1 := by simp [slen]
     have hbd := hS.bd hC
     have := h1 { s with tk := (9, s.tk.2.1.tail, s.tk.2.2.1 + 1, s.tk.2.2.2) } (by
      obtain ⟨t, q1, q2, q3, q4, q5⟩ := hS.tk;have q6 := hC.bd t (List.mem_of_getElem? q1);refine ⟨⟨hS.lt, ⟨t, q1, ?_, ?_, ?_, ?_⟩, hS.nd⟩, hE, rfl, ?_, ?_, ?_⟩
      · show (9 : Int) = t.1
        rw [← q2]; exact hc.1.symm
      · show slen (9, s.tk.2.1.tail, s.tk.2.2.1 + 1, s.tk.2.2.2) ≤ _
        omega
      · show _ ≤ s.tk.2.2.1 + 1
        omega
      · show s.tk.2.2.1 + 1 + slen (9, s.tk.2.1.tail, s.tk.2.2.1 + 1, s.tk.2.2.2) ≤ _
        omega
      · unfold mea
        show 5 * (c.toks.length - s.n) + slen (9, s.tk.2.1.tail, s.tk.2.2.1 + 1, s.tk.2.2.2) + 1 ≤ _
        omega
      · show _ ≤ s.tk.2.2.1 + 1
        omega
      · show s.tk.2.2.1 + 1 ≤ B
        omega)
     unfold Wp bd wantAngleP at *;simp only [splitT, if_pos hc];exact this
   · cases hs
def Pt (c : Cx) (B : Nat) (L : List (Nat × List Nat × Nat)) (s s1 : PS) : Prop := St c B s1 ∧ Env s1.nodes L ∧ s1.nodes.length = s.nodes.length + 1 ∧ mea c s1 = mea c s ∧ s1.tk = s.tk ∧ s1.tk.2.2.1 = s.tk.2.2.1
theorem wp_bput {kd nm : Int} {tx : List Int} {kids : List Nat} {a z : Nat} {k : Nat → Pr β} (hS : St c B s) (hE : Env s.nodes L) (hl : s.nodes.length < 1000000) (h1 : kids.length ≤ 1000000) (hb : a ≤ B) (h2 : LHas L a kids z) (h : ∀ s1, Pt c B ((a, [s.nodes.length], z + 1) :: L) s s1 → Wp (k s.nodes.length) s1 Q) : Wp (bd (putP ⟨kd, tx, nm, kids, a⟩) k) s Q := by
 unfold Wp bd putP;rw [if_pos hl];refine h _ ⟨⟨hS.lt, hS.tk, hS.nd.put h1 (fun k hk => ((h2 _ hE).1 k hk).lt) (.inr (.inr ⟨hb, (h2 _ hE).1⟩))⟩, ?_, by simp, rfl, rfl, rfl⟩;intro q hq;rcases List.mem_cons.1 hq with e | e
 · subst e
   refine ⟨fun k hk => ?_, ?_⟩
   · simp only [List.mem_singleton] at hk
     subst hk;exact ⟨_, by simp; rfl, .inr (.inr NL)⟩
   · show sz _ [s.nodes.length] ≤ _
     rw [sz_new, Nat.add_comm];exact Nat.succ_le_succ (h2 _ hE).2
 · exact hE.app q e
theorem wp_bblank {kd : Int} {kids : List Nat} {z : Nat} {k : Nat → Pr β} (hkd : kd = 1 ∨ kd = 2) (hS : St c B s) (hE : Env s.nodes L) (hl : s.nodes.length < 1000000) (h1 : kids.length ≤ 1000000) (h2 : LHas L 0 kids z) (h : ∀ s1, Pt c B ((B, [s.nodes.length], z + 1) :: L) s s1 → Wp (k s.nodes.length) s1 Q) : Wp (bd (putP ⟨kd, [], 0, kids, 0⟩) k) s Q := by
 unfold Wp bd putP;rw [if_pos hl];refine h _ ⟨⟨hS.lt, hS.tk, hS.nd.put h1 (fun k hk => ((h2 _ hE).1 k hk).lt) (by rcases hkd with e | e; exact .inl e; exact .inr (.inl e))⟩, ?_, by simp, rfl, rfl, rfl⟩;intro q hq;rcases List.mem_cons.1 hq with e | e
 · subst e
   refine ⟨fun k hk => ?_, ?_⟩
   · simp only [List.mem_singleton] at hk
     subst hk;exact ⟨_, by simp; rfl, by rcases hkd with e | e; exact .inl e; exact .inr (.inl e)⟩
   · show sz _ [s.nodes.length] ≤ _
     rw [sz_new, Nat.add_comm];exact Nat.succ_le_succ (h2 _ hE).2
 · exact hE.app q e
theorem wp_bnone {k : Nat → Pr β} (hS : St c B s) (hE : Env s.nodes L) (hl : s.nodes.length < 1000000) (h : ∀ s1, Pt c B ((B, [s.nodes.length], 1) :: L) s s1 → Wp (k s.nodes.length) s1 Q) : Wp (bd noneP k) s Q := wp_bblank (.inl rfl) hS hE hl (by simp) lh_nil h
theorem wp_blist {kids : List Nat} {z : Nat} {k : Nat → Pr β} (hS : St c B s) (hE : Env s.nodes L) (hl : s.nodes.length < 1000000) (h1 : kids.length ≤ 1000000) (h2 : LHas L 0 kids z) (h : ∀ s1, Pt c B ((B, [s.nodes.length], z + 1) :: L) s s1 → Wp (k s.nodes.length) s1 Q) : Wp (bd (listP kids) k) s Q := wp_bblank (.inr rfl) hS hE hl h1 h2 h
def Ls (c : Cx) (B : Nat) (L : List (Nat × List Nat × Nat)) (s s1 : PS) : Prop := St c B s1 ∧ Env s1.nodes L ∧ s1.nodes.length = s.nodes.length + 1 ∧ mea c s1 + 1 ≤ mea c s ∧ s.tk.2.2.1 ≤ s1.tk.2.2.1 ∧ s1.tk.2.2.1 ≤ B
theorem wp_bleaf {kd : Int} {f : Tok → List Int} {k : Nat → Pr β} (hC : CxOk c B) (hS : St c B s) (h10 : s.tk.1 ≠ 10) (hE : Env s.nodes L) (hl : s.nodes.length < 1000000) (h : ∀ s1, Ls c B ((s.tk.2.2.1, [s.nodes.length], 1) :: L) s s1 → Wp (k s.nodes.length) s1 Q) : Wp (bd (bd (nextP c) fun t => putP ⟨kd, f t, 0, [], t.2.2.1⟩) k) s Q := by
 refine wp_bd (wp_bnext hC hS h10 hE fun s1 ⟨a1, a2, a3, a4, a5, a6⟩ => ?_);have hb := hS.bd hC
 have := wp_bput (kd := kd) (tx := f s.tk) (nm := 0) (kids := []) (a := s.tk.2.2.1) (k := k) (Q := Q) a1 a2 (by omega) (by simp) hb lh_nil fun s2 ⟨b1, b2, b3, b4, b5, _⟩ => by
  rw [a3] at b2 ⊢;exact h s2 ⟨b1, b2, by omega, by omega, by rw [b5]; exact a5, by rw [b5]; exact a6⟩
 unfold Wp bd at this;unfold Wp;split <;> simp_all
theorem wp_bstr {k : Nat → Pr β} (hC : CxOk c B) (hS : St c B s) (h10 : s.tk.1 ≠ 10) (hE : Env s.nodes L) (hl : s.nodes.length < 1000000) (h : ∀ s1, Ls c B ((s.tk.2.2.1, [s.nodes.length], 1) :: L) s s1 → Wp (k s.nodes.length) s1 Q) : Wp (bd (strP c) k) s Q := wp_bleaf (f := fun t => t.2.1) hC hS h10 hE hl h
theorem wp_balone {kd : Int} {k : Nat → Pr β} (hC : CxOk c B) (hS : St c B s) (h10 : s.tk.1 ≠ 10) (hE : Env s.nodes L) (hl : s.nodes.length < 1000000) (h : ∀ s1, Ls c B ((s.tk.2.2.1, [s.nodes.length], 1) :: L) s s1 → Wp (k s.nodes.length) s1 Q) : Wp (bd (aloneP c kd) k) s Q := wp_bleaf (f := fun _ => []) hC hS h10 hE hl h
end
def arg1 : Cmd → Bool
 | .expr | .typeParam | .anyType | .typeRef | .param | .memberParam | .pair | .piece | .enumMember | .stmt | .classPart | .spacePart | .otherwise | .block => true
 | _ => false
def adv : Cmd → Bool
 | .binLoop .. | .postLoop .. | .tempLoop .. | .sevLoop .. | .braLoop .. | .filLoop .. | .maybe .. | .typeParams | .anyLoop .. | .arrLoop .. | .refLoop .. | .typeArgs | .callTypes | .program | .progLoop .. | .caught | .base | .refs .. => false
 | _ => true
def rank : Cmd → Nat
 | .args | .params _ | .param | .memberParam | .objectType | .refLoop .. | .callTypes | .block | .declaration => 2
 | .typeRef | .funcType _ | .primary | .exported | .classPart | .otherwise => 3
 | .plainType => 4
 | .postfix | .postLoop .. | .newLoop .. => 5
 | .arrayType | .unary => 6
 | .anyType | .arrow => 9
 | .binary l => 28 - 2 * l
 | .cond => 29
 | .expr => 30
 | .body | .evaluated .. => 31
 | .stmt => 32
 | .spacePart => 33
 | .several _ | .until .. | .braLoop .. | .filLoop .. | .tempLoop .. | .progLoop .. => 40
 | .program => 41
 | _ => 1
def nl : Cmd → Nat
 | .typeArgs | .typeParams | .refs _ | .base | .caught | .maybe .. | .anyLoop .. | .callTypes | .postLoop .. | .program | .progLoop _ => 1
 | .refLoop .. => 2
 | _ => 0
def qOf (x : Cmd) (s : PS) (p : Nat) : Nat := match x with
 | .binLoop _ a _ | .postLoop a _ | .arrLoop a _ | .newLoop a _ _ | .anyLoop a _ | .refLoop a _ | .marked a _ | .evaluated _ a | .callable _ a | .forOf a => a
 | .sevLoop .. | .filLoop .. | .braLoop .. | .tempLoop .. => p
 | .program | .progLoop _ => 0
 | _ => s.tk.2.2.1
def rowy : Cmd → Bool
 | .several _ | .sevLoop .. | .enclosed .. | .braced .. | .braLoop .. | .filled _ | .filLoop .. | .tempLoop _ | .callTypes => true
 | _ => false
def Arg (c : Cx) (x : Cmd) (s : PS) (p : Nat) (L : List (Nat × List Nat × Nat)) (z : Nat) : Prop := match x with
 | .binLoop l a k => l < 10 ∧ a ≤ s.tk.2.2.1 ∧ LHas L a [k] z
 | .postLoop a k | .arrLoop a k => a ≤ s.tk.2.2.1 ∧ LHas L a [k] z
 | .newLoop a b k => a ≤ b ∧ b ≤ s.tk.2.2.1 ∧ LHas L b [k] z
 | .sevLoop one kids | .filLoop one kids => arg1 one = true ∧ p ≤ s.tk.2.2.1 ∧ LHas L p kids z ∧ kids.length + mea c s ≤ 900000
 | .braLoop one bt kids => arg1 one = true ∧ [] ∉ bt ∧ p ≤ s.tk.2.2.1 ∧ LHas L p kids z ∧ kids.length + mea c s ≤ 900000
 | .tempLoop kids => p ≤ s.tk.2.2.1 ∧ LHas L p kids z ∧ kids.length + mea c s ≤ 900000
 | .progLoop kids => LHas L 0 kids z ∧ kids.length + mea c s ≤ 900000
 | .anyLoop a parts => a ≤ s.tk.2.2.1 ∧ LHas L a parts z ∧ parts ≠ [] ∧ parts.length + mea c s ≤ 900000
 | .refLoop a names => z = 0 ∧ a ≤ s.tk.2.2.1 ∧ names.length + mea c s ≤ 900000
 | .marked a _ | .evaluated _ a | .callable _ a => z = 0 ∧ a ≤ s.tk.2.2.1
 | .forOf a => z = 0 ∧ a ≤ s.tk.2.2.1 ∧ s.tk.1 ≠ 10
 | .several one | .filled one | .params one => z = 0 ∧ arg1 one = true
 | .braced one bt => z = 0 ∧ arg1 one = true ∧ [] ∉ bt
 | .enclosed o e one => z = 0 ∧ o ≠ [] ∧ e ≠ [] ∧ arg1 one = true
 | .maybe x one | .until x one => z = 0 ∧ x ≠ [] ∧ arg1 one = true
 | .refs x | .funcType x => z = 0 ∧ x ≠ []
 | .newThing | .super | .variable _ | .while' | .loop | .try' | .cls | .namespace' | .face | .alias | .bare _ | .declaration | .template => z = 0 ∧ s.tk.1 ≠ 10
 | .binary l => z = 0 ∧ l ≤ 10
 | _ => z = 0
def Pq (c : Cx) (B : Nat) (L : List (Nat × List Nat × Nat)) (s : PS) (x : Cmd) (q z : Nat) (l : List Nat) (s1 : PS) : Prop :=
 St c B s1 ∧ Env s1.nodes L ∧ ((∀ k ∈ l, Bh s1.nodes q k) ∧ sz s1.nodes l + s.nodes.length ≤ s1.nodes.length + z) ∧ l.length ≤ 900001 ∧ (rowy x = false → l ≠ []) ∧ s.tk.2.2.1 ≤ s1.tk.2.2.1 ∧ s1.tk.2.2.1 ≤ B ∧
 (if adv x then mea c s1 + 1 ≤ mea c s ∧ s1.nodes.length + 80 * mea c s1 + (60 - rank x) ≤ s.nodes.length + 80 * mea c s else mea c s1 ≤ mea c s ∧ s1.nodes.length + 80 * mea c s1 ≤ s.nodes.length + 80 * mea c s + nl x)
def Spec (c : Cx) (B f : Nat) (x : Cmd) : Prop := ∀ (s : PS) (p z : Nat) (L : List (Nat × List Nat × Nat)), St c B s → Env s.nodes L → Arg c x s p L z → 64 * mea c s + rank x ≤ f → s.nodes.length + 80 * mea c s + rank x ≤ 900000 →
 Wp (parP c f x) s (Pq c B L s x (qOf x s p) z)
section
variable {β : Type} {Q : β → PS → Prop} {c : Cx} {B g : Nat} {s : PS} {L : List (Nat × List Nat × Nat)}
theorem en_cons {n : List PN} {q z : Nat} {l : List Nat} (h : Env n L) (h2 : (∀ k ∈ l, Bh n q k) ∧ sz n l ≤ z) : Env n ((q, l, z) :: L) := fun e he => by
 rcases List.mem_cons.1 he with r | r
 · subst r; exact h2
 · exact h e r
theorem hd_in {n : List PN} {q z : Nat} {l : List Nat} (hl : l ≠ []) (h2 : (∀ k ∈ l, Bh n q k) ∧ sz n l ≤ z) : (∀ k ∈ [hd0 l], Bh n q k) ∧ sz n [hd0 l] ≤ z := by
 refine ⟨?_, Nat.le_trans (sz_hd hl) h2.2⟩;cases l with
 | nil => exact absurd rfl hl
 | cons x m => intro k hk; exact h2.1 k (by simp at hk; simp [hk, hd0])
theorem wp_pA {x : Cmd} {p z : Nat} {k : List Nat → Pr β} (IH : ∀ y, Spec c B g y) (hS : St c B s) (hE : Env s.nodes L) (hA : Arg c x s p L z) (h1 : 64 * mea c s + rank x ≤ g) (h2 : s.nodes.length + 80 * mea c s + rank x ≤ 900000) (ha : adv x = true) (hr : rowy x = false)
 (h : ∀ l s1 z1, St c B s1 → Env s1.nodes ((qOf x s p, [hd0 l], z1) :: (qOf x s p, l, z1) :: L) → z1 + s.nodes.length ≤ s1.nodes.length + z → l ≠ [] → l.length ≤ 900001 → s.tk.2.2.1 ≤ s1.tk.2.2.1 → s1.tk.2.2.1 ≤ B → mea c s1 + 1 ≤ mea c s → s1.nodes.length + 80 * mea c s1 + (60 - rank x) ≤ s.nodes.length + 80 * mea c s → Wp (k l) s1 Q) : Wp (bd (parP c g x) k) s Q := by
 refine wp_bd (wp_mono (IH x s p z L hS hE hA h1 h2) ?_);rintro l s1 ⟨a1, a2, a3, a4, a5, a6, a7, a8⟩;rw [if_pos ha] at a8;exact h l s1 _ a1 (en_cons (en_cons a2 ⟨a3.1, NL⟩) (hd_in (a5 hr) ⟨a3.1, NL⟩)) a3.2 (a5 hr) a4 a6 a7 a8.1 a8.2
theorem wp_pN {x : Cmd} {p z : Nat} {k : List Nat → Pr β} (IH : ∀ y, Spec c B g y) (hS : St c B s) (hE : Env s.nodes L) (hA : Arg c x s p L z) (h1 : 64 * mea c s + rank x ≤ g) (h2 : s.nodes.length + 80 * mea c s + rank x ≤ 900000) (ha : adv x = false) (hr : rowy x = false)
 (h : ∀ l s1 z1, St c B s1 → Env s1.nodes ((qOf x s p, [hd0 l], z1) :: (qOf x s p, l, z1) :: L) → z1 + s.nodes.length ≤ s1.nodes.length + z → l ≠ [] → l.length ≤ 900001 → s.tk.2.2.1 ≤ s1.tk.2.2.1 → s1.tk.2.2.1 ≤ B → mea c s1 ≤ mea c s → s1.nodes.length + 80 * mea c s1 ≤ s.nodes.length + 80 * mea c s + nl x → Wp (k l) s1 Q) : Wp (bd (parP c g x) k) s Q := by
 refine wp_bd (wp_mono (IH x s p z L hS hE hA h1 h2) ?_);rintro l s1 ⟨a1, a2, a3, a4, a5, a6, a7, a8⟩;rw [if_neg (by rw [ha]; decide)] at a8;exact h l s1 _ a1 (en_cons (en_cons a2 ⟨a3.1, NL⟩) (hd_in (a5 hr) ⟨a3.1, NL⟩)) a3.2 (a5 hr) a4 a6 a7 a8.1 a8.2
theorem wp_pR {x : Cmd} {p z : Nat} {k : List Nat → Pr β} (IH : ∀ y, Spec c B g y) (hS : St c B s) (hE : Env s.nodes L) (hA : Arg c x s p L z) (h1 : 64 * mea c s + rank x ≤ g) (h2 : s.nodes.length + 80 * mea c s + rank x ≤ 900000) (ha : adv x = true)
 (h : ∀ l s1 z1, St c B s1 → Env s1.nodes ((qOf x s p, l, z1) :: L) → z1 + s.nodes.length ≤ s1.nodes.length + z → l.length ≤ 900001 → s.tk.2.2.1 ≤ s1.tk.2.2.1 → s1.tk.2.2.1 ≤ B → mea c s1 + 1 ≤ mea c s → s1.nodes.length + 80 * mea c s1 + (60 - rank x) ≤ s.nodes.length + 80 * mea c s → Wp (k l) s1 Q) : Wp (bd (parP c g x) k) s Q := by
 refine wp_bd (wp_mono (IH x s p z L hS hE hA h1 h2) ?_);rintro l s1 ⟨a1, a2, a3, a4, a5, a6, a7, a8⟩;rw [if_pos ha] at a8;exact h l s1 _ a1 (en_cons a2 ⟨a3.1, NL⟩) a3.2 a4 a6 a7 a8.1 a8.2
theorem wp_pS {x : Cmd} {p z : Nat} {k : List Nat → Pr β} (IH : ∀ y, Spec c B g y) (hS : St c B s) (hE : Env s.nodes L) (hA : Arg c x s p L z) (h1 : 64 * mea c s + rank x ≤ g) (h2 : s.nodes.length + 80 * mea c s + rank x ≤ 900000) (ha : adv x = false)
 (h : ∀ l s1 z1, St c B s1 → Env s1.nodes ((qOf x s p, l, z1) :: L) → z1 + s.nodes.length ≤ s1.nodes.length + z → l.length ≤ 900001 → s.tk.2.2.1 ≤ s1.tk.2.2.1 → s1.tk.2.2.1 ≤ B → mea c s1 ≤ mea c s → s1.nodes.length + 80 * mea c s1 ≤ s.nodes.length + 80 * mea c s + nl x → Wp (k l) s1 Q) : Wp (bd (parP c g x) k) s Q := by
 refine wp_bd (wp_mono (IH x s p z L hS hE hA h1 h2) ?_);rintro l s1 ⟨a1, a2, a3, a4, a5, a6, a7, a8⟩;rw [if_neg (by rw [ha]; decide)] at a8;exact h l s1 _ a1 (en_cons a2 ⟨a3.1, NL⟩) a3.2 a4 a6 a7 a8.1 a8.2
theorem wp_look {k : Nat} {d : PS → Prop} [∀ s, Decidable (d s)] {A : Pr β} (hE : Env s.nodes L) {z : Nat} (hk : LHas L 0 [k] z) (h : Wp A s Q) : Wp (fun s => if s.nodes.length ≤ k then .out else if d s then A s else .no s) s Q := by
 have := ((hk _ hE).1 k (by simp)).lt;unfold Wp at *;simp only [if_neg (show ¬ s.nodes.length ≤ k by omega)];by_cases hd : d s
 · simp only [if_pos hd]; exact h
 · simp only [if_neg hd]
theorem wp_all {l : List Nat} {d : PS → Prop} [∀ s, Decidable (d s)] {A : Pr β} (hE : Env s.nodes L) {z : Nat} (hk : LHas L 0 l z) (h : Wp A s Q) : Wp (fun s => if (l.all fun i => decide (i < s.nodes.length)) = false then .out else if d s then .no s else A s) s Q := by
 have : (l.all fun i => decide (i < s.nodes.length)) = true := List.all_eq_true.2 fun k hk' => decide_eq_true ((hk _ hE).1 k hk').lt
 unfold Wp at *;simp only [this, Bool.true_eq_false, if_false];by_cases hd : d s
 · simp only [if_pos hd]
 · simp only [if_neg hd]; exact h
theorem bd_rt {α : Type} (p : Pr α) : bd p rt = p := by
 funext s
 unfold bd rt;cases p s <;> rfl
theorem wp_last {x : Cmd} {Q : List Nat → PS → Prop} (h : Wp (bd (parP c g x) rt) s Q) : Wp (parP c g x) s Q := by rw [bd_rt] at h; exact h
theorem arg1_ok {x : Cmd} (h : arg1 x = true) : adv x = true ∧ rowy x = false ∧ rank x ≤ 33 ∧ (∀ s p, qOf x s p = s.tk.2.2.1) ∧ ∀ c s p L, Arg c x s p L 0 := by
 cases x <;> simp [arg1] at h <;> refine ⟨rfl, rfl, by simp [rank], fun _ _ => rfl, fun _ _ _ _ => rfl⟩
theorem wp_p1 {x : Cmd} {k : List Nat → Pr β} (IH : ∀ y, Spec c B g y) (hx : arg1 x = true) (hS : St c B s) (hE : Env s.nodes L) (h1 : 64 * mea c s + 33 ≤ g) (h2 : s.nodes.length + 80 * mea c s + 33 ≤ 900000)
 (h : ∀ l s1 z1, St c B s1 → Env s1.nodes ((s.tk.2.2.1, [hd0 l], z1) :: (s.tk.2.2.1, l, z1) :: L) → z1 + s.nodes.length ≤ s1.nodes.length + 0 → l ≠ [] → l.length ≤ 900001 → s.tk.2.2.1 ≤ s1.tk.2.2.1 → s1.tk.2.2.1 ≤ B → mea c s1 + 1 ≤ mea c s → s1.nodes.length + 80 * mea c s1 + 27 ≤ s.nodes.length + 80 * mea c s → Wp (k l) s1 Q) : Wp (bd (parP c g x) k) s Q := by
 obtain ⟨a1, a2, a3, a4, a5⟩ := arg1_ok hx;refine wp_pA (p := 0) IH hS hE (a5 _ _ _ _) (by omega) (by omega) a1 a2 ?_;rw [a4];intro l s1 z1 b1 b2 b0 b3 b4 b5 b6 b7 b8;exact h l s1 z1 b1 b2 b0 b3 b4 b5 b6 b7 (by omega)
end
theorem pq_end {c : Cx} {B : Nat} {L L1 : List (Nat × List Nat × Nat)} {s s1 : PS} {x : Cmd} {q z z1 : Nat} {l : List Nat} (hS : St c B s1) (hE : Env s1.nodes L1) (h : ∀ q ∈ L, q ∈ L1) (h1 : LHas L1 q l z1) (hz : z1 + s.nodes.length ≤ s1.nodes.length + z) (h2 : l.length ≤ 900001) (h3 : rowy x = false → l ≠ []) (h4 : s.tk.2.2.1 ≤ s1.tk.2.2.1) (h5 : s1.tk.2.2.1 ≤ B)
 (h6 : if adv x then mea c s1 + 1 ≤ mea c s ∧ s1.nodes.length + 80 * mea c s1 + (60 - rank x) ≤ s.nodes.length + 80 * mea c s else mea c s1 ≤ mea c s ∧ s1.nodes.length + 80 * mea c s1 ≤ s.nodes.length + 80 * mea c s + nl x) : Pq c B L s x q z l s1 :=
 ⟨hS, fun e he => hE e (h e he), ⟨(h1 _ hE).1, Nat.le_trans (Nat.add_le_add_right (h1 _ hE).2 _) hz⟩, h2, h3, h4, h5, h6⟩
end
end Go.Proofs.YtdliannkiijeiaaGreatDoor
