/- Towards the law: GA. -/
import Derived.Test.YtdliannkiijeiaaGreatDoorMGT
import Derived.Test.YtdliannkiijeiaaGreatDoorMS6
import Derived.Test.YtdliannkiijeiaaGreatDoorMT
import Derived.Test.YtdliannkiijeiaaGreatDoorMV
set_option linter.unusedSimpArgs false
set_option linter.unusedVariables false
set_option maxRecDepth 100000
set_option maxHeartbeats 8000000
namespace Go.Proofs.YtdliannkiijeiaaGreatDoor
section
open Go.RowKit Go.Shelf
theorem scF_len {g : Nat → Int} {len : Nat} : ∀ (f i : Nat) (bs : List Bool), (scF g len f i bs).length ≤ f
 | 0, i, bs => by simp [scF]
 | f + 1, i, bs => by
   unfold scF;split
   · simp
   split
   · have := scF_len (g := g) (len := len) f (i + 1) bs; omega
   split
   · have := scF_len (g := g) (len := len) f (stopI (fun c => c != 10) g len i) bs; omega
   split
   · split
     · have := scF_len (g := g) (len := len) f (remI g len (i + 2) + 2) bs; omega
     · simp
   split
   · simp
   · rename_i k t e bs' _
     have := scF_len (g := g) (len := len) f e bs';simp
     omega
theorem scF_err {g : Nat → Int} {len : Nat} : ∀ (f i : Nat) (bs : List Bool), okI (scF g len f i bs) ∨ ∃ (p : List TokD) (i' : Nat), scF g len f i bs = p ++ [((0, [], i', 0), 3)]
 | 0, i, bs => .inl fun t ht => by simp [scF] at ht
 | f + 1, i, bs => by
   unfold scF;split
   · exact .inl fun t ht => by simp at ht; rw [ht]
   split
   · exact scF_err f _ _
   split
   · exact scF_err f _ _
   split
   · split
     · exact scF_err f _ _
     · exact .inr ⟨[], i, rfl⟩
   split
   · exact .inr ⟨[], i, rfl⟩
   · rename_i k t e bs' _
     rcases scF_err (g := g) (len := len) f e bs' with h | ⟨p, i', h⟩
     · exact .inl fun x hx => by
        rcases List.mem_cons.1 hx with q | q
        · rw [q]
        · exact h x q
     · exact .inr ⟨((k, t, i, e), 0) :: p, i', by rw [h]; rfl⟩
theorem fN_ix (K : Nat → Int) (T : Nat → ByteArray) (m : Int) : ∀ k, fN K T m k < 0 ∨ ∃ n : Nat, n < k ∧ fN K T m k = (n : Int)
 | 0 => .inl (by simp [fN])
 | k + 1 => by
   simp only [fN];split
   · exact .inr ⟨k, by omega, rfl⟩
   · rcases fN_ix K T m k with h | ⟨n, h1, h2⟩
     · exact .inl h
     · exact .inr ⟨n, by omega, h2⟩
def AnsOk (len : Nat) : Ans → Prop
 | .tree T => T.length ≤ 900000 ∧ ∀ (i : Nat) (y : PN), T[i]? = some y → Gd len T y
 | .bad _ e => e ≠ 0
theorem prog_any {a : Option Addr} {len cap c0 : Nat} {g : Nat → Int} (hg : ∀ j, 0 ≤ g j ∧ g j ≤ 255) {W : World} (hlen : len ≤ 1000) (hS0 : ∀ w, Below W.heap.size W w → Sl w c0 (.slice a len cap) len g) (hc0 : c0 < W.heap.size) (hnil : a = none → cap = 0) (hE1 : ErrG W 1) (hE2 : ErrG W 2) :
 ∃ r : Ans, Calls Tryz.prog 9 #[.slice a len cap] W (AnsQ r W) ∧ AnsOk len r := by
 by_cases hok : okI (scI g len 0 [])
 · have hch : ChT len 0 (toksOf g len) := sc_chain hg (by omega) len 0 [] (by omega) (by omega) hok
   have hll : (scI g len 0 []).length ≤ len + 1 := scF_len _ _ _;have hlt : (toksOf g len).length ≤ len + 1 := by unfold toksOf; rw [List.length_map]; exact hll
   have hpos := hch.len;have hT := tokens_good hg (by omega) hS0 hc0 hnil hE1 hE2 hok (by simpa [toksOf] using hpos) (by omega);have hG : GoodT (toksOf g len) := ⟨fun t ht => (hch.all t ht).by', fun t ht => ⟨(hch.all t ht).num, by have h1 := (hch.all t ht).fit; have h2 := (hch.all t ht).lng; omega⟩, hch.cl.1, hch.cl.2⟩;generalize toksOf g len = l at hch hlt hpos hT hG;by_cases hd : deepF l < 0
   · have hP := par_whole (hch.cx (clL l)) hpos (by omega) (x := .program) (.inl rfl)
     unfold Wp at hP;have hst : start0 l = startS l := rfl;rw [hst] at hP;split at hP
     · rename_i r s hq
       obtain ⟨p1, p2, p3, p4, p5⟩ := hP;by_cases h10 : s.tk.1 = 10
       · have hr0 : hd0 r < s.nodes.length := by
          cases r with
          | nil => exact absurd rfl p2
          | cons k r => exact p3 k (by simp [hd0])
         have hly := lay_ly p1.nd (s.nodes.length + 1) (hd0 r) [] (by omega) hr0;have hz : sz s.nodes [hd0 r] ≤ sz s.nodes r := sz_hd p2
         have hln : (layP s.nodes (s.nodes.length + 1) (hd0 r) []).1.length ≤ 900000 := by
          have := hly.len;simp at this;omega
         exact ⟨_, ans_ok_program hT hG hpos hd (fun i x hx => ⟨(p1.nd i x hx).1, (p1.nd i x hx).2.1⟩) hr0 (by omega) (endP_ok hq h10), hln, fun i y hy => hly.gd i (Nat.zero_le _) y hy⟩
       · exact ⟨_, ans_no_program hT hG hpos hd (endP_end hq h10), by show (_ : Int) ≠ 0; decide⟩
     · rename_i s hq
       exact ⟨_, ans_no_program (n := fuelT l) hT hG hpos hd (s' := s) (by simp [endP, hq]), by show (_ : Int) ≠ 0; decide⟩
     · exact hP.elim
   · rcases fN_ix (fun j => (l.getD j tok0).1) (fun j => strOfNums (l.getD j tok0).2.1) 64 l.length with h | ⟨n, h1, h2⟩
     · exact absurd h hd
     · exact ⟨_, ans_deep_program (n := n) hT h2 (List.getElem?_eq_getElem h1), by show (_ : Int) ≠ 0; decide⟩
 · rcases scF_err (g := g) (len := len) (len - 0 + 1) 0 [] with h | ⟨p, i, hp⟩
   · exact absurd h hok
   · refine ⟨_, ans_bad_program (i := (i : Int)) fun w hw => ?_, by show (_ : Int) ≠ 0; decide⟩
     refine (callsIn_wide.1 (tokens_any a len cap c0 g hg w (by omega) (hS0 w hw) (Nat.lt_of_lt_of_le hc0 hw.size) hnil (hE1.below hw hE1.lt) (hE2.below hw hE2.lt))).mono ?_;rintro e A ⟨⟨h, _⟩ | ⟨p', i', hp', _, he⟩, hb⟩
     · exact absurd h hok
     · have hpp : scI g len 0 [] = p ++ [((0, [], i, 0), 3)] := hp
       rw [hpp] at hp';have := (List.append_inj_right' hp' rfl);simp at this;subst this;exact ⟨he, hb⟩
end
end Go.Proofs.YtdliannkiijeiaaGreatDoor
