/- lex's machine: scan, over a text without remarks and errors, for whatever loop it serves. -/
import Derived.Test.YtpdkeggiokebmaaDoorXA
import Derived.Test.YtpdkeggiokebmaaDoorX3t
import Derived.Test.YtpdkeggiokebmaaDoorB3
import Derived.Test.YtpdkeggiokebmaaDoorXR
namespace Go.Proofs.YtpdkeggiokebmaaDoor
set_option linter.unusedSimpArgs false
set_option linter.unusedVariables false
open Go.RowKit Go.Shelf

attribute [local go_sem] Oper.semAt_some
attribute [local go_sem] tokV
theorem ba_loop (s : ByteArray) : ∀ (k i : Nat) (acc : List UInt8), k = s.size - i → ByteArray.toList.loop s i acc = acc.reverse ++ (s.data.toList.drop i)
  | 0, i, acc, h => by
    rw [ByteArray.toList.loop]
    have hi : ¬ i < s.size := by omega
    rw [if_neg hi, List.drop_eq_nil_of_le (by show s.data.toList.length ≤ i; have : s.data.toList.length = s.size := rfl; omega)]
    simp
  | k + 1, i, acc, h => by
    rw [ByteArray.toList.loop]
    have hi : i < s.size := by omega
    rw [if_pos hi, ba_loop s k (i + 1) _ (by omega)]
    have hl : i < s.data.toList.length := hi
    rw [List.drop_eq_getElem_cons hl]
    have : s.get! i = s.data.toList[i] := by
      show s.data[i]! = _
      rw [getElem!_pos s.data i hi]
      simp
    simp [this]
theorem ba_toList (s : ByteArray) : s.toList = s.data.toList := by
  rw [ByteArray.toList, ba_loop s s.size 0 [] (by omega)]
  simp
theorem upto_add' {α : Type} (f : Nat → α) (a b : Nat) : upto f (a + b) = upto f a ++ upto (fun j => f (a + j)) b := by
  simp [upto, List.range_add, List.map_map, Function.comp_def]
/-- The machine's place, as memory holds it. -/
def atOf (M : Nat) (W : World) : Nat := match W.heap[M]? with
  | some (.cells cs _ _) => (intOf (cs.getD 1 undef)).toNat
  | _ => 0
theorem atOf_eq {W : World} {M : Nat} {bv ov : Value} {at' : Nat} (h : MAt W M bv at' ov) : atOf M W = at' := by
  unfold MAt at h
  simp [atOf, h, intOf]
theorem upto_head {α : Type} (f : Nat → α) (n : Nat) : upto f (n + 1) = f 0 :: upto (fun j => f (1 + j)) n := by
  rw [Nat.add_comm, upto_add']
  rfl
theorem hpB_no {g : Nat → Int} {len : Nat} {s : ByteArray} {n : Nat} (hg : ∀ j, 0 ≤ g j ∧ g j ≤ 255) (hs : s.size = n + 1) (h0 : g 0 ≠ gS s 0) : hpB g len (gS s) s.size = false := by
  unfold hpB
  rw [hs]
  have : ((strOfNums (upto g (n + 1))).toList == (strOfNums (upto (gS s) (n + 1))).toList) = false := by
    rw [beq_eq_false_iff_ne]
    intro e
    rw [ba_toList, ba_toList, upto_head, upto_head] at e
    simp only [strOfNums, List.map_cons, List.toList_toArray] at e
    have e1 := (List.cons.inj e).1
    have h1 := hg 0
    have h2 := gS_bd s 0
    have e2 := congrArg UInt8.toNat e1
    rw [UInt8.toNat_ofNat', UInt8.toNat_ofNat'] at e2
    omega
  rw [this]
  simp
/-- From a place on which no blank stands a token begins. -/
def StepC (M c : Nat) (a : Option Addr) (len cap : Nat) (g : Nat → Int) (ov : Value) (Rch : Nat → List Value → Prop) : Prop :=
  ∀ at' pre, Rch at' pre → at' < len → (isB (g at') = true → Rch (at' + 1) pre) ∧
    (isB (g at') = false → g at' ≠ 47 ∧ ∃ kd S e', (e' : Nat) ≤ len ∧ at' < e' ∧ Rch e' (pre ++ [tokV kd S at' (e' : Int)]) ∧
      ∀ W, MAt W M (.slice a len cap) at' ov → Sl W c (.slice a len cap) len g → c < W.heap.size → Calls Tryd.prog 35 #[.pointer (some ⟨M, 0, none⟩)] W fun x W' => x = .returned (.tuple #[tokV kd S at' (e' : Int), .bool true]) ∧ MAt W' M (.slice a len cap) (e' : Int) ov ∧ Fr (fun k => k = M) W W')

set_option maxRecDepth 100000 in
set_option maxHeartbeats 2000000 in
theorem scan_in (n : Nat) (hn : 1 ≤ n) (l M c : Nat) (a : Option Addr) (len cap : Nat) (g : Nat → Int) (hg : ∀ j, 0 ≤ g j ∧ g j ≤ 255) (ov : Value) (hlen : len ≤ 4000) (hMc : M ≠ c) (Rch : Nat → List Value → Prop) (hst : StepC M c a len cap g ov Rch) (J Jx : List Value → World → Prop)
    (hJ : ∀ pre A C, J pre A → Fr (fun k => k = M) A C → J pre C)
    (hY : ∀ pre kd S i i' A, J pre A → pre.length < len + 1 → (∃ cs : Array Value, A.heap[M]? = some (.cells cs 49)) → YieldAt Fence.wide (n - 1) Tryd.prog l #[tokV kd S i i', .int .i64 0] A fun e A' =>
      (e = .returned (.bool true) ∧ J (pre ++ [tokV kd S i i']) A' ∧ A'.heap[M]? = A.heap[M]? ∧ A'.heap[c]? = A.heap[c]? ∧ A.heap.size ≤ A'.heap.size) ∨ (e = .returned (.bool false) ∧ Jx (pre ++ [tokV kd S i i']) A'))
    (W : World) (h0 : J [] W) (hR : Rch 0 []) (hM : MAt W M (.slice a len cap) 0 ov) (hS : Sl W c (.slice a len cap) len g) (hc : c < W.heap.size) :
    CallsIn Fence.wide n Tryd.prog 25 #[.pointer (some ⟨M, 0, none⟩), .func (.yield l) #[] #[]] W fun e W' => (∃ v, e = .returned v) ∧ ((∃ pre, Rch len pre ∧ J (pre ++ [tokV 10 ⟨#[]⟩ len len]) W') ∨ ∃ pre, Jx pre W') := by
  refine callsIn_of_wp Tryd.func25 rfl trivial ?_ rfl
  simp only [Tryd.ntmps25, List.size_toArray, List.length_cons, List.length_nil, Nat.reduceAdd, Nat.reduceSub, Array.replicate_succ, Array.replicate_zero, List.push_toArray, List.append_toArray, List.nil_append, List.cons_append]
  gi_wp2
  refine wpIn_scope_wide ?_
  gi_wp2
  refine wpIn_label ?_
  gi_wp2
  have HJ := hide hJ
  have HY := hide hY
  have HST := hide hst
  have H0 := hide h0
  have HS := hide hS
  have hml := hM.lt
  clear hJ hY hst h0 hS
  gi_loopw [4] (fun t wr => ∃ (at' : Nat) (pre : List Value), Rch at' pre ∧ pre.length ≤ at' ∧ at' ≤ len ∧ t = .int .i64 (pre.length : Int) ∧ J pre wr ∧ MAt wr M (.slice a len cap) at' ov ∧ wr.heap[c]? = W.heap[c]? ∧ W.heap.size ≤ wr.heap.size) (fun _ wr => len - atOf M wr)
  case atStart => exact ⟨0, [], hR, Nat.zero_le _, Nat.zero_le _, rfl, unhide H0, hM, rfl, Nat.le_refl _⟩
  case round =>
    obtain ⟨at', pre, hr, hpl, hal, rfl, hj, hm, hcs, hsz⟩ := hrel
    have c0 := hm.c0
    have c1 := hm.c1
    have f1 := hm.frozen 1
    have hmw := hm.lt
    have hS' : Sl wr c (.slice a len cap) len g := (unhide HS).keep (fun k e => by subst e; exact hcs)
    have HJJ := hide hj
    have HRR := hide hr
    have hat0 := atOf_eq hm
    clear hj hr
    have hFd : ∀ N, Fr (fun k => k = M) wr (wr.drewN N) := fun N => ⟨rfl, rfl, rfl, Nat.le_refl _, fun _ _ _ => rfl⟩
    by_cases hlt : at' < len
    · have hlt' : (at' : Int) < len := by omega
      have hltb : decide ((at' : Int) < len) = true := by simpa using hlt'
      obtain ⟨hsb, hst⟩ := unhide HST at' pre (unhide HRR) hlt
      have HS2 := hide hS'
      obtain ⟨off, cap', hv, h0, h1, h2, hcc⟩ : ∃ off cap', Value.slice a len cap = .slice (some ⟨c, off, none⟩) len cap' ∧ 0 < len ∧ len ≤ cap' ∧ cap' ≤ maxLen ∧ ∀ j, j < len → wr.cell? ⟨c, off + j, none⟩ = some (.int .u8 (g j)) := by
        rcases hS' with ⟨_, _, h, h0⟩ | h
        · omega
        · exact h
      cases hv
      unfold maxLen at h2
      have hck := hcc at' hlt
      clear hcc hS'
      cases hb : isB (g at') with
      | true =>
        have HR2 := hide (hsb hb)
        clear hsb hst
        gi_wp2
        refine wpIn_wide.2 ?_
        go_quiet (fail)
        gi_wp2_with (refine ⟨trivial, ?_⟩; gi_at_call 33; refine (callsIn_wide.2 (isBlank_any _ _)).mono ?_; rintro x w' ⟨rfl, hw⟩; subst w')
        have hm2 : MAt ((wr.drewN nq).setCell ⟨M, 1, none⟩ (.int .i64 ((at' : Int) + 1))) M (.slice (some ⟨c, off, none⟩) len cap) ((at' + 1 : Nat) : Int) ov := MAt.set1 (W := wr.drewN nq) hm ((at' : Int) + 1)
        refine ⟨⟨at' + 1, pre, unhide HR2, by omega, by omega, rfl, unhide HJ _ _ _ (unhide HJJ) ((hFd nq).set M 1 _ rfl), hm2, (Below.heap_setCell _ _ _ _ (fun e => hMc e.symm)).trans hcs, by simpa [World.setCell] using hsz⟩, ?_⟩
        rw [atOf_eq hm2, hat0]
        omega
      | false =>
        obtain ⟨h47, kd, S, e', he1, he2, hre, htk⟩ := hst hb
        have HSt : Hid (∀ s : ByteArray, (s = ⟨#[47, 47]⟩ ∨ s = ⟨#[47, 42]⟩) → ∀ W', Below wr.heap.size wr W' → Calls Tryd.prog 34 #[.pointer (some ⟨M, 0, none⟩), .string s] W' fun x W'' => x = .returned (.bool false) ∧ Below W'.heap.size W' W'') := fun s hs W' hb' => by
          have hk := stands_any M c _ len cap g at' ov s W' (hm.below hb' hmw) ((unhide HS2).keep (fun k e => by subst e; exact hb'.block k (by omega))) (by have := hb'.size; omega) (Nat.le_of_lt hlt) (by omega) (by rcases hs with rfl | rfl <;> decide)
          have e1 : hpB (fun j => g (at' + j)) (len - at') (gS s) s.size = false := by
            rcases hs with rfl | rfl
            · exact hpB_no (n := 1) (fun j => hg _) rfl (by show g (at' + 0) ≠ 47; simpa using h47)
            · exact hpB_no (n := 1) (fun j => hg _) rfl (by show g (at' + 0) ≠ 47; simpa using h47)
          rw [e1] at hk
          exact hk
        have HTK : Hid (∀ W', Below wr.heap.size wr W' → Calls Tryd.prog 35 #[.pointer (some ⟨M, 0, none⟩)] W' fun x W'' => x = .returned (.tuple #[tokV kd S at' (e' : Int), .bool true]) ∧ MAt W'' M (.slice (some ⟨c, off, none⟩) len cap) (e' : Int) ov ∧ Fr (fun k => k = M) W' W'') := fun W' hb' => htk W' (hm.below hb' hmw) ((unhide HS2).keep (fun k e => by subst e; exact hb'.block k (by omega))) (by have := hb'.size; omega)
        have HRE := hide hre
        clear hsb hst htk hre h47
        have n8 : ((pre.length : Int) == 8192) = false := by simp; omega
        gi_wp2
        refine wpIn_wide.2 ?_
        go_quiet (fail)
        have hBc : Below wr.heap.size wr (wr.drewN nq) := ⟨rfl, rfl, rfl, Nat.le_refl _, fun _ _ => rfl⟩
        gi_wp2_with (first | (refine ⟨trivial, ?_⟩; gi_at_call 33; refine (callsIn_wide.2 (isBlank_any _ _)).mono ?_; rintro x w' ⟨rfl, hw⟩; subst w') | (refine ⟨trivial, ?_⟩; gi_at_call 34; refine (callsIn_wide.2 (unhide HSt _ (by first | exact .inl rfl | exact .inr rfl) _ hBc)).mono ?_; rintro x W' ⟨rfl, hb'⟩; have hBc := hBc.trans (hb'.mono hBc.size)) | (refine ⟨trivial, ?_⟩; gi_at_call 35; refine (callsIn_wide.2 (unhide HTK _ hBc)).mono ?_; rintro x W4 ⟨rfl, hm4, hF4⟩))
        obtain ⟨W5, hW5⟩ : ∃ W5, W4.alloc (.cells #[.int .i64 kd, .string S, .int .i64 (at' : Int), .int .i64 (e' : Int)] 33) = W5 := ⟨_, rfl⟩
        have hF5 : Fr (fun k => k = M) wr W5 := by rw [← hW5]; exact (((Fr.refl _ wr).below hBc).trans hF4).alloc _
        have hm5 : MAt W5 M (.slice (some ⟨c, off, none⟩) len cap) (e' : Int) ov := by rw [← hW5]; exact hm4.below ((Below.refl _ W4).alloc (Nat.le_refl _) _) hm4.lt
        have hc5 : W5.heap[c]? = W.heap[c]? := (hF5.block c (by omega) (fun e => hMc e.symm)).trans hcs
        rw [hW5]
        clear hW5
        obtain ⟨fn, tm, asg, bd, hy0, hRd⟩ := unhide HY pre kd S (at' : Int) (e' : Int) W5 (unhide HJ _ _ _ (unhide HJJ) hF5) (by omega) ⟨_, hm5⟩
        have hy : (Instr.yield l #[.agg #[.int .i64 kd, .string S, .int .i64 (at' : Int), .int .i64 (e' : Int)], .int .i64 0]).run Tryd.prog W5 = .ok (.round l fn tm asg bd) W5 := hy0
        clear hy0
        rw [hy, Oper.uponIn_round]
        refine ⟨fun _ => hn, hRd.mono ?_⟩
        have hz5 := hF5.size
        rintro x W6 (⟨rfl, hJ6, hM6, hc6, hz6⟩ | ⟨rfl, hJx6⟩)
        · have hm6 : MAt W6 M (.slice (some ⟨c, off, none⟩) len cap) (e' : Int) ov := hM6.trans hm5
          have HJ6 := hide hJ6
          clear hJ6
          gi_wp2
          refine ⟨⟨e', _, unhide HRE, by simp; omega, he1, by simp, unhide HJ6, hm6, hc6.trans hc5, by omega⟩, ?_⟩
          rw [atOf_eq hm6, hat0]
          omega
        · gi_wp2
          rw [Exit.noGoto_ret]
          refine bodyPost_ret (results_none rfl _ _ _) rfl ?_
          exact ⟨⟨_, rfl⟩, .inr ⟨_, hJx6⟩⟩
    · obtain rfl : at' = len := by omega
      have hltb : decide ((at' : Int) < at') = false := by simp
      gi_wp2
      refine wpIn_wide.2 ?_
      go_quiet (fail)
      obtain ⟨fn, tm, asg, bd, hy0, hRd0⟩ := unhide HY pre 10 ⟨#[]⟩ (at' : Int) (at' : Int) (wr.drewN (nq + 1)) (unhide HJ _ _ _ (unhide HJJ) ⟨rfl, rfl, rfl, Nat.le_refl _, fun _ _ _ => rfl⟩) (by omega) ⟨_, hm⟩
      have hy : (Instr.yield l #[.agg #[.int .i64 10, .string ⟨#[]⟩, .int .i64 (at' : Int), .int .i64 (at' : Int)], .int .i64 0]).run Tryd.prog (wr.drewN (nq + 1)) = .ok (.round l fn tm asg bd) (wr.drewN (nq + 1)) := hy0
      clear hy0
      have HRd := hide (hRd0.mono (R' := fun e A' => ∃ r : Bool, e = .returned (.bool r) ∧ ((∃ pre, Rch at' pre ∧ J (pre ++ [tokV 10 ⟨#[]⟩ at' at']) A') ∨ ∃ pre, Jx pre A')) (by
        rintro e A' (⟨rfl, h1, _⟩ | ⟨rfl, h1⟩)
        · exact ⟨true, rfl, .inl ⟨pre, unhide HRR, h1⟩⟩
        · exact ⟨false, rfl, .inr ⟨_, h1⟩⟩))
      clear hRd0
      gi_wp2
      refine wpIn_region_any (by kernel_rfl) ?_
      change wpAnyIn _ _ _ _ _ _ _ _ _ (World.drewN wr (nq + 1))
      refine wpAnyIn_take (i := 0) (v := ?_) rfl rfl (by kernel_rfl) (by kernel_rfl) (by kernel_rfl) (fun _ _ _ h => h) ⟨Or.inl ⟨by rfl, ?_⟩, fun _ => rfl⟩ ?_
      rotate_left
      · intro w; go_simp; try rfl
      refine wpAnyIn_take (i := 1) (v := ?_) rfl rfl (by kernel_rfl) (by kernel_rfl) (by kernel_rfl) (fun _ _ _ h => h) ⟨Or.inl ⟨by rfl, ?_⟩, fun _ => rfl⟩ ?_
      rotate_left
      · intro w; go_simp; try rfl
      refine wpAnyIn_take (i := 6) (v := ?_) rfl rfl (by kernel_rfl) (by kernel_rfl) (by kernel_rfl) (fun _ _ _ h => h) ⟨Or.inl ⟨by rfl, ?_⟩, fun _ => rfl⟩ ?_
      rotate_left
      · intro w; go_simp; try rfl
      refine wpAnyIn_take (i := 2) (v := ?_) rfl rfl (by kernel_rfl) (by kernel_rfl) (by kernel_rfl) (fun _ _ _ h => h) ⟨Or.inl ⟨by rfl, ?_⟩, fun _ => rfl⟩ ?_
      rotate_left
      · intro w; go_simp; try rfl
      refine wpAnyIn_take (i := 7) (v := ?_) rfl rfl (by kernel_rfl) (by kernel_rfl) (by kernel_rfl) (fun _ _ _ h => h) ⟨Or.inl ⟨by rfl, ?_⟩, fun _ => rfl⟩ ?_
      rotate_left
      · intro w; go_simp; try rfl
      refine wpAnyIn_take (i := 3) (v := ?_) rfl rfl (by kernel_rfl) (by kernel_rfl) (by kernel_rfl) (fun _ _ _ h => h) ⟨Or.inl ⟨by rfl, ?_⟩, fun _ => rfl⟩ ?_
      rotate_left
      · intro w; go_simp; try rfl
      refine wpAnyIn_take (i := 8) (v := ?_) rfl rfl (by kernel_rfl) (by kernel_rfl) (by kernel_rfl) (fun _ _ _ h => h) ⟨Or.inl ⟨by rfl, ?_⟩, fun _ => rfl⟩ ?_
      rotate_left
      · intro w; go_simp; try rfl
      refine wpAnyIn_ready (rs := [4, 9]) (by kernel_rfl) (by simp) ?_
      refine AllReadyIn.cons rfl (fun K hK => ?_) (AllReadyIn.cons rfl (fun K hK => ?_) AllReadyIn.nil)
      · go_simp
        refine hK _ _ ?_
        clear hK K
        refine wpAnyIn_take (i := 5) (v := ?_) rfl rfl (by kernel_rfl) (by kernel_rfl) (by kernel_rfl) (fun _ _ _ h => h) ⟨Or.inl ⟨by rfl, ?_⟩, fun _ => rfl⟩ ?_
        rotate_left
        · intro w; go_simp; try rfl
        refine wpAnyIn_ready (rs := [9]) (by kernel_rfl) (by simp) ?_
        refine AllReadyIn.cons rfl (fun K hK => ?_) AllReadyIn.nil
        go_simp
        refine hK _ _ ?_
        clear hK K
        refine wpAnyIn_take (i := 10) (v := ?_) rfl rfl (by kernel_rfl) (by kernel_rfl) (by kernel_rfl) (fun _ _ _ h => h) ⟨Or.inl ⟨by rfl, ?_⟩, fun _ => rfl⟩ ?_
        rotate_left
        · intro w; go_simp; try rfl
        refine wpAnyIn_take (i := 11) (v := ?_) rfl rfl (by kernel_rfl) (by kernel_rfl) (by kernel_rfl) (fun _ _ _ h => h) ⟨Or.inl ⟨by rfl, ?_⟩, fun _ => rfl⟩ ?_
        rotate_left
        · intro w; go_simp; try rfl
        refine wpAnyIn_ready (rs := [12]) (by kernel_rfl) (by simp) ?_
        refine AllReadyIn.cons rfl (fun K hK => ?_) AllReadyIn.nil
        go_simp
        refine (unhide HRd).mono ?_
        rintro x W6 ⟨r, rfl, hor⟩
        have HOR := hide hor
        clear hor
        go_simp
        refine hK _ _ ?_
        clear hK K
        refine wpAnyIn_done (by kernel_rfl) ?_ _
        rw [Exit.noGoto_normal]
        go_end0
        exact ⟨⟨_, rfl⟩, unhide HOR⟩
      · go_simp
        refine hK _ _ ?_
        clear hK K
        refine wpAnyIn_take (i := 10) (v := ?_) rfl rfl (by kernel_rfl) (by kernel_rfl) (by kernel_rfl) (fun _ _ _ h => h) ⟨Or.inl ⟨by rfl, ?_⟩, fun _ => rfl⟩ ?_
        rotate_left
        · intro w; go_simp; try rfl
        refine wpAnyIn_ready (rs := [4]) (by kernel_rfl) (by simp) ?_
        refine AllReadyIn.cons rfl (fun K hK => ?_) AllReadyIn.nil
        go_simp
        refine hK _ _ ?_
        clear hK K
        refine wpAnyIn_take (i := 5) (v := ?_) rfl rfl (by kernel_rfl) (by kernel_rfl) (by kernel_rfl) (fun _ _ _ h => h) ⟨Or.inl ⟨by rfl, ?_⟩, fun _ => rfl⟩ ?_
        rotate_left
        · intro w; go_simp; try rfl
        refine wpAnyIn_take (i := 11) (v := ?_) rfl rfl (by kernel_rfl) (by kernel_rfl) (by kernel_rfl) (fun _ _ _ h => h) ⟨Or.inl ⟨by rfl, ?_⟩, fun _ => rfl⟩ ?_
        rotate_left
        · intro w; go_simp; try rfl
        refine wpAnyIn_ready (rs := [12]) (by kernel_rfl) (by simp) ?_
        refine AllReadyIn.cons rfl (fun K hK => ?_) AllReadyIn.nil
        go_simp
        refine (unhide HRd).mono ?_
        rintro x W6 ⟨r, rfl, hor⟩
        have HOR := hide hor
        clear hor
        go_simp
        refine hK _ _ ?_
        clear hK K
        refine wpAnyIn_done (by kernel_rfl) ?_ _
        rw [Exit.noGoto_normal]
        go_end0
        exact ⟨⟨_, rfl⟩, unhide HOR⟩
end Go.Proofs.YtpdkeggiokebmaaDoor
