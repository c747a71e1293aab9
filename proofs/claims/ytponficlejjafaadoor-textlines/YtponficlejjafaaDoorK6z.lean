/- The comparing function literal of shucklaw1.TextLines, all its cases. -/
import Derived.Test.YtponficlejjafaaDoorK6t
import Derived.Test.YtponficlejjafaaDoorK6s
import Derived.Test.YtponficlejjafaaDoorK6a
import Derived.Test.YtponficlejjafaaDoorK6n
namespace Go.Proofs.YtponficlejjafaaDoor
set_option linter.unusedSimpArgs false
set_option linter.unusedVariables false
open Go.RowKit Go.Shelf

theorem cl24_reg (Bo Bn Bw Bb Bs : Nat) (n : Nat) (v : Value) (a : Option Addr) (len cap base b : Nat) (g : Nat → Int) (hlen : len ≤ 1048576) (at' : Nat) (S0 S1 : ByteArray) (A : World) (h1 : n ≤ 1048577)
    (ho : Boxed A Bo 4 (.bool true)) (hn : Boxed A Bn 3 (.int .i64 n)) (hw : Boxed A Bw 43 v) (hbb : Boxed A Bb 22 (.slice a len cap)) (hs : Boxed A Bs 9 (.string S0)) (hS : Sl A b (.slice a len cap) len g)
    (hown : A.ownsRow base 48 2 v (allL g len).length (rows2 (allL g len))) (d1 : Bo ≠ Bn) (d2 : Bo ≠ Bs) (d3 : Bn ≠ Bs) (d4 : Bw ≠ Bo) (d5 : Bb ≠ Bo) (d6 : b ≠ Bo) (q0 : S0.size ≤ 1099511627776) (q1 : S1.size ≤ 1099511627776) :
    Calls Tryd.prog 24 #[.int .i64 (at' : Int), .string S1, .pointer (some ⟨Bo, 0, none⟩), .pointer (some ⟨Bn, 0, none⟩), .pointer (some ⟨Bw, 0, none⟩), .pointer (some ⟨Bb, 0, none⟩), .pointer (some ⟨Bs, 0, none⟩)] A (Cl24P Bo Bn Bs n (fitsL g (allL g len) n at' S1) ((if 0 < n then S0 ++ ⟨#[10]⟩ else S0) ++ S1) A) := by
  rcases Nat.lt_or_ge n (allL g len).length with hlt | hge
  · obtain ⟨⟨xf, xt⟩, hx⟩ : ∃ x, (allL g len)[n]? = some x := ⟨_, List.getElem?_eq_getElem (by omega)⟩
    by_cases he : at' = xf
    · have he' : ((at' : Int) == (xf : Int)) = true := by simp [he]
      cases hr : (S1.toList == (strOfNums (sub g xf xt)).toList) with
      | true =>
        have hf : fitsL g (allL g len) n at' S1 = true := by simp [fitsL, hx, he, hr]
        rw [hf]
        by_cases hp : 0 < n
        · rw [if_pos hp]; exact cl24_tp Bo Bn Bw Bb Bs n v a len cap base b g hlen at' S0 S1 A h1 ho hn hw hbb hs hS hown d1 d2 d3 d4 d5 d6 q0 q1 xf xt hx he' hr hp
        · rw [if_neg hp]; exact cl24_tz Bo Bn Bw Bb Bs n v a len cap base b g hlen at' S0 S1 A h1 ho hn hw hbb hs hS hown d1 d2 d3 d4 d5 d6 q0 q1 xf xt hx he' hr hp
      | false =>
        have hf : fitsL g (allL g len) n at' S1 = false := by simp [fitsL, hx, he, hr]
        rw [hf]
        by_cases hp : 0 < n
        · rw [if_pos hp]; exact cl24_sp Bo Bn Bw Bb Bs n v a len cap base b g hlen at' S0 S1 A h1 ho hn hw hbb hs hS hown d1 d2 d3 d4 d5 d6 q0 q1 xf xt hx he' hr hp
        · rw [if_neg hp]; exact cl24_sz Bo Bn Bw Bb Bs n v a len cap base b g hlen at' S0 S1 A h1 ho hn hw hbb hs hS hown d1 d2 d3 d4 d5 d6 q0 q1 xf xt hx he' hr hp
    · have he' : ((at' : Int) == (xf : Int)) = false := by simp; omega
      have hf : fitsL g (allL g len) n at' S1 = false := by simp [fitsL, hx, he]
      rw [hf]
      by_cases hp : 0 < n
      · rw [if_pos hp]; exact cl24_ap Bo Bn Bw Bb Bs n v a len cap base b g hlen at' S0 S1 A h1 ho hn hw hbb hs hS hown d1 d2 d3 d4 d5 d6 q0 q1 xf xt hx he' hp
      · rw [if_neg hp]; exact cl24_az Bo Bn Bw Bb Bs n v a len cap base b g hlen at' S0 S1 A h1 ho hn hw hbb hs hS hown d1 d2 d3 d4 d5 d6 q0 q1 xf xt hx he' hp
  · have hf : fitsL g (allL g len) n at' S1 = false := by simp [fitsL, List.getElem?_eq_none hge]
    rw [hf]
    by_cases hp : 0 < n
    · rw [if_pos hp]; exact cl24_np Bo Bn Bw Bb Bs n v a len cap base b g hlen at' S0 S1 A h1 ho hn hw hbb hs hS hown d1 d2 d3 d4 d5 d6 q0 q1 hge hp
    · have := allL_length g len
      omega
end Go.Proofs.YtponficlejjafaaDoor
