/- Numbers as plain data. -/
import Derived.Test.YtpdkeggiokebmaaDoorX1
import Derived.Test.YtpdkeggiokebmaaDoorZP1
namespace Go.Proofs.YtpdkeggiokebmaaDoor
set_option linter.unusedSimpArgs false
set_option linter.unusedVariables false

/-- What so many decimal digits say. -/
def decV (g : Nat → Int) (i : Nat) : Nat → Int
  | 0 => 0
  | n + 1 => decV g i n * 10 + (g (i + n) - 48)
theorem isD_bd {c : Int} (h : isD c = true) : 48 ≤ c ∧ c ≤ 57 := by simpa [isD] using h
theorem decV_nn {g : Nat → Int} {i : Nat} : ∀ {n : Nat}, (∀ j, j < n → isD (g (i + j)) = true) → 0 ≤ decV g i n
  | 0, _ => by simp [decV]
  | n + 1, h => by
    have h1 := decV_nn (g := g) (i := i) (n := n) fun j hj => h j (by omega)
    have h2 := isD_bd (h n (by omega))
    simp only [decV]
    omega
theorem decV_up {g : Nat → Int} {i : Nat} {n : Nat} (h : ∀ j, j < n + 1 → isD (g (i + j)) = true) : decV g i n ≤ decV g i (n + 1) := by
  have h1 := decV_nn (g := g) (i := i) (n := n) fun j hj => h j (by omega)
  have h2 := isD_bd (h n (by omega))
  simp only [decV]
  omega
/-- Where the digits end. -/
def numEnd (g : Nat → Int) (len at' : Nat) : Nat := stopI isD g len at'
/-- Are the digits a number? -/
def numOk (g : Nat → Int) (len at' : Nat) : Bool :=
  decide (decV g at' (numEnd g len at' - at') ≤ 9007199254740991) && !(g at' == 48 && decide (at' + 1 < numEnd g len at')) && !(decide (numEnd g len at' < len) && isL (g (numEnd g len at')))
end Go.Proofs.YtpdkeggiokebmaaDoor
