/- Layer 8: joins. -/
import Derived.Test.YtjobibaeklbkmaaDoorEdP
set_option linter.unusedSimpArgs false
set_option linter.unusedVariables false
set_option linter.unnecessarySimpa false
set_option maxRecDepth 100000
namespace Go.Proofs.Evd
open Go.Proofs.Sur (W mem_bits andn andn_bit andn_le lsU lsU_mem)

/-- a weighted number of sets -/
def cw (w : Nat → Int) (F : W) : Int := sumI (fun s => if hs F s = true then w s else 0) 64
theorem len_lsU (f : Nat → Bool) : ∀ n s, ((lsU f s n).length : Int) = sumI (fun i => if f (s + i) = true then 1 else 0) n
  | 0, _ => rfl
  | n + 1, s => by
    have shift : ∀ (g : Nat → Int) n, sumI g (n + 1) = g 0 + sumI (fun i => g (i + 1)) n := by
      intro g n
      induction n with
      | zero => simp [sumI]
      | succ n ih => rw [sumI, ih]; simp only [sumI]; omega
    rw [shift]
    have e : sumI (fun i => if f (s + (i + 1)) = true then (1 : Int) else 0) n = ((lsU f (s + 1) n).length : Int) := by
      rw [len_lsU f n (s + 1)]; exact sumI_congr n (fun i _ => by rw [show s + (i + 1) = s + 1 + i by omega])
    rw [e]
    simp only [lsU, Nat.add_zero]
    split
    · simp; omega
    · simp
theorem len_elts (F : W) : ((elts F).length : Int) = cw (fun _ => 1) F := by
  rw [show elts F = lsU (fun i => F.getLsbD i) 0 64 from rfl, len_lsU]
  exact sumI_congr 64 (fun i _ => by simp only [Nat.zero_add])
/-! ### asking a join -/
end Go.Proofs.Evd

