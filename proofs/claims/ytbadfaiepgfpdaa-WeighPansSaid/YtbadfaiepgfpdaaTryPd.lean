/- The contracts that the law of pans wants. -/
import Derived.Test.YtbadfaiepgfpdaaTryPb
import Derived.Test.YtbadfaiepgfpdaaTryPc
namespace Go.Proofs.Wei
open Go Go.VM

def digs (n : Int) : List Int := dig 1000 n []
def pv (t : Nat) (n : Int) : AV := if -1000 ≤ n ∧ n ≤ 1000 then .tup [lv t (digs n), I 0] else .tup [lv t [], I 2]
def pt (n : Int) : List Nat := if -1000 ≤ n ∧ n ≤ 1000 then lt (digs n) else []

theorem shift_ints (l : List Int) (a b : Nat) : AV.shifts a b (ints l) = ints l := by
  induction l with
  | nil => rfl
  | cons x l ih => simp only [ints, List.map_cons, AV.shifts, AV.shift] at *; rw [ih]
theorem lv_shift (l : List Int) (a b : Nat) : (lv 0 l).shift a b = lv a l := by
  cases l with
  | nil => rfl
  | cons x l => simp only [lv, AV.shift, shift_ints, Room.shift, Nat.zero_add]
theorem pv_shift (n : Int) (a b : Nat) : (pv 0 n).shift a b = pv a n := by
  unfold pv; split <;> simp [AV.shift, AV.shifts, lv_shift]

theorem pans_run (p : Pures) (S : Summ) (n : Int) (hS : -1000 ≤ n → n ≤ 1000 → S 74 [I n] .nil = some (lv 0 (digs n), ⟨[], lt (digs n), []⟩)) :
    ebody Try.prog p S 2000 Try.f44 (Try.f44.body.getD .skip) [I n] .nil = some (pv 0 n, ⟨[], pt n, []⟩) := by
  by_cases h1 : n < -1000
  · have e1 : ¬ -1000 ≤ n := by omega
    simp [Try.f44, ebody, AV.undef, List.replicate, List.getD, h1, pv, pt, e1]
    exact leave_lv1 [] 2
  · by_cases h2 : 1000 < n
    · have e1 : ¬ n ≤ 1000 := by omega
      simp [Try.f44, ebody, AV.undef, List.replicate, List.getD, h1, h2, pv, pt, e1]
      exact leave_lv1 [] 2
    · have := hS (by omega) (by omega)
      simp only [H.nil] at this
      have e1 : -1000 ≤ n := by omega
      have e2 : n ≤ 1000 := by omega
      simp [Try.f44, ebody, AV.undef, List.replicate, List.getD, h1, h2, this, pv, pt, e1, e2]
end Go.Proofs.Wei
