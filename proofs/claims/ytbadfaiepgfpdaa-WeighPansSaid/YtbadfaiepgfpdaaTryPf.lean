/- The law of pans. -/
import Derived.Test.YtbadfaiepgfpdaaTryPe
namespace Go.Proofs.Wei
open Go Go.VM

def ps (l : List Int) : Nat → Int
  | 0 => 0
  | j + 1 => ps l j + (l.getD j 0) * 3 ^ j
def chk (k : Nat) : Bool :=
  let n : Int := (k : Int) - 1000
  let l := digs n
  digs (-n) == l.map (fun x => -x) && decide (l.length ≤ 7) && l.all (fun x => decide (-1 ≤ x) && decide (x ≤ 1)) && ps l l.length == n
theorem chk_all : (List.range 2001).all chk = true := by kernel_rfl
theorem digs_facts (n : Int) (h1 : -1000 ≤ n) (h2 : n ≤ 1000) : digs (-n) = (digs n).map (fun x => -x) ∧ (digs n).length ≤ 7 ∧ (∀ x ∈ digs n, -1 ≤ x ∧ x ≤ 1) ∧ ps (digs n) (digs n).length = n := by
  have := List.all_eq_true.1 chk_all (n + 1000).toNat (by rw [List.mem_range]; omega)
  have e : (((n + 1000).toNat : Nat) : Int) - 1000 = n := by omega
  unfold chk at this
  simp only [e, Bool.and_eq_true, beq_iff_eq, decide_eq_true_eq, List.all_eq_true] at this
  obtain ⟨⟨⟨a, b⟩, c⟩, d⟩ := this
  exact ⟨a, b, c, d⟩
theorem ps_bnd (l : List Int) (h : ∀ x ∈ l, -1 ≤ x ∧ x ≤ 1) : ∀ j, - (3 : Int) ^ j ≤ ps l j ∧ ps l j ≤ 3 ^ j
  | 0 => by simp [ps]
  | j + 1 => by
    have ih := ps_bnd l h j
    have hx : l.getD j 0 = -1 ∨ l.getD j 0 = 0 ∨ l.getD j 0 = 1 := by
      rw [List.getD_eq_getElem?_getD]
      cases hq : l[j]? with
      | none => simp
      | some x => have := h x (List.mem_of_getElem? hq); simp only [Option.getD_some]; omega
    have hp : (0 : Int) ≤ 3 ^ j := Int.pow_nonneg (by omega)
    simp only [ps, Int.pow_succ]
    rcases hx with hx | hx | hx <;> rw [hx] <;> omega
theorem fn9 : Try.prog.funcs[9]? = some Try.f9 := by kernel_rfl
theorem as9 : Try.f9.body = some (Try.f9.body.getD .skip) ∧ allSimple (Try.f9.body.getD .skip) = true := ⟨by kernel_rfl, by kernel_rfl⟩
@[simp] theorem sl44 (n : Int) (h : H) : sl9 44 [.int .i64 n] h = some (pv h.toks.length n, ⟨h.blk, h.toks ++ pt n, h.maps⟩) := by simp [sl9]
@[simp] theorem sl21 (h : H) : sl9 21 [] h = some (.bool true, h) := by simp [sl9]
end Go.Proofs.Wei
