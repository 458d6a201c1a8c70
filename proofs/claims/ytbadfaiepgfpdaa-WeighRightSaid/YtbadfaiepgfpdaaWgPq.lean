/- Layer 1: whether there is a right plan, by the reference: the search. -/
import Derived.Test.YtbadfaiepgfpdaaWgPp
import Derived.KernelRfl
set_option linter.unusedSimpArgs false
set_option linter.unusedVariables false
set_option linter.unnecessarySimpa false
set_option maxHeartbeats 4000000
set_option maxRecDepth 100000
namespace Go.Proofs.Weg
open Go Go.VM

/-- the search of the reference, over as many numbers as are left -/
def psb (k : Int) : Nat → Nat → Int → Int → Int → Int → Bool
  | _, 0, _, a, b, c => a == 0 && (b == 0 && (c == 0 && true))
  | 0, _ + 1, _, _, _, _ => false
  | d + 1, n + 1, x, a, b, c =>
    (decide (df k x = 1) &&
      ((decide (inR (n + 1 : Nat) (a + (-1) * d0 k x) (b + (-1) * d1 k x) (c + (-1) * d2 k x)) && psb k d n (x + 1) (a + (-1) * d0 k x) (b + (-1) * d1 k x) (c + (-1) * d2 k x)) ||
       (decide (inR (n + 1 : Nat) (a + 1 * d0 k x) (b + 1 * d1 k x) (c + 1 * d2 k x)) && psb k d n (x + 1) (a + 1 * d0 k x) (b + 1 * d1 k x) (c + 1 * d2 k x)))) ||
    psb k d (n + 1) (x + 1) a b c
abbrev pre65 (n : Nat) (d : Nat) (m k x al a b c : Int) : Prop := m = (n : Int) ∧ n ≤ 13 ∧ (k = 1 ∨ k = 2 ∨ k = 3) ∧ 1 ≤ x ∧ al ≤ 27 ∧ x + d = al ∧ far n a ∧ far n b ∧ far n c ∧ (k = 1 → b = 0) ∧ (k ≤ 2 → c = 0)
abbrev C65ok (n : Nat) : Prop := ∀ d m k x al a b c, pre65 n d m k x al a b c → CallOk Try.prog 65 [I m, I k, I x, I al, sA a b c] .nil (.bool (psb k d n x a b c)) .nil
theorem ok65 : FokM Try.prog none1 65 Try.f65 := ⟨mixed, by kernel_rfl, by kernel_rfl, by kernel_rfl, by kernel_rfl⟩
noncomputable def C65 (n : Nat) (ih : C65ok n) : PCtr Try.prog where
  f := 65
  X := Nat × Int × Int × Int × Int × Int × Int × Int × Bool
  args q := [I q.2.1, I q.2.2.1, I q.2.2.2.1, I q.2.2.2.2.1, sA q.2.2.2.2.2.1 q.2.2.2.2.2.2.1 q.2.2.2.2.2.2.2.1]
  pre q := pre65 n q.1 q.2.1 q.2.2.1 q.2.2.2.1 q.2.2.2.2.1 q.2.2.2.2.2.1 q.2.2.2.2.2.2.1 q.2.2.2.2.2.2.2.1 ∧ psb q.2.2.1 q.1 n q.2.2.2.1 q.2.2.2.2.2.1 q.2.2.2.2.2.2.1 q.2.2.2.2.2.2.2.1 = q.2.2.2.2.2.2.2.2
  v q := .bool q.2.2.2.2.2.2.2.2
  det := by
    rintro ⟨d, m, k, x, al, a, b, c, q⟩ ⟨d', m', k', x', al', a', b', c', q'⟩ e ⟨h, p⟩ ⟨h', p'⟩
    have e' : m = m' ∧ k = k' ∧ x = x' ∧ al = al' ∧ a = a' ∧ b = b' ∧ c = c' := by simpa using e
    obtain ⟨rfl, rfl, rfl, rfl, rfl, rfl, rfl⟩ := e'
    have hd : d = d' := by have h1 := h.2.2.2.2.2.1; have h2 := h'.2.2.2.2.2.1; simp only at h1 h2; omega
    subst hd
    have hq : q = q' := p.symm.trans p'
    rw [hq]
  ok := by
    rintro ⟨d, m, k, x, al, a, b, c, q⟩ ⟨p, e⟩
    simp only at p e
    subst e
    exact ⟨ok65.call, fun h => pure_call (ih d m k x al a b c p) rfl rfl h⟩
theorem dgs_bd (k x : Int) : bd1 (d0 k x) ∧ bd1 (d1 k x) ∧ bd1 (d2 k x) := by
  simp only [bd1, d0, d1, d2, dgs, dgt]
  split
  · simp only; omega
  · split <;> simp only <;> omega
theorem dgs_k1 (x : Int) : d1 1 x = 0 ∧ d2 1 x = 0 := ⟨rfl, rfl⟩
theorem dgs_k2 (x : Int) : d2 2 x = 0 := rfl
theorem lp65d (cs : List (Ctr Try.prog)) (hR : Rests (E65 cs) none1) (k x : Int) (hk : k = 1 ∨ k = 2 ∨ k = 3) (hx : 0 ≤ x ∧ x ≤ 100) (w0 w3 w9 w11 : AV) (s : List AV) :
    LoopS (E65 cs) (loopAt Try.f65 1) 100 [0, 1, 3, 9, 11, 12, 13, 14, 15] [w0, I k, w3, w9, w11, .ptr 1 0, I 0, I 0, I x] ⟨[s, [I 0, I 0, I 0]], [], []⟩ (o65d k x w0 w3 w9 w11 s) := by
  rcases hk with rfl | rfl | rfl
  · exact lp65d1 cs hR x hx w0 w3 w9 w11 s
  · exact lp65d2 cs hR x hx w0 w3 w9 w11 s
  · exact lp65d3 cs hR x hx w0 w3 w9 w11 s
theorem pre_nx {n d : Nat} {m k x al a b c : Int} (h : pre65 (n + 1) (d + 1) m k x al a b c) {s : Int} (hs : s = 1 ∨ s = -1) : pre65 n d (m - 1) k (x + 1) al (a + s * d0 k x) (b + s * d1 k x) (c + s * d2 k x) := by
  obtain ⟨h1, h2, h3, h4, h5, h6, h7, h8, h9, h10, h11⟩ := h
  obtain ⟨b0, b1, b2⟩ := dgs_bd k x
  refine ⟨by omega, by omega, h3, by omega, h5, by omega, ?_, ?_, ?_, fun hk => ?_, fun hk => ?_⟩
  · simp only [far, bd1] at *; rcases hs with rfl | rfl <;> omega
  · simp only [far, bd1] at *; rcases hs with rfl | rfl <;> omega
  · simp only [far, bd1] at *; rcases hs with rfl | rfl <;> omega
  · subst hk; rw [h10 rfl, (dgs_k1 x).1]; omega
  · have hc := h11 hk
    rcases h3 with rfl | rfl | rfl
    · rw [hc, (dgs_k1 x).2]; omega
    · rw [hc, dgs_k2 x]; omega
    · omega
end Go.Proofs.Weg
