/- Layer 2: cycles, by the program. -/
import Derived.Test.YtnnhomkkggkkfaaDoorRkF
import Derived.Test.YtnnhomkkggkkfaaDoorVm8
import Derived.KernelRfl
set_option linter.unusedSimpArgs false
set_option linter.unusedVariables false
set_option linter.unnecessarySimpa false
set_option maxHeartbeats 4000000
set_option maxRecDepth 100000
namespace Go.Proofs.Rnk
open Go Go.VM
open Go.Proofs.Sur (andn andn_bit andn_le i_wrap i_and i_or i_andn i_shl i_shr bit_01)

/-- the players behind a -/
abbrev gr (n a : Nat) : Nat := andn (alls n) (alls (a + 1))
theorem gr_bit {n a b : Nat} (h : n ≤ 8) : (gr n a).testBit b = true ↔ a < b ∧ b < n := by
  have : alls n < 9223372036854775808 := by have := pow8 h; simp only [alls]; omega
  rw [gr, andn_bit this, alls_bit, alls_bit]
  simp only [Bool.and_eq_true, decide_eq_true_eq, Bool.not_eq_true', decide_eq_false_iff_not]
  omega
/-- those behind a whom b beats -/
abbrev s1 (t : List Int) (a b : Nat) : Nat := sn t b &&& gr t.length a
theorem s1_bit {t : List Int} (h : Tn t) {a b c : Nat} : (s1 t a b).testBit c = true ↔ bt t b c = true ∧ a < c := by
  rw [s1, Nat.testBit_and, Bool.and_eq_true, gr_bit h.s.2]
  constructor
  · rintro ⟨h1, h2⟩; exact ⟨h1, h2.1⟩
  · rintro ⟨h1, h2⟩; exact ⟨h1, h2, (h.lt h1).2⟩
abbrev tri (a b c : Nat) : Tri := ((a : Int), (b : Int), (c : Int))
def cc3 (t : List Int) (a b : Nat) (acc : List Tri) : Nat → List Tri
  | 0 => acc
  | k + 1 => if bt t (el (s1 t a b) k) a = true then cc3 t a b acc k ++ [tri a b (el (s1 t a b) k)] else cc3 t a b acc k
def cc2 (t : List Int) (a : Nat) (acc : List Tri) : Nat → List Tri
  | 0 => acc
  | k + 1 => cc3 t a (el (s1 t a a) k) (cc2 t a acc k) (pc (s1 t a (el (s1 t a a) k)))
def cc1 (t : List Int) : Nat → List Tri
  | 0 => []
  | a + 1 => cc2 t a (cc1 t a) (pc (s1 t a a))
abbrev cyc (t : List Int) : List Tri := cc1 t t.length
abbrev tl (l : List Tri) : AV := .sl (trisA l) l.length (rmz 3 l)
abbrev hL0 (t : List Int) (r : Room) (l : List Tri) : H := ⟨[[ls t r], [tl l]], tkz l, []⟩
abbrev hL2 (t : List Int) (r : Room) (a k : Nat) (l : List Tri) : H := ⟨[[ls t r], [tl l], [I a], [I (gr t.length a : Nat)], [I (dI (s1 t a a : Nat) k)]], tkz l, []⟩
theorem players_itN {p : Pures} {β : Base} {b s : Nat} (hs : s < 256) {h0 : H} (hh : h0.blk[b]? = some [I (s : Nat)]) :
    IterOk Tryd.prog β 95 [.ptr b 0] h0 h0 (pc s) (pxs s) (powI b (s : Nat)) (pnxI b (s : Nat)) := players_itI (p := p) (x := (s : Int)) ⟨by omega, by omega⟩ hh
end Go.Proofs.Rnk

