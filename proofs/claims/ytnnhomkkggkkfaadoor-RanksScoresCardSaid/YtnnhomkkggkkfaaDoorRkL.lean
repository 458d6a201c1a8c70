/- Layer 2: cycles, by the program. -/
import Derived.Test.YtnnhomkkggkkfaaDoorRkF
import Derived.Test.YtnnhomkkggkkfaaDoorVm8
import Derived.KernelRfl
set_option linter.unusedSimpArgs false
set_option linter.unusedVariables false
set_option linter.unnecessarySimpa false
set_option maxHeartbeats 4000000
set_option maxRecDepth 100000
namespace Go.Proofs.Rnk
open Go Go.VM
open Go.Proofs.Sur (andn andn_bit andn_le i_wrap i_and i_or i_andn i_shl i_shr bit_01)

/-- the players behind a -/
abbrev gr (n a : Nat) : Nat := andn (alls n) (alls (a + 1))
/-- those behind a whom b beats -/
abbrev s1 (t : List Int) (a b : Nat) : Nat := sn t b &&& gr t.length a
abbrev tl (l : List Tri) : AV := .sl (trisA l) l.length (rmz 3 l)
abbrev hL0 (t : List Int) (r : Room) (l : List Tri) : H := ⟨[[ls t r], [tl l]], tkz l, []⟩
abbrev hL2 (t : List Int) (r : Room) (a k : Nat) (l : List Tri) : H := ⟨[[ls t r], [tl l], [I a], [I (gr t.length a : Nat)], [I (dI (s1 t a a : Nat) k)]], tkz l, []⟩
theorem players_itN {p : Pures} {β : Base} {b s : Nat} (hs : s < 256) {h0 : H} (hh : h0.blk[b]? = some [I (s : Nat)]) :
    IterOk Tryd.prog β 95 [.ptr b 0] h0 h0 (pc s) (pxs s) (powI b (s : Nat)) (pnxI b (s : Nat)) := players_itI (p := p) (x := (s : Int)) ⟨by omega, by omega⟩ hh
end Go.Proofs.Rnk

