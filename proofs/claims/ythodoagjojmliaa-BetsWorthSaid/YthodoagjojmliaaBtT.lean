/- Layer 9: the law of averages (P9.7). -/
import Derived.Test.YthodoagjojmliaaBtS
import Derived.KernelRfl
set_option linter.unusedSimpArgs false
set_option linter.unusedVariables false
set_option linter.unnecessarySimpa false
set_option maxHeartbeats 4000000
set_option maxRecDepth 100000
namespace Go.Proofs.Bts
open Go Go.VM

theorem or_reads {P : Program} {c d : Ctr P} {hf : d.f = c.f} {hd : ∀ x y h, c.args x = d.args y → c.pre x h → d.pre y h → c.res x h = d.res y h} (h1 : c.Reads) (h2 : d.Reads) : (Ctr.or c d hf hd).Reads := by
  refine ⟨fun x h h' => ?_, fun x h zs hp => ?_⟩
  · cases x
    · exact h1.1 _ h h'
    · exact h2.1 _ h h'
  · cases x
    · exact h1.2 _ h zs hp
    · exact h2.2 _ h zs hp
abbrev hT (p : Pr) (m : List Pr) : H := ⟨[[I p.1, I p.2], pairsA m], [], []⟩
end Go.Proofs.Bts

