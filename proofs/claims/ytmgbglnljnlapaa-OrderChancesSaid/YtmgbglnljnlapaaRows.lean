/-
  No cell of these rows narrows 'for every input' (looked for: loops, veiled, ifaces, maps, wideKeys, modest, calm, conditions, laid).
  DERIVED. THE GIVEN ROWS OF THIS SEAT. 14 by the template 'for every input the law returns true; each argument reads behind the call as it read before'; 0 by the template 'total and deterministic' (their statements: YtmgbglnljnlapaaTotals.lean).
  GIVEN WITH THE SEED: the statements are not yours to turn. If you find one false, say at which input.
  Laid BY PROGRAM, IN A SANDBOX (cutbox-rows.mjs): the forced cells as the released guide's own fill.sh prints them over the translation dd7e6fad0ca58fbc… (all of the seat's roots in one cut). By AI agents, Wed Nov 11 2026. No macro, syntax, notation, axiom, sorry.
-/
import Derived.Test.YtmgbglnljnlapaaChecked
import GoSem.Claim
import GoSem.ClaimJoined
import GoSem.ClaimMapViews
import Derived.JoinedTies
import Derived.KernelRfl
namespace Go.Proofs.Ytmgbglnljnlapaa
/- THE CELL 'sum', in the pinned program and in every row, IS THE sha256 OF THE DUMP (.gsa) THAT YtmgbglnljnlapaaProg.lean LOADS. Nothing in Lean hashes anything: it is a label: what it is worth is what the hold of that sum in a sandbox is worth. -/
noncomputable def Try.pinned : Pinned := { name := "ytmgbglnljnlapaa", sum := "dd7e6fad0ca58fbc82013555bc3e55a59b199d3ea57e4ba76447202938253474", checked := Try.checked }
namespace Rows
def none {H : Type} : Left H := { results := [], args := [] }

/-- 'planchetlaw07.OrderMakes': WHATEVER THE INPUT: true; the input reads as it did. -/
def orderMakesSpec : ChangeSpec := { name := "orderMakes", fn := fun _ => fun
  | [d1, d2, d3, d4, d5] => { results := [.lit (.bool true)], args := [d1, d2, d3, d4, d5] }
  | _ => none }
def orderMakesRow : OpenClaim := { program := "ytmgbglnljnlapaa", sum := "dd7e6fad0ca58fbc82013555bc3e55a59b199d3ea57e4ba76447202938253474", func := "planchet/planchetlaw07.OrderMakes", spec := "orderMakes", plainKeys := false, apart := false }
def OrderMakesSaid : Prop := orderMakesRow.holds Try.pinned (OpenSpec.ofChange orderMakesSpec)

/-- ITS FALSE NEIGHBOUR: 'it returns false'. Refute it at one input. -/
def orderMakesWrong : ChangeSpec := { name := "orderMakes", fn := fun _ => fun
  | [d1, d2, d3, d4, d5] => { results := [.lit (.bool false)], args := [d1, d2, d3, d4, d5] }
  | _ => none }
def OrderMakesWrongFalsely : Prop := orderMakesRow.holds Try.pinned (OpenSpec.ofChange orderMakesWrong)

/-- 'planchetlaw07.OrderLines': WHATEVER THE INPUT: true; the input reads as it did. -/
def orderLinesSpec : ChangeSpec := { name := "orderLines", fn := fun _ => fun
  | [d] => { results := [.lit (.bool true)], args := [d] }
  | _ => none }
def orderLinesRow : OpenClaim := { program := "ytmgbglnljnlapaa", sum := "dd7e6fad0ca58fbc82013555bc3e55a59b199d3ea57e4ba76447202938253474", func := "planchet/planchetlaw07.OrderLines", spec := "orderLines", unfollowed := true, recurses := true, plainKeys := false, apart := false }
def OrderLinesSaid : Prop := orderLinesRow.holds Try.pinned (OpenSpec.ofChange orderLinesSpec)

/-- ITS FALSE NEIGHBOUR: 'it returns false'. Refute it at one input. -/
def orderLinesWrong : ChangeSpec := { name := "orderLines", fn := fun _ => fun
  | [d] => { results := [.lit (.bool false)], args := [d] }
  | _ => none }
def OrderLinesWrongFalsely : Prop := orderLinesRow.holds Try.pinned (OpenSpec.ofChange orderLinesWrong)

/-- 'planchetlaw07.OrderChances': WHATEVER THE INPUT: true; the input reads as it did. -/
def orderChancesSpec : ChangeSpec := { name := "orderChances", fn := fun _ => fun
  | [d1, d2, d3] => { results := [.lit (.bool true)], args := [d1, d2, d3] }
  | _ => none }
def orderChancesRow : OpenClaim := { program := "ytmgbglnljnlapaa", sum := "dd7e6fad0ca58fbc82013555bc3e55a59b199d3ea57e4ba76447202938253474", func := "planchet/planchetlaw07.OrderChances", spec := "orderChances", recurses := true, plainKeys := false, apart := false }
def OrderChancesSaid : Prop := orderChancesRow.holds Try.pinned (OpenSpec.ofChange orderChancesSpec)

/-- ITS FALSE NEIGHBOUR: 'it returns false'. Refute it at one input. -/
def orderChancesWrong : ChangeSpec := { name := "orderChances", fn := fun _ => fun
  | [d1, d2, d3] => { results := [.lit (.bool false)], args := [d1, d2, d3] }
  | _ => none }
def OrderChancesWrongFalsely : Prop := orderChancesRow.holds Try.pinned (OpenSpec.ofChange orderChancesWrong)

/-- 'planchetlaw07.OrderEven': WHATEVER THE INPUT: true; the input reads as it did. -/
def orderEvenSpec : ChangeSpec := { name := "orderEven", fn := fun _ => fun
  | [d] => { results := [.lit (.bool true)], args := [d] }
  | _ => none }
def orderEvenRow : OpenClaim := { program := "ytmgbglnljnlapaa", sum := "dd7e6fad0ca58fbc82013555bc3e55a59b199d3ea57e4ba76447202938253474", func := "planchet/planchetlaw07.OrderEven", spec := "orderEven", unfollowed := true, recurses := true, plainKeys := false, apart := false }
def OrderEvenSaid : Prop := orderEvenRow.holds Try.pinned (OpenSpec.ofChange orderEvenSpec)

/-- ITS FALSE NEIGHBOUR: 'it returns false'. Refute it at one input. -/
def orderEvenWrong : ChangeSpec := { name := "orderEven", fn := fun _ => fun
  | [d] => { results := [.lit (.bool false)], args := [d] }
  | _ => none }
def OrderEvenWrongFalsely : Prop := orderEvenRow.holds Try.pinned (OpenSpec.ofChange orderEvenWrong)

/-- 'planchetlaw07.OrderChains': WHATEVER THE INPUT: true; the input reads as it did. -/
def orderChainsSpec : ChangeSpec := { name := "orderChains", fn := fun _ => fun
  | [d] => { results := [.lit (.bool true)], args := [d] }
  | _ => none }
def orderChainsRow : OpenClaim := { program := "ytmgbglnljnlapaa", sum := "dd7e6fad0ca58fbc82013555bc3e55a59b199d3ea57e4ba76447202938253474", func := "planchet/planchetlaw07.OrderChains", spec := "orderChains", recurses := true, plainKeys := false, apart := false }
def OrderChainsSaid : Prop := orderChainsRow.holds Try.pinned (OpenSpec.ofChange orderChainsSpec)

/-- ITS FALSE NEIGHBOUR: 'it returns false'. Refute it at one input. -/
def orderChainsWrong : ChangeSpec := { name := "orderChains", fn := fun _ => fun
  | [d] => { results := [.lit (.bool false)], args := [d] }
  | _ => none }
def OrderChainsWrongFalsely : Prop := orderChainsRow.holds Try.pinned (OpenSpec.ofChange orderChainsWrong)

/-- 'planchetlaw07.OrderSorts': WHATEVER THE INPUT: true; the input reads as it did. -/
def orderSortsSpec : ChangeSpec := { name := "orderSorts", fn := fun _ => fun
  | [d1, d2] => { results := [.lit (.bool true)], args := [d1, d2] }
  | _ => none }
def orderSortsRow : OpenClaim := { program := "ytmgbglnljnlapaa", sum := "dd7e6fad0ca58fbc82013555bc3e55a59b199d3ea57e4ba76447202938253474", func := "planchet/planchetlaw07.OrderSorts", spec := "orderSorts", recurses := true, plainKeys := false, apart := false }
def OrderSortsSaid : Prop := orderSortsRow.holds Try.pinned (OpenSpec.ofChange orderSortsSpec)

/-- ITS FALSE NEIGHBOUR: 'it returns false'. Refute it at one input. -/
def orderSortsWrong : ChangeSpec := { name := "orderSorts", fn := fun _ => fun
  | [d1, d2] => { results := [.lit (.bool false)], args := [d1, d2] }
  | _ => none }
def OrderSortsWrongFalsely : Prop := orderSortsRow.holds Try.pinned (OpenSpec.ofChange orderSortsWrong)

/-- 'planchetlaw07.OrderReals': WHATEVER THE INPUT: true; the input reads as it did. -/
def orderRealsSpec : ChangeSpec := { name := "orderReals", fn := fun _ => fun
  | [d] => { results := [.lit (.bool true)], args := [d] }
  | _ => none }
def orderRealsRow : OpenClaim := { program := "ytmgbglnljnlapaa", sum := "dd7e6fad0ca58fbc82013555bc3e55a59b199d3ea57e4ba76447202938253474", func := "planchet/planchetlaw07.OrderReals", spec := "orderReals", unfollowed := true, recurses := true, plainKeys := false, apart := false }
def OrderRealsSaid : Prop := orderRealsRow.holds Try.pinned (OpenSpec.ofChange orderRealsSpec)

/-- ITS FALSE NEIGHBOUR: 'it returns false'. Refute it at one input. -/
def orderRealsWrong : ChangeSpec := { name := "orderReals", fn := fun _ => fun
  | [d] => { results := [.lit (.bool false)], args := [d] }
  | _ => none }
def OrderRealsWrongFalsely : Prop := orderRealsRow.holds Try.pinned (OpenSpec.ofChange orderRealsWrong)

/-- 'planchetlaw07.OrderCounts': WHATEVER THE INPUT: true; the input reads as it did. -/
def orderCountsSpec : ChangeSpec := { name := "orderCounts", fn := fun _ => fun
  | [d1, d2, d3] => { results := [.lit (.bool true)], args := [d1, d2, d3] }
  | _ => none }
def orderCountsRow : OpenClaim := { program := "ytmgbglnljnlapaa", sum := "dd7e6fad0ca58fbc82013555bc3e55a59b199d3ea57e4ba76447202938253474", func := "planchet/planchetlaw07.OrderCounts", spec := "orderCounts", plainKeys := false, apart := false }
def OrderCountsSaid : Prop := orderCountsRow.holds Try.pinned (OpenSpec.ofChange orderCountsSpec)

/-- ITS FALSE NEIGHBOUR: 'it returns false'. Refute it at one input. -/
def orderCountsWrong : ChangeSpec := { name := "orderCounts", fn := fun _ => fun
  | [d1, d2, d3] => { results := [.lit (.bool false)], args := [d1, d2, d3] }
  | _ => none }
def OrderCountsWrongFalsely : Prop := orderCountsRow.holds Try.pinned (OpenSpec.ofChange orderCountsWrong)

/-- 'planchetlaw07.OrderSums': WHATEVER THE INPUT: true; the input reads as it did. -/
def orderSumsSpec : ChangeSpec := { name := "orderSums", fn := fun _ => fun
  | [d1, d2, d3] => { results := [.lit (.bool true)], args := [d1, d2, d3] }
  | _ => none }
def orderSumsRow : OpenClaim := { program := "ytmgbglnljnlapaa", sum := "dd7e6fad0ca58fbc82013555bc3e55a59b199d3ea57e4ba76447202938253474", func := "planchet/planchetlaw07.OrderSums", spec := "orderSums", unfollowed := true, recurses := true, plainKeys := false, apart := false }
def OrderSumsSaid : Prop := orderSumsRow.holds Try.pinned (OpenSpec.ofChange orderSumsSpec)

/-- ITS FALSE NEIGHBOUR: 'it returns false'. Refute it at one input. -/
def orderSumsWrong : ChangeSpec := { name := "orderSums", fn := fun _ => fun
  | [d1, d2, d3] => { results := [.lit (.bool false)], args := [d1, d2, d3] }
  | _ => none }
def OrderSumsWrongFalsely : Prop := orderSumsRow.holds Try.pinned (OpenSpec.ofChange orderSumsWrong)

/-- 'planchetlaw07.OrderDilworth': WHATEVER THE INPUT: true; the input reads as it did. -/
def orderDilworthSpec : ChangeSpec := { name := "orderDilworth", fn := fun _ => fun
  | [d] => { results := [.lit (.bool true)], args := [d] }
  | _ => none }
def orderDilworthRow : OpenClaim := { program := "ytmgbglnljnlapaa", sum := "dd7e6fad0ca58fbc82013555bc3e55a59b199d3ea57e4ba76447202938253474", func := "planchet/planchetlaw07.OrderDilworth", spec := "orderDilworth", recurses := true, plainKeys := false, apart := false }
def OrderDilworthSaid : Prop := orderDilworthRow.holds Try.pinned (OpenSpec.ofChange orderDilworthSpec)

/-- ITS FALSE NEIGHBOUR: 'it returns false'. Refute it at one input. -/
def orderDilworthWrong : ChangeSpec := { name := "orderDilworth", fn := fun _ => fun
  | [d] => { results := [.lit (.bool false)], args := [d] }
  | _ => none }
def OrderDilworthWrongFalsely : Prop := orderDilworthRow.holds Try.pinned (OpenSpec.ofChange orderDilworthWrong)

/-- 'planchetlaw07.OrderNeeds': WHATEVER THE INPUT: true; the input reads as it did. -/
def orderNeedsSpec : ChangeSpec := { name := "orderNeeds", fn := fun _ => fun
  | [d1, d2, d3] => { results := [.lit (.bool true)], args := [d1, d2, d3] }
  | _ => none }
def orderNeedsRow : OpenClaim := { program := "ytmgbglnljnlapaa", sum := "dd7e6fad0ca58fbc82013555bc3e55a59b199d3ea57e4ba76447202938253474", func := "planchet/planchetlaw07.OrderNeeds", spec := "orderNeeds", recurses := true, plainKeys := false, apart := false }
def OrderNeedsSaid : Prop := orderNeedsRow.holds Try.pinned (OpenSpec.ofChange orderNeedsSpec)

/-- ITS FALSE NEIGHBOUR: 'it returns false'. Refute it at one input. -/
def orderNeedsWrong : ChangeSpec := { name := "orderNeeds", fn := fun _ => fun
  | [d1, d2, d3] => { results := [.lit (.bool false)], args := [d1, d2, d3] }
  | _ => none }
def OrderNeedsWrongFalsely : Prop := orderNeedsRow.holds Try.pinned (OpenSpec.ofChange orderNeedsWrong)

/-- 'planchetlaw07.OrderTurned': WHATEVER THE INPUT: true; the input reads as it did. -/
def orderTurnedSpec : ChangeSpec := { name := "orderTurned", fn := fun _ => fun
  | [d1, d2] => { results := [.lit (.bool true)], args := [d1, d2] }
  | _ => none }
def orderTurnedRow : OpenClaim := { program := "ytmgbglnljnlapaa", sum := "dd7e6fad0ca58fbc82013555bc3e55a59b199d3ea57e4ba76447202938253474", func := "planchet/planchetlaw07.OrderTurned", spec := "orderTurned", unfollowed := true, recurses := true, plainKeys := false, apart := false }
def OrderTurnedSaid : Prop := orderTurnedRow.holds Try.pinned (OpenSpec.ofChange orderTurnedSpec)

/-- ITS FALSE NEIGHBOUR: 'it returns false'. Refute it at one input. -/
def orderTurnedWrong : ChangeSpec := { name := "orderTurned", fn := fun _ => fun
  | [d1, d2] => { results := [.lit (.bool false)], args := [d1, d2] }
  | _ => none }
def OrderTurnedWrongFalsely : Prop := orderTurnedRow.holds Try.pinned (OpenSpec.ofChange orderTurnedWrong)

/-- 'planchetlaw07.OrderDims': WHATEVER THE INPUT: true; the input reads as it did. -/
def orderDimsSpec : ChangeSpec := { name := "orderDims", fn := fun _ => fun
  | [d] => { results := [.lit (.bool true)], args := [d] }
  | _ => none }
def orderDimsRow : OpenClaim := { program := "ytmgbglnljnlapaa", sum := "dd7e6fad0ca58fbc82013555bc3e55a59b199d3ea57e4ba76447202938253474", func := "planchet/planchetlaw07.OrderDims", spec := "orderDims", unfollowed := true, recurses := true, plainKeys := false, apart := false }
def OrderDimsSaid : Prop := orderDimsRow.holds Try.pinned (OpenSpec.ofChange orderDimsSpec)

/-- ITS FALSE NEIGHBOUR: 'it returns false'. Refute it at one input. -/
def orderDimsWrong : ChangeSpec := { name := "orderDims", fn := fun _ => fun
  | [d] => { results := [.lit (.bool false)], args := [d] }
  | _ => none }
def OrderDimsWrongFalsely : Prop := orderDimsRow.holds Try.pinned (OpenSpec.ofChange orderDimsWrong)

/-- 'planchetlaw07.OrderClosed': WHATEVER THE INPUT: true; the input reads as it did. -/
def orderClosedSpec : ChangeSpec := { name := "orderClosed", fn := fun _ => fun
  | [d1, d2, d3, d4] => { results := [.lit (.bool true)], args := [d1, d2, d3, d4] }
  | _ => none }
def orderClosedRow : OpenClaim := { program := "ytmgbglnljnlapaa", sum := "dd7e6fad0ca58fbc82013555bc3e55a59b199d3ea57e4ba76447202938253474", func := "planchet/planchetlaw07.OrderClosed", spec := "orderClosed", plainKeys := false, apart := false }
def OrderClosedSaid : Prop := orderClosedRow.holds Try.pinned (OpenSpec.ofChange orderClosedSpec)

/-- ITS FALSE NEIGHBOUR: 'it returns false'. Refute it at one input. -/
def orderClosedWrong : ChangeSpec := { name := "orderClosed", fn := fun _ => fun
  | [d1, d2, d3, d4] => { results := [.lit (.bool false)], args := [d1, d2, d3, d4] }
  | _ => none }
def OrderClosedWrongFalsely : Prop := orderClosedRow.holds Try.pinned (OpenSpec.ofChange orderClosedWrong)

/- THE SECOND FORM. 'bulk': how many values and letters a reading holds, each counted each time it is reached (what is shared counts as often as it is met; a slice's spare places count too). A statement '..UptoSaid' is the law's where the arguments, and the package variables that the reading takes, are together of bulk at most 1048576: NARROWER than '..Said'. Prove '..Said' where nothing that the law and all that it calls make is longer than what came in: it says more and counts as full. Else prove '..UptoSaid'. A law counts once. -/
mutual
def uptoBulk {H : Type} : DataW H → Nat
  | .lit (.string bytes) => bytes.length + 1
  | .lit _ => 1
  | .nil => 1
  | .ptr d => uptoBulk d + 1
  | .slice elems spare => uptoBulkAll elems + uptoBulkAll spare + 1
  | .agg parts => uptoBulkAll parts + 1
  | .iface _ d => uptoBulk d + 1
  | .map entries => uptoBulkEntries entries + 1
  | .held _ => 1
def uptoBulkAll {H : Type} : List (DataW H) → Nat
  | [] => 0
  | d :: r => uptoBulk d + uptoBulkAll r
def uptoBulkEntries {H : Type} : List (Lit × DataW H) → Nat
  | [] => 0
  | x :: r => uptoBulkEntry x + uptoBulkEntries r
def uptoBulkEntry {H : Type} : Lit × DataW H → Nat
  | (.string bytes, d) => bytes.length + uptoBulk d + 1
  | (_, d) => uptoBulk d + 1
 end
def uptoSmall : (H : Type) → List (DataW H) → Bool := fun _ ds => decide (uptoBulkAll ds ≤ 1048576)
def OpenSpec.upto (s : _root_.Go.ChangeSpec) : _root_.Go.OpenSpec := { _root_.Go.OpenSpec.ofChange s with cond := some uptoSmall }

/-- 'planchetlaw07.OrderMakes', WHERE WHAT IT READS IS OF BULK AT MOST 1048576: true; the input reads as it did. -/
def orderMakesUptoRow : OpenClaim := { program := "ytmgbglnljnlapaa", sum := "dd7e6fad0ca58fbc82013555bc3e55a59b199d3ea57e4ba76447202938253474", func := "planchet/planchetlaw07.OrderMakes", spec := "orderMakes", plainKeys := false, apart := false, narrowed := true }
def OrderMakesUptoSaid : Prop := orderMakesUptoRow.holds Try.pinned (OpenSpec.upto orderMakesSpec)

/-- 'planchetlaw07.OrderLines', WHERE WHAT IT READS IS OF BULK AT MOST 1048576: true; the input reads as it did. -/
def orderLinesUptoRow : OpenClaim := { program := "ytmgbglnljnlapaa", sum := "dd7e6fad0ca58fbc82013555bc3e55a59b199d3ea57e4ba76447202938253474", func := "planchet/planchetlaw07.OrderLines", spec := "orderLines", unfollowed := true, recurses := true, plainKeys := false, apart := false, narrowed := true }
def OrderLinesUptoSaid : Prop := orderLinesUptoRow.holds Try.pinned (OpenSpec.upto orderLinesSpec)

/-- 'planchetlaw07.OrderChances', WHERE WHAT IT READS IS OF BULK AT MOST 1048576: true; the input reads as it did. -/
def orderChancesUptoRow : OpenClaim := { program := "ytmgbglnljnlapaa", sum := "dd7e6fad0ca58fbc82013555bc3e55a59b199d3ea57e4ba76447202938253474", func := "planchet/planchetlaw07.OrderChances", spec := "orderChances", recurses := true, plainKeys := false, apart := false, narrowed := true }
def OrderChancesUptoSaid : Prop := orderChancesUptoRow.holds Try.pinned (OpenSpec.upto orderChancesSpec)

/-- 'planchetlaw07.OrderEven', WHERE WHAT IT READS IS OF BULK AT MOST 1048576: true; the input reads as it did. -/
def orderEvenUptoRow : OpenClaim := { program := "ytmgbglnljnlapaa", sum := "dd7e6fad0ca58fbc82013555bc3e55a59b199d3ea57e4ba76447202938253474", func := "planchet/planchetlaw07.OrderEven", spec := "orderEven", unfollowed := true, recurses := true, plainKeys := false, apart := false, narrowed := true }
def OrderEvenUptoSaid : Prop := orderEvenUptoRow.holds Try.pinned (OpenSpec.upto orderEvenSpec)

/-- 'planchetlaw07.OrderChains', WHERE WHAT IT READS IS OF BULK AT MOST 1048576: true; the input reads as it did. -/
def orderChainsUptoRow : OpenClaim := { program := "ytmgbglnljnlapaa", sum := "dd7e6fad0ca58fbc82013555bc3e55a59b199d3ea57e4ba76447202938253474", func := "planchet/planchetlaw07.OrderChains", spec := "orderChains", recurses := true, plainKeys := false, apart := false, narrowed := true }
def OrderChainsUptoSaid : Prop := orderChainsUptoRow.holds Try.pinned (OpenSpec.upto orderChainsSpec)

/-- 'planchetlaw07.OrderSorts', WHERE WHAT IT READS IS OF BULK AT MOST 1048576: true; the input reads as it did. -/
def orderSortsUptoRow : OpenClaim := { program := "ytmgbglnljnlapaa", sum := "dd7e6fad0ca58fbc82013555bc3e55a59b199d3ea57e4ba76447202938253474", func := "planchet/planchetlaw07.OrderSorts", spec := "orderSorts", recurses := true, plainKeys := false, apart := false, narrowed := true }
def OrderSortsUptoSaid : Prop := orderSortsUptoRow.holds Try.pinned (OpenSpec.upto orderSortsSpec)

/-- 'planchetlaw07.OrderReals', WHERE WHAT IT READS IS OF BULK AT MOST 1048576: true; the input reads as it did. -/
def orderRealsUptoRow : OpenClaim := { program := "ytmgbglnljnlapaa", sum := "dd7e6fad0ca58fbc82013555bc3e55a59b199d3ea57e4ba76447202938253474", func := "planchet/planchetlaw07.OrderReals", spec := "orderReals", unfollowed := true, recurses := true, plainKeys := false, apart := false, narrowed := true }
def OrderRealsUptoSaid : Prop := orderRealsUptoRow.holds Try.pinned (OpenSpec.upto orderRealsSpec)

/-- 'planchetlaw07.OrderCounts', WHERE WHAT IT READS IS OF BULK AT MOST 1048576: true; the input reads as it did. -/
def orderCountsUptoRow : OpenClaim := { program := "ytmgbglnljnlapaa", sum := "dd7e6fad0ca58fbc82013555bc3e55a59b199d3ea57e4ba76447202938253474", func := "planchet/planchetlaw07.OrderCounts", spec := "orderCounts", plainKeys := false, apart := false, narrowed := true }
def OrderCountsUptoSaid : Prop := orderCountsUptoRow.holds Try.pinned (OpenSpec.upto orderCountsSpec)

/-- 'planchetlaw07.OrderSums', WHERE WHAT IT READS IS OF BULK AT MOST 1048576: true; the input reads as it did. -/
def orderSumsUptoRow : OpenClaim := { program := "ytmgbglnljnlapaa", sum := "dd7e6fad0ca58fbc82013555bc3e55a59b199d3ea57e4ba76447202938253474", func := "planchet/planchetlaw07.OrderSums", spec := "orderSums", unfollowed := true, recurses := true, plainKeys := false, apart := false, narrowed := true }
def OrderSumsUptoSaid : Prop := orderSumsUptoRow.holds Try.pinned (OpenSpec.upto orderSumsSpec)

/-- 'planchetlaw07.OrderDilworth', WHERE WHAT IT READS IS OF BULK AT MOST 1048576: true; the input reads as it did. -/
def orderDilworthUptoRow : OpenClaim := { program := "ytmgbglnljnlapaa", sum := "dd7e6fad0ca58fbc82013555bc3e55a59b199d3ea57e4ba76447202938253474", func := "planchet/planchetlaw07.OrderDilworth", spec := "orderDilworth", recurses := true, plainKeys := false, apart := false, narrowed := true }
def OrderDilworthUptoSaid : Prop := orderDilworthUptoRow.holds Try.pinned (OpenSpec.upto orderDilworthSpec)

/-- 'planchetlaw07.OrderNeeds', WHERE WHAT IT READS IS OF BULK AT MOST 1048576: true; the input reads as it did. -/
def orderNeedsUptoRow : OpenClaim := { program := "ytmgbglnljnlapaa", sum := "dd7e6fad0ca58fbc82013555bc3e55a59b199d3ea57e4ba76447202938253474", func := "planchet/planchetlaw07.OrderNeeds", spec := "orderNeeds", recurses := true, plainKeys := false, apart := false, narrowed := true }
def OrderNeedsUptoSaid : Prop := orderNeedsUptoRow.holds Try.pinned (OpenSpec.upto orderNeedsSpec)

/-- 'planchetlaw07.OrderTurned', WHERE WHAT IT READS IS OF BULK AT MOST 1048576: true; the input reads as it did. -/
def orderTurnedUptoRow : OpenClaim := { program := "ytmgbglnljnlapaa", sum := "dd7e6fad0ca58fbc82013555bc3e55a59b199d3ea57e4ba76447202938253474", func := "planchet/planchetlaw07.OrderTurned", spec := "orderTurned", unfollowed := true, recurses := true, plainKeys := false, apart := false, narrowed := true }
def OrderTurnedUptoSaid : Prop := orderTurnedUptoRow.holds Try.pinned (OpenSpec.upto orderTurnedSpec)

/-- 'planchetlaw07.OrderDims', WHERE WHAT IT READS IS OF BULK AT MOST 1048576: true; the input reads as it did. -/
def orderDimsUptoRow : OpenClaim := { program := "ytmgbglnljnlapaa", sum := "dd7e6fad0ca58fbc82013555bc3e55a59b199d3ea57e4ba76447202938253474", func := "planchet/planchetlaw07.OrderDims", spec := "orderDims", unfollowed := true, recurses := true, plainKeys := false, apart := false, narrowed := true }
def OrderDimsUptoSaid : Prop := orderDimsUptoRow.holds Try.pinned (OpenSpec.upto orderDimsSpec)

/-- 'planchetlaw07.OrderClosed', WHERE WHAT IT READS IS OF BULK AT MOST 1048576: true; the input reads as it did. -/
def orderClosedUptoRow : OpenClaim := { program := "ytmgbglnljnlapaa", sum := "dd7e6fad0ca58fbc82013555bc3e55a59b199d3ea57e4ba76447202938253474", func := "planchet/planchetlaw07.OrderClosed", spec := "orderClosed", plainKeys := false, apart := false, narrowed := true }
def OrderClosedUptoSaid : Prop := orderClosedUptoRow.holds Try.pinned (OpenSpec.upto orderClosedSpec)

end Rows
end Go.Proofs.Ytmgbglnljnlapaa
