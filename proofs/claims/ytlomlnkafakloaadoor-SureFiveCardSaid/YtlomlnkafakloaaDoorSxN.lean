/- Layer 5: the twelve cycles of five. -/
import Derived.Test.YtlomlnkafakloaaDoorSxM
set_option linter.unusedSimpArgs false
set_option linter.unusedVariables false
set_option linter.unnecessarySimpa false
namespace Go.Proofs.Sur
open Go Go.VM
set_option maxHeartbeats 4000000
set_option maxRecDepth 100000
theorem f1 : Five [18, 5, 10, 20, 9] := five_of (by decide) rfl (by decide +kernel) (by decide +kernel) [0, 7, 14, 16, 23] rfl (by decide +kernel) (by decide +kernel) (by decide +kernel)
theorem f2 : Five [10, 5, 18, 17, 12] := five_of (by decide) rfl (by decide +kernel) (by decide +kernel) [0, 7, 13, 19, 21] rfl (by decide +kernel) (by decide +kernel) (by decide +kernel)
theorem f3 : Five [18, 9, 24, 6, 5] := five_of (by decide) rfl (by decide +kernel) (by decide +kernel) [0, 8, 11, 19, 22] rfl (by decide +kernel) (by decide +kernel) (by decide +kernel)
theorem f4 : Five [6, 9, 17, 18, 12] := five_of (by decide) rfl (by decide +kernel) (by decide +kernel) [0, 8, 14, 17, 21] rfl (by decide +kernel) (by decide +kernel) (by decide +kernel)
theorem f5 : Five [10, 17, 24, 5, 6] := five_of (by decide) rfl (by decide +kernel) (by decide +kernel) [0, 9, 11, 17, 23] rfl (by decide +kernel) (by decide +kernel) (by decide +kernel)
theorem f6 : Five [6, 17, 9, 20, 10] := five_of (by decide) rfl (by decide +kernel) (by decide +kernel) [0, 9, 13, 16, 22] rfl (by decide +kernel) (by decide +kernel) (by decide +kernel)
theorem f7 : Five [20, 12, 3, 18, 9] := five_of (by decide) rfl (by decide +kernel) (by decide +kernel) [0, 9, 11, 17, 23] rfl (by decide +kernel) (by decide +kernel) (by decide +kernel)
theorem f8 : Five [12, 20, 3, 17, 10] := five_of (by decide) rfl (by decide +kernel) (by decide +kernel) [0, 8, 11, 19, 22] rfl (by decide +kernel) (by decide +kernel) (by decide +kernel)
theorem f9 : Five [20, 24, 9, 6, 3] := five_of (by decide) rfl (by decide +kernel) (by decide +kernel) [0, 7, 13, 19, 21] rfl (by decide +kernel) (by decide +kernel) (by decide +kernel)
theorem f10 : Five [12, 24, 17, 3, 6] := five_of (by decide) rfl (by decide +kernel) (by decide +kernel) [0, 7, 14, 16, 23] rfl (by decide +kernel) (by decide +kernel) (by decide +kernel)
theorem f11 : Five [24, 12, 18, 3, 5] := five_of (by decide) rfl (by decide +kernel) (by decide +kernel) [0, 9, 13, 16, 22] rfl (by decide +kernel) (by decide +kernel) (by decide +kernel)
theorem f12 : Five [24, 20, 10, 5, 3] := five_of (by decide) rfl (by decide +kernel) (by decide +kernel) [0, 8, 14, 17, 21] rfl (by decide +kernel) (by decide +kernel) (by decide +kernel)
/-- the graph under way: each is joined with the next one -/
def cyS (o : List Int) (g : List Int) (i : Nat) : List Int :=
  let x := at_ o i
  let y := at_ o ((i + 1) % 5)
  let g1 := g.set x.toNat ((((at_ g x.toNat).toNat ||| 2 ^ y.toNat : Nat) : Int))
  g1.set y.toNat ((((at_ g1 y.toNat).toNat ||| 2 ^ x.toNat : Nat) : Int))
def cyF (o : List Int) : Nat → List Int
  | 0 => [0, 0, 0, 0, 0]
  | i + 1 => cyS o (cyF o i) i
def twelve : List (List Int) := [[18, 5, 10, 20, 9], [10, 5, 18, 17, 12], [18, 9, 24, 6, 5], [6, 9, 17, 18, 12], [10, 17, 24, 5, 6], [6, 17, 9, 20, 10], [20, 12, 3, 18, 9], [12, 20, 3, 17, 10], [20, 24, 9, 6, 3], [12, 24, 17, 3, 6], [24, 12, 18, 3, 5], [24, 20, 10, 5, 3]]
theorem tw_five {g : List Int} (h : g ∈ twelve) : Five g := by
  simp only [twelve, List.mem_cons, List.not_mem_nil, or_false] at h
  rcases h with rfl | rfl | rfl | rfl | rfl | rfl | rfl | rfl | rfl | rfl | rfl | rfl
  · exact f1
  · exact f2
  · exact f3
  · exact f4
  · exact f5
  · exact f6
  · exact f7
  · exact f8
  · exact f9
  · exact f10
  · exact f11
  · exact f12
/-- all orders of five -/
def perms : List (List Int) := ((List.range 5).flatMap fun (a : Nat) => (List.range 5).flatMap fun (b : Nat) => (List.range 5).flatMap fun (c : Nat) => (List.range 5).flatMap fun (d : Nat) => (List.range 5).map fun (e : Nat) => [(a : Int), (b : Int), (c : Int), (d : Int), (e : Int)]).filter fun o => decide o.Nodup
theorem perms_tw : perms.all (fun o => decide (cyF o 5 ∈ twelve)) = true := by decide +kernel
theorem perms_mem {o : List Int} (hl : o.length = 5) (hr : ∀ i, i < 5 → 0 ≤ at_ o i ∧ at_ o i ≤ 4) (hn : o.Nodup) : o ∈ perms := by
  match o, hl with
  | [a, b, c, d, e], _ =>
    have ha := hr 0 (by decide)
    have hb := hr 1 (by decide)
    have hc := hr 2 (by decide)
    have hd := hr 3 (by decide)
    have he := hr 4 (by decide)
    simp only [at_, List.getD_cons_zero, List.getD_cons_succ] at ha hb hc hd he
    simp only [perms, List.mem_filter, List.mem_flatMap, List.mem_map, List.mem_range]
    refine ⟨⟨a.toNat, by omega, b.toNat, by omega, c.toNat, by omega, d.toNat, by omega, e.toNat, by omega, ?_⟩, by simpa using hn⟩
    simp; omega
theorem five_all {o : List Int} (hl : o.length = 5) (hr : ∀ i, i < 5 → 0 ≤ at_ o i ∧ at_ o i ≤ 4) (hn : o.Nodup) : Five (cyF o 5) := by
  have := List.all_eq_true.1 perms_tw o (perms_mem hl hr hn)
  exact tw_five (by simpa using this)
end Go.Proofs.Sur

