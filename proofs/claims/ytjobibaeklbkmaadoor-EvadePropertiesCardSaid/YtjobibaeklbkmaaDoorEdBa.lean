/- Layer 8: pairs and their places, run. -/
import Derived.Test.YtjobibaeklbkmaaDoorEdE
import Derived.Test.YtjobibaeklbkmaaDoorVm6
import Derived.Test.YtjobibaeklbkmaaDoorVm2
import Derived.KernelRfl
set_option linter.unusedSimpArgs false
set_option linter.unusedVariables false
set_option linter.unnecessarySimpa false
set_option maxHeartbeats 4000000
set_option maxRecDepth 100000
namespace Go.Proofs.Evd
open Go Go.VM
open Go.Proofs.Sur (W w_wrap w_nat w_inj w_eq0 w_and w_or w_andn w_shl w_shr neg_nat sub_nat tz tz_ok cl bits_cons bits_0 bits_len andn andn_bit andn_le i_wrap i_and i_or i_andn i_shl i_shr bit_01)

/-! ### calls that are run: a table -/
structure PRow where
  f : FuncId
  args : List AV
  v : AV
  ok : callable Tryd.prog f = true ∧ ∀ h, CallOk Tryd.prog f args h v h
def tabP : List PRow → Pures
  | [], _, _ => none
  | r :: rs, f, args => if f == r.f && AV.beqs args r.args then some r.v else tabP rs f args
theorem tabP_ok : ∀ rs : List PRow, PureOk Tryd.prog (tabP rs)
  | [], f, args, v, he => by cases he
  | r :: rs, f, args, v, he => by
    simp only [tabP] at he
    split at he
    · rename_i hq
      simp only [Bool.and_eq_true, beq_iff_eq] at hq
      obtain ⟨rfl, h2⟩ := hq
      have h2 := AV.beqs_eq _ _ h2
      subst h2
      simp only [Option.some.injEq] at he
      subst he
      exact r.ok
    · exact tabP_ok rs f args v he
theorem pureBut_p (p : Pures) : PureBut (pureS p) none1 p := fun i _ args => ⟨fun _ => p i args, fun _ => rfl, fun _ _ _ h => h⟩
theorem s0 : SummOk Tryd.prog (pureS (tabP [])) := pureS_ok (tabP_ok [])
abbrev prA (l : List (Int × Int)) : AV := .sl (l.flatMap fun p => [I p.1, I p.2]) l.length .no
abbrev ps2 : List (Int × Int) := [(0, 1)]
theorem a96_2 : CallOk Tryd.prog 96 [I 2] .nil (prA ps2) .nil := by
  have : CallOk Tryd.prog 96 [I 2] .nil (.sl (ps2.flatMap fun p => [I p.1, I p.2]) 1 (.tok 0 2)) ⟨[], [1], []⟩ := acall_ok s0 (dsafeM_ok mixed s0 (pureBut_p _)) (n := 20) (by kernel_rfl)
  exact this.drop (by kernel_rfl)
abbrev ps3 : List (Int × Int) := [(0, 1), (0, 2), (1, 2)]
theorem a96_3 : CallOk Tryd.prog 96 [I 3] .nil (prA ps3) .nil := by
  have : CallOk Tryd.prog 96 [I 3] .nil (.sl (ps3.flatMap fun p => [I p.1, I p.2]) 3 (.tok 0 2)) ⟨[], [3], []⟩ := acall_ok s0 (dsafeM_ok mixed s0 (pureBut_p _)) (n := 20) (by kernel_rfl)
  exact this.drop (by kernel_rfl)
abbrev ps4 : List (Int × Int) := [(0, 1), (0, 2), (0, 3), (1, 2), (1, 3), (2, 3)]
theorem a96_4 : CallOk Tryd.prog 96 [I 4] .nil (prA ps4) .nil := by
  have : CallOk Tryd.prog 96 [I 4] .nil (.sl (ps4.flatMap fun p => [I p.1, I p.2]) 6 (.tok 0 2)) ⟨[], [6], []⟩ := acall_ok s0 (dsafeM_ok mixed s0 (pureBut_p _)) (n := 20) (by kernel_rfl)
  exact this.drop (by kernel_rfl)
theorem a160_0_0 : CallOk Tryd.prog 160 [I 0, I 0] .nil (I 1) .nil := acall_ok s0 (dsafeM_ok mixed s0 (pureBut_p _)) (n := 10) (by kernel_rfl)
theorem a160_0_1 : CallOk Tryd.prog 160 [I 0, I 1] .nil (I 0) .nil := acall_ok s0 (dsafeM_ok mixed s0 (pureBut_p _)) (n := 10) (by kernel_rfl)
theorem a160_0_2 : CallOk Tryd.prog 160 [I 0, I 2] .nil (I 0) .nil := acall_ok s0 (dsafeM_ok mixed s0 (pureBut_p _)) (n := 10) (by kernel_rfl)
theorem a160_1_0 : CallOk Tryd.prog 160 [I 1, I 0] .nil (I 0) .nil := acall_ok s0 (dsafeM_ok mixed s0 (pureBut_p _)) (n := 10) (by kernel_rfl)
theorem a160_1_1 : CallOk Tryd.prog 160 [I 1, I 1] .nil (I 2) .nil := acall_ok s0 (dsafeM_ok mixed s0 (pureBut_p _)) (n := 10) (by kernel_rfl)
theorem a160_1_2 : CallOk Tryd.prog 160 [I 1, I 2] .nil (I 1) .nil := acall_ok s0 (dsafeM_ok mixed s0 (pureBut_p _)) (n := 10) (by kernel_rfl)
theorem a160_2_0 : CallOk Tryd.prog 160 [I 2, I 0] .nil (I 2) .nil := acall_ok s0 (dsafeM_ok mixed s0 (pureBut_p _)) (n := 10) (by kernel_rfl)
theorem a160_2_1 : CallOk Tryd.prog 160 [I 2, I 1] .nil (I 1) .nil := acall_ok s0 (dsafeM_ok mixed s0 (pureBut_p _)) (n := 10) (by kernel_rfl)
theorem a160_2_2 : CallOk Tryd.prog 160 [I 2, I 2] .nil (I 3) .nil := acall_ok s0 (dsafeM_ok mixed s0 (pureBut_p _)) (n := 10) (by kernel_rfl)
theorem a160_3_0 : CallOk Tryd.prog 160 [I 3, I 0] .nil (I 3) .nil := acall_ok s0 (dsafeM_ok mixed s0 (pureBut_p _)) (n := 10) (by kernel_rfl)
theorem a160_3_1 : CallOk Tryd.prog 160 [I 3, I 1] .nil (I 3) .nil := acall_ok s0 (dsafeM_ok mixed s0 (pureBut_p _)) (n := 10) (by kernel_rfl)
theorem a160_3_2 : CallOk Tryd.prog 160 [I 3, I 2] .nil (I 2) .nil := acall_ok s0 (dsafeM_ok mixed s0 (pureBut_p _)) (n := 10) (by kernel_rfl)
theorem a161_2_0 : CallOk Tryd.prog 161 [prA ps2, .agg [I 0, I 1]] .nil (I 0) .nil := acall_ok s0 (dsafeM_ok mixed s0 (pureBut_p _)) (n := 20) (by kernel_rfl)
theorem a161_3_0 : CallOk Tryd.prog 161 [prA ps3, .agg [I 0, I 1]] .nil (I 0) .nil := acall_ok s0 (dsafeM_ok mixed s0 (pureBut_p _)) (n := 20) (by kernel_rfl)
theorem a161_3_1 : CallOk Tryd.prog 161 [prA ps3, .agg [I 0, I 2]] .nil (I 1) .nil := acall_ok s0 (dsafeM_ok mixed s0 (pureBut_p _)) (n := 20) (by kernel_rfl)
theorem a161_3_2 : CallOk Tryd.prog 161 [prA ps3, .agg [I 1, I 2]] .nil (I 2) .nil := acall_ok s0 (dsafeM_ok mixed s0 (pureBut_p _)) (n := 20) (by kernel_rfl)
theorem a161_4_0 : CallOk Tryd.prog 161 [prA ps4, .agg [I 0, I 1]] .nil (I 0) .nil := acall_ok s0 (dsafeM_ok mixed s0 (pureBut_p _)) (n := 20) (by kernel_rfl)
theorem a161_4_1 : CallOk Tryd.prog 161 [prA ps4, .agg [I 0, I 2]] .nil (I 1) .nil := acall_ok s0 (dsafeM_ok mixed s0 (pureBut_p _)) (n := 20) (by kernel_rfl)
theorem a161_4_2 : CallOk Tryd.prog 161 [prA ps4, .agg [I 0, I 3]] .nil (I 2) .nil := acall_ok s0 (dsafeM_ok mixed s0 (pureBut_p _)) (n := 20) (by kernel_rfl)
theorem a161_4_3 : CallOk Tryd.prog 161 [prA ps4, .agg [I 1, I 2]] .nil (I 3) .nil := acall_ok s0 (dsafeM_ok mixed s0 (pureBut_p _)) (n := 20) (by kernel_rfl)
theorem a161_4_4 : CallOk Tryd.prog 161 [prA ps4, .agg [I 1, I 3]] .nil (I 4) .nil := acall_ok s0 (dsafeM_ok mixed s0 (pureBut_p _)) (n := 20) (by kernel_rfl)
theorem a161_4_5 : CallOk Tryd.prog 161 [prA ps4, .agg [I 2, I 3]] .nil (I 5) .nil := acall_ok s0 (dsafeM_ok mixed s0 (pureBut_p _)) (n := 20) (by kernel_rfl)
def P150 : List PRow := [
  ⟨96, [I 2], prA ps2, by kernel_rfl, fun h => pure_call a96_2 rfl rfl h⟩,
  ⟨96, [I 3], prA ps3, by kernel_rfl, fun h => pure_call a96_3 rfl rfl h⟩,
  ⟨96, [I 4], prA ps4, by kernel_rfl, fun h => pure_call a96_4 rfl rfl h⟩,
  ⟨160, [I 0, I 0], I 1, by kernel_rfl, fun h => pure_call a160_0_0 rfl rfl h⟩,
  ⟨160, [I 0, I 1], I 0, by kernel_rfl, fun h => pure_call a160_0_1 rfl rfl h⟩,
  ⟨160, [I 0, I 2], I 0, by kernel_rfl, fun h => pure_call a160_0_2 rfl rfl h⟩,
  ⟨160, [I 1, I 0], I 0, by kernel_rfl, fun h => pure_call a160_1_0 rfl rfl h⟩,
  ⟨160, [I 1, I 1], I 2, by kernel_rfl, fun h => pure_call a160_1_1 rfl rfl h⟩,
  ⟨160, [I 1, I 2], I 1, by kernel_rfl, fun h => pure_call a160_1_2 rfl rfl h⟩,
  ⟨160, [I 2, I 0], I 2, by kernel_rfl, fun h => pure_call a160_2_0 rfl rfl h⟩,
  ⟨160, [I 2, I 1], I 1, by kernel_rfl, fun h => pure_call a160_2_1 rfl rfl h⟩,
  ⟨160, [I 2, I 2], I 3, by kernel_rfl, fun h => pure_call a160_2_2 rfl rfl h⟩,
  ⟨160, [I 3, I 0], I 3, by kernel_rfl, fun h => pure_call a160_3_0 rfl rfl h⟩,
  ⟨160, [I 3, I 1], I 3, by kernel_rfl, fun h => pure_call a160_3_1 rfl rfl h⟩,
  ⟨160, [I 3, I 2], I 2, by kernel_rfl, fun h => pure_call a160_3_2 rfl rfl h⟩,
  ⟨161, [prA ps2, .agg [I 0, I 1]], I 0, by kernel_rfl, fun h => pure_call a161_2_0 rfl rfl h⟩,
  ⟨161, [prA ps3, .agg [I 0, I 1]], I 0, by kernel_rfl, fun h => pure_call a161_3_0 rfl rfl h⟩,
  ⟨161, [prA ps3, .agg [I 0, I 2]], I 1, by kernel_rfl, fun h => pure_call a161_3_1 rfl rfl h⟩,
  ⟨161, [prA ps3, .agg [I 1, I 2]], I 2, by kernel_rfl, fun h => pure_call a161_3_2 rfl rfl h⟩,
  ⟨161, [prA ps4, .agg [I 0, I 1]], I 0, by kernel_rfl, fun h => pure_call a161_4_0 rfl rfl h⟩,
  ⟨161, [prA ps4, .agg [I 0, I 2]], I 1, by kernel_rfl, fun h => pure_call a161_4_1 rfl rfl h⟩,
  ⟨161, [prA ps4, .agg [I 0, I 3]], I 2, by kernel_rfl, fun h => pure_call a161_4_2 rfl rfl h⟩,
  ⟨161, [prA ps4, .agg [I 1, I 2]], I 3, by kernel_rfl, fun h => pure_call a161_4_3 rfl rfl h⟩,
  ⟨161, [prA ps4, .agg [I 1, I 3]], I 4, by kernel_rfl, fun h => pure_call a161_4_4 rfl rfl h⟩,
  ⟨161, [prA ps4, .agg [I 2, I 3]], I 5, by kernel_rfl, fun h => pure_call a161_4_5 rfl rfl h⟩]
theorem s150 : SummOk Tryd.prog (pureS (tabP P150)) := pureS_ok (tabP_ok P150)
/-- the places of the pairs -/
def plB (m k : Nat) : List Nat := match m, k with
  | 2, 0 => [0]
  | 3, 0 => [0, 2, 1]
  | 3, 1 => [1, 0, 2]
  | 4, 0 => [0, 3, 4, 1, 2, 5]
  | 4, 1 => [1, 0, 2, 3, 5, 4]
  | 4, 2 => [0, 2, 1, 4, 3, 5]
  | _, _ => []
theorem a150_2_0 : CallOk Tryd.prog 150 [I 2, I 0] .nil (.sl [I 0] 1 .full) .nil := acall_ok s150 (dsafeM_ok mixed s150 (pureBut_p _)) (n := 20) (by kernel_rfl)
theorem a150_3_0 : CallOk Tryd.prog 150 [I 3, I 0] .nil (.sl [I 0, I 2, I 1] 3 .full) .nil := acall_ok s150 (dsafeM_ok mixed s150 (pureBut_p _)) (n := 20) (by kernel_rfl)
theorem a150_3_1 : CallOk Tryd.prog 150 [I 3, I 1] .nil (.sl [I 1, I 0, I 2] 3 .full) .nil := acall_ok s150 (dsafeM_ok mixed s150 (pureBut_p _)) (n := 20) (by kernel_rfl)
theorem a150_4_0 : CallOk Tryd.prog 150 [I 4, I 0] .nil (.sl [I 0, I 3, I 4, I 1, I 2, I 5] 6 .full) .nil := acall_ok s150 (dsafeM_ok mixed s150 (pureBut_p _)) (n := 20) (by kernel_rfl)
theorem a150_4_1 : CallOk Tryd.prog 150 [I 4, I 1] .nil (.sl [I 1, I 0, I 2, I 3, I 5, I 4] 6 .full) .nil := acall_ok s150 (dsafeM_ok mixed s150 (pureBut_p _)) (n := 20) (by kernel_rfl)
theorem a150_4_2 : CallOk Tryd.prog 150 [I 4, I 2] .nil (.sl [I 0, I 2, I 1, I 4, I 3, I 5] 6 .full) .nil := acall_ok s150 (dsafeM_ok mixed s150 (pureBut_p _)) (n := 20) (by kernel_rfl)
end Go.Proofs.Evd

