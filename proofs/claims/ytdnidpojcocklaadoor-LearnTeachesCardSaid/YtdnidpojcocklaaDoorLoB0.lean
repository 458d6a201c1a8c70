/- Layer 4: both package variables known; the lowest concept of a set. -/
import Derived.Test.YtdnidpojcocklaaDoorLnT1
import Derived.Test.YtdnidpojcocklaaDoorLnV2
import Derived.KernelRfl
set_option linter.unusedSimpArgs false
set_option linter.unusedVariables false
set_option linter.unnecessarySimpa false
set_option maxHeartbeats 4000000
set_option maxRecDepth 100000
namespace Go.Proofs.Lrn
open Go Go.VM

/-- what holds where one variable is known holds where both are -/
abbrev gA : Inhabited Globs := ⟨⟨fun g => match g with | 0 => havs | _ => [], fun _ => false⟩⟩
abbrev dbs : List Value := [.int .u8 0, .int .u8 1, .int .u8 28, .int .u8 2, .int .u8 29, .int .u8 14, .int .u8 24, .int .u8 3, .int .u8 30, .int .u8 22, .int .u8 20, .int .u8 15, .int .u8 25, .int .u8 17, .int .u8 4, .int .u8 8, .int .u8 31, .int .u8 27, .int .u8 13, .int .u8 23, .int .u8 21, .int .u8 19, .int .u8 16, .int .u8 7, .int .u8 26, .int .u8 12, .int .u8 18, .int .u8 6, .int .u8 11, .int .u8 5, .int .u8 10, .int .u8 9]
instance gB : Inhabited Globs := ⟨⟨fun g => match g with | 0 => havs | 1 => dbs | _ => [], fun _ => false⟩⟩
theorem globs_less {G : Ghost} (h : @GlobOk gB G) : @GlobOk gA G := by
  intro g i v hv
  match g with
  | 0 => exact h 0 i v hv
  | g + 1 => cases hv
noncomputable def up (c : @PCtr gA Tryd.prog) : PCtr Tryd.prog where
  f := @PCtr.f gA _ c
  X := @PCtr.X gA _ c
  args := @PCtr.args gA _ c
  pre := @PCtr.pre gA _ c
  v := @PCtr.v gA _ c
  det := @PCtr.det gA _ c
  ok x hx := ⟨(@PCtr.ok gA _ c x hx).1, fun h G w vs s hg hr => (@PCtr.ok gA _ c x hx).2 h G w vs s (globs_less hg) hr⟩
noncomputable abbrev En5 (cs : List (Ctr Tryd.prog)) : Env := ⟨Tryd.prog, Sof (P := Tryd.prog) cs, Pof (P := Tryd.prog) [], H.nil.base, 300⟩

theorem told_neg {k : IntKind} {n r : Int} (he : k.wrap (0 - n) = r) : aUn .neg (.int k n) = some (.int k r) := by subst he; rfl
/-- the first of a set -/
def fst (f : Nat → Bool) : Nat → Nat → Nat
  | s, 0 => s
  | s, n + 1 => if f s then s else fst f (s + 1) n
theorem fst_ok {f : Nat → Bool} : ∀ (n s : Nat), (∃ i, s ≤ i ∧ i < s + n ∧ f i = true) → f (fst f s n) = true ∧ s ≤ fst f s n ∧ fst f s n < s + n ∧ ∀ j, s ≤ j → j < fst f s n → f j = false
  | 0, s, ⟨i, h1, h2, _⟩ => by omega
  | n + 1, s, ⟨i, h1, h2, h3⟩ => by
    simp only [fst]
    split
    · rename_i hs
      exact ⟨hs, Nat.le_refl _, by omega, fun j h4 h5 => by omega⟩
    · rename_i hs
      have hne : i ≠ s := fun e => hs (e ▸ h3)
      obtain ⟨g1, g2, g3, g4⟩ := fst_ok n (s + 1) ⟨i, by omega, by omega, h3⟩
      refine ⟨g1, by omega, by omega, fun j h4 h5 => ?_⟩
      by_cases e : j = s
      · subst e; simpa using hs
      · exact g4 j (by omega) h5
def tz (b : BitVec 32) : Nat := fst (fun i => b.getLsbD i) 0 32
theorem tz_ok {b : BitVec 32} (h : b ≠ 0#32) : b.getLsbD (tz b) = true ∧ tz b < 32 ∧ ∀ j, j < tz b → b.getLsbD j = false := by
  have : ∃ i, 0 ≤ i ∧ i < 0 + 32 ∧ b.getLsbD i = true := by
    refine Classical.byContradiction fun hc => h ?_
    apply BitVec.eq_of_getLsbD_eq
    intro i hi
    cases hb : b.getLsbD i
    · simp
    · exact absurd ⟨i, by omega, by omega, hb⟩ hc
  obtain ⟨h1, _, h3, h4⟩ := fst_ok 32 0 this
  exact ⟨h1, by show fst _ _ _ < 32; omega, fun j hj => h4 j (by omega) hj⟩
theorem low_bit {b : BitVec 32} (h : b ≠ 0#32) : b &&& -b = BitVec.ofNat 32 (2 ^ tz b) := by
  obtain ⟨h1, h2, h3⟩ := tz_ok h
  apply BitVec.eq_of_getLsbD_eq
  intro i hi
  rw [BitVec.getLsbD_and, BitVec.getLsbD_neg, BitVec.getLsbD_ofNat, Nat.testBit_two_pow]
  simp only [hi, decide_true, Bool.true_and]
  by_cases e : tz b = i
  · subst e
    have : ¬ ∃ j, j < tz b ∧ b.getLsbD j = true := fun ⟨j, hj, hb⟩ => by rw [h3 j hj] at hb; cases hb
    rw [h1, decide_eq_false this]; simp
  · by_cases hlt : i < tz b
    · rw [h3 i hlt]; simp [e]
    · cases hb : b.getLsbD i
      · simp [e]
      · have : ∃ j, j < i ∧ b.getLsbD j = true := ⟨tz b, by omega, h1⟩
        rw [decide_eq_true this]; simp [e]
theorem neg_nat (b : BitVec 32) : IntKind.u32.wrap (0 - (b.toNat : Int)) = ((-b).toNat : Int) := by
  have hb := b.isLt
  rw [BitVec.toNat_neg]
  simp only [IntKind.wrap, IntKind.bits, IntKind.signed]
  simp
  omega
theorem sub_nat (b : BitVec 32) : IntKind.u32.wrap ((b.toNat : Int) - 1) = ((b - 1#32).toNat : Int) := by
  have hb := b.isLt
  rw [BitVec.toNat_sub]
  simp only [IntKind.wrap, IntKind.bits, IntKind.signed]
  simp
  omega
theorem not_neg' (b : BitVec 32) : b - 1#32 = ~~~(-b) := by
  have hb := b.isLt
  apply BitVec.eq_of_toNat_eq
  rw [BitVec.toNat_not, BitVec.toNat_neg, BitVec.toNat_sub]
  simp
  omega
/-- a set without its first -/
def cl (b : BitVec 32) : BitVec 32 := b &&& (b - 1#32)
theorem cl_bit (b : BitVec 32) {i : Nat} (hi : i < 32) : (cl b).getLsbD i = true ↔ b.getLsbD i = true ∧ ∃ j, j < i ∧ b.getLsbD j = true := by
  rw [cl, not_neg', BitVec.getLsbD_and, BitVec.getLsbD_not, BitVec.getLsbD_neg]
  simp only [hi, decide_true, Bool.true_and, Bool.and_eq_true, Bool.not_eq_true']
  constructor
  · rintro ⟨h1, h2⟩
    refine ⟨h1, ?_⟩
    rw [h1] at h2
    simpa using h2
  · rintro ⟨h1, h2⟩
    refine ⟨h1, ?_⟩
    rw [h1]
    simpa using h2
end Go.Proofs.Lrn

