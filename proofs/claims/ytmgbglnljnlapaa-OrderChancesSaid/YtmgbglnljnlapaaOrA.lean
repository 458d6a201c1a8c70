/- Layer 7: orders as values: what their small methods come to. -/
import Derived.Test.YtmgbglnljnlapaaVm6
import Derived.Test.YtmgbglnljnlapaaOrK
import Derived.Test.YtmgbglnljnlapaaProg
import Derived.KernelRfl
set_option linter.unusedSimpArgs false
set_option linter.unusedVariables false
set_option linter.unnecessarySimpa false
set_option maxHeartbeats 4000000
set_option maxRecDepth 100000
namespace Go.Proofs.Ord
open Go Go.VM
open Go.Proofs.Sur (andn andn_bit andn_le i_wrap i_and i_or i_andn i_shl i_shr bit_01)

theorem mixed : Try.prog.follows .mixedOrders = true := by kernel_rfl
instance : Inhabited Globs := ⟨⟨fun _ => []⟩⟩
theorem globs_ok (G : Ghost) : GlobOk G := fun g i v h => by cases h
noncomputable abbrev En6 (cs : List (Ctr Try.prog)) : Env := ⟨Try.prog, Sof (P := Try.prog) cs, Pof (P := Try.prog) [], H.nil.base, 300⟩
abbrev lim (n : Nat) : Prop := n ≤ 9223372036854775807
abbrev ls (l : List Int) (r : Room) : AV := .sl (ints l) l.length r
abbrev ia (l : List Int) (i : Nat) : Int := l.getD i i0
theorem pw_shl {n : Nat} (h : n ≤ 62) : IntKind.i64.wrap (1 * 2 ^ min ((n : Int)).toNat IntKind.i64.bits) = ((2 ^ n : Nat) : Int) := by
  have := i_shl (a := 1) (n := n) h (by
    have : 2 ^ n ≤ 2 ^ 62 := Nat.pow_le_pow_right (by decide) h
    omega)
  rw [Nat.one_mul] at this
  exact this
theorem i_bit {a n : Nat} (ha : a < 9223372036854775808) : IntKind.i64.wrap ((BitVec.ofInt IntKind.i64.bits ((a >>> n : Nat) : Int) &&& BitVec.ofInt IntKind.i64.bits 1).toNat : Int) = ((a.testBit n).toNat : Int) := by
  have h : a >>> n < 9223372036854775808 := Nat.lt_of_le_of_lt (by rw [Nat.shiftRight_eq_div_pow]; exact Nat.div_le_self _ _) ha
  have := i_and (a := a >>> n) (b := 1) h (by decide)
  rw [bit_01] at this
  exact this
/-- the six cells of a relation -/
def six (A : Rel) : List Int := (List.range 6).map fun k => ((A k : Nat) : Int)
@[simp] theorem six_len (A : Rel) : (six A).length = 6 := rfl
def o7 (n : Nat) (A : Rel) : List Int := (n : Int) :: six A
@[simp] theorem o7_len (n : Nat) (A : Rel) : (o7 n A).length = 7 := rfl
theorem six_get (A : Rel) {k : Nat} (h : k < 6) : (six A).getD k i0 = ((A k : Nat) : Int) := by
  simp [six, List.getD_eq_getElem?_getD, h]
theorem o7_get (n : Nat) (A : Rel) {k : Nat} (h : k < 6) : (o7 n A).getD (1 + k) i0 = ((A k : Nat) : Int) := by
  rw [Nat.add_comm]; exact six_get A h
theorem o7_set (n : Nat) (A B : Rel) {k : Nat} (hk : k < 6) (h : ∀ i, i ≠ k → B i = A i) : (o7 n A).set (1 + k) ((B k : Nat) : Int) = o7 n B := by
  rw [Nat.add_comm]
  show (n : Int) :: (six A).set k _ = _
  congr 1
  apply List.ext_getElem
  · simp
  · intro i h1 h2
    have hi : i < 6 := by simpa using h1
    simp only [List.getElem_set]
    by_cases e : k = i
    · subst e; rw [if_pos rfl]; simp [six]
    · rw [if_neg e]; simp [six, h i (fun q => e q.symm)]
theorem six_inj {n : Nat} {A B : Rel} (hA : Rg n A) (hB : Rg n B) (h6 : n ≤ 6) (h : six A = six B) : A = B := by
  funext i
  rcases Nat.lt_or_ge i 6 with q | q
  · have h1 := six_get A q
    have h2 := six_get B q
    rw [h, h2] at h1
    omega
  · rw [hA.2 i (by omega), hB.2 i (by omega)]
abbrev oA (n : Nat) (A : Rel) : AV := .agg (ints (o7 n A))
theorem o7_inj {n m : Nat} {A B : Rel} (h : o7 n A = o7 m B) : n = m ∧ six A = six B := by
  simp only [o7, List.cons.injEq] at h
  exact ⟨by omega, h.2⟩
/-- orders' arguments tell the order -/
theorem o_det {n m : Nat} {A B : Rel} (h : oA n A = oA m B) (hA : Rg n A) (hB : Rg m B) (h6 : n ≤ 6) : n = m ∧ A = B := by
  have h' : o7 n A = o7 m B := ints_inj (by simpa using h)
  obtain ⟨rfl, h2⟩ := o7_inj h'
  exact ⟨rfl, six_inj hA hB h6 h2⟩
theorem rg_lt {n : Nat} {A : Rel} (h : Rg n A) (h6 : n ≤ 6) (i : Nat) : A i < 64 :=
  Nat.lt_of_lt_of_le (h.1 i) (Nat.le_trans (Nat.pow_le_pow_right (by decide) h6) (by decide : 2 ^ 6 ≤ 64))
abbrev bi (s : Int) (e : Nat) : Bool := s.toNat.testBit e
theorem ok102 : FokM Try.prog none1 102 Try.f102 := ⟨mixed, by kernel_rfl, by kernel_rfl, by kernel_rfl, by kernel_rfl⟩
theorem r102 (s : Int) (e : Int) (hp : (0 ≤ s ∧ s < 9223372036854775808) ∧ 0 ≤ e ∧ e ≤ 64) : Body ⟨Try.prog, Sof (P := Try.prog) [], Pof (P := Try.prog) [], H.nil.base, 300⟩ none1 Try.f102 [I s, I e] .nil (.bool (bi s e.toNat), .nil) := by
  obtain ⟨⟨h0, h1⟩, h2, h3⟩ := hp
  obtain ⟨a, rfl⟩ : ∃ a : Nat, s = a := ⟨s.toNat, by omega⟩
  obtain ⟨n, rfl⟩ : ∃ n : Nat, e = n := ⟨e.toNat, by omega⟩
  have ev0 := i_shr (a := a) (n := n) (by omega)
  have ev1 := i_bit (a := a) (n := n) (by omega)
  simp only [bi, Int.toNat_natCast]
  cases hb : a.testBit n
  · rw [hb] at ev1
    have ev1 : IntKind.i64.wrap ((BitVec.ofInt IntKind.i64.bits ((a >>> n : Nat) : Int) &&& BitVec.ofInt IntKind.i64.bits 1).toNat : Int) = 0 := ev1
    refine body_s ([Ans.o (Orc.val 7 (I (↑(a >>> n) : Int)) H.nil), Ans.o (Orc.val 8 (I (↑false.toNat : Int)) H.nil), Ans.o Orc.dflt]) (aBin Try.prog BinOp.shr (3 : Nat) (I (↑a : Int)) (I (↑n : Int)) = some (I (↑(a >>> n) : Int)) ∧ aBin Try.prog BinOp.and (3 : Nat) (I (↑(a >>> n) : Int)) (I 1) = some (I 0) ∧ (AV.bool false, H.mk [] [] []) = (AV.bool false, H.mk [] [] [])) (by kernel_rfl) ?_
    refine ⟨by first | exact told_shr (by first | exact Int.natCast_nonneg _ | omega) (by with_reducible assumption) | exact told_shr (by omega) rfl, ?_⟩
    refine ⟨told_and (by with_reducible assumption), ?_⟩
    first | with_reducible rfl | (refine bleaf_t ?_; omega) | (refine bleaf_f ?_; omega) | (refine ileaf ?_; omega) | rfl | (exfalso; omega)
  · rw [hb] at ev1
    have ev1 : IntKind.i64.wrap ((BitVec.ofInt IntKind.i64.bits ((a >>> n : Nat) : Int) &&& BitVec.ofInt IntKind.i64.bits 1).toNat : Int) = 1 := ev1
    refine body_s ([Ans.o (Orc.val 7 (I (↑(a >>> n) : Int)) H.nil), Ans.o (Orc.val 8 (I (↑true.toNat : Int)) H.nil), Ans.o Orc.dflt]) (aBin Try.prog BinOp.shr (3 : Nat) (I (↑a : Int)) (I (↑n : Int)) = some (I (↑(a >>> n) : Int)) ∧ aBin Try.prog BinOp.and (3 : Nat) (I (↑(a >>> n) : Int)) (I 1) = some (I 1) ∧ (AV.bool true, H.mk [] [] []) = (AV.bool true, H.mk [] [] [])) (by kernel_rfl) ?_
    refine ⟨by first | exact told_shr (by first | exact Int.natCast_nonneg _ | omega) (by with_reducible assumption) | exact told_shr (by omega) rfl, ?_⟩
    refine ⟨told_and (by with_reducible assumption), ?_⟩
    first | with_reducible rfl | (refine bleaf_t ?_; omega) | (refine bleaf_f ?_; omega) | (refine ileaf ?_; omega) | rfl | (exfalso; omega)
noncomputable def c102 : PCtr Try.prog := sctr ok102 (X := Int × Int) (fun x => [I x.1, I x.2]) (fun x => (0 ≤ x.1 ∧ x.1 < 9223372036854775808) ∧ 0 ≤ x.2 ∧ x.2 ≤ 64) (fun x => .bool (bi x.1 x.2.toNat)) (by intro x y e _ _; simp [Int.natCast_inj] at e; simp [e]) (fun x => by simp [AV.bnds, AV.bnd, AV.wk, rm_wk_bnd]) (fun x => by first | rfl | (simp [AV.bnd, rm_wk_bnd]; done)  | (simp [AV.bnd, AV.bnds, rm_wk_bnd]; done) | simp [AV.bnd, AV.bnds, Room.bnd, rm_wk_bnd]) (fun x hx => ⟨_, _, _, .nil, r102 (x.1) (x.2) hx⟩)
/-- an element's set in the cells -/
abbrev oo (n : Nat) (A : Rel) (k : Nat) : Int := (o7 n A).getD (1 + k) i0
theorem oo_b {n : Nat} {A : Rel} (h : Rg n A) (h6 : n ≤ 6) {k : Nat} (hk : k < n) : oo n A k = ((A k : Nat) : Int) ∧ 0 ≤ oo n A k ∧ oo n A k < 64 := by
  have h1 : oo n A k = ((A k : Nat) : Int) := o7_get n A (by omega)
  have := rg_lt h h6 k
  exact ⟨h1, by omega, by omega⟩
theorem i_orv {x y : Int} {a b : Nat} (hx : x = a) (hy : y = b) (ha : a < 64) (hb : b < 64) : IntKind.i64.wrap ((BitVec.ofInt IntKind.i64.bits x ||| BitVec.ofInt IntKind.i64.bits y).toNat : Int) = ((a ||| b : Nat) : Int) := by
  subst hx; subst hy; exact i_or (by omega) (by omega)
theorem i_andv {x y : Int} {a b : Nat} (hx : x = a) (hy : y = b) (ha : a < 64) (hb : b < 64) : IntKind.i64.wrap ((BitVec.ofInt IntKind.i64.bits x &&& BitVec.ofInt IntKind.i64.bits y).toNat : Int) = ((a &&& b : Nat) : Int) := by
  subst hx; subst hy; exact i_and (by omega) (by omega)
theorem ok64 : FokM Try.prog none1 64 Try.f64 := ⟨mixed, by kernel_rfl, by kernel_rfl, by kernel_rfl, by kernel_rfl⟩
theorem r64 (n : Int) (hp : True) : Body ⟨Try.prog, Sof (P := Try.prog) [], Pof (P := Try.prog) [], H.nil.base, 300⟩ none1 Try.f64 [I n] .nil (.bool (decide (1 ≤ n ∧ n ≤ 6)), .nil) := by
  refine body_s ([Ans.fork [Ans.fork [] []] []]) (((1 : Int) ≤ n → (n ≤ (6 : Int) → (AV.bool true, H.mk [] [] []) = (AV.bool (decide ((1 : Int) ≤ n ∧ n ≤ (6 : Int))), H.mk [] [] [])) ∧ ((6 : Int) < n → (AV.bool false, H.mk [] [] []) = (AV.bool (decide ((1 : Int) ≤ n ∧ n ≤ (6 : Int))), H.mk [] [] []))) ∧ (n < (1 : Int) → (AV.bool false, H.mk [] [] []) = (AV.bool (decide ((1 : Int) ≤ n ∧ n ≤ (6 : Int))), H.mk [] [] []))) (by kernel_rfl) ?_
  refine And.intro ?_ ?_
  · skip
    intro w0
    refine And.intro ?_ ?_
    · skip
      intro w1
      first | with_reducible rfl | (refine bleaf_t ?_; omega) | (refine bleaf_f ?_; omega) | (refine ileaf ?_; omega) | rfl | (exfalso; omega)
    · skip
      intro w1
      first | with_reducible rfl | (refine bleaf_t ?_; omega) | (refine bleaf_f ?_; omega) | (refine ileaf ?_; omega) | rfl | (exfalso; omega)
  · skip
    intro w0
    first | with_reducible rfl | (refine bleaf_t ?_; omega) | (refine bleaf_f ?_; omega) | (refine ileaf ?_; omega) | rfl | (exfalso; omega)
noncomputable def c64 : PCtr Try.prog := sctr ok64 (X := Int) (fun x => [I x]) (fun x => True) (fun x => .bool (decide (1 ≤ x ∧ x ≤ 6))) (by intro x y e _ _; simp [Int.natCast_inj] at e; simp [e]) (fun x => by simp [AV.bnds, AV.bnd, AV.wk, rm_wk_bnd]) (fun x => by first | rfl | (simp [AV.bnd, rm_wk_bnd]; done)  | (simp [AV.bnd, AV.bnds, rm_wk_bnd]; done) | simp [AV.bnd, AV.bnds, Room.bnd, rm_wk_bnd]) (fun x hx => ⟨_, _, _, .nil, r64 (x) hx⟩)
theorem ok87 : FokM Try.prog none1 87 Try.f87 := ⟨mixed, by kernel_rfl, by kernel_rfl, by kernel_rfl, by kernel_rfl⟩
theorem r87 (n : Nat) (A : Rel) (h6 : n ≤ 6) : Body (En6 []) none1 Try.f87 [oA n A] .nil (I (alls n : Nat), .nil) := by
  have ev0 := pw_shl (n := n) (by omega)
  have p6 : 2 ^ n ≤ 2 ^ 6 := Nat.pow_le_pow_right (by decide) h6
  have p0 : 0 < 2 ^ n := Nat.two_pow_pos n
  have ev1 : IntKind.i64.wrap (((2 ^ n : Nat) : Int) - 1) = ((alls n : Nat) : Int) := by rw [wr _ (by omega) (by omega)]; simp only [alls]; omega
  refine body_s ([Ans.o (Orc.val 5 (I (↑((2 : Nat) ^ n) : Int)) H.nil), Ans.o (Orc.val 6 (I (↑(alls n) : Int)) H.nil)]) (aBin Try.prog BinOp.shl (3 : Nat) (I 1) (I (↑n : Int)) = some (I (↑((2 : Nat) ^ n) : Int)) ∧ aBin Try.prog BinOp.sub (3 : Nat) (I (↑((2 : Nat) ^ n) : Int)) (I 1) = some (I (↑(alls n) : Int)) ∧ (I (↑(alls n) : Int), H.mk [] [] []) = (I (↑(alls n) : Int), H.mk [] [] [])) (by kernel_rfl) ?_
  refine ⟨by first | exact told_shl (by first | exact Int.natCast_nonneg _ | omega) (by with_reducible assumption) | exact told_shl (by omega) rfl, ?_⟩
  refine ⟨told_sub (by with_reducible assumption), ?_⟩
  first | with_reducible rfl | (refine bleaf_t ?_; omega) | (refine bleaf_f ?_; omega) | (refine ileaf ?_; omega) | rfl | (exfalso; omega)
theorem r65 (n : Nat) (A : Rel) (i j : Int) : Body (En6 []) none1 Try.f65 [oA n A, I i, I j] .nil (.bool (decide ((0 ≤ i ∧ i < n) ∧ 0 ≤ j ∧ j < n)), .nil) := by
  refine body_s ([Ans.fork [Ans.fork [Ans.fork [Ans.fork [] []] []] []] []]) (((0 : Int) ≤ i → (i < (↑n : Int) → ((0 : Int) ≤ j → (j < (↑n : Int) → (AV.bool true, H.mk [] [] []) = (AV.bool (decide (((0 : Int) ≤ i ∧ i < (↑n : Int)) ∧ (0 : Int) ≤ j ∧ j < (↑n : Int))), H.mk [] [] [])) ∧ ((↑n : Int) ≤ j → (AV.bool false, H.mk [] [] []) = (AV.bool (decide (((0 : Int) ≤ i ∧ i < (↑n : Int)) ∧ (0 : Int) ≤ j ∧ j < (↑n : Int))), H.mk [] [] []))) ∧ (j < (0 : Int) → (AV.bool false, H.mk [] [] []) = (AV.bool (decide (((0 : Int) ≤ i ∧ i < (↑n : Int)) ∧ (0 : Int) ≤ j ∧ j < (↑n : Int))), H.mk [] [] []))) ∧ ((↑n : Int) ≤ i → (AV.bool false, H.mk [] [] []) = (AV.bool (decide (((0 : Int) ≤ i ∧ i < (↑n : Int)) ∧ (0 : Int) ≤ j ∧ j < (↑n : Int))), H.mk [] [] []))) ∧ (i < (0 : Int) → (AV.bool false, H.mk [] [] []) = (AV.bool (decide (((0 : Int) ≤ i ∧ i < (↑n : Int)) ∧ (0 : Int) ≤ j ∧ j < (↑n : Int))), H.mk [] [] []))) (by kernel_rfl) ?_
  refine And.intro ?_ ?_
  · skip
    intro w0
    refine And.intro ?_ ?_
    · skip
      intro w1
      refine And.intro ?_ ?_
      · skip
        intro w2
        refine And.intro ?_ ?_
        · skip
          intro w3
          first | with_reducible rfl | (refine bleaf_t ?_; omega) | (refine bleaf_f ?_; omega) | (refine ileaf ?_; omega) | rfl | (exfalso; omega)
        · skip
          intro w3
          first | with_reducible rfl | (refine bleaf_t ?_; omega) | (refine bleaf_f ?_; omega) | (refine ileaf ?_; omega) | rfl | (exfalso; omega)
      · skip
        intro w2
        first | with_reducible rfl | (refine bleaf_t ?_; omega) | (refine bleaf_f ?_; omega) | (refine ileaf ?_; omega) | rfl | (exfalso; omega)
    · skip
      intro w1
      first | with_reducible rfl | (refine bleaf_t ?_; omega) | (refine bleaf_f ?_; omega) | (refine ileaf ?_; omega) | rfl | (exfalso; omega)
  · skip
    intro w0
    first | with_reducible rfl | (refine bleaf_t ?_; omega) | (refine bleaf_f ?_; omega) | (refine ileaf ?_; omega) | rfl | (exfalso; omega)
end Go.Proofs.Ord

