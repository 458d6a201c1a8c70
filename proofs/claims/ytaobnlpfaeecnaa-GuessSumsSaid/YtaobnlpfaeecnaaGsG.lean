/- Layer 6: the reference's weights and replies. -/
import Derived.Test.YtaobnlpfaeecnaaGsF
import Derived.KernelRfl
set_option linter.unusedSimpArgs false
set_option linter.unusedVariables false
set_option linter.unnecessarySimpa false
set_option maxHeartbeats 4000000
set_option maxRecDepth 100000
namespace Go.Proofs.Gss
open Go Go.VM

/-- the weight of the first elements -/
def wj (x : List Int) (q : Int) : Nat → Int
  | 0 => 0
  | i + 1 => wj x q i + ia x i * wy q (x.length - i)
theorem wj_bd {x : List Int} {q : Int} (hq : q30 q) (hl : x.length ≤ 4) (hw : wn 0 200 x = true) : ∀ {i : Nat}, i ≤ x.length → 0 ≤ wj x q i ∧ wj x q i ≤ i * 6000000
  | 0, _ => by simp [wj]
  | i + 1, hi => by
    have h1 := wj_bd hq hl hw (i := i) (by omega)
    have h2 := mul_bd (wn_get hw (i := i) (by omega)) (ch_bd hq (j := x.length - i) (by omega)).2
    simp only [wj]
    omega
theorem wj_nf {x : List Int} (h : l4 x) (q : Int) : wj x q x.length = wt4 (nf x 0) (nf x 1) (nf x 2) (nf x 3) q := by
  have e : wy q 1 = 1 := rfl
  rcases l4_cases h with ⟨a, rfl⟩ | ⟨a, b, rfl⟩ | ⟨a, b, c, rfl⟩ | ⟨a, b, c, d, rfl⟩ <;> simp [nf, wj, ia, wt4, e, Int.mul_comm] <;> omega
/-- those that agree with a reply, and the others -/
def inn (y : Bool) (x q : Int) : Int := if y then q else x - q
abbrev oth (y : Bool) (x q : Int) : Int := inn (!y) x q
abbrev bq (x q : Int) : Prop := (0 ≤ q ∧ q ≤ x) ∧ x ≤ 200
theorem ok91 : FokM Try.prog none1 91 Try.f91 := ⟨mixed, by kernel_rfl, by kernel_rfl, by kernel_rfl, by kernel_rfl⟩
theorem r91 (a : Int) (b : Int) (c : Int) (d : Int) (p : Int) (q : Int) (s : Int) (t : Int) (hp : bq a p ∧ bq b q ∧ bq c s ∧ bq d t) : Body ⟨Try.prog, Sof (P := Try.prog) [], Pof (P := Try.prog) [], H.nil.base, 300⟩ none1 Try.f91 [a4 a b c d, a4 p q s t] .nil (a4 (a - p) (b - q) (c - s) (d - t), .nil) := by
  obtain ⟨h1, h2, h3, h4⟩ := hp
  refine body_s ([Ans.o Orc.dflt, Ans.o Orc.dflt, Ans.o Orc.dflt, Ans.o Orc.dflt, Ans.o Orc.dflt]) (IntKind.i64.wrap (a - p) = a - p ∧ IntKind.i64.wrap (1 : Int) = (1 : Int) ∧ IntKind.i64.wrap (b - q) = b - q ∧ IntKind.i64.wrap (2 : Int) = (2 : Int) ∧ IntKind.i64.wrap (c - s) = c - s ∧ IntKind.i64.wrap (3 : Int) = (3 : Int) ∧ IntKind.i64.wrap (d - t) = d - t ∧ IntKind.i64.wrap (4 : Int) = (4 : Int) ∧ (AV.agg [I (a - p), I (b - q), I (c - s), I (d - t)], H.mk [] [] []) = (AV.agg [I (a - p), I (b - q), I (c - s), I (d - t)], H.mk [] [] [])) (by kernel_rfl) ?_
  refine ⟨wr _ (by omega) (by omega), ?_⟩
  refine ⟨wr _ (by omega) (by omega), ?_⟩
  refine ⟨wr _ (by omega) (by omega), ?_⟩
  refine ⟨wr _ (by omega) (by omega), ?_⟩
  refine ⟨wr _ (by omega) (by omega), ?_⟩
  refine ⟨wr _ (by omega) (by omega), ?_⟩
  refine ⟨wr _ (by omega) (by omega), ?_⟩
  refine ⟨wr _ (by omega) (by omega), ?_⟩
  rfl
noncomputable def c91 : PCtr Try.prog := sctr ok91 (X := Int × Int × Int × Int × Int × Int × Int × Int) (fun x => [a4 x.1 x.2.1 x.2.2.1 x.2.2.2.1, a4 x.2.2.2.2.1 x.2.2.2.2.2.1 x.2.2.2.2.2.2.1 x.2.2.2.2.2.2.2]) (fun x => bq x.1 x.2.2.2.2.1 ∧ bq x.2.1 x.2.2.2.2.2.1 ∧ bq x.2.2.1 x.2.2.2.2.2.2.1 ∧ bq x.2.2.2.1 x.2.2.2.2.2.2.2) (fun x => a4 (x.1 - x.2.2.2.2.1) (x.2.1 - x.2.2.2.2.2.1) (x.2.2.1 - x.2.2.2.2.2.2.1) (x.2.2.2.1 - x.2.2.2.2.2.2.2)) (by intro x y e _ _; simp [Int.natCast_inj] at e; simp [e]) (fun x => by simp [AV.bnds, AV.bnd, AV.wk, rm_wk_bnd]) (fun x => by first | rfl | (simp [AV.bnd, rm_wk_bnd]; done)  | (simp [AV.bnd, AV.bnds, rm_wk_bnd]; done) | simp [AV.bnd, AV.bnds, Room.bnd, rm_wk_bnd]) (fun x hx => ⟨_, _, _, .nil, r91 (x.1) (x.2.1) (x.2.2.1) (x.2.2.2.1) (x.2.2.2.2.1) (x.2.2.2.2.2.1) (x.2.2.2.2.2.2.1) (x.2.2.2.2.2.2.2) hx⟩)
theorem ok69 : FokM Try.prog none1 69 Try.f69 := ⟨mixed, by kernel_rfl, by kernel_rfl, by kernel_rfl, by kernel_rfl⟩
theorem r69 (a : Int) (b : Int) (c : Int) (d : Int) (p : Int) (q : Int) (s : Int) (t : Int) (y : Bool) (hp : bq a p ∧ bq b q ∧ bq c s ∧ bq d t) : Body ⟨Try.prog, Sof (P := Try.prog) [c91.to], Pof (P := Try.prog) [], H.nil.base, 300⟩ none1 Try.f69 [a4 a b c d, a4 p q s t, .bool y] .nil (a4 (inn y a p) (inn y b q + oth y a p) (inn y c s + oth y b q) (inn y d t + oth y c s), .nil) := by
  have hp' := hp
  obtain ⟨h1, h2, h3, h4⟩ := hp
  cases y
  · refine body_s ([Ans.o (Orc.val 14 (AV.agg [I (a - p), I (b - q), I (c - s), I (d - t)]) (H.mk [[I a, I b, I c, I d], [I p, I q, I s, I t], [I 0, I 0, I 0, I 0]] [] [])), Ans.o Orc.dflt, Ans.o Orc.dflt, Ans.o Orc.dflt, Ans.o Orc.dflt]) (aCall (Sof [c91.to]) (AV.fn (Fn.func (91 : Nat)) [] []) [AV.agg [I a, I b, I c, I d], AV.agg [I p, I q, I s, I t]] (H.mk [[I a, I b, I c, I d], [I p, I q, I s, I t], [I 0, I 0, I 0, I 0]] [] []) = some (AV.agg [I (a - p), I (b - q), I (c - s), I (d - t)], H.mk [[I a, I b, I c, I d], [I p, I q, I s, I t], [I 0, I 0, I 0, I 0]] [] []) ∧ IntKind.i64.wrap (1 : Int) = (1 : Int) ∧ IntKind.i64.wrap (b - q + p) = b - q + p ∧ IntKind.i64.wrap (1 : Int) = (1 : Int) ∧ IntKind.i64.wrap (2 : Int) = (2 : Int) ∧ IntKind.i64.wrap (c - s + q) = c - s + q ∧ IntKind.i64.wrap (2 : Int) = (2 : Int) ∧ IntKind.i64.wrap (3 : Int) = (3 : Int) ∧ IntKind.i64.wrap (d - t + s) = d - t + s ∧ IntKind.i64.wrap (3 : Int) = (3 : Int) ∧ (AV.agg [I (a - p), I (b - q + p), I (c - s + q), I (d - t + s)], H.mk [] [] []) = (AV.agg [I (inn false a p), I (inn false b q + oth false a p), I (inn false c s + oth false b q), I (inn false d t + oth false c s)], H.mk [] [] [])) (by kernel_rfl) ?_
    refine ⟨acall_hit (c := c91.to) (a, b, c, d, p, q, s, t) _ rfl hp', ?_⟩
    refine ⟨wr _ (by omega) (by omega), ?_⟩
    refine ⟨wr _ (by omega) (by omega), ?_⟩
    refine ⟨wr _ (by omega) (by omega), ?_⟩
    refine ⟨wr _ (by omega) (by omega), ?_⟩
    refine ⟨wr _ (by omega) (by omega), ?_⟩
    refine ⟨wr _ (by omega) (by omega), ?_⟩
    refine ⟨wr _ (by omega) (by omega), ?_⟩
    refine ⟨wr _ (by omega) (by omega), ?_⟩
    refine ⟨wr _ (by omega) (by omega), ?_⟩
    rfl
  · refine body_s ([Ans.o (Orc.val 14 (AV.agg [I (a - p), I (b - q), I (c - s), I (d - t)]) (H.mk [[I a, I b, I c, I d], [I p, I q, I s, I t], [I 0, I 0, I 0, I 0]] [] [])), Ans.o Orc.dflt, Ans.o Orc.dflt, Ans.o Orc.dflt, Ans.o Orc.dflt]) (aCall (Sof [c91.to]) (AV.fn (Fn.func (91 : Nat)) [] []) [AV.agg [I a, I b, I c, I d], AV.agg [I p, I q, I s, I t]] (H.mk [[I a, I b, I c, I d], [I p, I q, I s, I t], [I 0, I 0, I 0, I 0]] [] []) = some (AV.agg [I (a - p), I (b - q), I (c - s), I (d - t)], H.mk [[I a, I b, I c, I d], [I p, I q, I s, I t], [I 0, I 0, I 0, I 0]] [] []) ∧ IntKind.i64.wrap (1 : Int) = (1 : Int) ∧ IntKind.i64.wrap (q + (a - p)) = q + (a - p) ∧ IntKind.i64.wrap (1 : Int) = (1 : Int) ∧ IntKind.i64.wrap (2 : Int) = (2 : Int) ∧ IntKind.i64.wrap (s + (b - q)) = s + (b - q) ∧ IntKind.i64.wrap (2 : Int) = (2 : Int) ∧ IntKind.i64.wrap (3 : Int) = (3 : Int) ∧ IntKind.i64.wrap (t + (c - s)) = t + (c - s) ∧ IntKind.i64.wrap (3 : Int) = (3 : Int) ∧ (AV.agg [I p, I (q + (a - p)), I (s + (b - q)), I (t + (c - s))], H.mk [] [] []) = (AV.agg [I (inn true a p), I (inn true b q + oth true a p), I (inn true c s + oth true b q), I (inn true d t + oth true c s)], H.mk [] [] [])) (by kernel_rfl) ?_
    refine ⟨acall_hit (c := c91.to) (a, b, c, d, p, q, s, t) _ rfl hp', ?_⟩
    refine ⟨wr _ (by omega) (by omega), ?_⟩
    refine ⟨wr _ (by omega) (by omega), ?_⟩
    refine ⟨wr _ (by omega) (by omega), ?_⟩
    refine ⟨wr _ (by omega) (by omega), ?_⟩
    refine ⟨wr _ (by omega) (by omega), ?_⟩
    refine ⟨wr _ (by omega) (by omega), ?_⟩
    refine ⟨wr _ (by omega) (by omega), ?_⟩
    refine ⟨wr _ (by omega) (by omega), ?_⟩
    refine ⟨wr _ (by omega) (by omega), ?_⟩
    rfl
noncomputable def c69 : PCtr Try.prog := sctr ok69 (X := Int × Int × Int × Int × Int × Int × Int × Int × Bool) (fun x => [a4 x.1 x.2.1 x.2.2.1 x.2.2.2.1, a4 x.2.2.2.2.1 x.2.2.2.2.2.1 x.2.2.2.2.2.2.1 x.2.2.2.2.2.2.2.1, .bool x.2.2.2.2.2.2.2.2]) (fun x => bq x.1 x.2.2.2.2.1 ∧ bq x.2.1 x.2.2.2.2.2.1 ∧ bq x.2.2.1 x.2.2.2.2.2.2.1 ∧ bq x.2.2.2.1 x.2.2.2.2.2.2.2.1) (fun x => a4 (inn x.2.2.2.2.2.2.2.2 x.1 x.2.2.2.2.1) (inn x.2.2.2.2.2.2.2.2 x.2.1 x.2.2.2.2.2.1 + oth x.2.2.2.2.2.2.2.2 x.1 x.2.2.2.2.1) (inn x.2.2.2.2.2.2.2.2 x.2.2.1 x.2.2.2.2.2.2.1 + oth x.2.2.2.2.2.2.2.2 x.2.1 x.2.2.2.2.2.1) (inn x.2.2.2.2.2.2.2.2 x.2.2.2.1 x.2.2.2.2.2.2.2.1 + oth x.2.2.2.2.2.2.2.2 x.2.2.1 x.2.2.2.2.2.2.1)) (by intro x y e _ _; simp [Int.natCast_inj] at e; simp [e]) (fun x => by simp [AV.bnds, AV.bnd, AV.wk, rm_wk_bnd]) (fun x => by first | rfl | (simp [AV.bnd, rm_wk_bnd]; done)  | (simp [AV.bnd, AV.bnds, rm_wk_bnd]; done) | simp [AV.bnd, AV.bnds, Room.bnd, rm_wk_bnd]) (fun x hx => ⟨_, _, _, .pure c91 (.nil), r69 (x.1) (x.2.1) (x.2.2.1) (x.2.2.2.1) (x.2.2.2.2.1) (x.2.2.2.2.2.1) (x.2.2.2.2.2.2.1) (x.2.2.2.2.2.2.2.1) (x.2.2.2.2.2.2.2.2) hx⟩)
/-- the last elements -/
def lastV (a b c d : Int) (n : Nat) : List Int := [a, b, c, d].drop (4 - n)
theorem ok70 : FokM Try.prog none1 70 Try.f70 := ⟨mixed, by kernel_rfl, by kernel_rfl, by kernel_rfl, by kernel_rfl⟩
theorem r70 (a : Int) (b : Int) (c : Int) (d : Int) (n : Nat) (hp : 1 ≤ n ∧ n ≤ 4) : Body ⟨Try.prog, Sof (P := Try.prog) [], Pof (P := Try.prog) [], H.nil.base, 300⟩ none1 Try.f70 [a4 a b c d, I n] .nil (ls (lastV a b c d n) .full, ⟨[], [], []⟩) := by
  obtain ⟨h1, h2⟩ := hp
  rcases (by omega : n = 1 ∨ n = 2 ∨ n = 3 ∨ n = 4) with rfl | rfl | rfl | rfl
  · refine body_s ([]) (IntKind.i64.wrap (3 : Int) = (3 : Int) ∧ (AV.sl [I d] (1 : Nat) Room.full, H.mk [] [] []) = (AV.sl (ints (lastV a b c d (1 : Nat))) (1 : Nat) Room.full, H.mk [] [] [])) (by kernel_rfl) ?_
    refine ⟨wr _ (by omega) (by omega), ?_⟩
    rfl
  · refine body_s ([]) (IntKind.i64.wrap (2 : Int) = (2 : Int) ∧ (AV.sl [I c, I d] (2 : Nat) Room.full, H.mk [] [] []) = (AV.sl (ints (lastV a b c d (2 : Nat))) (2 : Nat) Room.full, H.mk [] [] [])) (by kernel_rfl) ?_
    refine ⟨wr _ (by omega) (by omega), ?_⟩
    rfl
  · refine body_s ([]) (IntKind.i64.wrap (1 : Int) = (1 : Int) ∧ (AV.sl [I b, I c, I d] (3 : Nat) Room.full, H.mk [] [] []) = (AV.sl (ints (lastV a b c d (3 : Nat))) (3 : Nat) Room.full, H.mk [] [] [])) (by kernel_rfl) ?_
    refine ⟨wr _ (by omega) (by omega), ?_⟩
    rfl
  · refine body_s ([]) (IntKind.i64.wrap (0 : Int) = (0 : Int) ∧ (AV.sl [I a, I b, I c, I d] (4 : Nat) Room.full, H.mk [] [] []) = (AV.sl (ints (lastV a b c d (4 : Nat))) (4 : Nat) Room.full, H.mk [] [] [])) (by kernel_rfl) ?_
    refine ⟨wr _ (by omega) (by omega), ?_⟩
    rfl
noncomputable def c70 : PCtr Try.prog := slctr ok70 (X := Int × Int × Int × Int × Nat) (fun x => [a4 x.1 x.2.1 x.2.2.1 x.2.2.2.1, I x.2.2.2.2]) (fun x => 1 ≤ x.2.2.2.2 ∧ x.2.2.2.2 ≤ 4) (fun x => ls (lastV x.1 x.2.1 x.2.2.1 x.2.2.2.1 x.2.2.2.2) .no) (by intro x y e _ _; simp [Int.natCast_inj] at e; simp [e]) (fun x => by simp [AV.bnds, AV.bnd, AV.wk, rm_wk_bnd]) (fun x => by first | rfl | (simp [AV.bnd, rm_wk_bnd]; done)  | (simp [AV.bnd, AV.bnds, rm_wk_bnd]; done) | simp [AV.bnd, AV.bnds, Room.bnd, rm_wk_bnd]) (fun x hx => ⟨_, _, _, ls (lastV x.1 x.2.1 x.2.2.1 x.2.2.2.1 x.2.2.2.2) .full, [], .nil, r70 (x.1) (x.2.1) (x.2.2.1) (x.2.2.2.1) (x.2.2.2.2) hx, by simp [AV.plain, AV.plains, plains_ints, plains_rows], by first | (simp only [AV.wkd, wkds_rows]; done) | (simp only [AV.wkd, wkds_ints]; done) | simp [AV.wkd, AV.wkds, Room.wk]⟩)
end Go.Proofs.Gss

