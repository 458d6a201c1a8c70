/- Layer 4: how many points, how many concepts. -/
import Derived.Test.YtdnidpojcocklaaDoorLnB
import Derived.KernelRfl
set_option linter.unusedSimpArgs false
set_option linter.unusedVariables false
set_option linter.unnecessarySimpa false
set_option maxHeartbeats 4000000
set_option maxRecDepth 100000
namespace Go.Proofs.Lrn
open Go Go.VM

/-- how often a test holds below n -/
def cb (f : Nat → Bool) : Nat → Nat
  | 0 => 0
  | n + 1 => cb f n + (f n).toNat
theorem cb_add (f : Nat → Bool) (m : Nat) : ∀ n, cb f (m + n) = cb f m + cb (fun i => f (m + i)) n
  | 0 => rfl
  | n + 1 => by
    show cb f (m + n) + (f (m + n)).toNat = _
    rw [cb_add f m n]; simp only [cb]; omega
theorem cb_congr {f g : Nat → Bool} : ∀ n, (∀ i, i < n → f i = g i) → cb f n = cb g n
  | 0, _ => rfl
  | n + 1, h => by simp only [cb]; rw [cb_congr n (fun i hi => h i (by omega)), h n (by omega)]
/-- the number of a set's concepts -/
def pc (b : BitVec 32) : Nat := cb (fun i => b.getLsbD i) 32
/-- the number of a set's points -/
def pk (n : Int) : Int := (cb (fun i => n.toNat.testBit i) 5 : Nat)
def isI (r : Option (AV × H)) (z : Int) : Bool := match r with
  | some (.int .i64 m, ⟨[], [], []⟩) => m == z
  | _ => false
theorem isI_eq {r : Option (AV × H)} {z : Int} (h : isI r z = true) : r = some (I z, .nil) := by
  unfold isI at h
  split at h
  · simp at h; subst h; rfl
  · cases h
theorem a90 : ((List.range 32).all fun n => isI (ebody Tryd.prog (Pof (P := Tryd.prog) []) (Sof (P := Tryd.prog) []) 300 Tryd.f90 (bd Tryd.f90) [.int .u64 (n : Int)] .nil) (pk n)) = true := by kernel_rfl
abbrev is32 (n : Int) : Prop := 0 ≤ n ∧ n < 32
theorem r90 (n : Int) (h : is32 n) : ebody Tryd.prog (Pof (P := Tryd.prog) []) (Sof (P := Tryd.prog) []) 300 Tryd.f90 (bd Tryd.f90) [.int .u64 n] .nil = some (I (pk n), .nil) := by
  obtain ⟨k, rfl⟩ : ∃ k : Nat, n = k := ⟨n.toNat, by omega⟩
  exact isI_eq (List.all_eq_true.1 a90 k (List.mem_range.2 (by omega)))
theorem ok90 : Fok Tryd.prog 90 Tryd.f90 := ⟨mixed, by kernel_rfl, by kernel_rfl, by kernel_rfl, by kernel_rfl⟩
noncomputable def c90 : PCtr Tryd.prog := pctr ok90 (X := Int) (fun x => [.int .u64 x]) (fun x => is32 x) (fun x => I (pk x)) (by intro x y e _ _; simp at e; simp [e]) (fun _ => rfl) (fun _ => rfl) (pof_ok _) (sof_ok _) (fun x => 300) (fun x hx => r90 x hx)
theorem ok84 : FokM Tryd.prog none1 84 Tryd.f84 := ⟨mixed, by kernel_rfl, by kernel_rfl, by kernel_rfl, by kernel_rfl⟩
theorem r84 (n : Int) (hp : is32 n) : Body ⟨Tryd.prog, Sof (P := Tryd.prog) [c90.to], Pof (P := Tryd.prog) [], H.nil.base, 300⟩ none1 Tryd.f84 [.int .u64 n] .nil (I (pk n), .nil) := by
  refine body_s ([Ans.o (Orc.val 7 (I (pk n)) (H.mk [] [] []))]) (aCall (Sof [c90.to]) (AV.fn (Fn.func (90 : Nat)) [] []) [AV.int IntKind.u64 n] (H.mk [] [] []) = some (I (pk n), H.mk [] [] []) ∧ (I (pk n), H.mk [] [] []) = (I (pk n), H.mk [] [] [])) (by kernel_rfl) ?_
  refine ⟨by first | (refine acall_hit (c := c90.to) (n) _ rfl ?_; first | exact True.intro | exact hp | exact hp' | (simp only [c90, PCtr.to, pctr, lctr, small, tiny, rng, decide_eq_true_eq, decide_eq_false_iff_not, true_or, or_true, true_and, and_true, Int.reduceEq, Int.reduceNeg, eq_self, reduceIte, if_true, if_false]; first | assumption | omega) | (simp only [c90, PCtr.to, pctr, lctr, small, tiny, rng, decide_eq_true_eq, decide_eq_false_iff_not, true_or, or_true, true_and, and_true, Int.reduceEq, Int.reduceNeg, eq_self, reduceIte, if_true, if_false] at *; first | assumption | omega)) | (refine acall_b (acall_hit (c := c90.to) (n) _ rfl ?_) (by assumption); first | exact True.intro | exact hp | exact hp' | (simp only [c90, PCtr.to, pctr, lctr, small, tiny, rng, decide_eq_true_eq, decide_eq_false_iff_not, true_or, or_true, true_and, and_true, Int.reduceEq, Int.reduceNeg, eq_self, reduceIte, if_true, if_false]; first | assumption | omega) | (simp only [c90, PCtr.to, pctr, lctr, small, tiny, rng, decide_eq_true_eq, decide_eq_false_iff_not, true_or, or_true, true_and, and_true, Int.reduceEq, Int.reduceNeg, eq_self, reduceIte, if_true, if_false] at *; first | assumption | omega)), ?_⟩
  first | with_reducible rfl | (refine bleaf_t ?_; first | omega | (simp only [small, tiny, rng, decide_eq_true_eq, decide_eq_false_iff_not, true_or, or_true, true_and, and_true, Int.reduceEq, Int.reduceNeg, eq_self, reduceIte, if_true, if_false] at *; omega)) | (refine bleaf_f ?_; first | omega | (simp only [small, tiny, rng, decide_eq_true_eq, decide_eq_false_iff_not, true_or, or_true, true_and, and_true, Int.reduceEq, Int.reduceNeg, eq_self, reduceIte, if_true, if_false] at *; omega)) | (refine ileaf ?_; first | omega | (simp only [small, tiny, rng, decide_eq_true_eq, decide_eq_false_iff_not, true_or, or_true, true_and, and_true, Int.reduceEq, Int.reduceNeg, eq_self, reduceIte, if_true, if_false] at *; omega)) | (exfalso; omega) | (simp only [Prod.mk.injEq, AV.agg.injEq, AV.tup.injEq, List.cons.injEq, AV.int.injEq, AV.bool.injEq, and_true, true_and]; (repeat' apply And.intro) <;> first | with_reducible rfl | (simp []; done) | (simp []; omega) | omega | (simp only [small, tiny, rng, decide_eq_true_eq, decide_eq_false_iff_not, true_or, or_true, true_and, and_true, Int.reduceEq, Int.reduceNeg, eq_self, reduceIte, if_true, if_false] at *; omega) | (simp [small, tiny, rng, decide_eq_true_eq, decide_eq_false_iff_not, true_or, or_true, true_and, and_true, Int.reduceEq, Int.reduceNeg, eq_self, reduceIte, if_true, if_false, *]; done) | (simp [small, tiny, rng, decide_eq_true_eq, decide_eq_false_iff_not, true_or, or_true, true_and, and_true, Int.reduceEq, Int.reduceNeg, eq_self, reduceIte, if_true, if_false, *]; omega)) | (exfalso; simp only [small, tiny, rng, decide_eq_true_eq, decide_eq_false_iff_not, true_or, or_true, true_and, and_true, Int.reduceEq, Int.reduceNeg, eq_self, reduceIte, if_true, if_false] at *; omega) | (simp [small, tiny, rng, decide_eq_true_eq, decide_eq_false_iff_not, true_or, or_true, true_and, and_true, Int.reduceEq, Int.reduceNeg, eq_self, reduceIte, if_true, if_false] at *; done) | (simp [small, tiny, rng, decide_eq_true_eq, decide_eq_false_iff_not, true_or, or_true, true_and, and_true, Int.reduceEq, Int.reduceNeg, eq_self, reduceIte, if_true, if_false] at *; omega)
noncomputable def c84 : PCtr Tryd.prog := sctr ok84 (X := Int) (fun x => [.int .u64 x]) (fun x => is32 x) (fun x => I (pk x)) (by intro x y e _ _; simp at e; simp [e]) (fun x => by simp [AV.bnds, AV.bnd, AV.wk, rm_wk_bnd]) (fun x => by first | rfl | simp [AV.bnd, AV.bnds, Room.bnd, rm_wk_bnd]) (fun x hx => ⟨_, _, _, .pure c90 (.nil), r84 (x) hx⟩)
theorem ok68 : FokM Tryd.prog none1 68 Tryd.f68 := ⟨mixed, by kernel_rfl, by kernel_rfl, by kernel_rfl, by kernel_rfl⟩
theorem r68 (n : Int) (hp : is32 n) : Body ⟨Tryd.prog, Sof (P := Tryd.prog) [c84.to], Pof (P := Tryd.prog) [], H.nil.base, 300⟩ none1 Tryd.f68 [I n] .nil (I (pk n), .nil) := by
  have ev0 : IntKind.u64.wrap n = n := by
    simp only [IntKind.wrap, IntKind.bits, IntKind.signed]
    simp
    omega
  refine body_s ([Ans.o (Orc.val 4 (AV.int IntKind.u64 n) (H.mk [] [] [])), Ans.o (Orc.val 5 (I (pk n)) (H.mk [] [] []))]) (aConvert Tryd.prog (3 : Nat) (64 : Nat) (I n) = some (AV.int IntKind.u64 n) ∧ aCall (Sof [c84.to]) (AV.fn (Fn.func (84 : Nat)) [] []) [AV.int IntKind.u64 n] (H.mk [] [] []) = some (I (pk n), H.mk [] [] []) ∧ (I (pk n), H.mk [] [] []) = (I (pk n), H.mk [] [] [])) (by kernel_rfl) ?_
  refine ⟨by first | exact told_conv (by kernel_rfl) (by kernel_rfl) ev0 | exact told_conv (by kernel_rfl) (by kernel_rfl) ev1 | exact told_conv (by kernel_rfl) (by kernel_rfl) ev2 | exact told_conv (by kernel_rfl) (by kernel_rfl) ev3 | exact told_conv (by kernel_rfl) (by kernel_rfl) ev4 | exact told_conv (by kernel_rfl) (by kernel_rfl) ev5 | exact told_conv (by kernel_rfl) (by kernel_rfl) ev6 | exact told_conv (by kernel_rfl) (by kernel_rfl) ev7 | exact told_conv (by kernel_rfl) (by kernel_rfl) ev8 | exact told_conv (by kernel_rfl) (by kernel_rfl) ev9 | exact told_conv (by kernel_rfl) (by kernel_rfl) ev10 | exact told_conv (by kernel_rfl) (by kernel_rfl) ev11, ?_⟩
  refine ⟨by first | (refine acall_hit (c := c84.to) (n) _ rfl ?_; first | exact True.intro | exact hp | exact hp' | (simp only [c84, PCtr.to, pctr, lctr, small, tiny, rng, decide_eq_true_eq, decide_eq_false_iff_not, true_or, or_true, true_and, and_true, Int.reduceEq, Int.reduceNeg, eq_self, reduceIte, if_true, if_false]; first | assumption | omega) | (simp only [c84, PCtr.to, pctr, lctr, small, tiny, rng, decide_eq_true_eq, decide_eq_false_iff_not, true_or, or_true, true_and, and_true, Int.reduceEq, Int.reduceNeg, eq_self, reduceIte, if_true, if_false] at *; first | assumption | omega)) | (refine acall_b (acall_hit (c := c84.to) (n) _ rfl ?_) (by assumption); first | exact True.intro | exact hp | exact hp' | (simp only [c84, PCtr.to, pctr, lctr, small, tiny, rng, decide_eq_true_eq, decide_eq_false_iff_not, true_or, or_true, true_and, and_true, Int.reduceEq, Int.reduceNeg, eq_self, reduceIte, if_true, if_false]; first | assumption | omega) | (simp only [c84, PCtr.to, pctr, lctr, small, tiny, rng, decide_eq_true_eq, decide_eq_false_iff_not, true_or, or_true, true_and, and_true, Int.reduceEq, Int.reduceNeg, eq_self, reduceIte, if_true, if_false] at *; first | assumption | omega)), ?_⟩
  first | with_reducible rfl | (refine bleaf_t ?_; first | omega | (simp only [small, tiny, rng, decide_eq_true_eq, decide_eq_false_iff_not, true_or, or_true, true_and, and_true, Int.reduceEq, Int.reduceNeg, eq_self, reduceIte, if_true, if_false] at *; omega)) | (refine bleaf_f ?_; first | omega | (simp only [small, tiny, rng, decide_eq_true_eq, decide_eq_false_iff_not, true_or, or_true, true_and, and_true, Int.reduceEq, Int.reduceNeg, eq_self, reduceIte, if_true, if_false] at *; omega)) | (refine ileaf ?_; first | omega | (simp only [small, tiny, rng, decide_eq_true_eq, decide_eq_false_iff_not, true_or, or_true, true_and, and_true, Int.reduceEq, Int.reduceNeg, eq_self, reduceIte, if_true, if_false] at *; omega)) | (exfalso; omega) | (simp only [Prod.mk.injEq, AV.agg.injEq, AV.tup.injEq, List.cons.injEq, AV.int.injEq, AV.bool.injEq, and_true, true_and]; (repeat' apply And.intro) <;> first | with_reducible rfl | (simp []; done) | (simp []; omega) | omega | (simp only [small, tiny, rng, decide_eq_true_eq, decide_eq_false_iff_not, true_or, or_true, true_and, and_true, Int.reduceEq, Int.reduceNeg, eq_self, reduceIte, if_true, if_false] at *; omega) | (simp [small, tiny, rng, decide_eq_true_eq, decide_eq_false_iff_not, true_or, or_true, true_and, and_true, Int.reduceEq, Int.reduceNeg, eq_self, reduceIte, if_true, if_false, *]; done) | (simp [small, tiny, rng, decide_eq_true_eq, decide_eq_false_iff_not, true_or, or_true, true_and, and_true, Int.reduceEq, Int.reduceNeg, eq_self, reduceIte, if_true, if_false, *]; omega)) | (exfalso; simp only [small, tiny, rng, decide_eq_true_eq, decide_eq_false_iff_not, true_or, or_true, true_and, and_true, Int.reduceEq, Int.reduceNeg, eq_self, reduceIte, if_true, if_false] at *; omega) | (simp [small, tiny, rng, decide_eq_true_eq, decide_eq_false_iff_not, true_or, or_true, true_and, and_true, Int.reduceEq, Int.reduceNeg, eq_self, reduceIte, if_true, if_false] at *; done) | (simp [small, tiny, rng, decide_eq_true_eq, decide_eq_false_iff_not, true_or, or_true, true_and, and_true, Int.reduceEq, Int.reduceNeg, eq_self, reduceIte, if_true, if_false] at *; omega)
noncomputable def c68 : PCtr Tryd.prog := sctr ok68 (X := Int) (fun x => [I x]) (fun x => is32 x) (fun x => I (pk x)) (by intro x y e _ _; simp at e; simp [e]) (fun x => by simp [AV.bnds, AV.bnd, AV.wk, rm_wk_bnd]) (fun x => by first | rfl | simp [AV.bnd, AV.bnds, Room.bnd, rm_wk_bnd]) (fun x hx => ⟨_, _, _, .pure c84 (.nil), r68 (x) hx⟩)
end Go.Proofs.Lrn

