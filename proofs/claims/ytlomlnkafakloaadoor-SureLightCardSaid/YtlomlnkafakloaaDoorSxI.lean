/- Layer 5: codes against weights and covers. -/
import Derived.Test.YtlomlnkafakloaaDoorSyh
import Derived.Test.YtlomlnkafakloaaDoorSuZ
import Derived.Test.YtlomlnkafakloaaDoorSvE
set_option linter.unusedSimpArgs false
set_option linter.unusedVariables false
set_option linter.unnecessarySimpa false
namespace Go.Proofs.Sur
open Go Go.VM
set_option maxHeartbeats 1000000
theorem count_sm {n : Nat} {S : List Nat} {f : Nat → Nat} (hf : ∀ x, x ∈ S → f x < n) (q : Nat → Bool) :
    sm n (fun v => if q v = true then ((S.filter (fun x => decide (f x = v))).length : Int) else 0) = ((S.filter (fun x => q (f x))).length : Int) := by
  induction S with
  | nil => simp only [List.filter_nil, List.length_nil]; exact sm_zero n fun v _ => by split <;> rfl
  | cons a S ih =>
    have ih := ih (fun x hx => hf x (List.mem_cons_of_mem _ hx))
    have ha := hf a (by simp)
    have e : sm n (fun v => if q v = true then (((a :: S).filter (fun x => decide (f x = v))).length : Int) else 0) = sm n (fun v => (if q v = true then (if v = f a then (1 : Int) else 0) else 0) + (if q v = true then ((S.filter (fun x => decide (f x = v))).length : Int) else 0)) := sm_congr n fun v _ => by
      by_cases hq : q v = true
      · rw [if_pos hq, if_pos hq, if_pos hq]
        by_cases hv : f a = v
        · rw [List.filter_cons_of_pos (by simpa using hv), if_pos hv.symm]; simp only [List.length_cons]; omega
        · rw [List.filter_cons_of_neg (by simpa using hv), if_neg (fun c => hv c.symm)]; omega
      · rw [if_neg hq, if_neg hq, if_neg hq]; rfl
    rw [e, sm_add, ih, sm_one n (f := fun v => if q v = true then (if v = f a then (1 : Int) else 0) else 0) (k := f a) ha (fun v _ hv => by
      show (if q v = true then (if v = f a then (1 : Int) else 0) else 0) = 0
      rw [if_neg hv]; split <;> rfl), if_pos rfl]
    by_cases hq : q (f a) = true
    · rw [if_pos hq, List.filter_cons_of_pos (p := fun x => q (f x)) hq]; simp only [List.length_cons]; omega
    · rw [if_neg hq, List.filter_cons_of_neg (p := fun x => q (f x)) hq]; omega
theorem clq_near {g : List Int} (hg : Gr g) {i : Nat} (hi : i < (clV g).length) {u v : Nat} (hu : u < g.length) (hv : v < g.length) (h1 : bS (clV g) i u = true) (h2 : bS (clV g) i v = true) : (wt_ (nrV g) u).getLsbD v = true := by
  have h64 := pw_64 hg.1.2
  have hm := clV_get hi
  have hlt := (clV_mem hg.1 hm).2
  have hok := clL_ok _ _ hm
  have h6 := hg.1.2
  have hp2 := Nat.two_pow_pos g.length
  rw [nrV_get hu, nrB_bit hg.1 hu (by omega)]
  by_cases e : v = u
  · subst e; simp
  · have := (qc_iff hg (s := (at_ (clV g) i).toNat) (by omega) hu).1 ((okF_iff _).1 hok u hu) h1 v hv h2 e
    rw [this]; rfl
/-! a cover has at least the weight -/
end Go.Proofs.Sur

