/- Layer 5: codes against weights and covers. -/
import Derived.Test.YtlomlnkafakloaaDoorSyh
import Derived.Test.YtlomlnkafakloaaDoorSuZ
import Derived.Test.YtlomlnkafakloaaDoorSvE
set_option linter.unusedSimpArgs false
set_option linter.unusedVariables false
set_option linter.unnecessarySimpa false
namespace Go.Proofs.Sur
open Go Go.VM
set_option maxHeartbeats 1000000
/-- how many have a value, over all values of some kind -/
theorem count_sm {n : Nat} {S : List Nat} {f : Nat → Nat} (hf : ∀ x, x ∈ S → f x < n) (q : Nat → Bool) :
    sm n (fun v => if q v = true then ((S.filter (fun x => decide (f x = v))).length : Int) else 0) = ((S.filter (fun x => q (f x))).length : Int) := by
  induction S with
  | nil => simp only [List.filter_nil, List.length_nil]; exact sm_zero n fun v _ => by split <;> rfl
  | cons a S ih =>
    have ih := ih (fun x hx => hf x (List.mem_cons_of_mem _ hx))
    have ha := hf a (by simp)
    have e : sm n (fun v => if q v = true then (((a :: S).filter (fun x => decide (f x = v))).length : Int) else 0) = sm n (fun v => (if q v = true then (if v = f a then (1 : Int) else 0) else 0) + (if q v = true then ((S.filter (fun x => decide (f x = v))).length : Int) else 0)) := sm_congr n fun v _ => by
      by_cases hq : q v = true
      · rw [if_pos hq, if_pos hq, if_pos hq]
        by_cases hv : f a = v
        · rw [List.filter_cons_of_pos (by simpa using hv), if_pos hv.symm]; simp only [List.length_cons]; omega
        · rw [List.filter_cons_of_neg (by simpa using hv), if_neg (fun c => hv c.symm)]; omega
      · rw [if_neg hq, if_neg hq, if_neg hq]; rfl
    rw [e, sm_add, ih, sm_one n (f := fun v => if q v = true then (if v = f a then (1 : Int) else 0) else 0) (k := f a) ha (fun v _ hv => by
      show (if q v = true then (if v = f a then (1 : Int) else 0) else 0) = 0
      rw [if_neg hv]; split <;> rfl), if_pos rfl]
    by_cases hq : q (f a) = true
    · rw [if_pos hq, List.filter_cons_of_pos (p := fun x => q (f x)) hq]; simp only [List.length_cons]; omega
    · rw [if_neg hq, List.filter_cons_of_neg (p := fun x => q (f x)) hq]; omega
theorem flt_all (S : List Nat) : S.filter (fun _ => true) = S := List.filter_eq_self.2 (fun _ _ => rfl)
/-- two signals of a set of neighbours are near -/
theorem clq_near {g : List Int} (hg : Gr g) {i : Nat} (hi : i < (clV g).length) {u v : Nat} (hu : u < g.length) (hv : v < g.length) (h1 : bS (clV g) i u = true) (h2 : bS (clV g) i v = true) : (wt_ (nrV g) u).getLsbD v = true := by
  have h64 := pw_64 hg.1.2
  have hm := clV_get hi
  have hlt := (clV_mem hg.1 hm).2
  have hok := clL_ok _ _ hm
  have h6 := hg.1.2
  have hp2 := Nat.two_pow_pos g.length
  rw [nrV_get hu, nrB_bit hg.1 hu (by omega)]
  by_cases e : v = u
  · subst e; simp
  · have := (qc_iff hg (s := (at_ (clV g) i).toNat) (by omega) hu).1 ((okF_iff _).1 hok u hu) h1 v hv h2 e
    rw [this]; rfl
/-- codes of one letter more -/
theorem rosen {g : List Int} (hg : Gr g) {a : List W} (ha : gsW a) (hl : a.length * g.length ≤ 64) {S : List Nat} (hS : Ind (prV a (nrV g)) (ful (a.length * g.length)) S) : (S.length : Int) * wgD g ≤ wgN g * (msV a (ful a.length) : Nat) := by
  obtain ⟨_, ⟨z, s, hc⟩, e1, e2, _⟩ := wg_ok hg
  have hn0 : 0 < g.length := hg.1.1
  have ha64 := ha.1.1.2
  have hlt : ∀ x, x ∈ S → x < a.length * g.length := fun x hx => by
    have := hS.ins x hx
    rw [ful_bit hl, decide_eq_true_eq] at this; exact this
  have hnear : ∀ x, x ∈ S → ∀ y, y ∈ S → (wt_ (prV a (nrV g)) x).getLsbD y = ((wt_ a (x / g.length)).getLsbD (y / g.length) && (wt_ (nrV g) (x % g.length)).getLsbD (y % g.length)) := fun x hx y hy => by
    have hx' := hlt x hx
    have hy' := hlt y hy
    have d := divlt hn0 hx'
    have hgd := nrV_gd hg
    rw [prV_get (nrV g) (by rw [nrV_len]; omega) a x (by rw [nrV_len]; exact hx'), nrV_len]
    exact prW_iff (m := a.length) (ha.1.2.1 _ d.1) (by have := hgd.2.1 (x % g.length) (by rw [nrV_len]; exact d.2); rw [nrV_len] at this; exact this) hl hy'
  have hf : ∀ x, x ∈ S → x % g.length < g.length := fun x _ => Nat.mod_lt _ hn0
  have hT := count_sm hf (fun _ => true)
  simp only [if_true, flt_all] at hT
  have key := hc.lptop (x := fun v => ((S.filter (fun x => decide (x % g.length = v))).length : Int)) (D := ((msV a (ful a.length) : Nat) : Int)) (fun _ _ => Int.natCast_nonneg _) (fun i hi => by
    show sm g.length (fun v => if bS (clV g) i v = true then ((S.filter (fun x => decide (x % g.length = v))).length : Int) else 0) ≤ _
    rw [count_sm hf (fun v => bS (clV g) i v)]
    have hI : Ind a (ful a.length) ((S.filter (fun x => bS (clV g) i (x % g.length))).map (· / g.length)) := by
      have hnd := hS.nd.filter (fun x => bS (clV g) i (x % g.length))
      have far : ∀ x, x ∈ S.filter (fun x => bS (clV g) i (x % g.length)) → ∀ y, y ∈ S.filter (fun x => bS (clV g) i (x % g.length)) → x ≠ y → (wt_ a (x / g.length)).getLsbD (y / g.length) = false := fun x hx y hy hne => by
        obtain ⟨hx1, hx2⟩ := List.mem_filter.1 hx
        obtain ⟨hy1, hy2⟩ := List.mem_filter.1 hy
        have h1 := hS.far x hx1 y hy1 hne
        rw [hnear x hx1 y hy1, clq_near hg hi (hf x hx1) (hf y hy1) hx2 hy2, Bool.and_true] at h1
        exact h1
      refine ⟨?_, ?_, ?_⟩
      · rw [List.Nodup, List.pairwise_map]
        refine (List.Pairwise.and_mem.1 hnd).imp ?_
        rintro x y ⟨hx, hy, hne⟩ e
        have h1 := far x hx y hy hne
        have d := divlt hn0 (hlt x (List.mem_filter.1 hx).1)
        rw [← e, ha.1.2.2.2 _ d.1] at h1
        cases h1
      · intro k hk
        obtain ⟨x, hx, rfl⟩ := List.mem_map.1 hk
        have d := divlt hn0 (hlt x (List.mem_filter.1 hx).1)
        rw [ful_bit ha64, decide_eq_true_eq]; exact d.1
      · intro k hk k' hk' hne
        obtain ⟨x, hx, rfl⟩ := List.mem_map.1 hk
        obtain ⟨y, hy, rfl⟩ := List.mem_map.1 hk'
        exact far x hx y hy (fun e => hne (by rw [e]))
    have := ms_le ha.1.2.2 (ful_sub ha64) hI
    rw [List.length_map] at this
    omega)
  rw [hT] at key
  rw [e1, e2]; exact key
/-! a cover has at least the weight -/
end Go.Proofs.Sur

