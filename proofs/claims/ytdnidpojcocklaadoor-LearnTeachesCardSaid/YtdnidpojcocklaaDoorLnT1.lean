/- Layer 4: the reference's learners. -/
import Derived.Test.YtdnidpojcocklaaDoorLnS0
import Derived.Test.YtdnidpojcocklaaDoorLnR
import Derived.KernelRfl
set_option linter.unusedSimpArgs false
set_option linter.unusedVariables false
set_option linter.unnecessarySimpa false
set_option maxHeartbeats 4000000
set_option maxRecDepth 100000
namespace Go.Proofs.Lrn
open Go Go.VM

theorem cb_or {f g : Nat → Bool} : ∀ n, (∀ i, i < n → ¬ (f i = true ∧ g i = true)) → cb (fun i => f i || g i) n = cb f n + cb g n
  | 0, _ => rfl
  | n + 1, h => by
    simp only [cb]
    rw [cb_or n (fun i hi => h i (by omega))]
    have := h n (by omega)
    cases hf : f n <;> cases hg : g n <;> simp_all <;> omega
theorem pc_list : ∀ (l : List Int), inL l → l.Nodup → cb (fun i => decide ((i : Int) ∈ l)) 32 = l.length
  | [], _, _ => by
    have : cb (fun i => decide ((i : Int) ∈ ([] : List Int))) 32 = cb (fun _ => false) 32 := cb_congr 32 (fun i _ => by simp)
    rw [this]; rfl
  | c :: l, h, hn => by
    obtain ⟨h0, h1⟩ := h c (by simp)
    obtain ⟨k, rfl⟩ : ∃ k : Nat, c = k := ⟨c.toNat, by omega⟩
    rw [List.nodup_cons] at hn
    have e : cb (fun i => decide ((i : Int) ∈ ((k : Int) :: l))) 32 = cb (fun i => decide (i = k) || decide ((i : Int) ∈ l)) 32 := cb_congr 32 (fun i _ => by
      rw [Bool.eq_iff_iff]
      simp only [List.mem_cons, decide_eq_true_eq, Bool.or_eq_true]
      constructor
      · rintro (h | h)
        · exact .inl (by omega)
        · exact .inr h
      · rintro (h | h)
        · exact .inl (by omega)
        · exact .inr h)
    rw [e, cb_or 32 (fun i _ hi => by simp only [decide_eq_true_eq] at hi; obtain ⟨rfl, h2⟩ := hi; exact hn.1 h2), cb_one, if_pos (by omega), pc_list l (fun c hc => h c (by simp [hc])) hn.2]
    simp; omega
/-- the number of a set's concepts is its list's length -/
theorem pc_len {l : List Int} (h : inL l) (hn : l.Nodup) : pc (sOf l) = l.length := by
  rw [← pc_list l h hn]
  exact cb_congr 32 (fun i hi => sOf_bit h hi)
abbrev lsn (l : List Int) (r : Room) : Prop := lst l r ∧ l.Nodup
@[simp] theorem lsn_wk {l : List Int} {r : Room} : lsn l r.wk ↔ lsn l r := by simp only [lsn, lst_wk]
theorem cls_lt {p : Int} {l : List Int} (h : cls p l) : ∀ (d i : Nat), i + d + 1 < l.length → l.getD i i0 < l.getD (i + d + 1) i0
  | 0, i, hi => by
    have := (h.2.2.2 (i + 1) hi).2 (by omega)
    rw [Nat.add_sub_cancel] at this; exact this
  | d + 1, i, hi => by
    have h1 := cls_lt h d i (by omega)
    have h2 := (h.2.2.2 (i + (d + 1) + 1) hi).2 (by omega)
    rw [Nat.add_sub_cancel] at h2
    exact Int.lt_trans h1 h2
end Go.Proofs.Lrn

