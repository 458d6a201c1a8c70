/- Layer 2: tournaments with some results turned, their mathematics. -/
import Derived.Test.YtnnhomkkggkkfaaDoorRkAm
import Derived.Test.YtnnhomkkggkkfaaDoorRkZ
import Derived.Test.YtnnhomkkggkkfaaDoorRkAh
set_option linter.unusedSimpArgs false
set_option linter.unusedVariables false
set_option linter.unnecessarySimpa false
set_option maxRecDepth 100000
namespace Go.Proofs.Rnk
open Go Go.VM
open Go.Proofs.Sur (andn andn_bit andn_le)

def T1 (A : Nat → Nat) (a b : Nat) : Nat → Nat := fun e => if e = b then A e ^^^ 2 ^ a else if e = a then A e ^^^ 2 ^ b else A e
def mt (a b e f : Nat) : Bool := (decide (e = a) && decide (f = b)) || (decide (e = b) && decide (f = a))
theorem T1_bit {A : Nat → Nat} {a b e f : Nat} (hne : a ≠ b) : (T1 A a b e).testBit f = ((A e).testBit f ^^ mt a b e f) := by
  simp only [T1, mt]
  by_cases c1 : e = b
  · subst c1
    rw [if_pos rfl, Nat.testBit_xor, Nat.testBit_two_pow]
    have : e ≠ a := fun h => hne h.symm
    simp [this, eq_comm]
  · rw [if_neg c1]
    by_cases c2 : e = a
    · subst c2
      rw [if_pos rfl, Nat.testBit_xor, Nat.testBit_two_pow]
      simp [hne, eq_comm]
    · rw [if_neg c2]; simp [c1, c2]
abbrev p1 (l : List Pr) (k : Nat) : Nat := (l.getD k pair0).1.toNat
abbrev p2 (l : List Pr) (k : Nat) : Nat := (l.getD k pair0).2.toNat
def tv (A : Nat → Nat) (l : List Pr) : Nat → Nat → Nat
  | 0 => A
  | k + 1 => T1 (tv A l k) (p1 l k) (p2 l k)
theorem PK.ne {n : Nat} {l : List Pr} {k : Nat} (h : PK n l k) : p1 l k ≠ p2 l k ∧ p1 l k < n ∧ p2 l k < n := by
  have h1 := h.a; have h2 := h.b; have h3 := h.c
  simp only [p1, p2]; omega
def pr (l : List Pr) (e f : Nat) : Nat → Bool
  | 0 => false
  | k + 1 => pr l e f k ^^ mt (p1 l k) (p2 l k) e f
theorem tv_bit {A : Nat → Nat} {n : Nat} {l : List Pr} {e f : Nat} : ∀ k, (∀ j, j < k → PK n l j) → (tv A l k e).testBit f = ((A e).testBit f ^^ pr l e f k)
  | 0, _ => by simp [tv, pr]
  | k + 1, h => by
    rw [tv, T1_bit (h k (by omega)).ne.1, tv_bit k (fun j hj => h j (by omega)), pr, Bool.xor_assoc]
theorem mt_sym (a b e f : Nat) : mt a b e f = mt a b f e := by
  simp only [mt]; rw [Bool.and_comm (decide (e = a)), Bool.and_comm (decide (e = b)), Bool.or_comm]
theorem pr_sym (l : List Pr) (e f : Nat) : ∀ k, pr l e f k = pr l f e k
  | 0 => rfl
  | k + 1 => by rw [pr, pr, pr_sym l e f k, mt_sym]
theorem pr_self {n : Nat} {l : List Pr} {e : Nat} : ∀ k, (∀ j, j < k → PK n l j) → pr l e e k = false
  | 0, _ => rfl
  | k + 1, h => by
    have := (h k (by omega)).ne.1
    rw [pr, pr_self k (fun j hj => h j (by omega)), mt]
    by_cases c : e = p1 l k
    · have : e ≠ p2 l k := fun q => this (c.symm.trans q)
      simp [this]
    · simp [c]
theorem pr_out {n : Nat} {l : List Pr} {e f : Nat} (hf : n ≤ f) : ∀ k, (∀ j, j < k → PK n l j) → pr l e f k = false
  | 0, _ => rfl
  | k + 1, h => by
    obtain ⟨_, h2, h3⟩ := (h k (by omega)).ne
    have c1 : f ≠ p1 l k := by omega
    have c2 : f ≠ p2 l k := by omega
    rw [pr, pr_out hf k (fun j hj => h j (by omega)), mt]
    simp [c1, c2]
abbrev tn (t : List Int) (l : List Pr) : Nat → Nat := tv (sn t) l l.length
abbrev prs (n : Nat) (l : List Pr) : Prop := ∀ j, j < l.length → PK n l j
abbrev tnl (t : List Int) (l : List Pr) : List Int := wl t.length (tn t l)
theorem tv_lt {t : List Int} (h : Tn t) {l : List Pr} {k : Nat} (hk : ∀ j, j < k → PK t.length l j) (e : Nat) : tv (sn t) l k e < 2 ^ t.length := by
  apply lt_of_bits
  intro i hi
  rw [tv_bit k hk] at hi
  apply Classical.byContradiction
  intro hn
  rw [pr_out (n := t.length) (by omega) k hk] at hi
  have : (sn t e).testBit i = false := by
    cases c : (sn t e).testBit i
    · rfl
    · have := (h.lt (i := e) (j := i) c).2; omega
  rw [this] at hi; simp at hi
theorem wl_ia {n : Nat} {A : Nat → Nat} {e : Nat} (he : e < n) : ia (wl n A) e = ((A e : Nat) : Int) := wl_get A he
theorem wl_snE {n : Nat} {A : Nat → Nat} {e : Nat} (he : e < n) : sn (wl n A) e = A e := by simp only [sn]; rw [wl_ia he]; rfl
theorem tnl_tn {t : List Int} (h : Tn t) {l : List Pr} (hl : prs t.length l) : Tn (tnl t l) := by
  have h8 := h.s.2
  refine ⟨⟨by rw [wl_len]; exact h.s.1, by rw [wl_len]; exact h8⟩, fun i hi => ?_⟩
  rw [wl_len] at hi
  have hb : ∀ f, bi (ia (tnl t l) i) f = (bt t i f ^^ pr l i f l.length) := fun f => by
    rw [wl_ia hi]; exact tv_bit _ hl
  refine ⟨⟨⟨by rw [wl_ia hi]; omega, ?_⟩, ?_⟩, fun j hj => ?_⟩
  · rw [wl_ia hi, wl_len]
    have : tn t l i < 2 ^ t.length := tv_lt h hl i
    exact Int.ofNat_lt.2 this
  · show bi (ia (tnl t l) i) i = false
    rw [hb, h.irr, pr_self _ hl]; rfl
  · show bi (ia (tnl t l) i) j ≠ bi (ia (tnl t l) j) i
    have hj' : j < t.length := by omega
    have hb2 : bi (ia (tnl t l) j) i = (bt t j i ^^ pr l j i l.length) := by
      rw [wl_ia hj']; exact tv_bit _ hl
    rw [hb, hb2, pr_sym l j i, h.tot hi hj' (by omega)]
    cases bt t j i <;> cases pr l i j l.length <;> simp
theorem gs_turn {A : Nat → Nat} {S : Nat} {o : Nat → Nat} {a b : Nat} (h : S < 256) (hne : a ≠ b) {m : Nat} (hw : way S o m) : ∀ k, k ≤ m →
    ((∀ j, j < k → o j ≠ a ∧ o j ≠ b) → gs A S o k = gs (T1 A a b) S o k) ∧ gs A S o k ≤ gs (T1 A a b) S o k + 1
  | 0, _ => ⟨fun _ => rfl, by simp [gs]⟩
  | k + 1, hk => by
    obtain ⟨h1, h2⟩ := gs_turn (A := A) h hne hw k (by omega)
    have hR := rs_lt (o := o) h k
    have key : ∀ p q : Nat, (∀ f, (T1 A a b p).testBit f = ((A p).testBit f ^^ decide (f = q))) → p ≠ q → o k = p →
        co A (rs S o k) p ≤ co (T1 A a b) (rs S o k) p + 1 ∧ ((rs S o k).testBit q = false → co A (rs S o k) p = co (T1 A a b) (rs S o k) p) := fun p q hT hpq _ => by
      rw [co_sm hR, co_sm hR]
      constructor
      · have e : ∀ x, x < 8 → ((((rs S o k).testBit x && decide (x ≠ p)) && !(A p).testBit x).toNat) ≤ ((((rs S o k).testBit x && decide (x ≠ p)) && !(T1 A a b p).testBit x).toNat) + (if x = q then 1 else 0) := fun x _ => by
          rw [hT]
          by_cases c : x = q
          · rw [if_pos c]
            cases ((rs S o k).testBit x && decide (x ≠ p)) <;> cases (A p).testBit x <;> simp [c]
          · simp [c]
        have := sm_le e
        rw [sm_add (fun x => ((((rs S o k).testBit x && decide (x ≠ p)) && !(T1 A a b p).testBit x).toNat)) (fun x => if x = q then 1 else 0), sm_one] at this
        split at this <;> omega
      · intro hq
        apply sm_congr
        intro x _
        rw [hT]
        by_cases c : x = q
        · subst c; rw [hq]; simp
        · simp [c]
    by_cases ca : o k = a
    · have hT : ∀ f, (T1 A a b a).testBit f = ((A a).testBit f ^^ decide (f = b)) := fun f => by rw [T1_bit hne, mt]; simp [hne]
      obtain ⟨k1, k2⟩ := key a b hT hne ca
      refine ⟨fun q => absurd ca (q k (by omega)).1, ?_⟩
      simp only [gs]; rw [ca]
      by_cases c : ∀ j, j < k → o j ≠ a ∧ o j ≠ b
      · rw [h1 c]; omega
      · have : (rs S o k).testBit b = false := by
          cases cb : (rs S o k).testBit b
          · rfl
          · exfalso; apply c
            intro j hj
            have ha := hw k (by omega)
            rw [ca] at ha
            exact ⟨((rs_bit h k).1 ha).2 j hj, ((rs_bit h k).1 cb).2 j hj⟩
        rw [k2 this]; omega
    · by_cases cb : o k = b
      · have hT : ∀ f, (T1 A a b b).testBit f = ((A b).testBit f ^^ decide (f = a)) := fun f => by rw [T1_bit hne, mt]; simp [Ne.symm hne]
        obtain ⟨k1, k2⟩ := key b a hT (Ne.symm hne) cb
        refine ⟨fun q => absurd cb (q k (by omega)).2, ?_⟩
        simp only [gs]; rw [cb]
        by_cases c : ∀ j, j < k → o j ≠ a ∧ o j ≠ b
        · rw [h1 c]; omega
        · have : (rs S o k).testBit a = false := by
            cases ca' : (rs S o k).testBit a
            · rfl
            · exfalso; apply c
              intro j hj
              have hb := hw k (by omega)
              rw [cb] at hb
              exact ⟨((rs_bit h k).1 ca').2 j hj, ((rs_bit h k).1 hb).2 j hj⟩
          rw [k2 this]; omega
      · have e : co A (rs S o k) (o k) = co (T1 A a b) (rs S o k) (o k) := by
          have : T1 A a b (o k) = A (o k) := by simp only [T1]; rw [if_neg cb, if_neg ca]
          simp only [co, this]
        simp only [gs]
        refine ⟨fun q => ?_, by omega⟩
        rw [h1 (fun j hj => q j (by omega)), e]
theorem gs_turns {A : Nat → Nat} {S : Nat} {o : Nat → Nat} (h : S < 256) {n : Nat} {l : List Pr} {m : Nat} (hw : way S o m) : ∀ k, (∀ j, j < k → PK n l j) → gs A S o m ≤ gs (tv A l k) S o m + k
  | 0, _ => Nat.le_refl _
  | k + 1, hk => by
    have h1 := gs_turns (A := A) h (n := n) (l := l) hw k (fun j hj => hk j (by omega))
    have h2 := (gs_turn (A := tv A l k) h (hk k (by omega)).ne.1 hw m (Nat.le_refl _)).2
    rw [tv]; omega
theorem top_of {x : List Int} (h : Tn x) (hn : ¬ cy x (alls x.length)) {S : Nat} (h0 : 0 < S) (hS : ∀ j, S.testBit j = true → j < x.length) (hS8 : S < 256) :
    ∃ p, S.testBit p = true ∧ co (sn x) S p = 0 := by
  obtain ⟨v, _, hv⟩ := pc_pos (pc_pos_of h0 hS8)
  obtain ⟨u, ⟨hu, hub⟩, hmax⟩ := ex_max (fun j => pc (sn x j &&& S)) (fun j => S.testBit j = true) x.length ⟨v, hS v hv, hv⟩
  refine ⟨u, hub, ?_⟩
  rw [co_sm hS8]
  have e : ∀ b, b < 8 → ((S.testBit b && decide (b ≠ u)) && !(sn x u).testBit b).toNat = (fun _ => 0) b := fun b _ => by
    cases cb : S.testBit b
    · rfl
    · by_cases cu : b = u
      · subst cu; simp
      · have : (sn x u).testBit b = true := by
          rcases max_nk h hub hu hS hmax cb with q | q | ⟨e, he, q1, q2⟩
          · exact absurd q cu
          · exact q
          · cases c : bt x u b
            · exfalso; apply hn
              have hbu : bt x b u = true := by rw [h.tot (hS b cb) hu cu, c]; rfl
              have ha : ∀ i, i < x.length → (alls x.length).testBit i = true := fun i hi => by rw [alls_bit]; simpa using hi
              exact ⟨u, e, b, q1, q2, hbu, ha _ hu, ha _ (hS e he), ha _ (hS b cb)⟩
            · exact c
        rw [this]; simp
  rw [sm_congr e, sm_zero]
theorem ag_tame {x : List Int} (h : Tn x) (hn : ¬ cy x (alls x.length)) : ∀ {S : Nat}, S < 256 → (∀ j, S.testBit j = true → j < x.length) → ag (sn x) S = 0 := by
  intro S
  induction S using Nat.strongRecOn with
  | _ S ih =>
    intro h8 hS
    by_cases h0 : 0 < S
    · obtain ⟨p, hp, hc⟩ := top_of h hn h0 hS h8
      have h1 := ((ag_spec (A := sn x) h8).2 h0).2 p hp
      have h2 := ih _ (rem_lt_self h8 hp) (rem_lt h8) (fun j hj => by
        rw [rem_bit h8, Bool.and_eq_true] at hj
        exact hS j hj.1)
      omega
    · have : S = 0 := by omega
      subst this; rfl
theorem gs_cong {A B : Nat → Nat} {S : Nat} {o : Nat → Nat} : ∀ {m : Nat}, (∀ k, k < m → A (o k) = B (o k)) → gs A S o m = gs B S o m
  | 0, _ => rfl
  | m + 1, h => by
    simp only [gs]
    rw [gs_cong (fun k hk => h k (by omega))]
    simp only [co, h m (by omega)]
theorem fewer {t : List Int} (h : Tn t) {l : List Pr} (hl : prs t.length l) (hc : cyc (tnl t l) = []) : ag (sn t) (alls t.length) ≤ l.length := by
  have hx := tnl_tn h hl
  have h8 := h.s.2
  have hn : ¬ cy (tnl t l) (alls (tnl t l).length) := fun q => by
    have := (any_cy hx).2 q
    rw [hc] at this
    simp [anyV_iff] at this
  have hA := alls_lt h8
  have e0 : ag (sn (tnl t l)) (alls t.length) = 0 := ag_tame hx hn hA (fun j hj => by rw [alls_bit] at hj; rw [wl_len]; simpa using hj)
  have hp := pc_alls t.length (by omega)
  have hw := oo_way (A := sn (tnl t l)) hA
  have e1 := gs_all (A := sn (tnl t l)) hA
  rw [e0] at e1
  have g1 := gs_least (A := sn t) hA hw
  have g2 := gs_turns (A := sn t) hA hw l.length hl
  have g3 : gs (tn t l) (alls t.length) (oo (sn (tnl t l)) (alls t.length)) (pc (alls t.length)) = gs (sn (tnl t l)) (alls t.length) (oo (sn (tnl t l)) (alls t.length)) (pc (alls t.length)) :=
    gs_cong fun k hk => by
      have hb := hw k hk
      have := ((rs_bit hA k).1 hb).1
      rw [alls_bit] at this
      exact (wl_snE (by simpa using this)).symm
  rw [g3, e1] at g2
  omega
end Go.Proofs.Rnk

