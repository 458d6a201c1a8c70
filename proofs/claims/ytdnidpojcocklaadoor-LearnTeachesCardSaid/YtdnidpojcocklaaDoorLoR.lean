/- Layer 4: mathematics of teaching: keys are short, the peeling number is no more than the greatest key, that no more than the plan of questions, and two to the power of the plan is at least the number of concepts. -/
import Derived.Test.YtdnidpojcocklaaDoorLoI
import Derived.Test.YtdnidpojcocklaaDoorLoC
import Derived.KernelRfl
set_option linter.unusedSimpArgs false
set_option linter.unusedVariables false
set_option linter.unnecessarySimpa false
set_option maxHeartbeats 400000
set_option maxRecDepth 100000
namespace Go.Proofs.Lrn
open Go Go.VM

theorem teL_0 (p : Int) (b : BitVec 32) (l : List Int) : ∀ j, 0 ≤ teL p b l j
  | 0 => Int.le_refl 0
  | j + 1 => by
    have := teL_0 p b l j
    simp only [teL, pick2, if_true]
    split <;> omega
theorem teL_le {p : Int} {b : BitVec 32} {l : List Int} {m : Int} (h0 : 0 ≤ m) : ∀ j, (∀ i, i < j → pk (kyV p b (l.getD i i0)) ≤ m) → teL p b l j ≤ m
  | 0, _ => h0
  | j + 1, h => by
    have := teL_le h0 j (fun i hi => h i (by omega))
    have := h j (by omega)
    simp only [teL, pick2, if_true]
    split <;> omega
theorem teL_ge {p : Int} {b : BitVec 32} {l : List Int} : ∀ j i, i < j → pk (kyV p b (l.getD i i0)) ≤ teL p b l j
  | 0, i, h => absurd h (Nat.not_lt_zero _)
  | j + 1, i, h => by
    simp only [teL, pick2, if_true]
    by_cases e : i = j
    · subst e; split <;> omega
    · have := teL_ge (p := p) (b := b) (l := l) j i (by omega)
      split <;> omega
theorem tw_pow {p : Int} (hp : p5 p) : tw p = ((2 ^ p.toNat : Nat) : Int) := by
  have : p = 1 ∨ p = 2 ∨ p = 3 ∨ p = 4 ∨ p = 5 := by obtain ⟨_, _⟩ := hp; omega
  rcases this with rfl | rfl | rfl | rfl | rfl <;> rfl
theorem pk_tw : ((List.range 5).all fun q => decide (pk (tw ((q : Int) + 1) - 1) = (q : Int) + 1)) = true := by kernel_rfl
theorem pk_p {p : Int} (hp : p5 p) : pk (tw p - 1) = p := by
  obtain ⟨q, rfl⟩ : ∃ q : Nat, p = (q : Int) + 1 := ⟨(p - 1).toNat, by obtain ⟨_, _⟩ := hp; omega⟩
  have := List.all_eq_true.1 pk_tw q (List.mem_range.2 (by obtain ⟨_, _⟩ := hp; omega))
  simpa using this
/-- a point put to a set -/
def inN (s x : Nat) : Nat := s ||| 2 ^ x
theorem in_all : ((List.range 32).all fun s => (List.range 5).all fun x => decide (inN s x < 32) && decide (pk (inN s x : Nat) ≤ pk (s : Nat) + 1) && (List.range 5).all fun y => decide (inN s x / 2 ^ y % 2 = 1) == (decide (y = x) || decide (s / 2 ^ y % 2 = 1))) = true := by kernel_rfl
theorem in_ok {s x : Nat} (hs : s < 32) (hx : x < 5) : inN s x < 32 ∧ pk (inN s x : Nat) ≤ pk (s : Nat) + 1 ∧ ∀ y, y < 5 → (inN s x / 2 ^ y % 2 = 1 ↔ y = x ∨ s / 2 ^ y % 2 = 1) := by
  have h := List.all_eq_true.1 (List.all_eq_true.1 in_all s (List.mem_range.2 hs)) x (List.mem_range.2 hx)
  simp only [Bool.and_eq_true, decide_eq_true_eq] at h
  refine ⟨h.1.1, h.1.2, fun y hy => ?_⟩
  have := List.all_eq_true.1 h.2 y (List.mem_range.2 hy)
  rw [beq_iff_eq, Bool.eq_iff_iff] at this
  simpa using this
theorem in_tw {p : Int} (hp : p5 p) {s x : Nat} (hs : (s : Int) < tw p) (hx : x < p.toNat) : ((inN s x : Nat) : Int) < tw p := by
  rw [tw_pow hp] at hs ⊢
  have := Nat.or_lt_two_pow (x := s) (y := 2 ^ x) (n := p.toNat) (by omega) (Nat.pow_lt_pow_right (by decide) hx)
  show (((s ||| 2 ^ x : Nat)) : Int) < _
  omega
/-- a part's key, with the point of the part, is the whole's key -/
theorem step_key {p : Int} (hp : p5 p) {c : BitVec 32} {k x s : Nat} (hk : k < 32) (hc : c.getLsbD k = true) (hx : x < p.toNat) (hs : (s : Int) < tw p) (h : isk p (pt c (x : Int) ((k / 2 ^ x % 2 : Nat) : Int)) (s : Int) (k : Int) = true) : isk p c ((inN s x : Nat) : Int) (k : Int) = true := by
  have ht := tw_bd (p := p)
  have hp5 : p.toNat ≤ 5 := by obtain ⟨_, _⟩ := hp; omega
  have hx5 : x < 5 := by omega
  have hy : ((k / 2 ^ x % 2 : Nat) : Int) = 0 ∨ ((k / 2 ^ x % 2 : Nat) : Int) = 1 := by
    have : k / 2 ^ x % 2 < 2 := Nat.mod_lt _ (by decide)
    omega
  have hkc : (pt c (x : Int) ((k / 2 ^ x % 2 : Nat) : Int)).getLsbD k = true := by rw [pt_bit hx5 hk hy, hc]; simp
  rw [isk_iff hp hk hkc] at h
  rw [isk_iff hp hk hc]
  intro i hi hci ha
  have h3 := (in_ok (s := s) (x := x) (by omega) hx5).2.2
  have hxx := ha x hx ((h3 x hx5).2 (.inl rfl))
  refine h i hi ?_ (fun y hy2 hsy => ha y hy2 ((h3 y (by omega)).2 (.inr hsy)))
  rw [pt_bit hx5 hi hy, hci, hxx]; simp
theorem zero_key {p : Int} (hp : p5 p) {c : BitVec 32} {k : Nat} (hk : k < 32) (hc : c.getLsbD k = true) (h1 : pc c = 1) : isk p c ((0 : Nat) : Int) (k : Int) = true := by
  rw [isk_iff hp hk hc]
  exact fun i hi hci _ => (pc_one2 hk hc).1 h1 i hi hci
theorem pk_zero : pk ((0 : Nat) : Int) = 0 := by kernel_rfl
/-- two concepts differ at a point -/
theorem diff_pt {p : Int} (hp : p5 p) {i k : Nat} (hi : (i : Int) < tw p) (hk : (k : Int) < tw p) (hne : i ≠ k) : ∃ x, x < p.toNat ∧ i / 2 ^ x % 2 ≠ k / 2 ^ x % 2 := by
  refine Classical.byContradiction fun hn => hne ?_
  apply Nat.eq_of_testBit_eq
  intro x
  rw [Nat.testBit_eq_decide_div_mod_eq, Nat.testBit_eq_decide_div_mod_eq]
  rcases Nat.lt_or_ge x p.toNat with h | h
  · have : i / 2 ^ x % 2 = k / 2 ^ x % 2 := Classical.byContradiction fun q => hn ⟨x, h, q⟩
    rw [this]
  · rw [tw_bit2 hp hi h, tw_bit2 hp hk h]
theorem inP_pt {p : Int} {c : BitVec 32} (h : inP p c) {x : Nat} (hx : x < 5) {y : Int} (hy : y = 0 ∨ y = 1) : inP p (pt c (x : Int) y) := fun i hi hb => h i hi (pt_subset hx hy i hi hb)
theorem pt_less {c : BitVec 32} {x i : Nat} {y : Int} (hx : x < 5) (hi : i < 32) (hc : c.getLsbD i = true) (hy : y = 0 ∨ y = 1) (hne : ((i / 2 ^ x % 2 : Nat) : Int) ≠ y) : pc (pt c (x : Int) y) < pc c := by
  apply sub_pc (pt_subset hx hy)
  intro e
  have : (pt c (x : Int) y).getLsbD i = true := by rw [e]; exact hc
  rw [pt_bit hx hi hy, Bool.and_eq_true, decide_eq_true_eq] at this
  exact hne this.2
/-- a key with fewer points than there are concepts -/
theorem key_few {p : Int} (hp : p5 p) : ∀ (n : Nat) (c : BitVec 32), pc c < n → inP p c → ∀ k, k < 32 → c.getLsbD k = true → ∃ s : Nat, (s : Int) < tw p ∧ isk p c (s : Int) (k : Int) = true ∧ pk (s : Int) + 1 ≤ pc c
  | 0, _, h, _, _, _, _ => absurd h (Nat.not_lt_zero _)
  | n + 1, c, h, hin, k, hk, hc => by
    have ht := tw_bd (p := p)
    have hp5 : p.toNat ≤ 5 := by obtain ⟨_, _⟩ := hp; omega
    by_cases h1 : pc c = 1
    · exact ⟨0, by omega, zero_key hp hk hc h1, by rw [pk_zero, h1]; decide⟩
    · have : ∃ i, i < 32 ∧ c.getLsbD i = true ∧ i ≠ k := Classical.byContradiction fun hn => h1 ((pc_one2 hk hc).2 (fun i hi hci => Classical.byContradiction fun q => hn ⟨i, hi, hci, q⟩))
      obtain ⟨i, hi, hci, hne⟩ := this
      obtain ⟨x, hx, hd⟩ := diff_pt hp (hin i hi hci) (hin k hk hc) hne
      have hx5 : x < 5 := by omega
      have hy : ((k / 2 ^ x % 2 : Nat) : Int) = 0 ∨ ((k / 2 ^ x % 2 : Nat) : Int) = 1 := by
        have : k / 2 ^ x % 2 < 2 := Nat.mod_lt _ (by decide)
        omega
      have hl := pt_less hx5 hi hci hy (by omega)
      have hkc : (pt c (x : Int) ((k / 2 ^ x % 2 : Nat) : Int)).getLsbD k = true := by rw [pt_bit hx5 hk hy, hc]; simp
      obtain ⟨s, g1, g2, g3⟩ := key_few hp n _ (by omega) (inP_pt hin hx5 hy) k hk hkc
      have := (in_ok (s := s) (x := x) (by omega) hx5).2.1
      exact ⟨inN s x, in_tw hp g1 hx, step_key hp hk hc hx g1 g2, by omega⟩
/-- a key with no more points than the plan has questions -/
theorem key_plan {p : Int} (hp : p5 p) : ∀ (n : Nat) (c : BitVec 32), pc c < n → inP p c → ∀ k, k < 32 → c.getLsbD k = true → ∃ s : Nat, (s : Int) < tw p ∧ isk p c (s : Int) (k : Int) = true ∧ pk (s : Int) ≤ quV p c
  | 0, _, h, _, _, _, _ => absurd h (Nat.not_lt_zero _)
  | n + 1, c, h, hin, k, hk, hc => by
    have ht := tw_bd (p := p)
    have hp5 : p.toNat ≤ 5 := by obtain ⟨_, _⟩ := hp; omega
    by_cases h1 : pc c = 1
    · exact ⟨0, by omega, zero_key hp hk hc h1, by rw [pk_zero, quV_one h1]; decide⟩
    · rw [quV_eq h1]
      rcases quL_att (f := quV p) (b := c) (p := p) p.toNat with e | ⟨x, hx, hd, e⟩
      · obtain ⟨t, hT⟩ : ∃ t : Nat, tw p - 1 = t := ⟨(tw p - 1).toNat, by omega⟩
        refine ⟨t, by omega, by rw [← hT]; exact top_key hp hin hk hc, ?_⟩
        rw [e, ← hT, pk_p hp]; exact Int.le_refl _
      · rw [e]
        have hx5 : x < 5 := by omega
        have hy : ((k / 2 ^ x % 2 : Nat) : Int) = 0 ∨ ((k / 2 ^ x % 2 : Nat) : Int) = 1 := by
          have : k / 2 ^ x % 2 < 2 := Nat.mod_lt _ (by decide)
          omega
        have hl := pt_lt (y := ((k / 2 ^ x % 2 : Nat) : Int)) hd
        have hkc : (pt c (x : Int) ((k / 2 ^ x % 2 : Nat) : Int)).getLsbD k = true := by rw [pt_bit hx5 hk hy, hc]; simp
        obtain ⟨s, g1, g2, g3⟩ := key_plan hp n _ (by omega) (inP_pt hin hx5 hy) k hk hkc
        have g4 := (in_ok (s := s) (x := x) (by omega) hx5).2.1
        refine ⟨inN s x, in_tw hp g1 hx, step_key hp hk hc hx g1 g2, ?_⟩
        have big : quV p (pt c (x : Int) ((k / 2 ^ x % 2 : Nat) : Int)) ≤ pick2 true (quV p (pt c (x : Int) 0)) (quV p (pt c (x : Int) 1)) := by
          simp only [pick2, if_true]
          rcases hy with e | e <;> rw [e] <;> split <;> omega
        omega
theorem cb_below {f : Nat → Bool} {m : Nat} : ∀ n, (∀ i, i < n → f i = true → i < m) → cb f n ≤ m
  | 0, _ => Nat.zero_le _
  | n + 1, h => by
    simp only [cb]
    cases hf : f n
    · have := cb_below n (fun i hi => h i (by omega))
      simpa using this
    · have := h n (by omega) hf
      have := cb_le f n
      simp; omega
/-- two to the power of the plan's questions is at least the number of concepts -/
theorem plan_pow {p : Int} (hp : p5 p) : ∀ (n : Nat) (b : BitVec 32), pc b < n → inP p b → b ≠ 0#32 → pc b ≤ 2 ^ (quV p b).toNat
  | 0, _, h, _, _ => absurd h (Nat.not_lt_zero _)
  | n + 1, b, h, hin, hb => by
    have hp5 : p.toNat ≤ 5 := by obtain ⟨_, _⟩ := hp; omega
    by_cases h1 : pc b = 1
    · rw [quV_one h1, h1]; decide
    · rw [quV_eq h1]
      rcases quL_att (f := quV p) (b := b) (p := p) p.toNat with e | ⟨x, hx, hd, e⟩
      · rw [e]
        exact cb_below 32 (fun i hi hbi => by have := hin i hi hbi; rw [tw_pow hp] at this; omega)
      · rw [e]
        have hx5 : x < 5 := by omega
        have hd2 := dfb_iff.1 hd
        have g0 := plan_pow hp n (pt b (x : Int) 0) (by have := pt_lt (y := 0) hd; omega) (inP_pt hin hx5 (.inl rfl)) hd2.1
        have g1 := plan_pow hp n (pt b (x : Int) 1) (by have := pt_lt (y := 1) hd; omega) (inP_pt hin hx5 (.inr rfl)) hd2.2
        have hp0 : 0 ≤ p := by obtain ⟨_, _⟩ := hp; omega
        have p0 := (quV_bd hp0 (pt b (x : Int) 0)).1
        have p1 := (quV_bd hp0 (pt b (x : Int) 1)).1
        have hs := pc_split (b := b) hx5
        have hm : quV p (pt b (x : Int) 0) ≤ pick2 true (quV p (pt b (x : Int) 0)) (quV p (pt b (x : Int) 1)) ∧ quV p (pt b (x : Int) 1) ≤ pick2 true (quV p (pt b (x : Int) 0)) (quV p (pt b (x : Int) 1)) := by
          simp only [pick2, if_true]
          split <;> omega
        obtain ⟨M, hM⟩ : ∃ M, M = pick2 true (quV p (pt b (x : Int) 0)) (quV p (pt b (x : Int) 1)) := ⟨_, rfl⟩
        rw [← hM] at hm ⊢
        have em : (1 + M).toNat = M.toNat + 1 := by omega
        rw [em, Nat.pow_succ]
        have a0 := Nat.pow_le_pow_right (n := 2) (by decide) (Int.toNat_le_toNat hm.1)
        have a1 := Nat.pow_le_pow_right (n := 2) (by decide) (Int.toNat_le_toNat hm.2)
        omega
/-- where no key is greater, that peels -/
theorem peel_le {p : Int} {b : BitVec 32} {m : Nat} (h : ∀ i, i < 32 → b.getLsbD i = true → pk (kyV p b (i : Int)) ≤ (m : Int)) : plN p b ≤ m := by
  have e : plV p (m : Int) b = true := by
    by_cases hz : b = 0#32
    · rw [hz]; exact plV_0 p m
    · have e : psS p (m : Int) b = 0#32 := by
        apply BitVec.eq_of_getLsbD_eq
        intro i hi
        cases hq : (psS p (m : Int) b).getLsbD i
        · simp
        · obtain ⟨q1, q2⟩ := (psS_bit hi).1 hq
          exact absurd (h i hi q1) q2
      rw [plV_go hz (by rw [e]; exact fun q => hz q.symm), e]
      exact plV_0 p m
  rcases Nat.lt_or_ge m (plN p b) with q | q
  · rw [(plN_ok p b).2.2 m q] at e; cases e
  · exact q
/-- the examples that tell a set's points of a concept -/
def exL (s k : Nat) : Nat → List Pr
  | 0 => []
  | j + 1 => if s / 2 ^ j % 2 = 1 then exL s k j ++ [((j : Int), ((k / 2 ^ j % 2 : Nat) : Int))] else exL s k j
theorem lfF_appT (es : List Pr) (x y : Int) : ∀ b, lfF (es ++ [(x, y)]) b = pt (lfF es b) x y := by
  induction es with
  | nil => intro b; rfl
  | cons e es ih => intro b; exact ih _
theorem lfF_exL (s k : Nat) (b : BitVec 32) : ∀ j, lfF (exL s k j) b = kf b s k j
  | 0 => rfl
  | j + 1 => by
    simp only [exL, kf]
    split
    · rw [lfF_appT, lfF_exL s k b j]
    · exact lfF_exL s k b j
theorem exL_len (s k : Nat) : ∀ j, (exL s k j).length ≤ j
  | 0 => Nat.le_refl 0
  | j + 1 => by
    have := exL_len s k j
    simp only [exL]
    split
    · simp; omega
    · omega
theorem exL_mem (s k : Nat) : ∀ j, ∀ e ∈ exL s k j, (0 ≤ e.1 ∧ e.1 < (j : Int)) ∧ (e.2 = 0 ∨ e.2 = 1)
  | 0, e, h => by simp [exL] at h
  | j + 1, e, h => by
    have ih := exL_mem s k j
    simp only [exL] at h
    split at h
    · rcases List.mem_append.1 h with h | h
      · have := ih e h; exact ⟨by omega, this.2⟩
      · simp only [List.mem_singleton] at h
        subst h
        have : k / 2 ^ j % 2 < 2 := Nat.mod_lt _ (by decide)
        exact ⟨⟨by show (0 : Int) ≤ (j : Int); omega, by show (j : Int) < ((j + 1 : Nat) : Int); omega⟩, by show ((k / 2 ^ j % 2 : Nat) : Int) = 0 ∨ ((k / 2 ^ j % 2 : Nat) : Int) = 1; omega⟩
    · have := ih e h; exact ⟨by omega, this.2⟩
theorem exL_exs {p : Int} (hp : p5 p) (s k : Nat) : exs p (exL s k p.toNat) := by
  have hl := exL_len s k p.toNat
  have hp5 : p.toNat ≤ 5 := by obtain ⟨_, _⟩ := hp; omega
  refine ⟨by omega, fun i hi => ?_⟩
  have e : (exL s k p.toNat).getD i pair0 = (exL s k p.toNat)[i] := by simp [List.getD_eq_getElem?_getD, List.getElem?_eq_getElem hi]
  have := exL_mem s k p.toNat _ (List.getElem_mem hi)
  rw [← e] at this
  have hp0 : 0 ≤ p := by obtain ⟨_, _⟩ := hp; omega
  have hpn : ((p.toNat : Nat) : Int) = p := by omega
  rw [hpn] at this
  exact this
theorem lsU_cb (f : Nat → Bool) : ∀ n s, (lsU f s n).length = cb (fun i => f (s + i)) n
  | 0, _ => rfl
  | n + 1, s => by
    have h := cb_add (fun i => f (s + i)) 1 n
    rw [Nat.add_comm 1 n] at h
    rw [h]
    have e : cb (fun i => f (s + (1 + i))) n = (lsU f (s + 1) n).length := by
      rw [lsU_cb f n (s + 1)]
      exact cb_congr n (fun i _ => by rw [show s + 1 + i = s + (1 + i) by omega])
    rw [e]
    simp only [lsU, cb, Nat.add_zero, Nat.zero_add]
    cases hf : f s <;> simp <;> omega
theorem lsO_pc (b : BitVec 32) : (lsO b).length = pc b := by
  rw [lsO, lsU_cb]
  exact cb_congr 32 (fun i _ => by rw [Nat.zero_add])
/-- a set without a point -/
def clN (s x : Nat) : Nat := s - 2 ^ x
theorem clN_all : ((List.range 32).all fun s => (List.range 5).all fun x => decide (s / 2 ^ x % 2 = 1) == false || (decide (IntKind.i64.wrap ((BitVec.ofInt IntKind.i64.bits (s : Int) &&& ~~~ BitVec.ofInt IntKind.i64.bits ((2 ^ x : Nat) : Int)).toNat : Int) = ((clN s x : Nat) : Int)) && decide (pk ((clN s x : Nat) : Int) < pk (s : Int)))) = true := by kernel_rfl
theorem clN_ok {s x : Nat} (hs : s < 32) (hx : x < 5) (h : s / 2 ^ x % 2 = 1) : IntKind.i64.wrap ((BitVec.ofInt IntKind.i64.bits (s : Int) &&& ~~~ BitVec.ofInt IntKind.i64.bits ((2 ^ x : Nat) : Int)).toNat : Int) = ((clN s x : Nat) : Int) ∧ pk ((clN s x : Nat) : Int) < pk (s : Int) := by
  have := List.all_eq_true.1 (List.all_eq_true.1 clN_all s (List.mem_range.2 hs)) x (List.mem_range.2 hx)
  rw [h] at this
  simpa using this
/-- how many a set of points leaves -/
def leN (b : BitVec 32) (p : Int) (s k : Nat) : Nat := pc (kf b s k p.toNat)
structure Tch (p : Int) (l : List Int) (t a : Int) (n : Nat) : Prop where
  t0 : 0 ≤ t
  tp : t ≤ p
  tl : t ≤ (l.length : Int) - 1
  nt : (n : Int) ≤ t
  ta : t ≤ a
  ap : a ≤ p
  a0 : 0 ≤ a
  la : (l.length : Int) ≤ ((2 ^ a.toNat : Nat) : Int)
theorem cls_get {p : Int} {l : List Int} (h : cls p l) {i : Nat} (hi : i < l.length) : ∃ k : Nat, l.getD i i0 = (k : Int) ∧ k < 32 ∧ (sOf l).getLsbD k = true ∧ ((k : Nat) : Int) < tw p := by
  obtain ⟨g0, g1⟩ := (h.2.2.2 i hi).1
  have ht := tw_bd (p := p)
  refine ⟨(l.getD i i0).toNat, by omega, by omega, ?_, by omega⟩
  rw [sOf_bit (cls_in h) (by omega), decide_eq_true_eq]
  rw [show (((l.getD i i0).toNat : Nat) : Int) = l.getD i i0 by omega]
  exact mem_iff.2 ⟨i, hi, rfl⟩
theorem cls_inPT {p : Int} {l : List Int} (h : cls p l) : inP p (sOf l) := by
  intro i hi hb
  rw [sOf_bit (cls_in h) hi, decide_eq_true_eq] at hb
  obtain ⟨j, hj, e⟩ := mem_iff.1 hb
  have := (h.2.2.2 j hj).1.2
  rw [e] at this; exact this
theorem cls_pc {p : Int} {l : List Int} (h : cls p l) : pc (sOf l) = l.length := pc_len (cls_in h) ((cls_rise h).imp (fun h => by omega))
theorem kyV_few {p : Int} (hp : p5 p) {b : BitVec 32} (hin : inP p b) {k : Nat} (hk : k < 32) (hb : b.getLsbD k = true) : pk (kyV p b (k : Int)) ≤ p ∧ pk (kyV p b (k : Int)) + 1 ≤ pc b ∧ pk (kyV p b (k : Int)) ≤ quV p b := by
  refine ⟨?_, ?_, ?_⟩
  · have := pk_top2 hp (kyV_bd p b (k : Int)); rwa [pk_p hp] at this
  · obtain ⟨s, g1, g2, g3⟩ := key_few hp 33 b (by have := pc_le b; omega) hin k hk hb
    have := kyV_le hp g1 g2; omega
  · obtain ⟨s, g1, g2, g3⟩ := key_plan hp 33 b (by have := pc_le b; omega) hin k hk hb
    have := kyV_le hp g1 g2; omega
theorem tch {p : Int} {l : List Int} (h : cls p l) : Tch p l (teL p (sOf l) l l.length) (quV p (sOf l)) (plN p (sOf l)) := by
  have hp := h.1
  have hp0 : 0 ≤ p := by obtain ⟨_, _⟩ := hp; omega
  have hin := cls_inPT h
  have hpc := cls_pc h
  have hl := h.2.1
  have hbz : sOf l ≠ 0#32 := by
    intro e
    obtain ⟨k, _, _, h3, _⟩ := cls_get h (i := 0) (by omega)
    rw [e] at h3; simp at h3
  have hky : ∀ i, i < l.length → pk (kyV p (sOf l) (l.getD i i0)) ≤ p ∧ pk (kyV p (sOf l) (l.getD i i0)) + 1 ≤ pc (sOf l) ∧ pk (kyV p (sOf l) (l.getD i i0)) ≤ quV p (sOf l) := by
    intro i hi
    obtain ⟨k, h1, h2, h3, _⟩ := cls_get h hi
    rw [h1]
    exact kyV_few hp hin h2 h3
  have hq := quV_bd hp0 (sOf l)
  have t0 := teL_0 p (sOf l) l l.length
  refine ⟨t0, teL_le hp0 _ (fun i hi => (hky i hi).1), teL_le (by omega) _ (fun i hi => by have := (hky i hi).2.1; omega), ?_, teL_le hq.1 _ (fun i hi => (hky i hi).2.2), hq.2, hq.1, ?_⟩
  · obtain ⟨m, hm⟩ : ∃ m : Nat, teL p (sOf l) l l.length = m := ⟨(teL p (sOf l) l l.length).toNat, by omega⟩
    rw [hm]
    have : plN p (sOf l) ≤ m := peel_le (fun i hi hb => by
      rw [sOf_bit (cls_in h) hi, decide_eq_true_eq] at hb
      obtain ⟨j, hj, e⟩ := mem_iff.1 hb
      rw [← e, ← hm]
      exact teL_ge _ j hj)
    omega
  · have := plan_pow hp 33 (sOf l) (by have := pc_le (sOf l); omega) hin hbz
    rw [hpc] at this
    exact_mod_cast this
/-- a key's size, what it leaves, and what it leaves without a point -/
theorem key_all {p : Int} {l : List Int} (h : cls p l) {i : Nat} (hi : i < l.length) {k : Nat} (hk : l.getD i i0 = (k : Int)) : ∃ s : Nat, kyV p (sOf l) (k : Int) = (s : Int) ∧ s < 32 ∧ (s : Int) < tw p ∧ pk (s : Int) ≤ teL p (sOf l) l l.length ∧ leN (sOf l) p s k = 1 ∧ ∀ x, x < p.toNat → s / 2 ^ x % 2 = 1 → 2 ≤ leN (sOf l) p (clN s x) k := by
  have hp := h.1
  have ht := tw_bd (p := p)
  have hin := cls_inPT h
  have hp5 : p.toNat ≤ 5 := by obtain ⟨_, _⟩ := hp; omega
  obtain ⟨k2, h1, h2, h3, _⟩ := cls_get h hi
  have : k2 = k := by rw [h1] at hk; omega
  subst this
  obtain ⟨g0, g1⟩ := kyV_bd p (sOf l) (k2 : Int)
  obtain ⟨s, hS⟩ : ∃ s : Nat, kyV p (sOf l) (k2 : Int) = s := ⟨(kyV p (sOf l) (k2 : Int)).toNat, by omega⟩
  have hkey : isk p (sOf l) (kyV p (sOf l) (k2 : Int)) (k2 : Int) = true := kyL_key (top_key hp hin h2 h3) _
  have hle := teL_ge (p := p) (b := sOf l) (l := l) l.length i hi
  rw [hk, hS] at hle
  rw [hS] at hkey g1
  refine ⟨s, hS, by omega, g1, hle, ?_, ?_⟩
  · simp only [isk, Int.toNat_natCast, decide_eq_true_eq] at hkey
    show pc _ = 1
    omega
  · intro x hx hsx
    have hc := clN_ok (s := s) (x := x) (by omega) (by omega) hsx
    have hcs : clN s x ≤ s := Nat.sub_le _ _
    have hkb : (kf (sOf l) (clN s x) k2 p.toNat).getLsbD k2 = true := by rw [kf_bit2 h2 _ hp5]; exact ⟨h3, fun _ _ _ => rfl⟩
    have hpos := pc_pos (b := kf (sOf l) (clN s x) k2 p.toNat) (fun e => by rw [e] at hkb; simp at hkb)
    show 2 ≤ pc _
    refine Classical.byContradiction fun hn => ?_
    have h1 : isk p (sOf l) ((clN s x : Nat) : Int) (k2 : Int) = true := by
      simp only [isk, Int.toNat_natCast, decide_eq_true_eq]
      omega
    have := kyV_le hp (by omega) h1
    rw [hS] at this
    omega
end Go.Proofs.Lrn

