/- Layer 2: whom a player reaches, by the reference; the mathematics of it. -/
import Derived.Test.YtnnhomkkggkkfaaDoorRkX
import Derived.Test.YtnnhomkkggkkfaaDoorOrM
import Derived.KernelRfl
set_option linter.unusedSimpArgs false
set_option linter.unusedVariables false
set_option linter.unnecessarySimpa false
set_option maxHeartbeats 4000000
set_option maxRecDepth 100000
namespace Go.Proofs.Rnk
open Go Go.VM
open Go.Proofs.Sur (andn andn_bit andn_le i_wrap i_and i_or i_andn i_shl i_shr bit_01)

/-- one round: whom those beat who are reached -/
def rI (t : List Int) (s : Nat) : Nat → Nat
  | 0 => s
  | j + 1 => if (rI t s j).testBit j = true then rI t s j ||| sn t j else rI t s j
def rO (t : List Int) (s : Nat) : Nat → Nat
  | 0 => s
  | k + 1 => rI t (rO t s k) t.length
theorem rI_lt {t : List Int} (h : Tn t) {s : Nat} (hs : s < 256) : ∀ j, rI t s j < 256
  | 0 => hs
  | j + 1 => by
    simp only [rI]; split
    · exact Nat.or_lt_two_pow (n := 8) (rI_lt h hs j) (h.sn j).1
    · exact rI_lt h hs j
theorem rO_lt {t : List Int} (h : Tn t) {s : Nat} (hs : s < 256) : ∀ k, rO t s k < 256
  | 0 => hs
  | k + 1 => rI_lt h (rO_lt h hs k) _
theorem rI_mono {t : List Int} {s b : Nat} (hb : s.testBit b = true) : ∀ j, (rI t s j).testBit b = true
  | 0 => hb
  | j + 1 => by
    simp only [rI]; split
    · rw [Nat.testBit_or, rI_mono hb j]; rfl
    · exact rI_mono hb j
theorem rI_mono2 {t : List Int} {s b j : Nat} : ∀ {l : Nat}, j ≤ l → (rI t s j).testBit b = true → (rI t s l).testBit b = true
  | 0, h, hb => by have : j = 0 := by omega
                   subst this; exact hb
  | l + 1, h, hb => by
    rcases Nat.lt_or_ge j (l + 1) with q | q
    · have ih := rI_mono2 (l := l) (by omega) hb
      simp only [rI]; split
      · rw [Nat.testBit_or, ih]; rfl
      · exact ih
    · have : j = l + 1 := by omega
      subst this; exact hb
/-- one round takes all whom the first ones beat -/
theorem rI_step {t : List Int} {s i b : Nat} (hi : i < t.length) (hs : s.testBit i = true) (hb : bt t i b = true) : (rI t s t.length).testBit b = true := by
  refine rI_mono2 (j := i + 1) (by omega) ?_
  simp only [rI]
  rw [if_pos (rI_mono hs i), Nat.testBit_or]
  have : (sn t i).testBit b = true := hb
  rw [this, Bool.or_true]
/-- closed: whom one beats that is in it is in it -/
def clo (t : List Int) (S : Nat) : Prop := ∀ i b, S.testBit i = true → bt t i b = true → S.testBit b = true
theorem rI_least {t : List Int} {S s : Nat} (hS : clo t S) (h : ∀ b, s.testBit b = true → S.testBit b = true) : ∀ j b, (rI t s j).testBit b = true → S.testBit b = true
  | 0, b, q => h b q
  | j + 1, b, q => by
    have ih := rI_least hS h j
    simp only [rI] at q
    split at q
    · rename_i c
      rw [Nat.testBit_or, Bool.or_eq_true] at q
      rcases q with q | q
      · exact ih b q
      · exact hS j b (ih j c) q
    · exact ih b q
theorem rO_least {t : List Int} {S s : Nat} (hS : clo t S) (h : ∀ b, s.testBit b = true → S.testBit b = true) : ∀ k b, (rO t s k).testBit b = true → S.testBit b = true
  | 0 => h
  | k + 1 => rI_least hS (rO_least hS h k) _
theorem rO_mono {t : List Int} {s b : Nat} (hb : s.testBit b = true) : ∀ k, (rO t s k).testBit b = true
  | 0 => hb
  | k + 1 => rI_mono (rO_mono hb k) _
theorem rO_fix {t : List Int} {s k : Nat} (h : rO t s (k + 1) = rO t s k) : ∀ l, k ≤ l → rO t s l = rO t s k
  | 0, q => by have : k = 0 := by omega
               subst this; rfl
  | l + 1, q => by
    rcases Nat.lt_or_ge k (l + 1) with w | w
    · have ih := rO_fix h l (by omega)
      simp only [rO] at h ⊢
      rw [ih]; exact h
    · have : k = l + 1 := by omega
      subst this; rfl
theorem clo_of_fix {t : List Int} (h : Tn t) {S : Nat} (e : rI t S t.length = S) : clo t S := fun i b hi hb => by
  rw [← e]; exact rI_step (h.lt hb).1 hi hb
theorem pc_alls : ∀ n, n < 9 → pc (alls n) = n := by decide +kernel
theorem rO_in {t : List Int} (h : Tn t) {s : Nat} (hs : ∀ b, s.testBit b = true → b < t.length) (k : Nat) : ∀ b, (rO t s k).testBit b = true → b < t.length := by
  intro b hb
  have hA : clo t (alls t.length) := fun i b _ q => by rw [alls_bit]; exact decide_eq_true (h.lt q).2
  have := rO_least hA (fun b q => by rw [alls_bit]; exact decide_eq_true (hs b q)) k b hb
  rw [alls_bit] at this
  exact of_decide_eq_true this
theorem rO_pc {t : List Int} (h : Tn t) {s : Nat} (hs : ∀ b, s.testBit b = true → b < t.length) (h0 : 1 ≤ pc s) : ∀ k, (∃ j, j < k ∧ rO t s (j + 1) = rO t s j) ∨ k + 1 ≤ pc (rO t s k)
  | 0 => .inr h0
  | k + 1 => by
    rcases rO_pc h hs h0 k with ⟨j, hj, e⟩ | q
    · exact .inl ⟨j, by omega, e⟩
    · by_cases e : rO t s (k + 1) = rO t s k
      · exact .inl ⟨k, by omega, e⟩
      · right
        have h8 := h.s.2
        have hd : ∃ b, (rO t s k).testBit b = false ∧ (rO t s (k + 1)).testBit b = true := by
          apply Classical.byContradiction
          intro hn
          apply e
          apply Nat.eq_of_testBit_eq; intro b
          cases c : (rO t s k).testBit b
          · cases d : (rO t s (k + 1)).testBit b
            · rfl
            · exact absurd ⟨b, c, d⟩ hn
          · exact rI_mono c _
        obtain ⟨b, c, d⟩ := hd
        have := pc_lt (a := rO t s k) (b := rO t s (k + 1)) (fun i _ q => rI_mono q _) ⟨b, by have := rO_in h hs (k + 1) b d; omega, c, d⟩
        omega
theorem rO_clo {t : List Int} (h : Tn t) {s : Nat} (hs : ∀ b, s.testBit b = true → b < t.length) (h0 : 1 ≤ pc s) : clo t (rO t s t.length) := by
  have h8 := h.s.2
  have hle : pc (rO t s t.length) ≤ t.length := by
    have := pc_mono (a := rO t s t.length) (b := alls t.length) (fun i _ q => by rw [alls_bit]; exact decide_eq_true (rO_in h hs _ i q))
    rw [pc_alls _ (by omega)] at this
    exact this
  rcases rO_pc h hs h0 t.length with ⟨j, hj, e⟩ | q
  · have e1 := rO_fix e t.length (by omega)
    rw [e1]
    exact clo_of_fix h e
  · omega
/-- whom one reaches -/
abbrev rch (t : List Int) (e : Nat) : Nat := rO t (2 ^ e) t.length
theorem pc_pow : ∀ e, e < 8 → pc (2 ^ e) = 1 := by decide +kernel
theorem pow_in {t : List Int} {e : Nat} (he : e < t.length) : ∀ b, (2 ^ e).testBit b = true → b < t.length := fun b hb => by
  rw [Nat.testBit_two_pow] at hb
  have := of_decide_eq_true hb
  omega
theorem rch_clo {t : List Int} (h : Tn t) {e : Nat} (he : e < t.length) : clo t (rch t e) :=
  rO_clo h (pow_in he) (by have := h.s.2; rw [pc_pow e (by omega)]; exact Nat.le_refl 1)
theorem rch_self (t : List Int) (e : Nat) : (rch t e).testBit e = true := rO_mono (by rw [Nat.testBit_two_pow]; simp) _
theorem rch_least {t : List Int} {S e : Nat} (hS : clo t S) (h : S.testBit e = true) : ∀ b, (rch t e).testBit b = true → S.testBit b = true :=
  rO_least hS (fun b q => by rw [Nat.testBit_two_pow] at q; rw [← of_decide_eq_true q]; exact h) _
theorem rch_lt {t : List Int} (h : Tn t) {e : Nat} (he : e < t.length) : rch t e < 256 :=
  rO_lt h (Nat.pow_lt_pow_right (by decide) (by have := h.s.2; omega) : 2 ^ e < 2 ^ 8) _
theorem rch_bt {t : List Int} (h : Tn t) {e b : Nat} (hb : bt t e b = true) : (rch t e).testBit b = true :=
  rch_clo h (h.lt hb).1 e b (rch_self t e) hb
theorem rch_trans {t : List Int} (h : Tn t) {e b : Nat} (he : e < t.length) (hb : (rch t e).testBit b = true) : ∀ c, (rch t b).testBit c = true → (rch t e).testBit c = true :=
  rch_least (rch_clo h he) hb
/-- the program's relation: oneself and whom one beats -/
def r0 (t : List Int) : Ord.Rel := fun e => if e < t.length then sn t e ||| 2 ^ e else 0
theorem r0_rg {t : List Int} (h : Tn t) : Ord.Rg t.length (r0 t) := by
  refine ⟨fun i => ?_, fun i hi => ?_⟩
  · simp only [r0]; split
    · rename_i hi
      refine Nat.or_lt_two_pow ?_ (Nat.pow_lt_pow_right (by decide) hi)
      apply Nat.lt_pow_two_of_testBit
      intro b hb
      cases c : (sn t i).testBit b
      · rfl
      · exact absurd (h.lt (show bt t i b = true from c)).2 (by omega)
    · exact Nat.pow_pos (by decide)
  · simp only [r0]; rw [if_neg (by omega)]
theorem r0_ab {t : List Int} (h : Tn t) {e b : Nat} : Ord.ab (r0 t) e b ↔ e < t.length ∧ (b = e ∨ bt t e b = true) := by
  simp only [Ord.ab, r0]
  split
  · rename_i he
    rw [Nat.testBit_or, Nat.testBit_two_pow, Bool.or_eq_true, decide_eq_true_eq]
    constructor
    · rintro (q | q)
      · exact ⟨he, .inr q⟩
      · exact ⟨he, .inl q.symm⟩
    · rintro ⟨_, q | q⟩
      · exact .inr q.symm
      · exact .inl q
  · rename_i he
    simp [he]
theorem Wn_rch {t : List Int} (h : Tn t) {e : Nat} (he : e < t.length) : Ord.Wn (r0 t) t.length e = rch t e := by
  have hg := r0_rg h
  have htr := Ord.Wn_tr hg
  apply Nat.eq_of_testBit_eq; intro b
  have h1 : (Ord.Wn (r0 t) t.length e).testBit b = true → (rch t e).testBit b = true := fun q => by
    have hB : Ord.Tr (fun i => if i < t.length then rch t i else 0) := by
      intro i j k p q
      simp only [Ord.ab] at p q ⊢
      split at p
      · rename_i hi
        split at q
        · rw [if_pos hi]; exact rch_trans h hi p k q
        · simp at q
      · simp at p
    have := Ord.Wn_least hB (A := r0 t) (fun i j p => by
      obtain ⟨hi, p⟩ := (r0_ab h).1 p
      simp only [Ord.ab]
      rw [if_pos hi]
      rcases p with rfl | p
      · exact rch_self t _
      · exact rch_bt h p) t.length e b q
    simp only [Ord.ab] at this
    rw [if_pos he] at this
    exact this
  have h2 : (rch t e).testBit b = true → (Ord.Wn (r0 t) t.length e).testBit b = true := by
    refine rch_least ?_ (Ord.Wn_mono ((r0_ab h).2 ⟨he, .inl rfl⟩)) b
    intro i c hi hc
    exact htr e i c hi (Ord.Wn_mono ((r0_ab h).2 ⟨(h.lt hc).1, .inr hc⟩))
  cases c : (Ord.Wn (r0 t) t.length e).testBit b <;> cases d : (rch t e).testBit b <;> simp_all
abbrev o73b (t : List Int) (r : Room) (s : Nat) (k : Nat) : List Out := [.mk Unit (.exit 2) [0, 5, 11, 12] (fun _ => True) (fun _ => [ls t r, I (rI t s t.length : Nat), I t.length, I k]) (fun _ => .nil) (fun _ => [])]
theorem simp73b : allSimpleM none1 (loopAt Tryd.f73 1) = true := by kernel_rfl
theorem lp73b (t : List Int) (r : Room) (h : Tn t) (hr : rok t r) (s : Nat) (hs : s < 256) (k : Nat) :
    LoopS (En6 []) (loopAt Tryd.f73 1) 32 [0, 5, 11, 12, 14, 15, 16] [ls t r, I s, I t.length, I k, ls t r, I t.length, I 0] .nil (o73b t r s k) := by
  have hR : Rests (En6 []) none1 := rests mixed .nil
  have h8 := h.s.2
  refine loop_s hR simp73b none (by intro _ h; cases h) (fun j vs h => h = .nil ∧ vs = [ls t r, I (rI t s j : Nat), I t.length, I k, ls t r, I t.length, I j]) t.length ⟨rfl, rfl⟩ (by intro _ h; cases h) ?_
  rintro j vs h' hj ⟨rfl, rfl⟩
  by_cases hz : (j : Int) < t.length
  · have hz' : j < t.length := by omega
    have hri := rok_idx hr hz'
    have ev0 := wj1 (j := j) (by omega)
    have hl := rI_lt h hs j
    have hx : s8 ((rI t s j : Nat) : Int) := by simp only [s8]; omega
    have hbe : bi ((rI t s j : Nat) : Int) j = (rI t s j).testBit j := by simp only [bi, Int.toNat_natCast]
    cases hb : (rI t s j).testBit j
    · have hk : rI t s (j + 1) = rI t s j := by simp only [rI]; rw [if_neg (by rw [hb]; simp)]
      obtain ⟨ev1, ev2⟩ := i_bit0 hx (show j ≤ 64 by omega) (by rw [hbe]; exact hb)
      refine ⟨[Ans.o (Orc.b true), Ans.o (Orc.val 19 (AV.cptr (ints (List.drop j t))) H.nil), Ans.o (Orc.val 20 (I (t.getD j i0)) H.nil), Ans.o (Orc.val 23 (I (↑((↑(rI t s j) : Int).toNat >>> j) : Int)) H.nil), Ans.o (Orc.val 24 (I 0) H.nil), Ans.o Orc.dflt, Ans.o (Orc.val 29 (I (↑(j + (1 : Nat)) : Int)) H.nil)], fun u => of_eq ((↑j : Int) < (↑t.length : Int) ∧ aIndexAddr Tryd.prog (22 : Nat) (AV.sl (ints t) t.length r) (I (↑j : Int)) = some (AV.cptr (ints (List.drop j t))) ∧ aLoad Tryd.prog (3 : Nat) (ints (List.drop j t)) = some (I (t.getD j i0)) ∧ aBin Tryd.prog BinOp.shr (3 : Nat) (I (↑(rI t s j) : Int)) (I (↑j : Int)) = some (I (↑((↑(rI t s j) : Int).toNat >>> j) : Int)) ∧ aBin Tryd.prog BinOp.and (3 : Nat) (I (↑((↑(rI t s j) : Int).toNat >>> j) : Int)) (I 1) = some (I 0) ∧ aBin Tryd.prog BinOp.add (3 : Nat) (I (↑j : Int)) (I 1) = some (I (↑(j + (1 : Nat)) : Int)) ∧ (32 : Nat) = (32 : Nat) ∧ j < t.length ∧ Keep (H.mk [] [] [] = H.mk [] [] [] ∧ [AV.sl (ints t) t.length r, I (↑(rI t s j) : Int), I (↑t.length : Int), I (↑k : Int), AV.sl (ints t) t.length r, I (↑t.length : Int), I (↑(j + (1 : Nat)) : Int)] = [AV.sl (ints t) t.length r, I (↑(rI t s (j + (1 : Nat))) : Int), I (↑t.length : Int), I (↑k : Int), AV.sl (ints t) t.length r, I (↑t.length : Int), I (↑(j + (1 : Nat)) : Int)])) (by kernel_rfl) ?_⟩
      refine ⟨by first | with_reducible assumption | omega | assumption, ?_⟩
      refine ⟨ix_ints (by kernel_rfl) hz' hri, ?_⟩
      refine ⟨by first | exact ld_ints (by kernel_rfl) (by kernel_rfl) (by omega) | exact ldm_ints (by kernel_rfl) (by kernel_rfl) (by first | omega | (simp; omega)), ?_⟩
      refine ⟨by first | exact told_shr (by first | exact Int.natCast_nonneg _ | omega) (by with_reducible assumption) | exact told_shr (by omega) rfl, ?_⟩
      refine ⟨told_and (by with_reducible assumption), ?_⟩
      refine ⟨told_add (by with_reducible assumption), ?_⟩
      refine ⟨by first | with_reducible assumption | omega | assumption, ?_⟩
      refine ⟨by first | with_reducible assumption | omega | assumption, ?_⟩
      (rw [hk]; exact ⟨rfl, rfl⟩)
    · have hk : rI t s (j + 1) = rI t s j ||| sn t j := by simp only [rI]; rw [if_pos hb]
      obtain ⟨ev1, ev2⟩ := i_bit1 hx (show j ≤ 64 by omega) (by rw [hbe]; exact hb)
      have hsn := h.sn j
      have ev3 : IntKind.i64.wrap ((BitVec.ofInt IntKind.i64.bits ((rI t s j : Nat) : Int) ||| BitVec.ofInt IntKind.i64.bits (t.getD j i0)).toNat : Int) = ((rI t s (j + 1) : Nat) : Int) := by
        rw [hk]
        have := i_or (a := rI t s j) (b := sn t j) (by omega) (by omega)
        rw [hsn.2] at this
        exact this
      refine ⟨[Ans.o (Orc.b true), Ans.o (Orc.val 19 (AV.cptr (ints (List.drop j t))) H.nil), Ans.o (Orc.val 20 (I (t.getD j i0)) H.nil), Ans.o (Orc.val 23 (I (↑((↑(rI t s j) : Int).toNat >>> j) : Int)) H.nil), Ans.o (Orc.val 24 (I 1) H.nil), Ans.o Orc.dflt, Ans.o (Orc.val 28 (I (↑(rI t s (j + (1 : Nat))) : Int)) H.nil), Ans.o (Orc.val 29 (I (↑(j + (1 : Nat)) : Int)) H.nil)], fun u => of_eq ((↑j : Int) < (↑t.length : Int) ∧ aIndexAddr Tryd.prog (22 : Nat) (AV.sl (ints t) t.length r) (I (↑j : Int)) = some (AV.cptr (ints (List.drop j t))) ∧ aLoad Tryd.prog (3 : Nat) (ints (List.drop j t)) = some (I (t.getD j i0)) ∧ aBin Tryd.prog BinOp.shr (3 : Nat) (I (↑(rI t s j) : Int)) (I (↑j : Int)) = some (I (↑((↑(rI t s j) : Int).toNat >>> j) : Int)) ∧ aBin Tryd.prog BinOp.and (3 : Nat) (I (↑((↑(rI t s j) : Int).toNat >>> j) : Int)) (I 1) = some (I 1) ∧ aBin Tryd.prog BinOp.or (3 : Nat) (I (↑(rI t s j) : Int)) (I (t.getD j i0)) = some (I (↑(rI t s (j + (1 : Nat))) : Int)) ∧ aBin Tryd.prog BinOp.add (3 : Nat) (I (↑j : Int)) (I 1) = some (I (↑(j + (1 : Nat)) : Int)) ∧ (32 : Nat) = (32 : Nat) ∧ j < t.length ∧ Keep (H.mk [] [] [] = H.mk [] [] [] ∧ [AV.sl (ints t) t.length r, I (↑(rI t s (j + (1 : Nat))) : Int), I (↑t.length : Int), I (↑k : Int), AV.sl (ints t) t.length r, I (↑t.length : Int), I (↑(j + (1 : Nat)) : Int)] = [AV.sl (ints t) t.length r, I (↑(rI t s (j + (1 : Nat))) : Int), I (↑t.length : Int), I (↑k : Int), AV.sl (ints t) t.length r, I (↑t.length : Int), I (↑(j + (1 : Nat)) : Int)])) (by kernel_rfl) ?_⟩
      refine ⟨by first | with_reducible assumption | omega | assumption, ?_⟩
      refine ⟨ix_ints (by kernel_rfl) hz' hri, ?_⟩
      refine ⟨by first | exact ld_ints (by kernel_rfl) (by kernel_rfl) (by omega) | exact ldm_ints (by kernel_rfl) (by kernel_rfl) (by first | omega | (simp; omega)), ?_⟩
      refine ⟨by first | exact told_shr (by first | exact Int.natCast_nonneg _ | omega) (by with_reducible assumption) | exact told_shr (by omega) rfl, ?_⟩
      refine ⟨told_and (by with_reducible assumption), ?_⟩
      refine ⟨told_or (by with_reducible assumption), ?_⟩
      refine ⟨told_add (by with_reducible assumption), ?_⟩
      refine ⟨by first | with_reducible assumption | omega | assumption, ?_⟩
      refine ⟨by first | with_reducible assumption | omega | assumption, ?_⟩
      exact ⟨rfl, rfl⟩
  · have hz : (t.length : Int) ≤ j := by omega
    have e : j = t.length := by omega
    subst e
    refine ⟨[Ans.o (Orc.b false)], fun u => of_eq ((↑t.length : Int) ≤ (↑t.length : Int) ∧ (32 : Nat) = (32 : Nat) ∧ hits [Out.mk Unit (AX.exit (2 : Nat)) [(0 : Nat), (5 : Nat), (11 : Nat), (12 : Nat)] (fun x => True) (fun x => [ls t r, I (↑(rI t s t.length) : Int), I (↑t.length : Int), I (↑k : Int)]) (fun x => H.nil) fun x => []] (AX.exit (2 : Nat)) [AV.sl (ints t) t.length r, u (1 : Nat), u (2 : Nat), u (3 : Nat), u (4 : Nat), I (↑(rI t s t.length) : Int), u (6 : Nat), u (7 : Nat), u (8 : Nat), u (9 : Nat), u (10 : Nat), I (↑t.length : Int), I (↑k : Int), u (13 : Nat), AV.sl (ints t) t.length r, I (↑t.length : Int), I (↑t.length : Int), AV.bool false, u (18 : Nat), u (19 : Nat), u (20 : Nat), u (21 : Nat), u (22 : Nat), u (23 : Nat), u (24 : Nat), u (25 : Nat), u (26 : Nat), u (27 : Nat), u (28 : Nat), u (29 : Nat), u (30 : Nat), u (31 : Nat)] (H.mk [] [] [])) (by kernel_rfl) ?_⟩
    refine ⟨by first | with_reducible assumption | omega | assumption, ?_⟩
    refine ⟨by first | with_reducible assumption | omega | assumption, ?_⟩
    exact .inl ⟨(), trivial, rfl, rfl, rfl⟩
abbrev o73 (t : List Int) (e : Nat) : List Out := [.mk Unit (.exit 0) [5] (fun _ => True) (fun _ => [I (rch t e : Nat)]) (fun _ => .nil) (fun _ => [])]
theorem simp73 : allSimpleM none1 (loopAt Tryd.f73 0) = true := by kernel_rfl
theorem lp73 (t : List Int) (r : Room) (h : Tn t) (hr : rok t r) (e : Nat) (he : e < t.length) :
    LoopS (En6 []) (loopAt Tryd.f73 0) 32 [0, 5, 11, 12] [ls t r, I (2 ^ e : Nat), I t.length, I 0] .nil (o73 t e) := by
  have hR : Rests (En6 []) none1 := rests mixed .nil
  have h8 := h.s.2
  refine loop_s hR simp73 none (by intro _ h; cases h) (fun k vs h => h = .nil ∧ vs = [ls t r, I (rO t (2 ^ e) k : Nat), I t.length, I k]) t.length ⟨rfl, rfl⟩ (by intro _ h; cases h) ?_
  rintro j vs h' hj ⟨rfl, rfl⟩
  have h2 : 2 ^ e < 2 ^ 8 := Nat.pow_lt_pow_right (by decide) (by omega)
  by_cases hz : (j : Int) < t.length
  · have hz' : j < t.length := by omega
    have ev0 := wj1 (j := j) (by omega)
    have lp := lp73b t r h hr (rO t (2 ^ e) j) (rO_lt h h2 j) j
    refine ⟨[Ans.o (Orc.b true), Ans.loop [(0 : Nat), (5 : Nat), (11 : Nat), (12 : Nat), (14 : Nat), (15 : Nat), (16 : Nat)] [Out.mk Unit (AX.exit (2 : Nat)) [(0 : Nat), (5 : Nat), (11 : Nat), (12 : Nat)] (fun x => True) (fun x => [ls t r, I (↑(rI t (rO t ((2 : Nat) ^ e) j) t.length) : Int), I (↑t.length : Int), I (↑j : Int)]) (fun x => H.nil) fun y => [Ans.o (Orc.val 30 (I (↑(j + (1 : Nat)) : Int)) H.nil)]]], fun u => of_eq ((↑j : Int) < (↑t.length : Int) ∧ LoopS (Env.mk Tryd.prog (Sof (P := Tryd.prog) []) (Pof (P := Tryd.prog) []) H.nil.base (300 : Nat)) (loopAt Tryd.f73 (1 : Nat)) (32 : Nat) [(0 : Nat), (5 : Nat), (11 : Nat), (12 : Nat), (14 : Nat), (15 : Nat), (16 : Nat)] [AV.sl (ints t) t.length r, I (↑(rO t ((2 : Nat) ^ e) j) : Int), I (↑t.length : Int), I (↑j : Int), AV.sl (ints t) t.length r, I (↑t.length : Int), I 0] (H.mk [] [] []) [Out.mk Unit (AX.exit (2 : Nat)) [(0 : Nat), (5 : Nat), (11 : Nat), (12 : Nat)] (fun x => True) (fun x => [ls t r, I (↑(rI t (rO t ((2 : Nat) ^ e) j) t.length) : Int), I (↑t.length : Int), I (↑j : Int)]) (fun x => H.nil) fun y => [Ans.o (Orc.val 30 (I (↑(j + (1 : Nat)) : Int)) H.nil)]] ∧ (∀ (y : Unit), True → ∀ (u : Nat → AV), aBin Tryd.prog BinOp.add (3 : Nat) (I (↑j : Int)) (I 1) = some (I (↑(j + (1 : Nat)) : Int)) ∧ (32 : Nat) = (32 : Nat) ∧ j < t.length ∧ Keep (H.mk [] [] [] = H.mk [] [] [] ∧ [AV.sl (ints t) t.length r, I (↑(rI t (rO t ((2 : Nat) ^ e) j) t.length) : Int), I (↑t.length : Int), I (↑(j + (1 : Nat)) : Int)] = [AV.sl (ints t) t.length r, I (↑(rO t ((2 : Nat) ^ e) (j + (1 : Nat))) : Int), I (↑t.length : Int), I (↑(j + (1 : Nat)) : Int)])) ∧ True) (by kernel_rfl) ?_⟩
    refine ⟨by first | with_reducible assumption | omega | assumption, ?_⟩
    refine ⟨lp, ?_⟩
    refine And.intro ?_ ?_
    · skip
      intro y
      intro w1
      intro u
      refine ⟨told_add (by with_reducible assumption), ?_⟩
      refine ⟨by first | with_reducible assumption | omega | assumption, ?_⟩
      refine ⟨by first | with_reducible assumption | omega | assumption, ?_⟩
      exact ⟨rfl, rfl⟩
    · skip
      trivial
  · have hz : (t.length : Int) ≤ j := by omega
    have e : j = t.length := by omega
    subst e
    refine ⟨[Ans.o (Orc.b false)], fun u => of_eq ((↑t.length : Int) ≤ (↑t.length : Int) ∧ (32 : Nat) = (32 : Nat) ∧ hits [Out.mk Unit (AX.exit (0 : Nat)) [(5 : Nat)] (fun x => True) (fun x => [I (↑(rch t e) : Int)]) (fun x => H.nil) fun x => []] (AX.exit (0 : Nat)) [AV.sl (ints t) t.length r, u (1 : Nat), u (2 : Nat), u (3 : Nat), u (4 : Nat), I (↑(rO t ((2 : Nat) ^ e) t.length) : Int), u (6 : Nat), u (7 : Nat), u (8 : Nat), u (9 : Nat), u (10 : Nat), I (↑t.length : Int), I (↑t.length : Int), AV.bool false, u (14 : Nat), u (15 : Nat), u (16 : Nat), u (17 : Nat), u (18 : Nat), u (19 : Nat), u (20 : Nat), u (21 : Nat), u (22 : Nat), u (23 : Nat), u (24 : Nat), u (25 : Nat), u (26 : Nat), u (27 : Nat), u (28 : Nat), u (29 : Nat), u (30 : Nat), u (31 : Nat)] (H.mk [] [] [])) (by kernel_rfl) ?_⟩
    refine ⟨by first | with_reducible assumption | omega | assumption, ?_⟩
    refine ⟨by first | with_reducible assumption | omega | assumption, ?_⟩
    exact .inl ⟨(), trivial, rfl, rfl, rfl⟩
theorem ok73 : FokM Tryd.prog none1 73 Tryd.f73 := ⟨mixed, by kernel_rfl, by kernel_rfl, by kernel_rfl, by kernel_rfl⟩
theorem r73 (t : List Int) (r : Room) (e : Nat) (hp : (Tn t ∧ rok t r) ∧ e < t.length) : Body ⟨Tryd.prog, Sof (P := Tryd.prog) [], Pof (P := Tryd.prog) [], H.nil.base, 300⟩ none1 Tryd.f73 [ls t r, I e] .nil (I (rch t e : Nat), .nil) := by
  obtain ⟨⟨h, hr⟩, he⟩ := hp
  have h8 := h.s.2
  have ev1 := pw_shl (n := e) (by omega)
  have lp := lp73 t r h hr e he
  refine body_s ([Ans.o (Orc.val 9 (I (↑((2 : Nat) ^ e) : Int)) H.nil), Ans.loop [(0 : Nat), (5 : Nat), (11 : Nat), (12 : Nat)] [Out.mk Unit (AX.exit (0 : Nat)) [(5 : Nat)] (fun x => True) (fun x => [I (↑(rch t e) : Int)]) (fun x => H.nil) fun y => []]]) (aBin Tryd.prog BinOp.shl (3 : Nat) (I 1) (I (↑e : Int)) = some (I (↑((2 : Nat) ^ e) : Int)) ∧ LoopS (Env.mk Tryd.prog (Sof (P := Tryd.prog) []) (Pof (P := Tryd.prog) []) H.nil.base (300 : Nat)) (loopAt Tryd.f73 (0 : Nat)) (32 : Nat) [(0 : Nat), (5 : Nat), (11 : Nat), (12 : Nat)] [AV.sl (ints t) t.length r, I (↑((2 : Nat) ^ e) : Int), I (↑t.length : Int), I 0] (H.mk [] [] []) [Out.mk Unit (AX.exit (0 : Nat)) [(5 : Nat)] (fun x => True) (fun x => [I (↑(rch t e) : Int)]) (fun x => H.nil) fun y => []] ∧ (∀ (y : Unit), True → ∀ (u : Nat → AV), (I (↑(rch t e) : Int), H.mk [] [] []) = (I (↑(rch t e) : Int), H.mk [] [] [])) ∧ True) (by kernel_rfl) ?_
  refine ⟨by first | exact told_shl (by first | exact Int.natCast_nonneg _ | omega) (by with_reducible assumption) | exact told_shl (by omega) rfl, ?_⟩
  refine ⟨lp, ?_⟩
  refine And.intro ?_ ?_
  · skip
    intro y
    intro w1
    intro u
    first | with_reducible rfl | (refine bleaf_t ?_; omega) | (refine bleaf_f ?_; omega) | (refine ileaf ?_; omega) | rfl | (exfalso; omega)
  · skip
    trivial
noncomputable def c73 : PCtr Tryd.prog := sctr ok73 (X := List Int × Room × Nat) (fun x => [ls x.1 x.2.1, I x.2.2]) (fun x => (Tn x.1 ∧ rok x.1 x.2.1) ∧ x.2.2 < x.1.length) (fun x => I (rch x.1 x.2.2 : Nat)) (by intro x y e _ _; simp [Int.natCast_inj] at e; simp [e]) (fun x => by simp [AV.bnds, AV.bnd, AV.wk, rm_wk_bnd]) (fun x => by first | rfl | (simp [AV.bnd, rm_wk_bnd]; done)  | (simp [AV.bnd, AV.bnds, rm_wk_bnd]; done) | simp [AV.bnd, AV.bnds, Room.bnd, rm_wk_bnd]) (fun x hx => ⟨_, _, _, .nil, r73 (x.1) (x.2.1).wk (x.2.2) (by first | exact hx | (simp only [rok_wk]; exact hx) | (simp only [rok_wk, lst_wk]; exact hx) | (simp only [rok_wk, lst_wk, lsn_wk]; exact hx))⟩)
end Go.Proofs.Rnk

