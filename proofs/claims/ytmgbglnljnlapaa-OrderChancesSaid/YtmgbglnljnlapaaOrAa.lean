/- Layer 7: how many lines there are, by the reference. -/
import Derived.Test.YtmgbglnljnlapaaOrX
import Derived.KernelRfl
set_option linter.unusedSimpArgs false
set_option linter.unusedVariables false
set_option linter.unnecessarySimpa false
set_option maxHeartbeats 4000000
set_option maxRecDepth 100000
namespace Go.Proofs.Ord
open Go Go.VM
open Go.Proofs.Sur (andn andn_bit andn_le i_wrap i_and i_or i_andn i_shl i_shr bit_01)

/-- what is not there -/
abbrev cm (n t : Nat) : Nat := andn (alls n) t
theorem alls_big {n : Nat} (h : n ≤ 6) : alls n < big := by
  have := alls_lt n
  have : 2 ^ n ≤ 2 ^ 6 := Nat.pow_le_pow_right (by decide) h
  simp only [big]; omega
theorem cm_bit {n t i : Nat} (h : n ≤ 6) : (cm n t).testBit i = (decide (i < n) && !t.testBit i) := by
  rw [cm, andn_bit (alls_big h), alls_bit]
theorem cm_lt {n t : Nat} (h : n ≤ 6) : cm n t < 2 ^ n := Nat.lt_of_le_of_lt (andn_le (alls_big h)) (alls_lt n)
theorem cm_big {n t : Nat} (h : n ≤ 6) : cm n t < big := Nat.lt_of_le_of_lt (andn_le (alls_big h)) (alls_big h)
theorem cm_0 {n t : Nat} (h : n ≤ 6) (ht : t < 2 ^ n) : cm n t = 0 ↔ t = alls n := by
  constructor
  · intro e
    apply Nat.eq_of_testBit_eq; intro i
    have := cm_bit (t := t) (i := i) h
    rw [e, Nat.zero_testBit] at this
    rw [alls_bit]
    by_cases q : i < n
    · simp [q] at this ⊢; exact this
    · rw [Nat.testBit_lt_two_pow (Nat.lt_of_lt_of_le ht (Nat.pow_le_pow_right (by decide) (by omega)))]; simp [q]
  · rintro rfl
    apply Nat.eq_of_testBit_eq; intro i
    rw [cm_bit h, alls_bit, Nat.zero_testBit]; cases decide (i < n) <;> rfl
theorem cm_or {n t i : Nat} (h : n ≤ 6) : cm n (t ||| 2 ^ i) = clr (cm n t) i := by
  apply Nat.eq_of_testBit_eq; intro j
  rw [cm_bit h, clr_bit (cm_big h), cm_bit h, Nat.testBit_or, Nat.testBit_two_pow]
  cases decide (j < n) <;> cases t.testBit j <;> cases decide (i = j) <;> rfl
abbrev orr (t k : Nat) : Nat := t ||| 2 ^ k
/-- may i come next? -/
def okB (A : Rel) (t i : Nat) : Nat → Bool
  | 0 => !t.testBit i
  | k + 1 => okB A t i k && (t.testBit k || !(A k).testBit i)
theorem okB_iff {A : Rel} {t i : Nat} : ∀ {k : Nat}, okB A t i k = true ↔ t.testBit i = false ∧ ∀ y, y < k → t.testBit y = false → (A y).testBit i = false
  | 0 => by simp [okB]
  | k + 1 => by
    rw [okB, Bool.and_eq_true, okB_iff, Bool.or_eq_true, Bool.not_eq_true']
    constructor
    · rintro ⟨⟨h1, h2⟩, h3⟩
      refine ⟨h1, fun y hy ht => ?_⟩
      rcases Nat.lt_or_ge y k with q | q
      · exact h2 y q ht
      · have : y = k := by omega
        subst this
        rcases h3 with h3 | h3
        · rw [ht] at h3; cases h3
        · exact h3
    · rintro ⟨h1, h2⟩
      refine ⟨⟨h1, fun y hy => h2 y (by omega)⟩, ?_⟩
      cases q : t.testBit k
      · exact .inr (h2 k (by omega) q)
      · exact .inl rfl
theorem ok_mn {A : Rel} {n t i : Nat} (h : n ≤ 6) (hi : i < n) : mn A n (cm n t) i = okB A t i n := by
  rw [Bool.eq_iff_iff, okB_iff, mn]
  simp only [Bool.and_eq_true, decide_eq_true_eq, cm_bit h, Bool.not_eq_true']
  exact ⟨fun k => ⟨k.1.2, fun y hy ht => k.2 y hy ⟨hy, ht⟩⟩, fun k => ⟨⟨hi, k.1⟩, fun y hy q => k.2 y hy q.2⟩⟩
/-- a part of the sum -/
abbrev sq7 (A : Rel) (n t k : Nat) : Nat := sumN (fun x => if mn A n (cm n t) x = true then ct A n (clr (cm n t) x) else 0) k
abbrev p77 (m : Nat) (o : List Int) (r : Room) (t : Nat) : Prop := (OrdL o ∧ rok o r) ∧ t < 2 ^ o.length ∧ pc (cm o.length t) ≤ m
abbrev v77 (o : List Int) (t : Nat) : Nat := ct (rel o) o.length (cm o.length t)
theorem sq7_all {A : Rel} (hi : Irr A) {n t : Nat} (h : n ≤ 6) (h0 : cm n t ≠ 0) : sq7 A n t n = ct A n (cm n t) := (ct_min hi _ _ (Nat.le_refl _) (cm_big h) (cm_lt h) h0).symm
theorem sq7_le {A : Rel} (hi : Irr A) {n t k : Nat} (h : n ≤ 6) (h0 : cm n t ≠ 0) (hk : k ≤ n) : sq7 A n t k ≤ 46656 :=
  Nat.le_trans (sumN_mono _ hk) (by rw [← sq7, sq7_all hi h h0]; exact ct_le h (cm_lt h))
abbrev Ok77 (m : Nat) : Prop := ∀ x : (List Int × Room) × Nat, p77 m x.1.1 x.1.2 x.2 → callable Try.prog 77 = true ∧ ∀ H, CallOk Try.prog 77 [ls x.1.1 x.1.2, I x.2] H (I (v77 x.1.1 x.2 : Nat)) H
noncomputable def c77 (m : Nat) (ih : Ok77 m) : PCtr Try.prog where
  f := 77
  X := (List Int × Room) × Nat
  args x := [ls x.1.1 x.1.2, I x.2]
  pre x := p77 m x.1.1 x.1.2 x.2
  v x := I (v77 x.1.1 x.2 : Nat)
  det := by rintro ⟨⟨l, r⟩, i⟩ ⟨⟨m, s⟩, k⟩ e _ _; simp [Int.natCast_inj] at e; simp [e]
  ok := ih
abbrev o77b (o : List Int) (r : Room) (t S i : Nat) : List Out := [.mk Unit (.exit 2) [0, 1, 5, 6, 7, 16, 17] (fun _ => True) (fun _ => [ls o r, I t, I S, I i, .bool (okB (rel o) t i o.length), I o.length, I i]) (fun _ => .nil) (fun _ => [])]
theorem simp77b : allSimpleM none1 (loopAt Try.f77 1) = true := by kernel_rfl
theorem lp77b (m : Nat) (ih : Ok77 m) (o : List Int) (r : Room) (h : OrdL o ∧ rok o r) (t : Nat) (ht : t < 2 ^ o.length) (S i : Nat) (hi : i < o.length) (b : Bool) (hb : okB (rel o) t i 0 = b) :
    LoopS (En6 [c73.to, (c77 m ih).to]) (loopAt Try.f77 1) 57 [0, 1, 5, 6, 7, 16, 17, 26, 27] [ls o r, I t, I S, I i, .bool b, I o.length, I i, I o.length, I 0] .nil (o77b o r t S i) := by
  have hR : Rests (En6 [c73.to, (c77 m ih).to]) none1 := rests mixed (.pure _ (.pure _ .nil))
  have h6 := h.1.s.2
  have p6 : 2 ^ o.length ≤ 2 ^ 6 := Nat.pow_le_pow_right (by decide) h6
  refine loop_s hR simp77b none (by intro _ h; cases h) (fun k vs H => H = .nil ∧ vs = [ls o r, I t, I S, I i, .bool (okB (rel o) t i k), I o.length, I i, I o.length, I k]) o.length ⟨rfl, by rw [hb]; rfl⟩ (by intro _ h; cases h) ?_
  rintro k vs H hk ⟨rfl, rfl⟩
  by_cases hz : (k : Int) < o.length
  · have hz' : k < o.length := by omega
    have ev0 := wj1 (j := k) (by omega)
    have hkk : okB (rel o) t i (k + 1) = (okB (rel o) t i k && (t.testBit k || !bi (ia o k) i)) := rfl
    have p73 : ((sz o ∧ rgO o) ∧ rok o r) ∧ k < o.length ∧ i ≤ 64 := ⟨⟨⟨h.1.s, h.1.r⟩, h.2⟩, hz', by omega⟩
    cases hf : okB (rel o) t i k
    · rw [hf] at hkk
      have hkk : okB (rel o) t i (k + 1) = false := hkk
      refine ⟨[Ans.o (Orc.b true), Ans.o (Orc.val 45 (I (↑(k + (1 : Nat)) : Int)) H.nil)], fun u => of_eq ((↑k : Int) < (↑o.length : Int) ∧ aBin Try.prog BinOp.add (3 : Nat) (I (↑k : Int)) (I 1) = some (I (↑(k + (1 : Nat)) : Int)) ∧ (57 : Nat) = (57 : Nat) ∧ k < o.length ∧ Keep (H.mk [] [] [] = H.mk [] [] [] ∧ [AV.sl (ints o) o.length r, I (↑t : Int), I (↑S : Int), I (↑i : Int), AV.bool false, I (↑o.length : Int), I (↑i : Int), I (↑o.length : Int), I (↑(k + (1 : Nat)) : Int)] = [AV.sl (ints o) o.length r, I (↑t : Int), I (↑S : Int), I (↑i : Int), AV.bool (okB (rel o) t i (k + (1 : Nat))), I (↑o.length : Int), I (↑i : Int), I (↑o.length : Int), I (↑(k + (1 : Nat)) : Int)])) (by kernel_rfl) ?_⟩
      refine ⟨by first | with_reducible assumption | omega | assumption, ?_⟩
      refine ⟨told_add (by with_reducible assumption), ?_⟩
      refine ⟨by first | with_reducible assumption | omega | assumption, ?_⟩
      refine ⟨by first | with_reducible assumption | omega | assumption, ?_⟩
      exact ⟨rfl, by rw [hkk]⟩
    · rw [hf] at hkk
      cases hv : t.testBit k
      · rw [hv] at hkk
        have ev1 := i_shr (a := t) (n := k) (by omega)
        have ev2 : IntKind.i64.wrap ((BitVec.ofInt IntKind.i64.bits ((t >>> k : Nat) : Int) &&& BitVec.ofInt IntKind.i64.bits 1).toNat : Int) = 0 := by rw [i_bit (by omega), hv]; rfl
        cases b1 : bi (ia o k) i
        · rw [b1] at hkk
          have hkk : okB (rel o) t i (k + 1) = true := hkk
          refine ⟨[Ans.o (Orc.b true), Ans.o (Orc.val 34 (I (↑(t >>> k) : Int)) H.nil), Ans.o (Orc.val 35 (I 0) H.nil), Ans.o Orc.dflt, Ans.o (Orc.val 41 (AV.bool false) (H.mk [] [] [])), Ans.o (Orc.val 45 (I (↑(k + (1 : Nat)) : Int)) H.nil)], fun u => of_eq ((↑k : Int) < (↑o.length : Int) ∧ aBin Try.prog BinOp.shr (3 : Nat) (I (↑t : Int)) (I (↑k : Int)) = some (I (↑(t >>> k) : Int)) ∧ aBin Try.prog BinOp.and (3 : Nat) (I (↑(t >>> k) : Int)) (I 1) = some (I 0) ∧ aCall (Sof [c73.to, (c77 m ih).to]) (AV.fn (Fn.func (73 : Nat)) [] []) [AV.sl (ints o) o.length r, I (↑k : Int), I (↑i : Int)] (H.mk [] [] []) = some (AV.bool false, H.mk [] [] []) ∧ aBin Try.prog BinOp.add (3 : Nat) (I (↑k : Int)) (I 1) = some (I (↑(k + (1 : Nat)) : Int)) ∧ (57 : Nat) = (57 : Nat) ∧ k < o.length ∧ Keep (H.mk [] [] [] = H.mk [] [] [] ∧ [AV.sl (ints o) o.length r, I (↑t : Int), I (↑S : Int), I (↑i : Int), AV.bool true, I (↑o.length : Int), I (↑i : Int), I (↑o.length : Int), I (↑(k + (1 : Nat)) : Int)] = [AV.sl (ints o) o.length r, I (↑t : Int), I (↑S : Int), I (↑i : Int), AV.bool (okB (rel o) t i (k + (1 : Nat))), I (↑o.length : Int), I (↑i : Int), I (↑o.length : Int), I (↑(k + (1 : Nat)) : Int)])) (by kernel_rfl) ?_⟩
          refine ⟨by first | with_reducible assumption | omega | assumption, ?_⟩
          refine ⟨by first | exact told_shr (by first | exact Int.natCast_nonneg _ | omega) (by with_reducible assumption) | exact told_shr (by omega) rfl, ?_⟩
          refine ⟨told_and (by with_reducible assumption), ?_⟩
          refine ⟨acall_b (acall_hit (c := c73.to) (o, r, k, i) _ rfl p73) b1, ?_⟩
          refine ⟨told_add (by with_reducible assumption), ?_⟩
          refine ⟨by first | with_reducible assumption | omega | assumption, ?_⟩
          refine ⟨by first | with_reducible assumption | omega | assumption, ?_⟩
          exact ⟨rfl, by rw [hkk]⟩
        · rw [b1] at hkk
          have hkk : okB (rel o) t i (k + 1) = false := hkk
          refine ⟨[Ans.o (Orc.b true), Ans.o (Orc.val 34 (I (↑(t >>> k) : Int)) H.nil), Ans.o (Orc.val 35 (I 0) H.nil), Ans.o Orc.dflt, Ans.o (Orc.val 41 (AV.bool true) (H.mk [] [] [])), Ans.o (Orc.val 45 (I (↑(k + (1 : Nat)) : Int)) H.nil)], fun u => of_eq ((↑k : Int) < (↑o.length : Int) ∧ aBin Try.prog BinOp.shr (3 : Nat) (I (↑t : Int)) (I (↑k : Int)) = some (I (↑(t >>> k) : Int)) ∧ aBin Try.prog BinOp.and (3 : Nat) (I (↑(t >>> k) : Int)) (I 1) = some (I 0) ∧ aCall (Sof [c73.to, (c77 m ih).to]) (AV.fn (Fn.func (73 : Nat)) [] []) [AV.sl (ints o) o.length r, I (↑k : Int), I (↑i : Int)] (H.mk [] [] []) = some (AV.bool true, H.mk [] [] []) ∧ aBin Try.prog BinOp.add (3 : Nat) (I (↑k : Int)) (I 1) = some (I (↑(k + (1 : Nat)) : Int)) ∧ (57 : Nat) = (57 : Nat) ∧ k < o.length ∧ Keep (H.mk [] [] [] = H.mk [] [] [] ∧ [AV.sl (ints o) o.length r, I (↑t : Int), I (↑S : Int), I (↑i : Int), AV.bool false, I (↑o.length : Int), I (↑i : Int), I (↑o.length : Int), I (↑(k + (1 : Nat)) : Int)] = [AV.sl (ints o) o.length r, I (↑t : Int), I (↑S : Int), I (↑i : Int), AV.bool (okB (rel o) t i (k + (1 : Nat))), I (↑o.length : Int), I (↑i : Int), I (↑o.length : Int), I (↑(k + (1 : Nat)) : Int)])) (by kernel_rfl) ?_⟩
          refine ⟨by first | with_reducible assumption | omega | assumption, ?_⟩
          refine ⟨by first | exact told_shr (by first | exact Int.natCast_nonneg _ | omega) (by with_reducible assumption) | exact told_shr (by omega) rfl, ?_⟩
          refine ⟨told_and (by with_reducible assumption), ?_⟩
          refine ⟨acall_b (acall_hit (c := c73.to) (o, r, k, i) _ rfl p73) b1, ?_⟩
          refine ⟨told_add (by with_reducible assumption), ?_⟩
          refine ⟨by first | with_reducible assumption | omega | assumption, ?_⟩
          refine ⟨by first | with_reducible assumption | omega | assumption, ?_⟩
          exact ⟨rfl, by rw [hkk]⟩
      · rw [hv] at hkk
        have hkk : okB (rel o) t i (k + 1) = true := by rw [hkk]; rfl
        have ev1 := i_shr (a := t) (n := k) (by omega)
        have ev2 : IntKind.i64.wrap ((BitVec.ofInt IntKind.i64.bits ((t >>> k : Nat) : Int) &&& BitVec.ofInt IntKind.i64.bits 1).toNat : Int) = 1 := by rw [i_bit (by omega), hv]; rfl
        refine ⟨[Ans.o (Orc.b true), Ans.o (Orc.val 34 (I (↑(t >>> k) : Int)) H.nil), Ans.o (Orc.val 35 (I 1) H.nil), Ans.o Orc.dflt, Ans.o (Orc.val 45 (I (↑(k + (1 : Nat)) : Int)) H.nil)], fun u => of_eq ((↑k : Int) < (↑o.length : Int) ∧ aBin Try.prog BinOp.shr (3 : Nat) (I (↑t : Int)) (I (↑k : Int)) = some (I (↑(t >>> k) : Int)) ∧ aBin Try.prog BinOp.and (3 : Nat) (I (↑(t >>> k) : Int)) (I 1) = some (I 1) ∧ aBin Try.prog BinOp.add (3 : Nat) (I (↑k : Int)) (I 1) = some (I (↑(k + (1 : Nat)) : Int)) ∧ (57 : Nat) = (57 : Nat) ∧ k < o.length ∧ Keep (H.mk [] [] [] = H.mk [] [] [] ∧ [AV.sl (ints o) o.length r, I (↑t : Int), I (↑S : Int), I (↑i : Int), AV.bool true, I (↑o.length : Int), I (↑i : Int), I (↑o.length : Int), I (↑(k + (1 : Nat)) : Int)] = [AV.sl (ints o) o.length r, I (↑t : Int), I (↑S : Int), I (↑i : Int), AV.bool (okB (rel o) t i (k + (1 : Nat))), I (↑o.length : Int), I (↑i : Int), I (↑o.length : Int), I (↑(k + (1 : Nat)) : Int)])) (by kernel_rfl) ?_⟩
        refine ⟨by first | with_reducible assumption | omega | assumption, ?_⟩
        refine ⟨by first | exact told_shr (by first | exact Int.natCast_nonneg _ | omega) (by with_reducible assumption) | exact told_shr (by omega) rfl, ?_⟩
        refine ⟨told_and (by with_reducible assumption), ?_⟩
        refine ⟨told_add (by with_reducible assumption), ?_⟩
        refine ⟨by first | with_reducible assumption | omega | assumption, ?_⟩
        refine ⟨by first | with_reducible assumption | omega | assumption, ?_⟩
        exact ⟨rfl, by rw [hkk]⟩
  · have hz : (o.length : Int) ≤ k := by omega
    have hk' : k = o.length := by omega
    subst hk'
    refine ⟨[Ans.o (Orc.b false)], fun u => of_eq ((↑o.length : Int) ≤ (↑o.length : Int) ∧ (57 : Nat) = (57 : Nat) ∧ hits [Out.mk Unit (AX.exit (2 : Nat)) [(0 : Nat), (1 : Nat), (5 : Nat), (6 : Nat), (7 : Nat), (16 : Nat), (17 : Nat)] (fun x => True) (fun x => [ls o r, I (↑t : Int), I (↑S : Int), I (↑i : Int), AV.bool (okB (rel o) t i o.length), I (↑o.length : Int), I (↑i : Int)]) (fun x => H.nil) fun x => []] (AX.exit (2 : Nat)) [AV.sl (ints o) o.length r, I (↑t : Int), u (2 : Nat), u (3 : Nat), u (4 : Nat), I (↑S : Int), I (↑i : Int), AV.bool (okB (rel o) t i o.length), u (8 : Nat), u (9 : Nat), u (10 : Nat), u (11 : Nat), u (12 : Nat), u (13 : Nat), u (14 : Nat), u (15 : Nat), I (↑o.length : Int), I (↑i : Int), u (18 : Nat), u (19 : Nat), u (20 : Nat), u (21 : Nat), u (22 : Nat), u (23 : Nat), u (24 : Nat), u (25 : Nat), I (↑o.length : Int), I (↑o.length : Int), AV.bool false, u (29 : Nat), u (30 : Nat), u (31 : Nat), u (32 : Nat), u (33 : Nat), u (34 : Nat), u (35 : Nat), u (36 : Nat), u (37 : Nat), u (38 : Nat), u (39 : Nat), u (40 : Nat), u (41 : Nat), u (42 : Nat), u (43 : Nat), u (44 : Nat), u (45 : Nat), u (46 : Nat), u (47 : Nat), u (48 : Nat), u (49 : Nat), u (50 : Nat), u (51 : Nat), u (52 : Nat), u (53 : Nat), u (54 : Nat), u (55 : Nat), u (56 : Nat)] (H.mk [] [] [])) (by kernel_rfl) ?_⟩
    refine ⟨by first | with_reducible assumption | omega | assumption, ?_⟩
    refine ⟨by first | with_reducible assumption | omega | assumption, ?_⟩
    exact .inl ⟨(), trivial, rfl, rfl, rfl⟩
abbrev o77 (o : List Int) (t : Nat) : List Out := [.mk Unit (.exit 0) [5] (fun _ => True) (fun _ => [I (v77 o t : Nat)]) (fun _ => .nil) (fun _ => [])]
theorem simp77 : allSimpleM none1 (loopAt Try.f77 0) = true := by kernel_rfl
theorem lp77 (m : Nat) (ih : Ok77 m) (o : List Int) (r : Room) (t : Nat) (h : p77 (m + 1) o r t) (h0 : cm o.length t ≠ 0) :
    LoopS (En6 [c73.to, (c77 m ih).to]) (loopAt Try.f77 0) 57 [0, 1, 5, 16, 17] [ls o r, I t, I 0, I o.length, I 0] .nil (o77 o t) := by
  have hR : Rests (En6 [c73.to, (c77 m ih).to]) none1 := rests mixed (.pure _ (.pure _ .nil))
  have h6 := h.1.1.s.2
  have p6 : 2 ^ o.length ≤ 2 ^ 6 := Nat.pow_le_pow_right (by decide) h6
  refine loop_s hR simp77 none (by intro _ h; cases h) (fun k vs H => H = .nil ∧ vs = [ls o r, I t, I (sq7 (rel o) o.length t k : Nat), I o.length, I k]) o.length ⟨rfl, rfl⟩ (by intro _ h; cases h) ?_
  rintro k vs H hk ⟨rfl, rfl⟩
  by_cases hz : (k : Int) < o.length
  · have hz' : k < o.length := by omega
    have ev0 := wj1 (j := k) (by omega)
    have hm := ok_mn (A := rel o) (t := t) h6 hz'
    have ev1 := i_shr (a := t) (n := k) (by have := h.2.1; omega)
    have hsum : sq7 (rel o) o.length t (k + 1) = sq7 (rel o) o.length t k + (if mn (rel o) o.length (cm o.length t) k = true then ct (rel o) o.length (clr (cm o.length t) k) else 0) := rfl
    have hle := sq7_le h.1.1.i (t := t) h6 h0 (k := k + 1) (by omega)
    cases hv : t.testBit k
    · have ev2 : IntKind.i64.wrap ((BitVec.ofInt IntKind.i64.bits ((t >>> k : Nat) : Int) &&& BitVec.ofInt IntKind.i64.bits 1).toNat : Int) = 0 := by rw [i_bit (by have := h.2.1; omega), hv]; rfl
      have hl := lp77b m ih o r h.1 t h.2.1 (sq7 (rel o) o.length t k) k hz' true (by rw [okB, hv]; rfl)
      cases hf : okB (rel o) t k o.length
      · rw [hm, hf] at hsum
        have hsum : sq7 (rel o) o.length t (k + 1) = sq7 (rel o) o.length t k := hsum
        refine ⟨[Ans.o (Orc.b true), Ans.o (Orc.val 22 (I (↑(t >>> k) : Int)) H.nil), Ans.o (Orc.val 23 (I 0) H.nil), Ans.o Orc.dflt, Ans.loop [(0 : Nat), (1 : Nat), (5 : Nat), (6 : Nat), (7 : Nat), (16 : Nat), (17 : Nat), (26 : Nat), (27 : Nat)] [Out.mk Unit (AX.exit (2 : Nat)) [(0 : Nat), (1 : Nat), (5 : Nat), (6 : Nat), (7 : Nat), (16 : Nat), (17 : Nat)] (fun x => True) (fun x => [ls o r, I (↑t : Int), I (↑(sq7 (rel o) o.length t k) : Int), I (↑k : Int), AV.bool (okB (rel o) t k o.length), I (↑o.length : Int), I (↑k : Int)]) (fun x => H.nil) fun y => [Ans.btold (46 : Nat) false, Ans.o (Orc.val 55 (I (↑(k + (1 : Nat)) : Int)) H.nil)]]], fun u => of_eq ((↑k : Int) < (↑o.length : Int) ∧ aBin Try.prog BinOp.shr (3 : Nat) (I (↑t : Int)) (I (↑k : Int)) = some (I (↑(t >>> k) : Int)) ∧ aBin Try.prog BinOp.and (3 : Nat) (I (↑(t >>> k) : Int)) (I 1) = some (I 0) ∧ LoopS (Env.mk Try.prog (Sof [c73.to, (c77 m ih).to]) (Pof (P := Try.prog) []) H.nil.base (300 : Nat)) (loopAt Try.f77 (1 : Nat)) (57 : Nat) [(0 : Nat), (1 : Nat), (5 : Nat), (6 : Nat), (7 : Nat), (16 : Nat), (17 : Nat), (26 : Nat), (27 : Nat)] [AV.sl (ints o) o.length r, I (↑t : Int), I (↑(sq7 (rel o) o.length t k) : Int), I (↑k : Int), AV.bool true, I (↑o.length : Int), I (↑k : Int), I (↑o.length : Int), I 0] (H.mk [] [] []) [Out.mk Unit (AX.exit (2 : Nat)) [(0 : Nat), (1 : Nat), (5 : Nat), (6 : Nat), (7 : Nat), (16 : Nat), (17 : Nat)] (fun x => True) (fun x => [ls o r, I (↑t : Int), I (↑(sq7 (rel o) o.length t k) : Int), I (↑k : Int), AV.bool (okB (rel o) t k o.length), I (↑o.length : Int), I (↑k : Int)]) (fun x => H.nil) fun y => [Ans.btold (46 : Nat) false, Ans.o (Orc.val 55 (I (↑(k + (1 : Nat)) : Int)) H.nil)]] ∧ (∀ (y : Unit), True → ∀ (u : Nat → AV), okB (rel o) t k o.length = false ∧ aBin Try.prog BinOp.add (3 : Nat) (I (↑k : Int)) (I 1) = some (I (↑(k + (1 : Nat)) : Int)) ∧ (57 : Nat) = (57 : Nat) ∧ k < o.length ∧ Keep (H.mk [] [] [] = H.mk [] [] [] ∧ [AV.sl (ints o) o.length r, I (↑t : Int), I (↑(sq7 (rel o) o.length t k) : Int), I (↑o.length : Int), I (↑(k + (1 : Nat)) : Int)] = [AV.sl (ints o) o.length r, I (↑t : Int), I (↑(sq7 (rel o) o.length t (k + (1 : Nat))) : Int), I (↑o.length : Int), I (↑(k + (1 : Nat)) : Int)])) ∧ True) (by kernel_rfl) ?_⟩
        refine ⟨by first | with_reducible assumption | omega | assumption, ?_⟩
        refine ⟨by first | exact told_shr (by first | exact Int.natCast_nonneg _ | omega) (by with_reducible assumption) | exact told_shr (by omega) rfl, ?_⟩
        refine ⟨told_and (by with_reducible assumption), ?_⟩
        refine ⟨hl, ?_⟩
        refine And.intro ?_ ?_
        · skip
          intro y
          intro w1
          intro u
          refine ⟨by first | with_reducible assumption | omega | assumption, ?_⟩
          refine ⟨told_add (by with_reducible assumption), ?_⟩
          refine ⟨by first | with_reducible assumption | omega | assumption, ?_⟩
          refine ⟨by first | with_reducible assumption | omega | assumption, ?_⟩
          exact ⟨rfl, by rw [hsum]⟩
        · skip
          trivial
      · rw [hm, hf] at hsum
        have hsum : sq7 (rel o) o.length t (k + 1) = sq7 (rel o) o.length t k + ct (rel o) o.length (clr (cm o.length t) k) := hsum
        have ev3 := pw_shl (n := k) (by omega)
        have p2 : 2 ^ k < 64 := Nat.lt_of_lt_of_le (Nat.pow_lt_pow_right (by decide : 1 < 2) (show k < 6 by omega)) (by decide)
        have ev4 := i_orv (show (t : Int) = (t : Nat) from rfl) (show ((2 ^ k : Nat) : Int) = ((2 ^ k : Nat) : Int) from rfl) (by have := h.2.1; omega) p2
        have hcb : (cm o.length t).testBit k = true := by rw [cm_bit h6, hv]; simp [hz']
        have hpc := pc_clr (cm_big (t := t) h6) (show k < 6 by omega) hcb
        have hp : p77 m o r (t ||| 2 ^ k) := ⟨h.1, Nat.or_lt_two_pow h.2.1 (Nat.pow_lt_pow_right (by decide) hz'), by rw [cm_or h6]; have := h.2.2; omega⟩
        have hval : v77 o (t ||| 2 ^ k) = ct (rel o) o.length (clr (cm o.length t) k) := by rw [v77, cm_or h6]
        have ev5 : IntKind.i64.wrap (((sq7 (rel o) o.length t k : Nat) : Int) + ((v77 o (t ||| 2 ^ k) : Nat) : Int)) = ((sq7 (rel o) o.length t (k + 1) : Nat) : Int) := by rw [hval, wr _ (by omega) (by omega), hsum]; omega
        refine ⟨[Ans.o (Orc.b true), Ans.o (Orc.val 22 (I (↑(t >>> k) : Int)) H.nil), Ans.o (Orc.val 23 (I 0) H.nil), Ans.o Orc.dflt, Ans.loop [(0 : Nat), (1 : Nat), (5 : Nat), (6 : Nat), (7 : Nat), (16 : Nat), (17 : Nat), (26 : Nat), (27 : Nat)] [Out.mk Unit (AX.exit (2 : Nat)) [(0 : Nat), (1 : Nat), (5 : Nat), (6 : Nat), (7 : Nat), (16 : Nat), (17 : Nat)] (fun x => True) (fun x => [ls o r, I (↑t : Int), I (↑(sq7 (rel o) o.length t k) : Int), I (↑k : Int), AV.bool (okB (rel o) t k o.length), I (↑o.length : Int), I (↑k : Int)]) (fun x => H.nil) fun y => [Ans.btold (46 : Nat) true, Ans.o (Orc.val 51 (I (↑((2 : Nat) ^ k) : Int)) H.nil), Ans.o (Orc.val 52 (I (↑(t ||| (2 : Nat) ^ k) : Int)) H.nil), Ans.o (Orc.val 53 (I (↑(v77 o (t ||| (2 : Nat) ^ k)) : Int)) (H.mk [] [] [])), Ans.o (Orc.val 54 (I (↑(sq7 (rel o) o.length t (k + (1 : Nat))) : Int)) H.nil), Ans.o (Orc.val 55 (I (↑(k + (1 : Nat)) : Int)) H.nil)]]], fun u => of_eq ((↑k : Int) < (↑o.length : Int) ∧ aBin Try.prog BinOp.shr (3 : Nat) (I (↑t : Int)) (I (↑k : Int)) = some (I (↑(t >>> k) : Int)) ∧ aBin Try.prog BinOp.and (3 : Nat) (I (↑(t >>> k) : Int)) (I 1) = some (I 0) ∧ LoopS (Env.mk Try.prog (Sof [c73.to, (c77 m ih).to]) (Pof (P := Try.prog) []) H.nil.base (300 : Nat)) (loopAt Try.f77 (1 : Nat)) (57 : Nat) [(0 : Nat), (1 : Nat), (5 : Nat), (6 : Nat), (7 : Nat), (16 : Nat), (17 : Nat), (26 : Nat), (27 : Nat)] [AV.sl (ints o) o.length r, I (↑t : Int), I (↑(sq7 (rel o) o.length t k) : Int), I (↑k : Int), AV.bool true, I (↑o.length : Int), I (↑k : Int), I (↑o.length : Int), I 0] (H.mk [] [] []) [Out.mk Unit (AX.exit (2 : Nat)) [(0 : Nat), (1 : Nat), (5 : Nat), (6 : Nat), (7 : Nat), (16 : Nat), (17 : Nat)] (fun x => True) (fun x => [ls o r, I (↑t : Int), I (↑(sq7 (rel o) o.length t k) : Int), I (↑k : Int), AV.bool (okB (rel o) t k o.length), I (↑o.length : Int), I (↑k : Int)]) (fun x => H.nil) fun y => [Ans.btold (46 : Nat) true, Ans.o (Orc.val 51 (I (↑((2 : Nat) ^ k) : Int)) H.nil), Ans.o (Orc.val 52 (I (↑(t ||| (2 : Nat) ^ k) : Int)) H.nil), Ans.o (Orc.val 53 (I (↑(v77 o (t ||| (2 : Nat) ^ k)) : Int)) (H.mk [] [] [])), Ans.o (Orc.val 54 (I (↑(sq7 (rel o) o.length t (k + (1 : Nat))) : Int)) H.nil), Ans.o (Orc.val 55 (I (↑(k + (1 : Nat)) : Int)) H.nil)]] ∧ (∀ (y : Unit), True → ∀ (u : Nat → AV), okB (rel o) t k o.length = true ∧ aBin Try.prog BinOp.shl (3 : Nat) (I 1) (I (↑k : Int)) = some (I (↑((2 : Nat) ^ k) : Int)) ∧ aBin Try.prog BinOp.or (3 : Nat) (I (↑t : Int)) (I (↑((2 : Nat) ^ k) : Int)) = some (I (↑(t ||| (2 : Nat) ^ k) : Int)) ∧ aCall (Sof [c73.to, (c77 m ih).to]) (AV.fn (Fn.func (77 : Nat)) [] []) [AV.sl (ints o) o.length r, I (↑(t ||| (2 : Nat) ^ k) : Int)] (H.mk [] [] []) = some (I (↑(v77 o (t ||| (2 : Nat) ^ k)) : Int), H.mk [] [] []) ∧ aBin Try.prog BinOp.add (3 : Nat) (I (↑(sq7 (rel o) o.length t k) : Int)) (I (↑(v77 o (t ||| (2 : Nat) ^ k)) : Int)) = some (I (↑(sq7 (rel o) o.length t (k + (1 : Nat))) : Int)) ∧ aBin Try.prog BinOp.add (3 : Nat) (I (↑k : Int)) (I 1) = some (I (↑(k + (1 : Nat)) : Int)) ∧ (57 : Nat) = (57 : Nat) ∧ k < o.length ∧ Keep (H.mk [] [] [] = H.mk [] [] [] ∧ [AV.sl (ints o) o.length r, I (↑t : Int), I (↑(sq7 (rel o) o.length t (k + (1 : Nat))) : Int), I (↑o.length : Int), I (↑(k + (1 : Nat)) : Int)] = [AV.sl (ints o) o.length r, I (↑t : Int), I (↑(sq7 (rel o) o.length t (k + (1 : Nat))) : Int), I (↑o.length : Int), I (↑(k + (1 : Nat)) : Int)])) ∧ True) (by kernel_rfl) ?_⟩
        refine ⟨by first | with_reducible assumption | omega | assumption, ?_⟩
        refine ⟨by first | exact told_shr (by first | exact Int.natCast_nonneg _ | omega) (by with_reducible assumption) | exact told_shr (by omega) rfl, ?_⟩
        refine ⟨told_and (by with_reducible assumption), ?_⟩
        refine ⟨hl, ?_⟩
        refine And.intro ?_ ?_
        · skip
          intro y
          intro w1
          intro u
          refine ⟨by first | with_reducible assumption | omega | assumption, ?_⟩
          refine ⟨by first | exact told_shl (by first | exact Int.natCast_nonneg _ | omega) (by with_reducible assumption) | exact told_shl (by omega) rfl, ?_⟩
          refine ⟨told_or (by with_reducible assumption), ?_⟩
          refine ⟨acall_hit (c := (c77 m ih).to) ((o, r), orr t k) _ rfl hp, ?_⟩
          refine ⟨told_add (by with_reducible assumption), ?_⟩
          refine ⟨told_add (by with_reducible assumption), ?_⟩
          refine ⟨by first | with_reducible assumption | omega | assumption, ?_⟩
          refine ⟨by first | with_reducible assumption | omega | assumption, ?_⟩
          exact ⟨rfl, rfl⟩
        · skip
          trivial
    · have ev2 : IntKind.i64.wrap ((BitVec.ofInt IntKind.i64.bits ((t >>> k : Nat) : Int) &&& BitVec.ofInt IntKind.i64.bits 1).toNat : Int) = 1 := by rw [i_bit (by have := h.2.1; omega), hv]; rfl
      have hl := lp77b m ih o r h.1 t h.2.1 (sq7 (rel o) o.length t k) k hz' false (by rw [okB, hv]; rfl)
      have hf : okB (rel o) t k o.length = false := by
        cases q : okB (rel o) t k o.length
        · rfl
        · have := (okB_iff.1 q).1; rw [hv] at this; cases this
      rw [hm, hf] at hsum
      have hsum : sq7 (rel o) o.length t (k + 1) = sq7 (rel o) o.length t k := hsum
      refine ⟨[Ans.o (Orc.b true), Ans.o (Orc.val 22 (I (↑(t >>> k) : Int)) H.nil), Ans.o (Orc.val 23 (I 1) H.nil), Ans.o Orc.dflt, Ans.loop [(0 : Nat), (1 : Nat), (5 : Nat), (6 : Nat), (7 : Nat), (16 : Nat), (17 : Nat), (26 : Nat), (27 : Nat)] [Out.mk Unit (AX.exit (2 : Nat)) [(0 : Nat), (1 : Nat), (5 : Nat), (6 : Nat), (7 : Nat), (16 : Nat), (17 : Nat)] (fun x => True) (fun x => [ls o r, I (↑t : Int), I (↑(sq7 (rel o) o.length t k) : Int), I (↑k : Int), AV.bool (okB (rel o) t k o.length), I (↑o.length : Int), I (↑k : Int)]) (fun x => H.nil) fun y => [Ans.btold (46 : Nat) false, Ans.o (Orc.val 55 (I (↑(k + (1 : Nat)) : Int)) H.nil)]]], fun u => of_eq ((↑k : Int) < (↑o.length : Int) ∧ aBin Try.prog BinOp.shr (3 : Nat) (I (↑t : Int)) (I (↑k : Int)) = some (I (↑(t >>> k) : Int)) ∧ aBin Try.prog BinOp.and (3 : Nat) (I (↑(t >>> k) : Int)) (I 1) = some (I 1) ∧ LoopS (Env.mk Try.prog (Sof [c73.to, (c77 m ih).to]) (Pof (P := Try.prog) []) H.nil.base (300 : Nat)) (loopAt Try.f77 (1 : Nat)) (57 : Nat) [(0 : Nat), (1 : Nat), (5 : Nat), (6 : Nat), (7 : Nat), (16 : Nat), (17 : Nat), (26 : Nat), (27 : Nat)] [AV.sl (ints o) o.length r, I (↑t : Int), I (↑(sq7 (rel o) o.length t k) : Int), I (↑k : Int), AV.bool false, I (↑o.length : Int), I (↑k : Int), I (↑o.length : Int), I 0] (H.mk [] [] []) [Out.mk Unit (AX.exit (2 : Nat)) [(0 : Nat), (1 : Nat), (5 : Nat), (6 : Nat), (7 : Nat), (16 : Nat), (17 : Nat)] (fun x => True) (fun x => [ls o r, I (↑t : Int), I (↑(sq7 (rel o) o.length t k) : Int), I (↑k : Int), AV.bool (okB (rel o) t k o.length), I (↑o.length : Int), I (↑k : Int)]) (fun x => H.nil) fun y => [Ans.btold (46 : Nat) false, Ans.o (Orc.val 55 (I (↑(k + (1 : Nat)) : Int)) H.nil)]] ∧ (∀ (y : Unit), True → ∀ (u : Nat → AV), okB (rel o) t k o.length = false ∧ aBin Try.prog BinOp.add (3 : Nat) (I (↑k : Int)) (I 1) = some (I (↑(k + (1 : Nat)) : Int)) ∧ (57 : Nat) = (57 : Nat) ∧ k < o.length ∧ Keep (H.mk [] [] [] = H.mk [] [] [] ∧ [AV.sl (ints o) o.length r, I (↑t : Int), I (↑(sq7 (rel o) o.length t k) : Int), I (↑o.length : Int), I (↑(k + (1 : Nat)) : Int)] = [AV.sl (ints o) o.length r, I (↑t : Int), I (↑(sq7 (rel o) o.length t (k + (1 : Nat))) : Int), I (↑o.length : Int), I (↑(k + (1 : Nat)) : Int)])) ∧ True) (by kernel_rfl) ?_⟩
      refine ⟨by first | with_reducible assumption | omega | assumption, ?_⟩
      refine ⟨by first | exact told_shr (by first | exact Int.natCast_nonneg _ | omega) (by with_reducible assumption) | exact told_shr (by omega) rfl, ?_⟩
      refine ⟨told_and (by with_reducible assumption), ?_⟩
      refine ⟨hl, ?_⟩
      refine And.intro ?_ ?_
      · skip
        intro y
        intro w1
        intro u
        refine ⟨by first | with_reducible assumption | omega | assumption, ?_⟩
        refine ⟨told_add (by with_reducible assumption), ?_⟩
        refine ⟨by first | with_reducible assumption | omega | assumption, ?_⟩
        refine ⟨by first | with_reducible assumption | omega | assumption, ?_⟩
        exact ⟨rfl, by rw [hsum]⟩
      · skip
        trivial
  · have hz : (o.length : Int) ≤ k := by omega
    have hk' : k = o.length := by omega
    subst hk'
    have hs := sq7_all h.1.1.i (t := t) h6 h0
    refine ⟨[Ans.o (Orc.b false)], fun u => of_eq ((↑o.length : Int) ≤ (↑o.length : Int) ∧ (57 : Nat) = (57 : Nat) ∧ hits [Out.mk Unit (AX.exit (0 : Nat)) [(5 : Nat)] (fun x => True) (fun x => [I (↑(v77 o t) : Int)]) (fun x => H.nil) fun x => []] (AX.exit (0 : Nat)) [AV.sl (ints o) o.length r, I (↑t : Int), u (2 : Nat), u (3 : Nat), u (4 : Nat), I (↑(sq7 (rel o) o.length t o.length) : Int), u (6 : Nat), u (7 : Nat), u (8 : Nat), u (9 : Nat), u (10 : Nat), u (11 : Nat), u (12 : Nat), u (13 : Nat), u (14 : Nat), u (15 : Nat), I (↑o.length : Int), I (↑o.length : Int), AV.bool false, u (19 : Nat), u (20 : Nat), u (21 : Nat), u (22 : Nat), u (23 : Nat), u (24 : Nat), u (25 : Nat), u (26 : Nat), u (27 : Nat), u (28 : Nat), u (29 : Nat), u (30 : Nat), u (31 : Nat), u (32 : Nat), u (33 : Nat), u (34 : Nat), u (35 : Nat), u (36 : Nat), u (37 : Nat), u (38 : Nat), u (39 : Nat), u (40 : Nat), u (41 : Nat), u (42 : Nat), u (43 : Nat), u (44 : Nat), u (45 : Nat), u (46 : Nat), u (47 : Nat), u (48 : Nat), u (49 : Nat), u (50 : Nat), u (51 : Nat), u (52 : Nat), u (53 : Nat), u (54 : Nat), u (55 : Nat), u (56 : Nat)] (H.mk [] [] [])) (by kernel_rfl) ?_⟩
    refine ⟨by first | with_reducible assumption | omega | assumption, ?_⟩
    refine ⟨by first | with_reducible assumption | omega | assumption, ?_⟩
    exact .inl ⟨(), trivial, rfl, by show [I (sq7 (rel o) o.length t o.length : Nat)] = _; rw [hs], rfl⟩
theorem ok77 : FokM Try.prog none1 77 Try.f77 := ⟨mixed, by kernel_rfl, by kernel_rfl, by kernel_rfl, by kernel_rfl⟩
theorem r77 (m : Nat) (ih : Ok77 m) (o : List Int) (r : Room) (t : Nat) (h : p77 (m + 1) o r t) (h0 : cm o.length t ≠ 0) : Body (En6 [c73.to, (c77 m ih).to]) none1 Try.f77 [ls o r, I t] .nil (I (v77 o t : Nat), .nil) := by
  have h6 := h.1.1.s.2
  have p6 : 2 ^ o.length ≤ 2 ^ 6 := Nat.pow_le_pow_right (by decide) h6
  have p0 := Nat.two_pow_pos o.length
  have ev0 := pw_shl (n := o.length) (by omega)
  have ev1 : IntKind.i64.wrap (((2 ^ o.length : Nat) : Int) - 1) = ((alls o.length : Nat) : Int) := by rw [wr _ (by omega) (by omega)]; simp only [alls]; omega
  have hne : (t : Int) ≠ ((alls o.length : Nat) : Int) := fun e => h0 ((cm_0 h6 h.2.1).2 (by omega))
  have hl := lp77 m ih o r t h h0
  refine body_s ([Ans.o (Orc.val 12 (I (↑((2 : Nat) ^ o.length) : Int)) H.nil), Ans.o (Orc.val 13 (I (↑(alls o.length) : Int)) H.nil), Ans.o (Orc.b false), Ans.loop [(0 : Nat), (1 : Nat), (5 : Nat), (16 : Nat), (17 : Nat)] [Out.mk Unit (AX.exit (0 : Nat)) [(5 : Nat)] (fun x => True) (fun x => [I (↑(v77 o t) : Int)]) (fun x => H.nil) fun y => []]]) (aBin Try.prog BinOp.shl (3 : Nat) (I 1) (I (↑o.length : Int)) = some (I (↑((2 : Nat) ^ o.length) : Int)) ∧ aBin Try.prog BinOp.sub (3 : Nat) (I (↑((2 : Nat) ^ o.length) : Int)) (I 1) = some (I (↑(alls o.length) : Int)) ∧ (↑t : Int) ≠ (↑(alls o.length) : Int) ∧ LoopS (Env.mk Try.prog (Sof [c73.to, (c77 m ih).to]) (Pof (P := Try.prog) []) H.nil.base (300 : Nat)) (loopAt Try.f77 (0 : Nat)) (57 : Nat) [(0 : Nat), (1 : Nat), (5 : Nat), (16 : Nat), (17 : Nat)] [AV.sl (ints o) o.length r, I (↑t : Int), I 0, I (↑o.length : Int), I 0] (H.mk [] [] []) [Out.mk Unit (AX.exit (0 : Nat)) [(5 : Nat)] (fun x => True) (fun x => [I (↑(v77 o t) : Int)]) (fun x => H.nil) fun y => []] ∧ (∀ (y : Unit), True → ∀ (u : Nat → AV), (I (↑(v77 o t) : Int), H.mk [] [] []) = (I (↑(v77 o t) : Int), H.mk [] [] [])) ∧ True) (by kernel_rfl) ?_
  refine ⟨by first | exact told_shl (by first | exact Int.natCast_nonneg _ | omega) (by with_reducible assumption) | exact told_shl (by omega) rfl, ?_⟩
  refine ⟨told_sub (by with_reducible assumption), ?_⟩
  refine ⟨by first | with_reducible assumption | omega | assumption, ?_⟩
  refine ⟨hl, ?_⟩
  refine And.intro ?_ ?_
  · skip
    intro y
    intro w1
    intro u
    rfl
  · skip
    trivial
theorem r77z (o : List Int) (r : Room) (t : Nat) (h6 : o.length ≤ 6) (ht : t < 2 ^ o.length) (h0 : cm o.length t = 0) : Body (En6 []) none1 Try.f77 [ls o r, I t] .nil (I (v77 o t : Nat), .nil) := by
  have p6 : 2 ^ o.length ≤ 2 ^ 6 := Nat.pow_le_pow_right (by decide) h6
  have p0 := Nat.two_pow_pos o.length
  have ev0 := pw_shl (n := o.length) (by omega)
  have ev1 : IntKind.i64.wrap (((2 ^ o.length : Nat) : Int) - 1) = ((alls o.length : Nat) : Int) := by rw [wr _ (by omega) (by omega)]; simp only [alls]; omega
  have he : (t : Int) = ((alls o.length : Nat) : Int) := by have := (cm_0 h6 ht).1 h0; omega
  have hv : v77 o t = 1 := by rw [v77, h0]; rfl
  rw [hv]
  refine body_s ([Ans.o (Orc.val 12 (I (↑((2 : Nat) ^ o.length) : Int)) H.nil), Ans.o (Orc.val 13 (I (↑(alls o.length) : Int)) H.nil), Ans.o (Orc.b true)]) (aBin Try.prog BinOp.shl (3 : Nat) (I 1) (I (↑o.length : Int)) = some (I (↑((2 : Nat) ^ o.length) : Int)) ∧ aBin Try.prog BinOp.sub (3 : Nat) (I (↑((2 : Nat) ^ o.length) : Int)) (I 1) = some (I (↑(alls o.length) : Int)) ∧ (↑t : Int) = (↑(alls o.length) : Int) ∧ (I 1, H.mk [] [] []) = (I 1, H.mk [] [] [])) (by kernel_rfl) ?_
  refine ⟨by first | exact told_shl (by first | exact Int.natCast_nonneg _ | omega) (by with_reducible assumption) | exact told_shl (by omega) rfl, ?_⟩
  refine ⟨told_sub (by with_reducible assumption), ?_⟩
  refine ⟨by first | with_reducible assumption | omega | assumption, ?_⟩
  rfl
theorem ls2_wk (o : List Int) (r : Room) (t : Nat) : AV.bnds 0 0 0 [AV.wk (ls o r), AV.wk (I t)] = true := by simp [AV.bnds, AV.bnd, AV.wk, rm_wk_bnd]
theorem t77 : ∀ m, Ok77 m
  | 0 => by
    rintro ⟨⟨o, r⟩, t⟩ h
    simp only at h
    have h6 := h.1.1.s.2
    have h0 : cm o.length t = 0 := by
      refine Classical.byContradiction fun hne => ?_
      obtain ⟨e, he⟩ := Nat.exists_testBit_of_ne_zero hne
      have := bit_lt (cm_lt h6) he
      have := pc_clr (cm_big h6) (show e < 6 by omega) he
      have := h.2.2
      omega
    exact ⟨ok77.call, fun H => (pure_call ((r77z o r.wk t h6 h.2.1 h0).run ok77 .nil rfl) (ls2_wk o r t) rfl H).wk⟩
  | m + 1 => by
    rintro ⟨⟨o, r⟩, t⟩ h
    simp only at h
    by_cases h0 : cm o.length t = 0
    · exact ⟨ok77.call, fun H => (pure_call ((r77z o r.wk t h.1.1.s.2 h.2.1 h0).run ok77 .nil rfl) (ls2_wk o r t) rfl H).wk⟩
    · exact ⟨ok77.call, fun H => (pure_call ((r77 m (t77 m) o r.wk t ⟨⟨h.1.1, by simpa using h.1.2⟩, h.2⟩ h0).run ok77 (.pure _ (.pure _ .nil)) rfl) (ls2_wk o r t) rfl H).wk⟩
theorem cm_z {n : Nat} (h : n ≤ 6) : cm n 0 = alls n := by
  apply Nat.eq_of_testBit_eq; intro i
  rw [cm_bit h, alls_bit]; simp
theorem r33 (o : List Int) (r : Room) (h : OrdL o ∧ rok o r) (t6 : Ok77 6) : Body (En6 [(c77 6 t6).to]) none1 Try.f33 [ls o r] .nil (I (ctO o : Nat), .nil) := by
  have h6 := h.1.s.2
  have hp : p77 6 o r 0 := ⟨h, Nat.two_pow_pos _, pc_le _⟩
  have hv : v77 o 0 = ctO o := by rw [v77, cm_z h6]
  rw [← hv]
  refine body_s ([Ans.o (Orc.val 4 (I (↑(v77 o (nat_lit 0)) : Int)) (H.mk [] [] []))]) (aCall (Sof [(c77 (6 : Nat) t6).to]) (AV.fn (Fn.func (77 : Nat)) [] []) [AV.sl (ints o) o.length r, I 0] (H.mk [] [] []) = some (I (↑(v77 o (nat_lit 0)) : Int), H.mk [] [] []) ∧ (I (↑(v77 o (nat_lit 0)) : Int), H.mk [] [] []) = (I (↑(v77 o (0 : Nat)) : Int), H.mk [] [] [])) (by kernel_rfl) ?_
  refine ⟨acall_hit (c := (c77 6 t6).to) ((o, r), (0 : Nat)) _ rfl hp, ?_⟩
  rfl
theorem ok33 : FokM Try.prog none1 33 Try.f33 := ⟨mixed, by kernel_rfl, by kernel_rfl, by kernel_rfl, by kernel_rfl⟩
noncomputable def c33 : PCtr Try.prog := sctr ok33 (X := List Int × Room) (fun x => [ls x.1 x.2]) (fun x => OrdL x.1 ∧ rok x.1 x.2) (fun x => I (ctO x.1 : Nat))
  (by rintro ⟨l, r⟩ ⟨m, s⟩ e _ _; simp at e; simp only [e.1]) (fun x => ls_wk _ _) (fun x => rfl) (fun x hx => ⟨_, _, _, .pure _ .nil, r33 x.1 x.2.wk ⟨hx.1, by simpa using hx.2⟩ (t77 6)⟩)
end Go.Proofs.Ord

