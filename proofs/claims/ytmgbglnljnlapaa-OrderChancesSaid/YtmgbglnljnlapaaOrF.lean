/- Layer 7: what an order is, by the program. -/
import Derived.Test.YtmgbglnljnlapaaOrE
import Derived.KernelRfl
set_option linter.unusedSimpArgs false
set_option linter.unusedVariables false
set_option linter.unnecessarySimpa false
set_option maxHeartbeats 4000000
set_option maxRecDepth 100000
namespace Go.Proofs.Ord
open Go Go.VM
open Go.Proofs.Sur (andn andn_bit andn_le i_wrap i_and i_or i_andn i_shl i_shr bit_01)

/-- what is above what, by a slice -/
def rel (o : List Int) : Rel := fun i => (ia o i).toNat
abbrev sz (o : List Int) : Prop := 1 ≤ o.length ∧ o.length ≤ 6
abbrev q1 (o : List Int) (i : Nat) : Prop := 0 ≤ ia o i ∧ ia o i < ((2 ^ o.length : Nat) : Int)
abbrev rgO (o : List Int) : Prop := ∀ i, i < o.length → q1 o i
/-- integers of 64 bits -/
abbrev i64 (x : Int) : Prop := -9223372036854775808 ≤ x ∧ x < 9223372036854775808
abbrev inI (o : List Int) : Prop := ∀ i, i < o.length → i64 (ia o i)
structure OrdL (o : List Int) : Prop where
  s : sz o
  r : rgO o
  t : Tr (rel o)
  i : Irr (rel o)
theorem rel_out {o : List Int} {i : Nat} (h : o.length ≤ i) : rel o i = 0 := by
  simp [rel, List.getD_eq_getElem?_getD, List.getElem?_eq_none h]
theorem rel_rg {o : List Int} (h : rgO o) : Rg o.length (rel o) := by
  refine ⟨fun i => ?_, fun i hi => rel_out hi⟩
  rcases Nat.lt_or_ge i o.length with q | q
  · have := h i q
    simp only [rel]; omega
  · rw [rel_out q]; exact Nat.two_pow_pos _
theorem OrdL.od {o : List Int} (h : OrdL o) : Od o.length (rel o) := ⟨rel_rg h.r, h.t, h.i⟩
theorem OrdL.p {o : List Int} (h : OrdL o) : pO o.length (rel o) := ⟨rel_rg h.r, h.s.2⟩
open Classical in
noncomputable def ordB (o : List Int) : Bool := decide (OrdL o)
theorem ord_t {o : List Int} (h : OrdL o) : ordB o = true := by simp only [ordB, decide_eq_true_eq]; exact h
theorem ord_f {o : List Int} (h : ¬ OrdL o) : ordB o = false := by simp only [ordB, decide_eq_false_iff_not]; exact h
open Classical in
noncomputable def rdA (o : List Int) : AV := if sz o ∧ rgO o then oA o.length (rel o) else oA 0 zeroR
theorem rd_t {o : List Int} (h : sz o) (k : rgO o) : rdA o = oA o.length (rel o) := by rw [rdA, if_pos ⟨h, k⟩]
theorem rd_f {o : List Int} (h : ¬ (sz o ∧ rgO o)) : rdA o = oA 0 zeroR := by rw [rdA, if_neg h]
theorem all_succ {q : Nat → Prop} {j : Nat} (h : ∀ i, i < j → q i) (k : q j) : ∀ i, i < j + 1 → q i := fun i hi => by
  rcases Nat.lt_or_ge i j with h1 | h1
  · exact h i h1
  · have : i = j := by omega
    subst this; exact k
/-- what is left of a number without the elements -/
abbrev rw_ (x : Int) (n : Nat) : Int := IntKind.i64.wrap ((BitVec.ofInt IntKind.i64.bits x &&& ~~~BitVec.ofInt IntKind.i64.bits ((alls n : Nat) : Int)).toNat : Int)
theorem wrap_bv (b : BitVec 64) : IntKind.i64.wrap (b.toNat : Int) = b.toInt := by
  simp only [IntKind.wrap, IntKind.bits, IntKind.signed, BitVec.toInt]
  simp
  have := b.isLt
  split <;> omega
theorem rw_0 {x : Int} {n : Nat} (hn : n ≤ 6) (hx : i64 x) : rw_ x n = 0 ↔ 0 ≤ x ∧ x < ((2 ^ n : Nat) : Int) := by
  have p6 : 2 ^ n ≤ 2 ^ 6 := Nat.pow_le_pow_right (by decide) hn
  have p0 := Nat.two_pow_pos n
  have e : rw_ x n = (BitVec.ofInt 64 x &&& ~~~BitVec.ofInt 64 ((alls n : Nat) : Int)).toInt := wrap_bv _
  rw [e]
  have hm : (BitVec.ofInt 64 ((alls n : Nat) : Int)).toNat = alls n := by
    rw [BitVec.toNat_ofInt]; simp only [alls]; omega
  constructor
  · intro h
    have h0 : BitVec.ofInt 64 x &&& ~~~BitVec.ofInt 64 ((alls n : Nat) : Int) = 0#64 := BitVec.eq_of_toInt_eq (by rw [h]; rfl)
    have h1 : BitVec.ofInt 64 x &&& BitVec.ofInt 64 ((alls n : Nat) : Int) = BitVec.ofInt 64 x := by
      ext i hi
      have := congrArg (fun b => b.getLsbD i) h0
      simp only [BitVec.getLsbD_and, BitVec.getLsbD_not, hi, decide_true, Bool.true_and, BitVec.getLsbD_zero] at this
      simp only [BitVec.getElem_and]
      rw [← BitVec.getLsbD_eq_getElem, ← BitVec.getLsbD_eq_getElem]
      cases p : (BitVec.ofInt 64 x).getLsbD i <;> cases q : (BitVec.ofInt 64 ((alls n : Nat) : Int)).getLsbD i <;> simp_all
    have h2 := congrArg BitVec.toNat h1
    rw [BitVec.toNat_and, hm] at h2
    have h3 : (BitVec.ofInt 64 x).toNat ≤ alls n := by rw [← h2]; exact Nat.and_le_right
    rw [BitVec.toNat_ofInt] at h3
    simp only [alls] at h3
    omega
  · rintro ⟨h1, h2⟩
    obtain ⟨a, rfl⟩ : ∃ a : Nat, x = a := ⟨x.toNat, by omega⟩
    have ha : a < 2 ^ n := by omega
    have := i_andn (a := a) (b := alls n) (by omega)
    rw [← e]
    show rw_ _ _ = 0
    rw [rw_, this]
    have : andn a (alls n) = 0 := by
      apply Nat.eq_of_testBit_eq; intro i
      rw [andn_bit (by omega), alls_bit, Nat.zero_testBit]
      by_cases q : i < n
      · simp [q]
      · rw [Nat.testBit_lt_two_pow (Nat.lt_of_lt_of_le ha (Nat.pow_le_pow_right (by decide) (by omega)))]; rfl
    rw [this]; rfl
abbrev z7 : List AV := ints (o7 0 zeroR)
abbrev h69 (o : List Int) : H := ⟨[z7, ints (o7 o.length zeroR)], [], []⟩
abbrev o69 (o : List Int) (r : Room) : List Out :=
  [.mk Unit .ret [2, 3] (fun _ => ¬ rgO o) (fun _ => [.ptr 0 0, .bool false]) (fun _ => h69 o) (fun _ => []), .mk Unit (.exit 0) [0, 2, 4] (fun _ => rgO o) (fun _ => [ls o r, .ptr 0 0, .ptr 1 0]) (fun _ => h69 o) (fun _ => [])]
abbrev o69f (o : List Int) : List Out :=
  [.mk Unit .ret [2, 3] (fun _ => ¬ rgO o) (fun _ => [.ptr 0 0, .bool false]) (fun _ => h69 o) (fun _ => [])]
theorem simp69 : allSimpleM none1 (loopAt Try.f69 0) = true := by kernel_rfl
/-- all of no relation -/
noncomputable def c87z (n : Nat) (h : n ≤ 6) : PCtr Try.prog := at1 c87 (n, zeroR) ⟨zero_rg _, h⟩ [.agg [I n, I 0, I 0, I 0, I 0, I 0, I 0]] (I (alls n : Nat)) rfl rfl
theorem lp69 (o : List Int) (r : Room) (h1 : sz o) (h6 : o.length ≤ 6) (h2 : rok o r) (h3 : inI o) :
    LoopS (En6 [c64.to, (c87z o.length h6).to, c66.to, c67.to]) (loopAt Try.f69 0) 44 [0, 2, 4, 15, 16, 17] [ls o r, .ptr 0 0, .ptr 1 0, ls o r, I o.length, I 0] (h69 o) (o69 o r) := by
  have hR : Rests (En6 [c64.to, (c87z o.length h6).to, c66.to, c67.to]) none1 := rests mixed (.pure _ (.pure _ (.pure _ (.pure _ .nil))))
  refine loop_s hR simp69 none (by intro _ h; cases h) (fun j vs H => H = h69 o ∧ vs = [ls o r, .ptr 0 0, .ptr 1 0, ls o r, I o.length, I j] ∧ ∀ i, i < j → q1 o i) o.length ⟨rfl, rfl, fun i hi => absurd hi (Nat.not_lt_zero _)⟩ (by intro _ h; cases h) ?_
  rintro j vs H hj ⟨rfl, rfl, ha⟩
  by_cases hz : (j : Int) < o.length
  · have hz' : j < o.length := by omega
    have hr := rok_idx h2 hz'
    have ev0 := wj1 (j := j) (by omega)
    have hw := rw_0 (n := o.length) h6 (h3 j hz')
    by_cases c1 : q1 o j
    · have ev1 : rw_ (ia o j) o.length = 0 := hw.2 c1
      have hk := all_succ (q := q1 o) ha c1
      refine ⟨[Ans.o (Orc.b true), Ans.o (Orc.val 19 (AV.cptr (ints (List.drop j o))) H.nil), Ans.o (Orc.val 20 (I (o.getD j i0)) H.nil), Ans.o (Orc.val 23 (I (↑(alls o.length) : Int)) (H.mk [[I 0, I 0, I 0, I 0, I 0, I 0, I 0], ints (o7 o.length zeroR)] [] [])), Ans.o (Orc.val 24 (I 0) H.nil), Ans.o Orc.dflt, Ans.o (Orc.val 27 (I (↑(j + (1 : Nat)) : Int)) H.nil)], fun u => of_eq ((↑j : Int) < (↑o.length : Int) ∧ aIndexAddr Try.prog (23 : Nat) (AV.sl (ints o) o.length r) (I (↑j : Int)) = some (AV.cptr (ints (List.drop j o))) ∧ aLoad Try.prog (3 : Nat) (ints (List.drop j o)) = some (I (o.getD j i0)) ∧ aCall (Sof [c64.to, (c87z o.length h6).to, c66.to, c67.to]) (AV.fn (Fn.func (87 : Nat)) [] []) [AV.agg [I (↑o.length : Int), I 0, I 0, I 0, I 0, I 0, I 0]] (H.mk [[I 0, I 0, I 0, I 0, I 0, I 0, I 0], ints (o7 o.length zeroR)] [] []) = some (I (↑(alls o.length) : Int), H.mk [[I 0, I 0, I 0, I 0, I 0, I 0, I 0], ints (o7 o.length zeroR)] [] []) ∧ aBin Try.prog BinOp.andNot (3 : Nat) (I (o.getD j i0)) (I (↑(alls o.length) : Int)) = some (I 0) ∧ aBin Try.prog BinOp.add (3 : Nat) (I (↑j : Int)) (I 1) = some (I (↑(j + (1 : Nat)) : Int)) ∧ (44 : Nat) = (44 : Nat) ∧ j < o.length ∧ Keep (H.mk [[I 0, I 0, I 0, I 0, I 0, I 0, I 0], ints (o7 o.length zeroR)] [] [] = H.mk [[I 0, I 0, I 0, I 0, I 0, I 0, I 0], ints (o7 o.length zeroR)] [] [] ∧ [AV.sl (ints o) o.length r, AV.ptr 0 0, AV.ptr 1 0, AV.sl (ints o) o.length r, I (↑o.length : Int), I (↑(j + (1 : Nat)) : Int)] = [AV.sl (ints o) o.length r, AV.ptr 0 0, AV.ptr 1 0, AV.sl (ints o) o.length r, I (↑o.length : Int), I (↑(j + (1 : Nat)) : Int)] ∧ ∀ (i : Nat), i < j + (1 : Nat) → q1 o i)) (by kernel_rfl) ?_⟩
      refine ⟨by first | with_reducible assumption | omega | assumption, ?_⟩
      refine ⟨by first | exact ix_ints (by kernel_rfl) (by omega) (by assumption) | exact ix_ints (by kernel_rfl) (by omega) (rok_idx (by assumption) (by omega)), ?_⟩
      refine ⟨by first | exact ld_ints (by kernel_rfl) (by kernel_rfl) (by omega) | exact ldm_ints (by kernel_rfl) (by kernel_rfl) (by first | omega | (simp; omega)), ?_⟩
      refine ⟨acall_hit (c := (c87z o.length h6).to) () _ rfl trivial, ?_⟩
      refine ⟨told_andn (by with_reducible assumption), ?_⟩
      refine ⟨told_add (by with_reducible assumption), ?_⟩
      refine ⟨by first | with_reducible assumption | omega | assumption, ?_⟩
      refine ⟨by first | with_reducible assumption | omega | assumption, ?_⟩
      exact ⟨rfl, rfl, hk⟩
    · have c2 : rw_ (ia o j) o.length ≠ 0 := fun h => c1 (hw.1 h)
      have hn : ¬ rgO o := fun h => c1 (h j hz')
      refine ⟨[Ans.o (Orc.b true), Ans.o (Orc.val 19 (AV.cptr (ints (List.drop j o))) H.nil), Ans.o (Orc.val 20 (I (o.getD j i0)) H.nil), Ans.o (Orc.val 23 (I (↑(alls o.length) : Int)) (H.mk [[I 0, I 0, I 0, I 0, I 0, I 0, I 0], ints (o7 o.length zeroR)] [] [])), Ans.o (Orc.b true)], fun u => of_eq ((↑j : Int) < (↑o.length : Int) ∧ aIndexAddr Try.prog (23 : Nat) (AV.sl (ints o) o.length r) (I (↑j : Int)) = some (AV.cptr (ints (List.drop j o))) ∧ aLoad Try.prog (3 : Nat) (ints (List.drop j o)) = some (I (o.getD j i0)) ∧ aCall (Sof [c64.to, (c87z o.length h6).to, c66.to, c67.to]) (AV.fn (Fn.func (87 : Nat)) [] []) [AV.agg [I (↑o.length : Int), I 0, I 0, I 0, I 0, I 0, I 0]] (H.mk [[I 0, I 0, I 0, I 0, I 0, I 0, I 0], ints (o7 o.length zeroR)] [] []) = some (I (↑(alls o.length) : Int), H.mk [[I 0, I 0, I 0, I 0, I 0, I 0, I 0], ints (o7 o.length zeroR)] [] []) ∧ IntKind.i64.wrap (↑(BitVec.ofInt IntKind.i64.bits (o.getD j i0) &&& ~~~BitVec.ofInt IntKind.i64.bits (↑(alls o.length) : Int)).toNat : Int) ≠ (0 : Int) ∧ (44 : Nat) = (44 : Nat) ∧ hits [Out.mk Unit AX.ret [(2 : Nat), (3 : Nat)] (fun x => ¬rgO o) (fun x => [AV.ptr 0 0, AV.bool false]) (fun x => h69 o) fun x => [], Out.mk Unit (AX.exit (0 : Nat)) [(0 : Nat), (2 : Nat), (4 : Nat)] (fun x => rgO o) (fun x => [ls o r, AV.ptr 0 0, AV.ptr 1 0]) (fun x => h69 o) fun x => []] AX.ret [AV.sl (ints o) o.length r, u (1 : Nat), AV.ptr 0 0, AV.bool false, AV.ptr 1 0, u (5 : Nat), I (o.getD j i0), u (7 : Nat), u (8 : Nat), u (9 : Nat), u (10 : Nat), u (11 : Nat), u (12 : Nat), u (13 : Nat), u (14 : Nat), AV.sl (ints o) o.length r, I (↑o.length : Int), I (↑j : Int), AV.bool true, AV.cptr (ints (List.drop j o)), I (o.getD j i0), I (o.getD j i0), AV.agg [I (↑o.length : Int), I 0, I 0, I 0, I 0, I 0, I 0], I (↑(alls o.length) : Int), I (IntKind.i64.wrap (↑(BitVec.ofInt IntKind.i64.bits (o.getD j i0) &&& ~~~BitVec.ofInt IntKind.i64.bits (↑(alls o.length) : Int)).toNat : Int)), AV.bool true, AV.agg [I 0, I 0, I 0, I 0, I 0, I 0, I 0], u (27 : Nat), u (28 : Nat), u (29 : Nat), u (30 : Nat), u (31 : Nat), u (32 : Nat), u (33 : Nat), u (34 : Nat), u (35 : Nat), u (36 : Nat), u (37 : Nat), u (38 : Nat), u (39 : Nat), u (40 : Nat), u (41 : Nat), u (42 : Nat), u (43 : Nat)] (H.mk [[I 0, I 0, I 0, I 0, I 0, I 0, I 0], ints (o7 o.length zeroR)] [] [])) (by kernel_rfl) ?_⟩
      refine ⟨by first | with_reducible assumption | omega | assumption, ?_⟩
      refine ⟨by first | exact ix_ints (by kernel_rfl) (by omega) (by assumption) | exact ix_ints (by kernel_rfl) (by omega) (rok_idx (by assumption) (by omega)), ?_⟩
      refine ⟨by first | exact ld_ints (by kernel_rfl) (by kernel_rfl) (by omega) | exact ldm_ints (by kernel_rfl) (by kernel_rfl) (by first | omega | (simp; omega)), ?_⟩
      refine ⟨acall_hit (c := (c87z o.length h6).to) () _ rfl trivial, ?_⟩
      refine ⟨by first | with_reducible assumption | omega | assumption, ?_⟩
      refine ⟨by first | with_reducible assumption | omega | assumption, ?_⟩
      exact .inl ⟨(), hn, rfl, rfl, rfl⟩
  · have hz : (o.length : Int) ≤ j := by omega
    have hj' : j = o.length := by omega
    subst hj'
    refine ⟨[Ans.o (Orc.b false)], fun u => of_eq ((↑o.length : Int) ≤ (↑o.length : Int) ∧ (44 : Nat) = (44 : Nat) ∧ hits [Out.mk Unit AX.ret [(2 : Nat), (3 : Nat)] (fun x => ¬rgO o) (fun x => [AV.ptr 0 0, AV.bool false]) (fun x => h69 o) fun x => [], Out.mk Unit (AX.exit (0 : Nat)) [(0 : Nat), (2 : Nat), (4 : Nat)] (fun x => rgO o) (fun x => [ls o r, AV.ptr 0 0, AV.ptr 1 0]) (fun x => h69 o) fun x => []] (AX.exit (0 : Nat)) [AV.sl (ints o) o.length r, u (1 : Nat), AV.ptr 0 0, u (3 : Nat), AV.ptr 1 0, u (5 : Nat), u (6 : Nat), u (7 : Nat), u (8 : Nat), u (9 : Nat), u (10 : Nat), u (11 : Nat), u (12 : Nat), u (13 : Nat), u (14 : Nat), AV.sl (ints o) o.length r, I (↑o.length : Int), I (↑o.length : Int), AV.bool false, u (19 : Nat), u (20 : Nat), u (21 : Nat), u (22 : Nat), u (23 : Nat), u (24 : Nat), u (25 : Nat), u (26 : Nat), u (27 : Nat), u (28 : Nat), u (29 : Nat), u (30 : Nat), u (31 : Nat), u (32 : Nat), u (33 : Nat), u (34 : Nat), u (35 : Nat), u (36 : Nat), u (37 : Nat), u (38 : Nat), u (39 : Nat), u (40 : Nat), u (41 : Nat), u (42 : Nat), u (43 : Nat)] (H.mk [[I 0, I 0, I 0, I 0, I 0, I 0, I 0], ints (o7 o.length zeroR)] [] [])) (by kernel_rfl) ?_⟩
    refine ⟨by first | with_reducible assumption | omega | assumption, ?_⟩
    refine ⟨by first | with_reducible assumption | omega | assumption, ?_⟩
    exact .inr (.inl ⟨(), ha, rfl, rfl, rfl⟩)
theorem cp_rel {o : List Int} (h : rgO o) (h6 : o.length ≤ 6) : (o7 o.length zeroR).take 1 ++ (o.take o.length ++ (o7 o.length zeroR).drop (1 + o.length)) = o7 o.length (rel o) := by
  have e0 : ∀ k, k < o.length → ((rel o k : Nat) : Int) = ia o k := fun k hk => by
    have := h k hk
    simp only [rel]; omega
  rw [List.take_of_length_le (Nat.le_refl _), Nat.add_comm]
  show (o.length : Int) :: ([] ++ (o ++ (six zeroR).drop o.length)) = (o.length : Int) :: six (rel o)
  rw [List.nil_append]
  congr 1
  apply List.ext_getElem
  · simp; omega
  · intro i h1 h2
    have hi : i < 6 := by simpa using h2
    rw [List.getElem_append]
    split
    · rename_i q
      have := e0 i q
      simp only [six, List.getElem_map, List.getElem_range, this]
      simp [ia, List.getD_eq_getElem?_getD, q]
    · rename_i q
      simp [six, zeroR, rel_out (Nat.le_of_not_lt q)]
theorem ok69 : FokM Try.prog none1 69 Try.f69 := ⟨mixed, by kernel_rfl, by kernel_rfl, by kernel_rfl, by kernel_rfl⟩
theorem arr_t {A B : Rel} (h : (((A 0 : Nat) : Int) == ((B 0 : Nat) : Int) && (((A 1 : Nat) : Int) == ((B 1 : Nat) : Int) && (((A 2 : Nat) : Int) == ((B 2 : Nat) : Int) && (((A 3 : Nat) : Int) == ((B 3 : Nat) : Int) && (((A 4 : Nat) : Int) == ((B 4 : Nat) : Int) && (((A 5 : Nat) : Int) == ((B 5 : Nat) : Int) && true)))))) = true) : six A = six B := by
  simp only [Bool.and_eq_true, beq_iff_eq] at h
  obtain ⟨h0, h1, h2, h3, h4, h5, _⟩ := h
  show [((A 0 : Nat) : Int), ((A 1 : Nat) : Int), ((A 2 : Nat) : Int), ((A 3 : Nat) : Int), ((A 4 : Nat) : Int), ((A 5 : Nat) : Int)] = _
  rw [h0, h1, h2, h3, h4, h5]; rfl
theorem arr_f {A B : Rel} (h : (((A 0 : Nat) : Int) == ((B 0 : Nat) : Int) && (((A 1 : Nat) : Int) == ((B 1 : Nat) : Int) && (((A 2 : Nat) : Int) == ((B 2 : Nat) : Int) && (((A 3 : Nat) : Int) == ((B 3 : Nat) : Int) && (((A 4 : Nat) : Int) == ((B 4 : Nat) : Int) && (((A 5 : Nat) : Int) == ((B 5 : Nat) : Int) && true)))))) = false) : A ≠ B := by
  rintro rfl
  simp at h
theorem cy_irr {A : Rel} (h : cyB A = false) : Irr A := by
  simpa [cyB] using h
theorem cy_nirr {A : Rel} (h : cyB A = true) : ¬ Irr A := by
  simpa [cyB] using h
theorem arr_tr {o : List Int} (hp : pO o.length (rel o)) (h : six (rel o) = six (Wn (rel o) o.length)) : Tr (rel o) :=
  (Wn_fix hp.1).1 (six_inj hp.1 (Wn_rg hp.1 _) hp.2 h).symm
theorem r69 (o : List Int) (r : Room) (h0 : lim o.length) (h2 : rok o r) (h3 : inI o) (h6 : o.length ≤ 6) : Body (En6 [c64.to, (c87z o.length h6).to, c66.to, c67.to]) none1 Try.f69 [ls o r] .nil (.tup [rdA o, .bool (ordB o)], .nil) := by
  have t64 : True := trivial
  by_cases h1 : sz o
  · have hd : decide (1 ≤ (o.length : Int) ∧ (o.length : Int) ≤ 6) = true := by rw [decide_eq_true_eq]; have := h1; omega
    have hl := lp69 o r h1 h6 h2 h3
    by_cases hr : rgO o
    · have hp : pO o.length (rel o) := ⟨rel_rg hr, h6⟩
      have hc : aCopy Try.prog H.nil.base 23 (.msl 1 1 6 6 1) (ls o r) ⟨[z7, ints (o7 o.length zeroR)], [], []⟩ = some (.int .i64 (o.length : Nat), ⟨[z7, ints (o7 o.length (rel o))], [], []⟩) := by
        have := cp_ints (P := Try.prog) (t := 23) (by kernel_rfl) (β := H.nil.base) (bs := [z7, ints (o7 o.length zeroR)]) (ts := []) (ms := []) (b := 1) (off := 1) (m := 6) (c := 6) (k := o.length) (l := o7 o.length zeroR) (o := o) (r := r) rfl rfl (by simp; omega)
        rw [this, Nat.min_eq_left h6, cp_rel hr h6]; rfl
      rw [rd_t h1 hr]
      cases hcy : cyB (rel o)
      · refine body_s ([Ans.o (Orc.val 12 (AV.bool true) (H.mk [[I 0, I 0, I 0, I 0, I 0, I 0, I 0], [I (↑o.length : Int), I 0, I 0, I 0, I 0, I 0, I 0]] [] [])), Ans.loop [(0 : Nat), (2 : Nat), (4 : Nat), (15 : Nat), (16 : Nat), (17 : Nat)] [Out.mk Unit AX.ret [(2 : Nat), (3 : Nat)] (fun x => ¬rgO o) (fun x => [AV.ptr 0 0, AV.bool false]) (fun x => h69 o) fun y => [], Out.mk Unit (AX.exit (0 : Nat)) [(0 : Nat), (2 : Nat), (4 : Nat)] (fun x => rgO o) (fun x => [ls o r, AV.ptr 0 0, AV.ptr 1 0]) (fun x => h69 o) fun y => [Ans.o (Orc.val 31 (I (↑o.length : Int)) (H.mk [z7, ints (o7 o.length (rel o))] [] [])), Ans.o (Orc.val 36 (AV.agg (ints (o7 o.length (Wn (rel o) o.length)))) (H.mk [[I 0, I 0, I 0, I 0, I 0, I 0, I 0], ints (o7 o.length (rel o))] [] [])), Ans.bfork (38 : Nat) [Ans.o (Orc.val 41 (AV.bool false) (H.mk [[I 0, I 0, I 0, I 0, I 0, I 0, I 0], ints (o7 o.length (rel o))] [] []))] []]]]) (aCall (Sof [c64.to, (c87z o.length h6).to, c66.to, c67.to]) (AV.fn (Fn.func (64 : Nat)) [] []) [I (↑o.length : Int)] (H.mk [[I 0, I 0, I 0, I 0, I 0, I 0, I 0], [I (↑o.length : Int), I 0, I 0, I 0, I 0, I 0, I 0]] [] []) = some (AV.bool true, H.mk [[I 0, I 0, I 0, I 0, I 0, I 0, I 0], [I (↑o.length : Int), I 0, I 0, I 0, I 0, I 0, I 0]] [] []) ∧ LoopS (Env.mk Try.prog (Sof [c64.to, (c87z o.length h6).to, c66.to, c67.to]) (Pof (P := Try.prog) []) H.nil.base (300 : Nat)) (loopAt Try.f69 (0 : Nat)) (44 : Nat) [(0 : Nat), (2 : Nat), (4 : Nat), (15 : Nat), (16 : Nat), (17 : Nat)] [AV.sl (ints o) o.length r, AV.ptr 0 0, AV.ptr 1 0, AV.sl (ints o) o.length r, I (↑o.length : Int), I 0] (H.mk [[I 0, I 0, I 0, I 0, I 0, I 0, I 0], [I (↑o.length : Int), I 0, I 0, I 0, I 0, I 0, I 0]] [] []) [Out.mk Unit AX.ret [(2 : Nat), (3 : Nat)] (fun x => ¬rgO o) (fun x => [AV.ptr 0 0, AV.bool false]) (fun x => h69 o) fun y => [], Out.mk Unit (AX.exit (0 : Nat)) [(0 : Nat), (2 : Nat), (4 : Nat)] (fun x => rgO o) (fun x => [ls o r, AV.ptr 0 0, AV.ptr 1 0]) (fun x => h69 o) fun y => [Ans.o (Orc.val 31 (I (↑o.length : Int)) (H.mk [z7, ints (o7 o.length (rel o))] [] [])), Ans.o (Orc.val 36 (AV.agg (ints (o7 o.length (Wn (rel o) o.length)))) (H.mk [[I 0, I 0, I 0, I 0, I 0, I 0, I 0], ints (o7 o.length (rel o))] [] [])), Ans.bfork (38 : Nat) [Ans.o (Orc.val 41 (AV.bool false) (H.mk [[I 0, I 0, I 0, I 0, I 0, I 0, I 0], ints (o7 o.length (rel o))] [] []))] []]] ∧ (∀ (y : Unit), ¬rgO o → ∀ (u : Nat → AV), (AV.tup [AV.agg [I 0, I 0, I 0, I 0, I 0, I 0, I 0], AV.bool false], H.mk [] [] []) = (AV.tup [AV.agg (ints (o7 o.length (rel o))), AV.bool (ordB o)], H.mk [] [] [])) ∧ (∀ (y : Unit), (∀ (i : Nat), i < o.length → (0 : Int) ≤ ia o i ∧ ia o i < (↑((2 : Nat) ^ o.length) : Int)) → ∀ (u : Nat → AV), aCopy Try.prog H.nil.base (23 : Nat) (AV.msl 1 1 (6 : Nat) (6 : Nat) (1 : Nat)) (AV.sl (ints o) o.length r) (H.mk [[I 0, I 0, I 0, I 0, I 0, I 0, I 0], ints (o7 o.length zeroR)] [] []) = some (I (↑o.length : Int), H.mk [[I 0, I 0, I 0, I 0, I 0, I 0, I 0], ints (o7 o.length (rel o))] [] []) ∧ aCall (Sof [c64.to, (c87z o.length h6).to, c66.to, c67.to]) (AV.fn (Fn.func (66 : Nat)) [] []) [AV.agg [I (↑o.length : Int), I (↑(rel o (nat_lit 0)) : Int), I (↑(rel o (nat_lit 1)) : Int), I (↑(rel o (nat_lit 2)) : Int), I (↑(rel o (nat_lit 3)) : Int), I (↑(rel o (nat_lit 4)) : Int), I (↑(rel o (nat_lit 5)) : Int)]] (H.mk [[I 0, I 0, I 0, I 0, I 0, I 0, I 0], ints (o7 o.length (rel o))] [] []) = some (AV.agg (ints (o7 o.length (Wn (rel o) o.length))), H.mk [[I 0, I 0, I 0, I 0, I 0, I 0, I 0], ints (o7 o.length (rel o))] [] []) ∧ (((fun k => (↑(rel o k) : Int)) (nat_lit 0) == (fun k => (↑(Wn (rel o) o.length k) : Int)) (nat_lit 0) && ((fun k => (↑(rel o k) : Int)) (nat_lit 1) == (fun k => (↑(Wn (rel o) o.length k) : Int)) (nat_lit 1) && ((fun k => (↑(rel o k) : Int)) (nat_lit 2) == (fun k => (↑(Wn (rel o) o.length k) : Int)) (nat_lit 2) && ((fun k => (↑(rel o k) : Int)) (nat_lit 3) == (fun k => (↑(Wn (rel o) o.length k) : Int)) (nat_lit 3) && ((fun k => (↑(rel o k) : Int)) (nat_lit 4) == (fun k => (↑(Wn (rel o) o.length k) : Int)) (nat_lit 4) && ((fun k => (↑(rel o k) : Int)) (nat_lit 5) == (fun k => (↑(Wn (rel o) o.length k) : Int)) (nat_lit 5) && true)))))) = true → aCall (Sof [c64.to, (c87z o.length h6).to, c66.to, c67.to]) (AV.fn (Fn.func (67 : Nat)) [] []) [AV.agg [I (↑o.length : Int), I (↑(rel o (nat_lit 0)) : Int), I (↑(rel o (nat_lit 1)) : Int), I (↑(rel o (nat_lit 2)) : Int), I (↑(rel o (nat_lit 3)) : Int), I (↑(rel o (nat_lit 4)) : Int), I (↑(rel o (nat_lit 5)) : Int)]] (H.mk [[I 0, I 0, I 0, I 0, I 0, I 0, I 0], ints (o7 o.length (rel o))] [] []) = some (AV.bool false, H.mk [[I 0, I 0, I 0, I 0, I 0, I 0, I 0], ints (o7 o.length (rel o))] [] []) ∧ (AV.tup [AV.agg [I (↑o.length : Int), I (↑(rel o (nat_lit 0)) : Int), I (↑(rel o (nat_lit 1)) : Int), I (↑(rel o (nat_lit 2)) : Int), I (↑(rel o (nat_lit 3)) : Int), I (↑(rel o (nat_lit 4)) : Int), I (↑(rel o (nat_lit 5)) : Int)], AV.bool true], H.mk [] [] []) = (AV.tup [AV.agg (ints (o7 o.length (rel o))), AV.bool (ordB o)], H.mk [] [] [])) ∧ (((fun k => (↑(rel o k) : Int)) (nat_lit 0) == (fun k => (↑(Wn (rel o) o.length k) : Int)) (nat_lit 0) && ((fun k => (↑(rel o k) : Int)) (nat_lit 1) == (fun k => (↑(Wn (rel o) o.length k) : Int)) (nat_lit 1) && ((fun k => (↑(rel o k) : Int)) (nat_lit 2) == (fun k => (↑(Wn (rel o) o.length k) : Int)) (nat_lit 2) && ((fun k => (↑(rel o k) : Int)) (nat_lit 3) == (fun k => (↑(Wn (rel o) o.length k) : Int)) (nat_lit 3) && ((fun k => (↑(rel o k) : Int)) (nat_lit 4) == (fun k => (↑(Wn (rel o) o.length k) : Int)) (nat_lit 4) && ((fun k => (↑(rel o k) : Int)) (nat_lit 5) == (fun k => (↑(Wn (rel o) o.length k) : Int)) (nat_lit 5) && true)))))) = false → (AV.tup [AV.agg [I (↑o.length : Int), I (↑(rel o (nat_lit 0)) : Int), I (↑(rel o (nat_lit 1)) : Int), I (↑(rel o (nat_lit 2)) : Int), I (↑(rel o (nat_lit 3)) : Int), I (↑(rel o (nat_lit 4)) : Int), I (↑(rel o (nat_lit 5)) : Int)], AV.bool false], H.mk [] [] []) = (AV.tup [AV.agg (ints (o7 o.length (rel o))), AV.bool (ordB o)], H.mk [] [] []))) ∧ True) (by kernel_rfl) ?_
        refine ⟨acall_b (acall_hit (c := c64.to) (o.length : Int) _ rfl t64) hd, ?_⟩
        refine ⟨hl, ?_⟩
        refine And.intro ?_ ?_
        · skip
          intro y
          intro w1
          intro u
          first | exact absurd hr w1 | (rw [ord_t ⟨h1, hr, arr_tr hp (arr_t w3), cy_irr hcy⟩]; rfl) | (rw [ord_f (fun k => arr_f w3 (Wn_tr_eq k.t _).symm)]; rfl)
        · skip
          refine And.intro ?_ ?_
          · skip
            intro y
            intro w1
            intro u
            refine ⟨hc, ?_⟩
            refine ⟨acall_hit (c := c66.to) (o.length, rel o) _ rfl hp, ?_⟩
            refine And.intro ?_ ?_
            · skip
              intro w3
              refine ⟨acall_b (acall_hit (c := c67.to) (o.length, rel o) _ rfl hp) hcy, ?_⟩
              first | exact absurd hr w1 | (rw [ord_t ⟨h1, hr, arr_tr hp (arr_t w3), cy_irr hcy⟩]; rfl) | (rw [ord_f (fun k => arr_f w3 (Wn_tr_eq k.t _).symm)]; rfl)
            · skip
              intro w3
              first | exact absurd hr w1 | (rw [ord_t ⟨h1, hr, arr_tr hp (arr_t w3), cy_irr hcy⟩]; rfl) | (rw [ord_f (fun k => arr_f w3 (Wn_tr_eq k.t _).symm)]; rfl)
          · skip
            trivial
      · rw [ord_f (fun k => cy_nirr hcy k.i)]
        refine body_s ([Ans.o (Orc.val 12 (AV.bool true) (H.mk [[I 0, I 0, I 0, I 0, I 0, I 0, I 0], [I (↑o.length : Int), I 0, I 0, I 0, I 0, I 0, I 0]] [] [])), Ans.loop [(0 : Nat), (2 : Nat), (4 : Nat), (15 : Nat), (16 : Nat), (17 : Nat)] [Out.mk Unit AX.ret [(2 : Nat), (3 : Nat)] (fun x => ¬rgO o) (fun x => [AV.ptr 0 0, AV.bool false]) (fun x => h69 o) fun y => [], Out.mk Unit (AX.exit (0 : Nat)) [(0 : Nat), (2 : Nat), (4 : Nat)] (fun x => rgO o) (fun x => [ls o r, AV.ptr 0 0, AV.ptr 1 0]) (fun x => h69 o) fun y => [Ans.o (Orc.val 31 (I (↑o.length : Int)) (H.mk [z7, ints (o7 o.length (rel o))] [] [])), Ans.o (Orc.val 36 (AV.agg (ints (o7 o.length (Wn (rel o) o.length)))) (H.mk [[I 0, I 0, I 0, I 0, I 0, I 0, I 0], ints (o7 o.length (rel o))] [] [])), Ans.bfork (38 : Nat) [Ans.o (Orc.val 41 (AV.bool true) (H.mk [[I 0, I 0, I 0, I 0, I 0, I 0, I 0], ints (o7 o.length (rel o))] [] []))] []]]]) (aCall (Sof [c64.to, (c87z o.length h6).to, c66.to, c67.to]) (AV.fn (Fn.func (64 : Nat)) [] []) [I (↑o.length : Int)] (H.mk [[I 0, I 0, I 0, I 0, I 0, I 0, I 0], [I (↑o.length : Int), I 0, I 0, I 0, I 0, I 0, I 0]] [] []) = some (AV.bool true, H.mk [[I 0, I 0, I 0, I 0, I 0, I 0, I 0], [I (↑o.length : Int), I 0, I 0, I 0, I 0, I 0, I 0]] [] []) ∧ LoopS (Env.mk Try.prog (Sof [c64.to, (c87z o.length h6).to, c66.to, c67.to]) (Pof (P := Try.prog) []) H.nil.base (300 : Nat)) (loopAt Try.f69 (0 : Nat)) (44 : Nat) [(0 : Nat), (2 : Nat), (4 : Nat), (15 : Nat), (16 : Nat), (17 : Nat)] [AV.sl (ints o) o.length r, AV.ptr 0 0, AV.ptr 1 0, AV.sl (ints o) o.length r, I (↑o.length : Int), I 0] (H.mk [[I 0, I 0, I 0, I 0, I 0, I 0, I 0], [I (↑o.length : Int), I 0, I 0, I 0, I 0, I 0, I 0]] [] []) [Out.mk Unit AX.ret [(2 : Nat), (3 : Nat)] (fun x => ¬rgO o) (fun x => [AV.ptr 0 0, AV.bool false]) (fun x => h69 o) fun y => [], Out.mk Unit (AX.exit (0 : Nat)) [(0 : Nat), (2 : Nat), (4 : Nat)] (fun x => rgO o) (fun x => [ls o r, AV.ptr 0 0, AV.ptr 1 0]) (fun x => h69 o) fun y => [Ans.o (Orc.val 31 (I (↑o.length : Int)) (H.mk [z7, ints (o7 o.length (rel o))] [] [])), Ans.o (Orc.val 36 (AV.agg (ints (o7 o.length (Wn (rel o) o.length)))) (H.mk [[I 0, I 0, I 0, I 0, I 0, I 0, I 0], ints (o7 o.length (rel o))] [] [])), Ans.bfork (38 : Nat) [Ans.o (Orc.val 41 (AV.bool true) (H.mk [[I 0, I 0, I 0, I 0, I 0, I 0, I 0], ints (o7 o.length (rel o))] [] []))] []]] ∧ (∀ (y : Unit), ¬rgO o → ∀ (u : Nat → AV), (AV.tup [AV.agg [I 0, I 0, I 0, I 0, I 0, I 0, I 0], AV.bool false], H.mk [] [] []) = (AV.tup [AV.agg (ints (o7 o.length (rel o))), AV.bool false], H.mk [] [] [])) ∧ (∀ (y : Unit), (∀ (i : Nat), i < o.length → (0 : Int) ≤ ia o i ∧ ia o i < (↑((2 : Nat) ^ o.length) : Int)) → ∀ (u : Nat → AV), aCopy Try.prog H.nil.base (23 : Nat) (AV.msl 1 1 (6 : Nat) (6 : Nat) (1 : Nat)) (AV.sl (ints o) o.length r) (H.mk [[I 0, I 0, I 0, I 0, I 0, I 0, I 0], ints (o7 o.length zeroR)] [] []) = some (I (↑o.length : Int), H.mk [[I 0, I 0, I 0, I 0, I 0, I 0, I 0], ints (o7 o.length (rel o))] [] []) ∧ aCall (Sof [c64.to, (c87z o.length h6).to, c66.to, c67.to]) (AV.fn (Fn.func (66 : Nat)) [] []) [AV.agg [I (↑o.length : Int), I (↑(rel o (nat_lit 0)) : Int), I (↑(rel o (nat_lit 1)) : Int), I (↑(rel o (nat_lit 2)) : Int), I (↑(rel o (nat_lit 3)) : Int), I (↑(rel o (nat_lit 4)) : Int), I (↑(rel o (nat_lit 5)) : Int)]] (H.mk [[I 0, I 0, I 0, I 0, I 0, I 0, I 0], ints (o7 o.length (rel o))] [] []) = some (AV.agg (ints (o7 o.length (Wn (rel o) o.length))), H.mk [[I 0, I 0, I 0, I 0, I 0, I 0, I 0], ints (o7 o.length (rel o))] [] []) ∧ (((fun k => (↑(rel o k) : Int)) (nat_lit 0) == (fun k => (↑(Wn (rel o) o.length k) : Int)) (nat_lit 0) && ((fun k => (↑(rel o k) : Int)) (nat_lit 1) == (fun k => (↑(Wn (rel o) o.length k) : Int)) (nat_lit 1) && ((fun k => (↑(rel o k) : Int)) (nat_lit 2) == (fun k => (↑(Wn (rel o) o.length k) : Int)) (nat_lit 2) && ((fun k => (↑(rel o k) : Int)) (nat_lit 3) == (fun k => (↑(Wn (rel o) o.length k) : Int)) (nat_lit 3) && ((fun k => (↑(rel o k) : Int)) (nat_lit 4) == (fun k => (↑(Wn (rel o) o.length k) : Int)) (nat_lit 4) && ((fun k => (↑(rel o k) : Int)) (nat_lit 5) == (fun k => (↑(Wn (rel o) o.length k) : Int)) (nat_lit 5) && true)))))) = true → aCall (Sof [c64.to, (c87z o.length h6).to, c66.to, c67.to]) (AV.fn (Fn.func (67 : Nat)) [] []) [AV.agg [I (↑o.length : Int), I (↑(rel o (nat_lit 0)) : Int), I (↑(rel o (nat_lit 1)) : Int), I (↑(rel o (nat_lit 2)) : Int), I (↑(rel o (nat_lit 3)) : Int), I (↑(rel o (nat_lit 4)) : Int), I (↑(rel o (nat_lit 5)) : Int)]] (H.mk [[I 0, I 0, I 0, I 0, I 0, I 0, I 0], ints (o7 o.length (rel o))] [] []) = some (AV.bool true, H.mk [[I 0, I 0, I 0, I 0, I 0, I 0, I 0], ints (o7 o.length (rel o))] [] []) ∧ (AV.tup [AV.agg [I (↑o.length : Int), I (↑(rel o (nat_lit 0)) : Int), I (↑(rel o (nat_lit 1)) : Int), I (↑(rel o (nat_lit 2)) : Int), I (↑(rel o (nat_lit 3)) : Int), I (↑(rel o (nat_lit 4)) : Int), I (↑(rel o (nat_lit 5)) : Int)], AV.bool false], H.mk [] [] []) = (AV.tup [AV.agg (ints (o7 o.length (rel o))), AV.bool false], H.mk [] [] [])) ∧ (((fun k => (↑(rel o k) : Int)) (nat_lit 0) == (fun k => (↑(Wn (rel o) o.length k) : Int)) (nat_lit 0) && ((fun k => (↑(rel o k) : Int)) (nat_lit 1) == (fun k => (↑(Wn (rel o) o.length k) : Int)) (nat_lit 1) && ((fun k => (↑(rel o k) : Int)) (nat_lit 2) == (fun k => (↑(Wn (rel o) o.length k) : Int)) (nat_lit 2) && ((fun k => (↑(rel o k) : Int)) (nat_lit 3) == (fun k => (↑(Wn (rel o) o.length k) : Int)) (nat_lit 3) && ((fun k => (↑(rel o k) : Int)) (nat_lit 4) == (fun k => (↑(Wn (rel o) o.length k) : Int)) (nat_lit 4) && ((fun k => (↑(rel o k) : Int)) (nat_lit 5) == (fun k => (↑(Wn (rel o) o.length k) : Int)) (nat_lit 5) && true)))))) = false → (AV.tup [AV.agg [I (↑o.length : Int), I (↑(rel o (nat_lit 0)) : Int), I (↑(rel o (nat_lit 1)) : Int), I (↑(rel o (nat_lit 2)) : Int), I (↑(rel o (nat_lit 3)) : Int), I (↑(rel o (nat_lit 4)) : Int), I (↑(rel o (nat_lit 5)) : Int)], AV.bool false], H.mk [] [] []) = (AV.tup [AV.agg (ints (o7 o.length (rel o))), AV.bool false], H.mk [] [] []))) ∧ True) (by kernel_rfl) ?_
        refine ⟨acall_b (acall_hit (c := c64.to) (o.length : Int) _ rfl t64) hd, ?_⟩
        refine ⟨hl, ?_⟩
        refine And.intro ?_ ?_
        · skip
          intro y
          intro w1
          intro u
          first | exact absurd hr w1 | rfl
        · skip
          refine And.intro ?_ ?_
          · skip
            intro y
            intro w1
            intro u
            refine ⟨hc, ?_⟩
            refine ⟨acall_hit (c := c66.to) (o.length, rel o) _ rfl hp, ?_⟩
            refine And.intro ?_ ?_
            · skip
              intro w3
              refine ⟨acall_b (acall_hit (c := c67.to) (o.length, rel o) _ rfl hp) hcy, ?_⟩
              first | exact absurd hr w1 | rfl
            · skip
              intro w3
              first | exact absurd hr w1 | rfl
          · skip
            trivial
    · have hl1 : LoopS (En6 [c64.to, (c87z o.length h6).to, c66.to, c67.to]) (loopAt Try.f69 0) 44 [0, 2, 4, 15, 16, 17] [ls o r, .ptr 0 0, .ptr 1 0, ls o r, I o.length, I 0] (h69 o) (o69f o) :=
        fun A hA hs => (hl A hA hs).mono fun x A' H' ⟨k, hh⟩ => ⟨k, by
          rcases hh with hh | ⟨_, hc, _⟩ | hh
          · exact .inl hh
          · exact absurd hc hr
          · exact hh.elim⟩
      rw [rd_f (fun k => hr k.2), ord_f (fun k => hr k.r)]
      refine body_s ([Ans.o (Orc.val 12 (AV.bool true) (H.mk [[I 0, I 0, I 0, I 0, I 0, I 0, I 0], [I (↑o.length : Int), I 0, I 0, I 0, I 0, I 0, I 0]] [] [])), Ans.loop [(0 : Nat), (2 : Nat), (4 : Nat), (15 : Nat), (16 : Nat), (17 : Nat)] [Out.mk Unit AX.ret [(2 : Nat), (3 : Nat)] (fun x => ¬rgO o) (fun x => [AV.ptr 0 0, AV.bool false]) (fun x => h69 o) fun y => []]]) (aCall (Sof [c64.to, (c87z o.length h6).to, c66.to, c67.to]) (AV.fn (Fn.func (64 : Nat)) [] []) [I (↑o.length : Int)] (H.mk [[I 0, I 0, I 0, I 0, I 0, I 0, I 0], [I (↑o.length : Int), I 0, I 0, I 0, I 0, I 0, I 0]] [] []) = some (AV.bool true, H.mk [[I 0, I 0, I 0, I 0, I 0, I 0, I 0], [I (↑o.length : Int), I 0, I 0, I 0, I 0, I 0, I 0]] [] []) ∧ LoopS (Env.mk Try.prog (Sof [c64.to, (c87z o.length h6).to, c66.to, c67.to]) (Pof (P := Try.prog) []) H.nil.base (300 : Nat)) (loopAt Try.f69 (0 : Nat)) (44 : Nat) [(0 : Nat), (2 : Nat), (4 : Nat), (15 : Nat), (16 : Nat), (17 : Nat)] [AV.sl (ints o) o.length r, AV.ptr 0 0, AV.ptr 1 0, AV.sl (ints o) o.length r, I (↑o.length : Int), I 0] (H.mk [[I 0, I 0, I 0, I 0, I 0, I 0, I 0], [I (↑o.length : Int), I 0, I 0, I 0, I 0, I 0, I 0]] [] []) [Out.mk Unit AX.ret [(2 : Nat), (3 : Nat)] (fun x => ¬rgO o) (fun x => [AV.ptr 0 0, AV.bool false]) (fun x => h69 o) fun y => []] ∧ (∀ (y : Unit), ¬rgO o → ∀ (u : Nat → AV), (AV.tup [AV.agg [I 0, I 0, I 0, I 0, I 0, I 0, I 0], AV.bool false], H.mk [] [] []) = (AV.tup [AV.agg (ints (o7 (0 : Nat) zeroR)), AV.bool false], H.mk [] [] [])) ∧ True) (by kernel_rfl) ?_
      refine ⟨acall_b (acall_hit (c := c64.to) (o.length : Int) _ rfl t64) hd, ?_⟩
      refine ⟨hl1, ?_⟩
      refine And.intro ?_ ?_
      · skip
        intro y
        intro w1
        intro u
        rfl
      · skip
        trivial
  · have hd : decide (1 ≤ (o.length : Int) ∧ (o.length : Int) ≤ 6) = false := by rw [decide_eq_false_iff_not]; intro h; apply h1; omega
    rw [rd_f (fun k => h1 k.1), ord_f (fun k => h1 k.s)]
    refine body_s ([Ans.o (Orc.val 12 (AV.bool false) (H.mk [[I 0, I 0, I 0, I 0, I 0, I 0, I 0], [I (↑o.length : Int), I 0, I 0, I 0, I 0, I 0, I 0]] [] []))]) (aCall (Sof [c64.to, (c87z o.length h6).to, c66.to, c67.to]) (AV.fn (Fn.func (64 : Nat)) [] []) [I (↑o.length : Int)] (H.mk [[I 0, I 0, I 0, I 0, I 0, I 0, I 0], [I (↑o.length : Int), I 0, I 0, I 0, I 0, I 0, I 0]] [] []) = some (AV.bool false, H.mk [[I 0, I 0, I 0, I 0, I 0, I 0, I 0], [I (↑o.length : Int), I 0, I 0, I 0, I 0, I 0, I 0]] [] []) ∧ (AV.tup [AV.agg [I 0, I 0, I 0, I 0, I 0, I 0, I 0], AV.bool false], H.mk [] [] []) = (AV.tup [AV.agg (ints (o7 (0 : Nat) zeroR)), AV.bool false], H.mk [] [] [])) (by kernel_rfl) ?_
    refine ⟨acall_b (acall_hit (c := c64.to) (o.length : Int) _ rfl t64) hd, ?_⟩
    rfl
theorem r69l (o : List Int) (r : Room) (h6 : ¬ o.length ≤ 6) : Body (En6 [c64.to]) none1 Try.f69 [ls o r] .nil (.tup [rdA o, .bool (ordB o)], .nil) := by
  have t64 : True := trivial
  have hd : decide (1 ≤ (o.length : Int) ∧ (o.length : Int) ≤ 6) = false := by rw [decide_eq_false_iff_not]; omega
  rw [rd_f (fun k => h6 k.1.2), ord_f (fun k => h6 k.s.2)]
  refine body_s ([Ans.o (Orc.val 12 (AV.bool false) (H.mk [[I 0, I 0, I 0, I 0, I 0, I 0, I 0], [I (↑o.length : Int), I 0, I 0, I 0, I 0, I 0, I 0]] [] []))]) (aCall (Sof [c64.to]) (AV.fn (Fn.func (64 : Nat)) [] []) [I (↑o.length : Int)] (H.mk [[I 0, I 0, I 0, I 0, I 0, I 0, I 0], [I (↑o.length : Int), I 0, I 0, I 0, I 0, I 0, I 0]] [] []) = some (AV.bool false, H.mk [[I 0, I 0, I 0, I 0, I 0, I 0, I 0], [I (↑o.length : Int), I 0, I 0, I 0, I 0, I 0, I 0]] [] []) ∧ (AV.tup [AV.agg [I 0, I 0, I 0, I 0, I 0, I 0, I 0], AV.bool false], H.mk [] [] []) = (AV.tup [AV.agg (ints (o7 (0 : Nat) zeroR)), AV.bool false], H.mk [] [] [])) (by kernel_rfl) ?_
  refine ⟨acall_b (acall_hit (c := c64.to) (o.length : Int) _ rfl t64) hd, ?_⟩
  rfl
/-- a slice as an argument -/
abbrev pI (o : List Int) (r : Room) : Prop := lim o.length ∧ rok o r ∧ inI o
noncomputable def c69 : PCtr Try.prog := sctr ok69 (X := List Int × Room) (fun x => [ls x.1 x.2]) (fun x => pI x.1 x.2) (fun x => .tup [rdA x.1, .bool (ordB x.1)])
  (by rintro ⟨l, r⟩ ⟨m, s⟩ e _ _; simp at e; simp only [e.1]) (fun x => by simp [AV.bnds, AV.bnd, AV.wk, rm_wk_bnd]) (fun x => by simp only [rdA]; split <;> simp [AV.bnd, AV.bnds])
  (fun x hx => if h6 : x.1.length ≤ 6 then ⟨_, _, _, .pure _ (.pure _ (.pure _ (.pure _ .nil))), r69 x.1 x.2.wk hx.1 (by simpa using hx.2.1) hx.2.2 h6⟩ else ⟨_, _, _, .pure _ .nil, r69l x.1 x.2.wk h6⟩)
end Go.Proofs.Ord

