/- Layer 9: what the law of proper scores calls. -/
import Derived.Test.YthodoagjojmliaaBtAe
import Derived.KernelRfl
set_option linter.unusedSimpArgs false
set_option linter.unusedVariables false
set_option linter.unnecessarySimpa false
set_option maxHeartbeats 4000000
set_option maxRecDepth 100000
namespace Go.Proofs.Bts
open Go Go.VM

theorem app_two {P : Program} {t : TypeId} (hT : appT2 P t = true) {l m : List Pr} {r : Room} {bs : List (List AV)} {k : Nat} (hm0 : m ≠ []) (hl : l.length ≤ 1000000) (hm : m.length ≤ 1000000) :
    aAppend P t t (.sl (pairsA l) l.length (.tok 0 2)) (.sl (pairsA m) m.length r) ⟨bs, [l.length, k], []⟩ = some (pz (l ++ m) (.tok 0 2), ⟨bs, [(l ++ m).length, k], []⟩) := by
  unfold appT2 at hT
  cases he : elemT P t with
  | none => rw [he] at hT; cases hT
  | some e =>
    rw [he] at hT
    simp only at hT
    cases hi : P.info? e with
    | none => rw [hi] at hT; cases hT
    | some i =>
      cases hz : zeroCs P e with
      | none => rw [hi, hz] at hT; cases hT
      | some z =>
        rw [hi, hz] at hT
        simp only [Bool.and_eq_true, beq_iff_eq, decide_eq_true_eq, Bool.not_eq_true'] at hT
        obtain ⟨⟨⟨h1, h2⟩, h3⟩, h4⟩ := hT
        have hb : (l.length + m.length) * i.bytes ≤ 2 ^ 47 := Nat.le_trans (Nat.mul_le_mul (show l.length + m.length ≤ 2000000 by omega) h2) (by decide)
        have hq : l.length + m.length ≤ maxLen := Nat.le_trans (show l.length + m.length ≤ 2000000 by omega) (by decide)
        have ho' : ∀ x ∈ pairsA m, x.one = true := List.all_eq_true.1 (pairsA_one m)
        have hne : m.length ≠ 0 := fun h => hm0 (List.length_eq_zero_iff.1 h)
        simp [aAppend, he, hi, hz, h1, h3, h4, slCells, hb, hq, hm0, pairsA_append]
        exact ho'
noncomputable def c21n : Ctr Try.prog where
  f := 21
  X := List Pr × Room
  args x := [pz x.1 x.2]
  pre x h := (lim x.1.length ∧ rok x.1 x.2 ∧ emp x.1 x.2) ∧ h.blk.length ≤ 1
  res x h := (pz (cutp x.1) (rcl x.2), h)
  det := by
    rintro ⟨l, r⟩ ⟨l', r'⟩ h e _ _
    simp only [List.cons.injEq, AV.sl.injEq, and_true] at e
    obtain ⟨e1, _, rfl⟩ := e
    rw [pairsA_inj e1]
  ok := by
    rintro ⟨l, r⟩ h ⟨hp, _⟩
    have := c21.ok (l, r) hp
    exact ⟨this.1, this.2 h⟩
noncomputable def c21q : Ctr Try.prog where
  f := 21
  X := List Pr × Room
  args x := [pz x.1 x.2]
  pre x h := (x.1 ≠ [] ∧ x.1.length ≤ 8 ∧ x.2.wk = .no) ∧ h.blk.length = 2
  res x h := (pz x.1 (.tok h.toks.length 2), ⟨h.blk, h.toks ++ [x.1.length], h.maps⟩)
  det := by
    rintro ⟨l, r⟩ ⟨l', r'⟩ h e _ _
    simp only [List.cons.injEq, AV.sl.injEq, and_true] at e
    obtain ⟨e1, _, _⟩ := e
    rw [pairsA_inj e1]
  ok := by
    rintro ⟨l, r⟩ h ⟨⟨hne, h8, hr⟩, _⟩
    have hc := (r21t l hne h8).run ok21m (.eff _ rfl .nil) rfl
    refine ⟨ok21m.call, CallOk.wk (args := [pz l r]) ?_⟩
    have e : [pz l r].map AV.wk = [pz l .no] := by show [pz l r.wk] = _; rw [hr]
    rw [e]
    exact hc.viewTok (flats_pairs l) (.cons (.same _ (by simp [AV.bnd, Room.bnd])) .nil)
noncomputable def c21z : Ctr Try.prog := Ctr.or c21n c21q rfl (by
  rintro ⟨l, r⟩ ⟨m, s⟩ h _ h1 h2
  have a := h1.2
  have b := h2.2
  omega)
abbrev M21 : FuncId → Bool := fun f => f == 21
abbrev r9 (x : Int) : Prop := -1000000000 ≤ x ∧ x ≤ 1000000000
abbrev lsB (a b c d : Int) : Bool := decide (a * d < c * b)
theorem ok53 : FokM Try.prog none1 53 Try.f53 := ⟨mixed, by kernel_rfl, by kernel_rfl, by kernel_rfl, by kernel_rfl⟩
theorem r53 (a : Int) (b : Int) (c : Int) (d : Int) (hp : (r9 a ∧ r9 b) ∧ r9 c ∧ r9 d) : Body ⟨Try.prog, Sof (P := Try.prog) [], Pof (P := Try.prog) [], H.nil.base, 300⟩ none1 Try.f53 [.agg [I a, I b], .agg [I c, I d]] .nil (.bool (lsB a b c d), .nil) := by
  have mb : ∀ x y : Int, r9 x → r9 y → -1000000000000000000 ≤ x * y ∧ x * y ≤ 1000000000000000000 := fun x y hx hy => by
    have h1 : (x * y).natAbs ≤ 1000000000 * 1000000000 := by rw [Int.natAbs_mul]; exact Nat.mul_le_mul (by omega) (by omega)
    omega
  have m1 := mb a d hp.1.1 hp.2.2
  have m2 := mb c b hp.2.1 hp.1.2
  have ev0 : IntKind.i64.wrap (a * d) = a * d := wr _ (by omega) (by omega)
  have ev1 : IntKind.i64.wrap (c * b) = c * b := wr _ (by omega) (by omega)
  by_cases h : a * d < c * b
  · rw [show lsB a b c d = true from decide_eq_true h]
    refine body_s ([Ans.o (Orc.val 9 (I (a * d)) H.nil), Ans.o (Orc.val 14 (I (c * b)) H.nil), Ans.o (Orc.b true)]) (aBin Try.prog BinOp.mul (3 : Nat) (I a) (I d) = some (I (a * d)) ∧ aBin Try.prog BinOp.mul (3 : Nat) (I c) (I b) = some (I (c * b)) ∧ a * d < c * b ∧ (AV.bool true, H.mk [] [] []) = (AV.bool true, H.mk [] [] [])) (by kernel_rfl) ?_
    refine ⟨told_mul (by with_reducible assumption), ?_⟩
    refine ⟨told_mul (by with_reducible assumption), ?_⟩
    refine ⟨by first | with_reducible assumption | omega | assumption, ?_⟩
    rfl
  · rw [show lsB a b c d = false from decide_eq_false h]
    have h : c * b ≤ a * d := by omega
    refine body_s ([Ans.o (Orc.val 9 (I (a * d)) H.nil), Ans.o (Orc.val 14 (I (c * b)) H.nil), Ans.o (Orc.b false)]) (aBin Try.prog BinOp.mul (3 : Nat) (I a) (I d) = some (I (a * d)) ∧ aBin Try.prog BinOp.mul (3 : Nat) (I c) (I b) = some (I (c * b)) ∧ c * b ≤ a * d ∧ (AV.bool false, H.mk [] [] []) = (AV.bool false, H.mk [] [] [])) (by kernel_rfl) ?_
    refine ⟨told_mul (by with_reducible assumption), ?_⟩
    refine ⟨told_mul (by with_reducible assumption), ?_⟩
    refine ⟨by first | with_reducible assumption | omega | assumption, ?_⟩
    rfl
noncomputable def c53 : PCtr Try.prog := sctr ok53 (X := Int × Int × Int × Int) (fun x => [.agg [I x.1, I x.2.1], .agg [I x.2.2.1, I x.2.2.2]]) (fun x => (r9 x.1 ∧ r9 x.2.1) ∧ r9 x.2.2.1 ∧ r9 x.2.2.2) (fun x => .bool (lsB x.1 x.2.1 x.2.2.1 x.2.2.2)) (by intro x y e _ _; simp [Int.natCast_inj] at e; simp [e]) (fun x => by simp [AV.bnds, AV.bnd, AV.wk, rm_wk_bnd]) (fun x => by first | rfl | (simp [AV.bnd, rm_wk_bnd]; done)  | (simp [AV.bnd, AV.bnds, rm_wk_bnd]; done) | simp [AV.bnd, AV.bnds, Room.bnd, rm_wk_bnd]) (fun x hx => ⟨_, _, _, .nil, r53 (x.1) (x.2.1) (x.2.2.1) (x.2.2.2) hx⟩)
noncomputable abbrev E15 : Env := ⟨Try.prog, Sof (P := Try.prog) [c21z, c48.to, c49.to, c54.to, c42.to, c53.to, c23.to], Pof (P := Try.prog) [], H.nil.base, 300⟩
theorem ct15 : Ctrs Try.prog M21 [c21z, c48.to, c49.to, c54.to, c42.to, c53.to, c23.to] := .eff _ rfl (.pure _ (.pure _ (.pure _ (.pure _ (.pure _ (.pure _ .nil))))))
abbrev hZ (x y : Pr) (ts : List Nat) : H := ⟨[[I x.1, I x.2], [I y.1, I y.2]], ts, []⟩
theorem ldp_cons {l : List Pr} {i : Nat} (h : i < l.length) : pairsA (l.drop i) = I (l.getD i pair0).1 :: I (l.getD i pair0).2 :: pairsA (l.drop (i + 1)) := by
  have e : l.drop i = l[i] :: l.drop (i + 1) := List.drop_eq_getElem_cons h
  have e2 : l.getD i pair0 = l[i] := by simp [List.getD_eq_getElem?_getD, h]
  rw [e, e2]; rfl
theorem ldp_fst {P : Program} {t : TypeId} (hu : (P.underlying t).isSome = true) (ha : isAggT P t = false) {l : List Pr} {i : Nat} (h : i < l.length) : aLoad P t ((pairsA (l.drop i)).drop 0) = some (I (l.getD i pair0).1) := by
  rw [ldp_cons h]
  cases hq : P.underlying t with
  | none => rw [hq] at hu; cases hu
  | some u => simp [aLoad, hq, ha]
theorem ldp_snd {P : Program} {t : TypeId} (hu : (P.underlying t).isSome = true) (ha : isAggT P t = false) {l : List Pr} {i : Nat} (h : i < l.length) : aLoad P t ((pairsA (l.drop i)).drop 1) = some (I (l.getD i pair0).2) := by
  rw [ldp_cons h]
  cases hq : P.underlying t with
  | none => rw [hq] at hu; cases hu
  | some u => simp [aLoad, hq, ha]
/-- the squares' loop -/
abbrev o15a (l m : List Pr) (r q : Room) (x y : Pr) (ts : List Nat) (M S : Int) : List Out := [.mk Unit (.exit 0) [0, 1, 5, 7, 9, 10] (fun _ => True) (fun _ => [pz l r, pz m q, .ptr 0 0, .ptr 1 0, I M, I S]) (fun _ => hZ x y ts) (fun _ => [])]
theorem simp15a : allSimpleM M21 (loopAt Try.f15 0) = true := by kernel_rfl
theorem ok15 : FokM Try.prog M21 15 Try.f15 := ⟨mixed, by kernel_rfl, by kernel_rfl, by kernel_rfl, by kernel_rfl⟩
theorem lp15a (l m : List Pr) (r q : Room) (x y : Pr) (ts : List Nat) (M p t : Int) (hl : jOK l) (hm : jOK m) (h5 : l.length ≤ 5) (hn : m.length = l.length) (hr : rok l r) (hq : rok m q) (hM : 1 ≤ M ∧ M ≤ 1000) (e1 : M = stD l * p) (e2 : M = stD m * t) (hp : 1 ≤ p) (ht : 1 ≤ t) :
    LoopS E15 (loopAt Try.f15 0) 222 [0, 1, 5, 7, 9, 10, 120, 121, 122] [pz l r, pz m q, .ptr 0 0, .ptr 1 0, I M, I 0, pz l r, I l.length, I 0] (hZ x y ts) (o15a l m r q x y ts M (sqD (nums l) (nums m) p t l.length)) := by
  have hR : Rests E15 M21 := rests mixed ct15
  refine loop_s hR simp15a none (by intro _ h; cases h) (fun j vs h => h = hZ x y ts ∧ vs = [pz l r, pz m q, .ptr 0 0, .ptr 1 0, I M, I (sqD (nums l) (nums m) p t j), pz l r, I l.length, I (j : Nat)] ∧ sqD (nums l) (nums m) p t j ≤ j * 1000000) l.length ⟨rfl, rfl, by simp [sqD, sI]⟩ (by intro _ h; cases h) ?_
  rintro j vs h hj ⟨rfl, rfl, hb⟩
  by_cases hz : (j : Int) < l.length
  · have hz' : j < l.length := by omega
    have hzm : j < m.length := by omega
    have hzm' : (j : Int) < m.length := by omega
    have hr1 := rok_idx hr hz'
    have hq1 := rok_idx hq hzm
    have ev0 := wj1 (j := j) (by omega)
    have hd1 : (l.getD j pair0).2 ≠ 0 := by have := (hl.1 j hz').1; omega
    have hd2 : (m.getD j pair0).2 ≠ 0 := by have := (hm.1 j hzm).1; omega
    obtain ⟨a1, a2⟩ := nm_mul hl e1 hz'
    obtain ⟨b1, b2⟩ := nm_mul hm e2 hzm
    have td1 := (td_le M (l.getD j pair0).2 (hl.1 j hz').1).1 (by omega)
    have td2 := (td_le M (m.getD j pair0).2 (hm.1 j hzm).1).1 (by omega)
    have ev1 : IntKind.i64.wrap (M.tdiv (l.getD j pair0).2) = M.tdiv (l.getD j pair0).2 := wr _ (by omega) (by omega)
    have ev2 : IntKind.i64.wrap (M.tdiv (m.getD j pair0).2) = M.tdiv (m.getD j pair0).2 := wr _ (by omega) (by omega)
    have n1 := nums_b hl j (by rw [nmL_len]; exact hz')
    have n2 := nums_b hm j (by rw [nmL_len]; exact hzm)
    have u1 : 0 ≤ p * ia (nums l) j ∧ p * ia (nums l) j ≤ M := ⟨Int.mul_nonneg (by omega) n1.1, by
      have := Int.mul_le_mul_of_nonneg_left n1.2 (show 0 ≤ p by omega)
      rw [e1, Int.mul_comm (stD l) p]; exact this⟩
    have u2 : 0 ≤ t * ia (nums m) j ∧ t * ia (nums m) j ≤ M := ⟨Int.mul_nonneg (by omega) n2.1, by
      have := Int.mul_le_mul_of_nonneg_left n2.2 (show 0 ≤ t by omega)
      rw [e2, Int.mul_comm (stD m) t]; exact this⟩
    have ev3 : IntKind.i64.wrap (M.tdiv (l.getD j pair0).2 * (l.getD j pair0).1) = p * ia (nums l) j := by rw [a2]; exact wr _ (by omega) (by omega)
    have ev4 : IntKind.i64.wrap (M.tdiv (m.getD j pair0).2 * (m.getD j pair0).1) = t * ia (nums m) j := by rw [b2]; exact wr _ (by omega) (by omega)
    have ev5 : IntKind.i64.wrap (p * ia (nums l) j - t * ia (nums m) j) = p * ia (nums l) j - t * ia (nums m) j := wr _ (by omega) (by omega)
    have sq : 0 ≤ (p * ia (nums l) j - t * ia (nums m) j) * (p * ia (nums l) j - t * ia (nums m) j) ∧ (p * ia (nums l) j - t * ia (nums m) j) * (p * ia (nums l) j - t * ia (nums m) j) ≤ 1000000 := by
      have h1 : ((p * ia (nums l) j - t * ia (nums m) j) * (p * ia (nums l) j - t * ia (nums m) j)).natAbs ≤ 1000 * 1000 := by rw [Int.natAbs_mul]; exact Nat.mul_le_mul (by omega) (by omega)
      have h2 : 0 ≤ (p * ia (nums l) j - t * ia (nums m) j) * (p * ia (nums l) j - t * ia (nums m) j) := by
        rcases Int.le_total 0 (p * ia (nums l) j - t * ia (nums m) j) with h | h
        · exact Int.mul_nonneg h h
        · exact Int.mul_nonneg_of_nonpos_of_nonpos h h
      omega
    have es : sqD (nums l) (nums m) p t (j + 1) = sqD (nums l) (nums m) p t j + (p * ia (nums l) j - t * ia (nums m) j) * (p * ia (nums l) j - t * ia (nums m) j) := rfl
    have h0 := sqD_nn (nums l) (nums m) p t j
    have ev6 : IntKind.i64.wrap ((p * ia (nums l) j - t * ia (nums m) j) * (p * ia (nums l) j - t * ia (nums m) j)) = (p * ia (nums l) j - t * ia (nums m) j) * (p * ia (nums l) j - t * ia (nums m) j) := wr _ (by omega) (by omega)
    have ev7 : IntKind.i64.wrap (sqD (nums l) (nums m) p t j + (p * ia (nums l) j - t * ia (nums m) j) * (p * ia (nums l) j - t * ia (nums m) j)) = sqD (nums l) (nums m) p t (j + 1) := by rw [← es]; exact wr _ (by omega) (by omega)
    have hb2 : sqD (nums l) (nums m) p t (j + 1) ≤ ((j + 1 : Nat) : Int) * 1000000 := by omega
    refine ⟨[Ans.o (Orc.b true), Ans.o (Orc.val 128 (AV.cptr (pairsA (List.drop j l))) H.nil), Ans.o (Orc.val 130 (I (l.getD j pair0).snd) H.nil), Ans.o (Orc.val 134 (AV.cptr (pairsA (List.drop j l))) H.nil), Ans.o (Orc.val 136 (I (l.getD j pair0).fst) H.nil), Ans.o (Orc.val 137 (I (p * ia (nums l) j)) H.nil), Ans.o (Orc.val 141 (AV.cptr (pairsA (List.drop j m))) H.nil), Ans.o (Orc.val 143 (I (m.getD j pair0).snd) H.nil), Ans.o (Orc.val 147 (AV.cptr (pairsA (List.drop j m))) H.nil), Ans.o (Orc.val 149 (I (m.getD j pair0).fst) H.nil), Ans.o (Orc.val 150 (I (t * ia (nums m) j)) H.nil), Ans.o (Orc.val 151 (I (p * ia (nums l) j - t * ia (nums m) j)) H.nil), Ans.o (Orc.val 155 (I ((p * ia (nums l) j - t * ia (nums m) j) * (p * ia (nums l) j - t * ia (nums m) j))) H.nil), Ans.o (Orc.val 156 (I (sqD (nums l) (nums m) p t (j + (1 : Nat)))) H.nil), Ans.o (Orc.val 157 (I (↑(j + (1 : Nat)) : Int)) H.nil)], fun u => of_eq ((↑j : Int) < (↑l.length : Int) ∧ aIndexAddr Try.prog (23 : Nat) (AV.sl (pairsA l) l.length r) (I (↑j : Int)) = some (AV.cptr (pairsA (List.drop j l))) ∧ aLoad Try.prog (3 : Nat) (List.drop #[Field.mk "Num" (3 : Nat) (0 : Nat) false "" "" (0 : Nat), Field.mk "Den" (3 : Nat) (1 : Nat) false "" "" (8 : Nat)][(1 : Nat)].offset (pairsA (List.drop j l))) = some (I (l.getD j pair0).snd) ∧ (l.getD j pair0).snd ≠ (0 : Int) ∧ IntKind.i64.wrap (M.tdiv (l.getD j pair0).snd) = M.tdiv (l.getD j pair0).snd ∧ aIndexAddr Try.prog (23 : Nat) (AV.sl (pairsA l) l.length r) (I (↑j : Int)) = some (AV.cptr (pairsA (List.drop j l))) ∧ aLoad Try.prog (3 : Nat) (List.drop #[Field.mk "Num" (3 : Nat) (0 : Nat) false "" "" (0 : Nat), Field.mk "Den" (3 : Nat) (1 : Nat) false "" "" (8 : Nat)][(0 : Nat)].offset (pairsA (List.drop j l))) = some (I (l.getD j pair0).fst) ∧ aBin Try.prog BinOp.mul (3 : Nat) (I (M.tdiv (l.getD j pair0).snd)) (I (l.getD j pair0).fst) = some (I (p * ia (nums l) j)) ∧ aIndexAddr Try.prog (23 : Nat) (AV.sl (pairsA m) m.length q) (I (↑j : Int)) = some (AV.cptr (pairsA (List.drop j m))) ∧ aLoad Try.prog (3 : Nat) (List.drop #[Field.mk "Num" (3 : Nat) (0 : Nat) false "" "" (0 : Nat), Field.mk "Den" (3 : Nat) (1 : Nat) false "" "" (8 : Nat)][(1 : Nat)].offset (pairsA (List.drop j m))) = some (I (m.getD j pair0).snd) ∧ (m.getD j pair0).snd ≠ (0 : Int) ∧ IntKind.i64.wrap (M.tdiv (m.getD j pair0).snd) = M.tdiv (m.getD j pair0).snd ∧ aIndexAddr Try.prog (23 : Nat) (AV.sl (pairsA m) m.length q) (I (↑j : Int)) = some (AV.cptr (pairsA (List.drop j m))) ∧ aLoad Try.prog (3 : Nat) (List.drop #[Field.mk "Num" (3 : Nat) (0 : Nat) false "" "" (0 : Nat), Field.mk "Den" (3 : Nat) (1 : Nat) false "" "" (8 : Nat)][(0 : Nat)].offset (pairsA (List.drop j m))) = some (I (m.getD j pair0).fst) ∧ aBin Try.prog BinOp.mul (3 : Nat) (I (M.tdiv (m.getD j pair0).snd)) (I (m.getD j pair0).fst) = some (I (t * ia (nums m) j)) ∧ aBin Try.prog BinOp.sub (3 : Nat) (I (p * ia (nums l) j)) (I (t * ia (nums m) j)) = some (I (p * ia (nums l) j - t * ia (nums m) j)) ∧ aBin Try.prog BinOp.mul (3 : Nat) (I (p * ia (nums l) j - t * ia (nums m) j)) (I (p * ia (nums l) j - t * ia (nums m) j)) = some (I ((p * ia (nums l) j - t * ia (nums m) j) * (p * ia (nums l) j - t * ia (nums m) j))) ∧ aBin Try.prog BinOp.add (3 : Nat) (I (sqD (nums l) (nums m) p t j)) (I ((p * ia (nums l) j - t * ia (nums m) j) * (p * ia (nums l) j - t * ia (nums m) j))) = some (I (sqD (nums l) (nums m) p t (j + (1 : Nat)))) ∧ aBin Try.prog BinOp.add (3 : Nat) (I (↑j : Int)) (I 1) = some (I (↑(j + (1 : Nat)) : Int)) ∧ (222 : Nat) = (222 : Nat) ∧ j < l.length ∧ Keep (H.mk [[I x.fst, I x.snd], [I y.fst, I y.snd]] ts [] = H.mk [[I x.fst, I x.snd], [I y.fst, I y.snd]] ts [] ∧ [AV.sl (pairsA l) l.length r, AV.sl (pairsA m) m.length q, AV.ptr 0 0, AV.ptr 1 0, I M, I (sqD (nums l) (nums m) p t (j + (1 : Nat))), AV.sl (pairsA l) l.length r, I (↑l.length : Int), I (↑(j + (1 : Nat)) : Int)] = [AV.sl (pairsA l) l.length r, AV.sl (pairsA m) m.length q, AV.ptr 0 0, AV.ptr 1 0, I M, I (sqD (nums l) (nums m) p t (j + (1 : Nat))), AV.sl (pairsA l) l.length r, I (↑l.length : Int), I (↑(j + (1 : Nat)) : Int)] ∧ sqD (nums l) (nums m) p t (j + (1 : Nat)) ≤ (↑(j + (1 : Nat)) : Int) * (1000000 : Int))) (by kernel_rfl) ?_⟩
    refine ⟨by first | with_reducible assumption | omega | assumption, ?_⟩
    refine ⟨by first | exact ix_pairs (by kernel_rfl) hz' hr1 | exact ix_pairs (by kernel_rfl) hzm hq1, ?_⟩
    refine ⟨by first | exact ldp_snd (by kernel_rfl) (by kernel_rfl) hz' | exact ldp_snd (by kernel_rfl) (by kernel_rfl) hzm | exact ldp_fst (by kernel_rfl) (by kernel_rfl) hz' | exact ldp_fst (by kernel_rfl) (by kernel_rfl) hzm, ?_⟩
    refine ⟨by first | with_reducible assumption | omega | assumption, ?_⟩
    refine ⟨wr _ (by omega) (by omega), ?_⟩
    refine ⟨by first | exact ix_pairs (by kernel_rfl) hz' hr1 | exact ix_pairs (by kernel_rfl) hzm hq1, ?_⟩
    refine ⟨by first | exact ldp_snd (by kernel_rfl) (by kernel_rfl) hz' | exact ldp_snd (by kernel_rfl) (by kernel_rfl) hzm | exact ldp_fst (by kernel_rfl) (by kernel_rfl) hz' | exact ldp_fst (by kernel_rfl) (by kernel_rfl) hzm, ?_⟩
    refine ⟨told_mul (by with_reducible assumption), ?_⟩
    refine ⟨by first | exact ix_pairs (by kernel_rfl) hz' hr1 | exact ix_pairs (by kernel_rfl) hzm hq1, ?_⟩
    refine ⟨by first | exact ldp_snd (by kernel_rfl) (by kernel_rfl) hz' | exact ldp_snd (by kernel_rfl) (by kernel_rfl) hzm | exact ldp_fst (by kernel_rfl) (by kernel_rfl) hz' | exact ldp_fst (by kernel_rfl) (by kernel_rfl) hzm, ?_⟩
    refine ⟨by first | with_reducible assumption | omega | assumption, ?_⟩
    refine ⟨wr _ (by omega) (by omega), ?_⟩
    refine ⟨by first | exact ix_pairs (by kernel_rfl) hz' hr1 | exact ix_pairs (by kernel_rfl) hzm hq1, ?_⟩
    refine ⟨by first | exact ldp_snd (by kernel_rfl) (by kernel_rfl) hz' | exact ldp_snd (by kernel_rfl) (by kernel_rfl) hzm | exact ldp_fst (by kernel_rfl) (by kernel_rfl) hz' | exact ldp_fst (by kernel_rfl) (by kernel_rfl) hzm, ?_⟩
    refine ⟨told_mul (by with_reducible assumption), ?_⟩
    refine ⟨told_sub (by with_reducible assumption), ?_⟩
    refine ⟨told_mul (by with_reducible assumption), ?_⟩
    refine ⟨told_add (by with_reducible assumption), ?_⟩
    refine ⟨told_add (by with_reducible assumption), ?_⟩
    refine ⟨by first | with_reducible assumption | omega | assumption, ?_⟩
    refine ⟨by first | with_reducible assumption | omega | assumption, ?_⟩
    exact ⟨rfl, rfl, hb2⟩
  · have hz : (l.length : Int) ≤ j := by omega
    have e : j = l.length := by omega
    subst e
    refine ⟨[Ans.o (Orc.b false)], fun u => of_eq ((↑l.length : Int) ≤ (↑l.length : Int) ∧ (222 : Nat) = (222 : Nat) ∧ hits [Out.mk Unit (AX.exit (0 : Nat)) [(0 : Nat), (1 : Nat), (5 : Nat), (7 : Nat), (9 : Nat), (10 : Nat)] (fun x => True) (fun x => [pz l r, pz m q, AV.ptr 0 0, AV.ptr 1 0, I M, I (sqD (nums l) (nums m) p t l.length)]) (fun x_1 => hZ x y ts) fun x => []] (AX.exit (0 : Nat)) [AV.sl (pairsA l) l.length r, AV.sl (pairsA m) m.length q, u (2 : Nat), u (3 : Nat), u (4 : Nat), AV.ptr 0 0, u (6 : Nat), AV.ptr 1 0, u (8 : Nat), I M, I (sqD (nums l) (nums m) p t l.length), u (11 : Nat), u (12 : Nat), u (13 : Nat), u (14 : Nat), u (15 : Nat), u (16 : Nat), u (17 : Nat), u (18 : Nat), u (19 : Nat), u (20 : Nat), u (21 : Nat), u (22 : Nat), u (23 : Nat), u (24 : Nat), u (25 : Nat), u (26 : Nat), u (27 : Nat), u (28 : Nat), u (29 : Nat), u (30 : Nat), u (31 : Nat), u (32 : Nat), u (33 : Nat), u (34 : Nat), u (35 : Nat), u (36 : Nat), u (37 : Nat), u (38 : Nat), u (39 : Nat), u (40 : Nat), u (41 : Nat), u (42 : Nat), u (43 : Nat), u (44 : Nat), u (45 : Nat), u (46 : Nat), u (47 : Nat), u (48 : Nat), u (49 : Nat), u (50 : Nat), u (51 : Nat), u (52 : Nat), u (53 : Nat), u (54 : Nat), u (55 : Nat), u (56 : Nat), u (57 : Nat), u (58 : Nat), u (59 : Nat), u (60 : Nat), u (61 : Nat), u (62 : Nat), u (63 : Nat), u (64 : Nat), u (65 : Nat), u (66 : Nat), u (67 : Nat), u (68 : Nat), u (69 : Nat), u (70 : Nat), u (71 : Nat), u (72 : Nat), u (73 : Nat), u (74 : Nat), u (75 : Nat), u (76 : Nat), u (77 : Nat), u (78 : Nat), u (79 : Nat), u (80 : Nat), u (81 : Nat), u (82 : Nat), u (83 : Nat), u (84 : Nat), u (85 : Nat), u (86 : Nat), u (87 : Nat), u (88 : Nat), u (89 : Nat), u (90 : Nat), u (91 : Nat), u (92 : Nat), u (93 : Nat), u (94 : Nat), u (95 : Nat), u (96 : Nat), u (97 : Nat), u (98 : Nat), u (99 : Nat), u (100 : Nat), u (101 : Nat), u (102 : Nat), u (103 : Nat), u (104 : Nat), u (105 : Nat), u (106 : Nat), u (107 : Nat), u (108 : Nat), u (109 : Nat), u (110 : Nat), u (111 : Nat), u (112 : Nat), u (113 : Nat), u (114 : Nat), u (115 : Nat), u (116 : Nat), u (117 : Nat), u (118 : Nat), u (119 : Nat), AV.sl (pairsA l) l.length r, I (↑l.length : Int), I (↑l.length : Int), AV.bool false, u (124 : Nat), u (125 : Nat), u (126 : Nat), u (127 : Nat), u (128 : Nat), u (129 : Nat), u (130 : Nat), u (131 : Nat), u (132 : Nat), u (133 : Nat), u (134 : Nat), u (135 : Nat), u (136 : Nat), u (137 : Nat), u (138 : Nat), u (139 : Nat), u (140 : Nat), u (141 : Nat), u (142 : Nat), u (143 : Nat), u (144 : Nat), u (145 : Nat), u (146 : Nat), u (147 : Nat), u (148 : Nat), u (149 : Nat), u (150 : Nat), u (151 : Nat), u (152 : Nat), u (153 : Nat), u (154 : Nat), u (155 : Nat), u (156 : Nat), u (157 : Nat), u (158 : Nat), u (159 : Nat), u (160 : Nat), u (161 : Nat), u (162 : Nat), u (163 : Nat), u (164 : Nat), u (165 : Nat), u (166 : Nat), u (167 : Nat), u (168 : Nat), u (169 : Nat), u (170 : Nat), u (171 : Nat), u (172 : Nat), u (173 : Nat), u (174 : Nat), u (175 : Nat), u (176 : Nat), u (177 : Nat), u (178 : Nat), u (179 : Nat), u (180 : Nat), u (181 : Nat), u (182 : Nat), u (183 : Nat), u (184 : Nat), u (185 : Nat), u (186 : Nat), u (187 : Nat), u (188 : Nat), u (189 : Nat), u (190 : Nat), u (191 : Nat), u (192 : Nat), u (193 : Nat), u (194 : Nat), u (195 : Nat), u (196 : Nat), u (197 : Nat), u (198 : Nat), u (199 : Nat), u (200 : Nat), u (201 : Nat), u (202 : Nat), u (203 : Nat), u (204 : Nat), u (205 : Nat), u (206 : Nat), u (207 : Nat), u (208 : Nat), u (209 : Nat), u (210 : Nat), u (211 : Nat), u (212 : Nat), u (213 : Nat), u (214 : Nat), u (215 : Nat), u (216 : Nat), u (217 : Nat), u (218 : Nat), u (219 : Nat), u (220 : Nat), u (221 : Nat)] (H.mk [[I x.fst, I x.snd], [I y.fst, I y.snd]] ts [])) (by kernel_rfl) ?_⟩
    refine ⟨by first | with_reducible assumption | omega | assumption, ?_⟩
    refine ⟨by first | with_reducible assumption | omega | assumption, ?_⟩
    exact .inl ⟨(), trivial, rfl, rfl, rfl⟩
end Go.Proofs.Bts

