/- Layer 2: the program's search for a row is the reference's. -/
import Derived.Test.YtnnhomkkggkkfaaDoorRkCc
import Derived.Test.YtnnhomkkggkkfaaDoorRkAm
import Derived.Test.YtnnhomkkggkkfaaDoorRkJ
import Derived.KernelRfl
set_option linter.unusedSimpArgs false
set_option linter.unusedVariables false
set_option linter.unnecessarySimpa false
set_option maxHeartbeats 4000000
set_option maxRecDepth 100000
namespace Go.Proofs.Rnk
open Go Go.VM
open Go.Proofs.Sur (andn andn_bit andn_le i_wrap i_and i_or i_xor i_andn i_shl i_shr bit_01)
theorem fRw_none {A : Nat → Nat} {n : Nat} {rd : Bool} {f : Nat} {b : List Int} {m : Nat} : ∀ k, (∀ i, i < k → fol A b m i = true → wyM A n rd f (b ++ [(i : Int)]) (m ||| 2 ^ i) = none) → fRw A n rd f b m k = none
  | 0, _ => rfl
  | k + 1, h => by
    rw [fRw, fRw_none k fun i hi => h i (by omega)]
    cases c : fol A b m k
    · rfl
    · rw [if_pos rfl, h k (by omega) c]; rfl
theorem fRw_at {A : Nat → Nat} {n : Nat} {rd : Bool} {f : Nat} {b : List Int} {m p : Nat} {l : List Int} (h : ∀ i, i < p → fol A b m i = true → wyM A n rd f (b ++ [(i : Int)]) (m ||| 2 ^ i) = none) (hp : fol A b m p = true) (hl : wyM A n rd f (b ++ [(p : Int)]) (m ||| 2 ^ p) = some l) (hn : p < n) : fRw A n rd f b m n = some l := by
  have h1 : fRw A n rd f b m (p + 1) = some l := by rw [fRw, fRw_none p h, hp, if_pos rfl, hl]; rfl
  have := fRw_some h1 (n - (p + 1))
  rwa [show p + 1 + (n - (p + 1)) = n by omega] at this
theorem first_of (o : Nat → Option (List Int)) : ∀ n, (∀ j, j < n → o j = none) ∨ ∃ j l, j < n ∧ o j = some l ∧ ∀ i, i < j → o i = none
  | 0 => .inl fun j hj => by omega
  | n + 1 => by
    rcases first_of o n with h | ⟨j, l, h1, h2, h3⟩
    · cases c : o n with
      | none =>
        refine .inl fun j hj => ?_
        by_cases e : j = n
        · rw [e]; exact c
        · exact h j (by omega)
      | some l => exact .inr ⟨n, l, by omega, c, h⟩
    · exact .inr ⟨j, l, by omega, h2, h3⟩
theorem ExP.fol {t b : List Int} {f k fr nx i : Nat} (h : ExP t b f k fr nx) (hi : i < t.length) : fol (sn t) b (metF t fr) i = nx.testBit i := by
  have hA := alls_lt h.w.h.s.2
  have hm : (metF t fr).testBit i = !fr.testBit i := by rw [metF, andn_bit (by omega), alls_bit]; simp [hi]
  have h1 := h.ni i
  rw [Rnk.fol, hm]
  have hne : decide (b = []) = false := by simp [h.ne]
  rw [hne]
  cases c : nx.testBit i <;> rw [c] at h1 <;> cases d : fr.testBit i <;> cases e : (sn t (lastN b)).testBit i <;> simp [d, e] at h1 ⊢
theorem ExP.bt {t b : List Int} {f k fr nx i : Nat} (h : ExP t b f k fr nx) (hi : nx.testBit i = true) : i < t.length := h.fi i ((h.ni i).1 hi).1
theorem exR_go {t b : List Int} {f fr : Nat} : exR t b (f + 1) fr = fRw (sn t) t.length false f b (metF t fr) t.length := wyM_go
theorem exR_next {t b : List Int} {f fr i : Nat} (h8 : t.length ≤ 8) (hf : fr < 256) (hi : i < t.length) : wyM (sn t) t.length false f (b ++ [(i : Int)]) (metF t fr ||| 2 ^ i) = exR t (b ++ [(i : Int)]) f (andn fr (2 ^ i)) := by
  rw [exR, met_next h8 hf hi]
theorem ExP.allNo {t b : List Int} {f k fr nx : Nat} (h : ExP t b (f + 1) k fr nx) (hno : ∀ j, j < pc nx → exR t (b ++ [((el nx j : Nat) : Int)]) f (andn fr (2 ^ el nx j)) = none) : exR t b (f + 1) fr = none := by
  rw [exR_go]
  refine fRw_none _ fun i hi hf => ?_
  rw [h.fol hi] at hf
  have h8 := h.w.h.s.2
  obtain ⟨j, h1, h2⟩ := el_of (show i < 8 by omega) hf
  rw [exR_next h8 h.f8 hi, ← h2]
  exact hno j h1
theorem ExP.firstYes {t b : List Int} {f k fr nx j0 : Nat} {l : List Int} (h : ExP t b (f + 1) k fr nx) (h0 : j0 < pc nx) (hno : ∀ j, j < j0 → exR t (b ++ [((el nx j : Nat) : Int)]) f (andn fr (2 ^ el nx j)) = none) (hyes : exR t (b ++ [((el nx j0 : Nat) : Int)]) f (andn fr (2 ^ el nx j0)) = some l) : exR t b (f + 1) fr = some l := by
  rw [exR_go]
  have h8 := h.w.h.s.2
  have hp := h.pl h0
  refine fRw_at (p := el nx j0) (fun i hi hf => ?_) (by rw [h.fol hp.2.2.1]; exact hp.1) (by rw [exR_next h8 h.f8 hp.2.2.1]; exact hyes) hp.2.2.1
  have hin : i < t.length := by have := hp.2.2.1; omega
  rw [h.fol hin] at hf
  obtain ⟨j, h1, h2⟩ := el_of (show i < 8 by omega) hf
  rw [exR_next h8 h.f8 hin, ← h2]
  refine hno j (Nat.lt_of_not_le fun q => ?_)
  have := els_mono q h1
  omega
section
attribute [local instance] wrI
theorem keepG {t : List Int} {k : Nat} {c : List Int} {B : List (List AV)} {R : Nat} (h0 : B[0]? = some [ls t .no]) (h1 : B[1]? = some [I k]) (h2 : B[2]? = some [fitV]) (h3 : B[3]? = some [rowV R c.length]) (h4 : B[4]? = some [selfV]) (h5 : ∃ d, B[5]? = some d) (h6 : ∃ cs1, B[R]? = some cs1 ∧ cs1.take c.length = ints c ∧ c.length ≤ cs1.length) (hR : 5 ≤ R) : KeepOk (fun i => if i = 6 then R else i) (bE t k c).length B (bF t k c) where
  n := by show 6 ≤ 7; omega
  id i hi := by
    have hi : i < 6 := hi
    simp only [show i ≠ 6 by omega, if_false]
  inj i j hi hj h := by
    have hi : i < 7 := hi
    have hj : j < 7 := hj
    by_cases c1 : i = 6 <;> by_cases c2 : j = 6
    · exact .inl (by omega)
    · simp only [c1, if_true, c2, if_false] at h
      have : j = 5 := by omega
      subst this
      exact .inr (.inr rfl)
    · simp only [c1, if_false, c2, if_true] at h
      have : i = 5 := by omega
      subst this
      exact .inr (.inl rfl)
    · simp only [c1, c2, if_false] at h
      exact .inl h
  cells i cs h := by
    match i, h with
    | 0, h => cases h; exact ⟨_, h0, Nat.le_refl _, .same (bnd_ls t)⟩
    | 1, h => cases h; exact ⟨_, h1, Nat.le_refl _, .same rfl⟩
    | 2, h => cases h; exact ⟨_, h2, Nat.le_refl _, .same rfl⟩
    | 3, h => cases h; exact ⟨_, h3, Nat.le_refl _, .cons (RV.row (R := 6) (by show 6 < 7; omega)) .nil⟩
    | 4, h => cases h; exact ⟨_, h4, Nat.le_refl _, .cons (RV.self (by show 5 ≤ 7; omega) fun i hi => by simp only [show i ≠ 6 by omega, if_false]) .nil⟩
    | 5, h =>
      cases h
      obtain ⟨d, hd⟩ := h5
      exact ⟨d, hd, Nat.zero_le _, by simp only [List.length_nil, List.take_zero]; exact .nil⟩
    | 6, h =>
      cases h
      obtain ⟨cs1, g1, g2, g3⟩ := h6
      refine ⟨cs1, g1, by simpa using g3, ?_⟩
      have e : cs1.take (ints c).length = ints c := by rw [ints_len]; exact g2
      rw [e]
      exact .same (bnd_ints c)
    | i + 7, h => simp at h
theorem bJ_row {t : List Int} {k : Nat} {b : List Int} {fr nx j : Nat} : ∃ cs1, (bJ t k b fr nx j)[Rj j]? = some cs1 ∧ cs1.take b.length = ints b ∧ b.length ≤ cs1.length := by
  match j with
  | 0 => exact ⟨ints b, rfl, List.take_of_length_le (by simp), by simp⟩
  | j + 1 =>
    have hz : Zj b nx (j + 1) = List.replicate (2 * j + 1) [] ++ [ints (b ++ [((el nx j : Nat) : Int)])] := by rw [Zj, if_neg (by omega)]; rfl
    have hx : ints (b ++ [((el nx j : Nat) : Int)]) = ints b ++ [I (el nx j : Nat)] := by simp [ints]
    refine ⟨ints (b ++ [((el nx j : Nat) : Int)]), ?_, by rw [hx, List.take_left' (by simp)], by simp⟩
    rw [Rj, if_neg (by omega), show 8 + 2 * (j + 1) = (2 * j + 1) + 9 by omega]
    show (Zj b nx (j + 1))[2 * j + 1]? = _
    rw [hz, List.getElem?_append_right (by simp)]; simp
theorem r94z (t : List Int) (k : Nat) (b : List Int) (fr nx : Nat) (hk : k = b.length) (hb : 0 < b.length) (h8 : b.length ≤ 8) : BodyO (EnO [c65.to]) M94 Tryd.f94 [I fr, I nx, .ptr 3 0, .ptr 1 0, .ptr 2 0, .ptr 4 0, .ptr 0 0] ⟨bE t k b, [], []⟩ (.bool true, ⟨bE t k b ++ [[I fr], [.bool true]], [], []⟩) := by
  subst hk
  have c0 : (b.length : Int) = (b.length : Int) := rfl
  have ev0 : IntKind.i64.wrap ((b.length : Int) - 1) = ((b.length - 1 : Nat) : Int) := by rw [wr _ (by omega) (by omega)]; omega
  have k1 : b.length - 1 < b.length := by omega
  refine bodyO_s ([Ans.o (Orc.b true), Ans.o (Orc.val 18 (AV.ptr 5 0) H.nil), Ans.o (Orc.val 19 (I (b.getD (0 : Nat) i0)) H.nil), Ans.o (Orc.val 22 (I (↑(b.length - (1 : Nat)) : Int)) H.nil), Ans.o (Orc.val 23 (AV.ptr 5 (b.length - (1 : Nat))) H.nil), Ans.o (Orc.val 24 (I (b.getD (b.length - (1 : Nat)) i0)) H.nil), Ans.o (Orc.val 25 (AV.bool true) (H.mk [[ls t Room.no], [I (↑b.length : Int)], [AV.fn (Fn.func (65 : FuncId)) [] []], [AV.msl 5 0 b.length (9223372036854775808 : Nat) (1 : Nat)], [AV.fn (Fn.func (94 : FuncId)) [] [AV.ptr 3 0, AV.ptr 1 0, AV.ptr 2 0, AV.ptr 4 0, AV.ptr 0 0]], ints b, [I (↑fr : Int)], [AV.bool false]] [] []))]) ((↑b.length : Int) = (↑b.length : Int) ∧ aIndexAddr Tryd.prog 22 (AV.msl 5 0 b.length (9223372036854775808 : Nat) (1 : Nat)) (I 0) = some (AV.ptr 5 0) ∧ aLoad Tryd.prog 3 (List.drop (0 : Nat) (ints b)) = some (I (b.getD (0 : Nat) i0)) ∧ aBin Tryd.prog BinOp.sub (3 : Nat) (I (↑b.length : Int)) (I 1) = some (I (↑(b.length - (1 : Nat)) : Int)) ∧ aIndexAddr Tryd.prog 22 (AV.msl 5 0 b.length (9223372036854775808 : Nat) (1 : Nat)) (I (↑(b.length - (1 : Nat)) : Int)) = some (AV.ptr 5 (b.length - (1 : Nat))) ∧ aLoad Tryd.prog 3 (List.drop (b.length - (1 : Nat)) (ints b)) = some (I (b.getD (b.length - (1 : Nat)) i0)) ∧ aCall (Sof [c65.to]) (AV.fn (Fn.func (65 : FuncId)) [] []) [I (b.getD (0 : Nat) i0), I (b.getD (b.length - (1 : Nat)) i0)] (H.mk [[ls t Room.no], [I (↑b.length : Int)], [AV.fn (Fn.func (65 : FuncId)) [] []], [AV.msl 5 0 b.length (9223372036854775808 : Nat) (1 : Nat)], [AV.fn (Fn.func (94 : FuncId)) [] [AV.ptr 3 0, AV.ptr 1 0, AV.ptr 2 0, AV.ptr 4 0, AV.ptr 0 0]], ints b, [I (↑fr : Int)], [AV.bool false]] [] []) = some (AV.bool true, H.mk [[ls t Room.no], [I (↑b.length : Int)], [AV.fn (Fn.func (65 : FuncId)) [] []], [AV.msl 5 0 b.length (9223372036854775808 : Nat) (1 : Nat)], [AV.fn (Fn.func (94 : FuncId)) [] [AV.ptr 3 0, AV.ptr 1 0, AV.ptr 2 0, AV.ptr 4 0, AV.ptr 0 0]], ints b, [I (↑fr : Int)], [AV.bool false]] [] []) ∧ (AV.bool true, H.mk [[ls t Room.no], [I (↑b.length : Int)], [AV.fn (Fn.func (65 : FuncId)) [] []], [AV.msl 5 0 b.length (9223372036854775808 : Nat) (1 : Nat)], [AV.fn (Fn.func (94 : FuncId)) [] [AV.ptr 3 0, AV.ptr 1 0, AV.ptr 2 0, AV.ptr 4 0, AV.ptr 0 0]], ints b, [I (↑fr : Int)], [AV.bool true]] [] []) = (AV.bool true, H.mk [[ls t Room.no], [I (↑b.length : Int)], [AV.fn (Fn.func (65 : FuncId)) [] []], [AV.msl 5 0 b.length (9223372036854775808 : Nat) (1 : Nat)], [AV.fn (Fn.func (94 : FuncId)) [] [AV.ptr 3 0, AV.ptr 1 0, AV.ptr 2 0, AV.ptr 4 0, AV.ptr 0 0]], ints b, [I (↑fr : Int)], [AV.bool true]] [] [])) (by kernel_rfl) ?_
  refine ⟨by first | with_reducible assumption | omega | assumption, ?_⟩
  refine ⟨by first | exact ixm0 (by kernel_rfl) k1 | exact ixm0 (by kernel_rfl) hb, ?_⟩
  refine ⟨by first | exact ldm_ints (by kernel_rfl) (by kernel_rfl) k1 | exact ldm_ints (by kernel_rfl) (by kernel_rfl) hb, ?_⟩
  refine ⟨told_sub (by with_reducible assumption), ?_⟩
  refine ⟨by first | exact ixm0 (by kernel_rfl) k1 | exact ixm0 (by kernel_rfl) hb, ?_⟩
  refine ⟨by first | exact ldm_ints (by kernel_rfl) (by kernel_rfl) k1 | exact ldm_ints (by kernel_rfl) (by kernel_rfl) hb, ?_⟩
  refine ⟨acall_hit (c := c65.to) (_, _) _ rfl trivial, ?_⟩
  rfl
theorem hWn_row {t : List Int} {k : Nat} {b : List Int} {fr nx j : Nat} {l : List Int} : (hWn t k b fr nx j l).blk[9 + 2 * j + 1]? = some (ints l) := by
  rw [show 9 + 2 * j + 1 = (2 * j + 1) + 9 by omega]
  show (List.replicate (9 + 2 * j + 1 - 9) ([] : List AV) ++ [ints l])[2 * j + 1]? = _
  rw [show 9 + 2 * j + 1 - 9 = 2 * j + 1 by omega, List.getElem?_append_right (by simp)]; simp
theorem take_ints (l : List Int) : (ints l).take l.length = ints l := List.take_of_length_le (by simp)
theorem all94 : ∀ f, Ok94 f
  | 0 => fun t k b fr nx h => by
    have hk : k = b.length := h.w.l.symm
    subst hk
    have hb : 0 < b.length := List.length_pos_iff.2 h.ne
    have e : exR t b 0 fr = some b := by rw [exR, wyM]; rfl
    rw [e]
    exact CallOkB.keep (keepG (t := t) (k := b.length) (c := b) (B := bE t b.length b ++ [[I fr], [.bool true]]) (R := 5) rfl rfl rfl rfl rfl ⟨_, rfl⟩ ⟨ints b, rfl, take_ints b, by simp⟩ (by omega)) (.same rfl) ((r94z t b.length b fr nx rfl hb h.w.k8).call ok94 (rests mixed (.pure c65 .nil)) rfl)
  | f + 1 => fun t k b fr nx h => by
    rcases first_of (fun j => exR t (b ++ [((el nx j : Nat) : Int)]) f (andn fr (2 ^ el nx j))) (pc nx) with hno | ⟨j0, l, h0, hyes, hno⟩
    · rw [h.allNo hno]
      exact CallOkB.keep (keepG (t := t) (k := k) (c := b) (B := bJ t k b fr nx (pc nx)) (R := Rj (pc nx)) rfl rfl rfl rfl rfl ⟨_, rfl⟩ bJ_row (by rw [Rj]; split <;> omega)) (.same rfl) ((r94n f (all94 f) t k b fr nx h hno).call ok94 (restsO mixed rfl (.eff d72 rfl .nil)) rfl)
    · rw [h.firstYes h0 hno hyes]
      exact CallOkB.keep (keepG (t := t) (k := k) (c := l) (B := (hWn t k b fr nx j0 l).blk) (R := 9 + 2 * j0 + 1) rfl rfl rfl rfl rfl ⟨_, rfl⟩ ⟨ints l, hWn_row, take_ints l, by simp⟩ (by omega)) (.same rfl) ((r94s f (all94 f) t k b fr nx j0 l h h0 hno hyes).call ok94 (restsO mixed rfl (.eff d72 rfl .nil)) rfl)
end
end Go.Proofs.Rnk

