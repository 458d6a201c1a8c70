/- Layer 2: how many ways there are, by the reference. -/
import Derived.Test.YtnnhomkkggkkfaaDoorRkAb
import Derived.Test.YtnnhomkkggkkfaaDoorRkY
import Derived.KernelRfl
set_option linter.unusedSimpArgs false
set_option linter.unusedVariables false
set_option linter.unnecessarySimpa false
set_option maxHeartbeats 4000000
set_option maxRecDepth 100000
namespace Go.Proofs.Rnk
open Go Go.VM
open Go.Proofs.Sur (andn andn_bit andn_le i_wrap i_and i_or i_xor i_andn i_shl i_shr bit_01)

/-- may a player come next? -/
def nxt (A : Nat → Nat) (fr : Int) (m i : Nat) : Bool := !m.testBit i && (decide (fr < 0) || (A fr.toNat).testBit i)
/-- how many ways go on, f players being left -/
def wsM (A : Nat → Nat) (n : Nat) : Nat → Int → Nat → Nat
  | 0, _, _ => 1
  | f + 1, fr, m => (List.range n).foldl (fun s i => s + (if nxt A fr m i then wsM A n f (i : Int) (m ||| 2 ^ i) else 0)) 0
def wsF (A : Nat → Nat) (n f : Nat) (fr : Int) (m : Nat) : Nat → Nat
  | 0 => 0
  | k + 1 => wsF A n f fr m k + (if nxt A fr m k then wsM A n f (k : Int) (m ||| 2 ^ k) else 0)
theorem wsF_fold {A : Nat → Nat} {n f : Nat} {fr : Int} {m : Nat} : ∀ k, (List.range k).foldl (fun s i => s + (if nxt A fr m i then wsM A n f (i : Int) (m ||| 2 ^ i) else 0)) 0 = wsF A n f fr m k
  | 0 => rfl
  | k + 1 => by rw [List.range_succ, List.foldl_append, wsF_fold k]; rfl
theorem wsM_go {A : Nat → Nat} {n f : Nat} {fr : Int} {m : Nat} : wsM A n (f + 1) fr m = wsF A n f fr m n := by rw [wsM, wsF_fold]
theorem wsM_le {A : Nat → Nat} {n : Nat} (hn : n ≤ 8) : ∀ (f : Nat) (fr : Int) (m : Nat), wsM A n f fr m ≤ 8 ^ f
  | 0, _, _ => Nat.le_refl _
  | f + 1, fr, m => by
    rw [wsM_go]
    have h : ∀ k, wsF A n f fr m k ≤ k * 8 ^ f := fun k => by
      induction k with
      | zero => simp [wsF]
      | succ k ih =>
        rw [wsF, Nat.succ_mul]
        have := wsM_le (A := A) hn f (k : Int) (m ||| 2 ^ k)
        split <;> omega
    have h1 := h n
    have h2 : n * 8 ^ f ≤ 8 * 8 ^ f := Nat.mul_le_mul_right _ hn
    rw [Nat.pow_succ]; omega
theorem wsF_le {A : Nat → Nat} {n f : Nat} {fr : Int} {m : Nat} (hn : n ≤ 8) : ∀ k, wsF A n f fr m k ≤ k * 8 ^ f
  | 0 => by simp [wsF]
  | k + 1 => by
    have ih := wsF_le (A := A) (f := f) (fr := fr) (m := m) hn k
    rw [wsF, Nat.succ_mul]
    have := wsM_le (A := A) hn f (k : Int) (m ||| 2 ^ k)
    split <;> omega
theorem pc_add {m q : Nat} (hm : m < 256) (hq : q < 8) (h : m.testBit q = false) : pc (m ||| 2 ^ q) = pc m + 1 := by
  have h1 := pc_and_add (a := 255) (m := m) (q := q) hq h
  have h2 : 2 ^ q < 2 ^ 8 := Nat.pow_lt_pow_right (by decide) hq
  have e : ∀ x, x < 256 → 255 &&& x = x := fun x hx => by
    rw [Nat.and_comm]
    have := Nat.and_two_pow_sub_one_eq_mod x 8
    rw [show 2 ^ 8 - 1 = 255 from rfl] at this
    rw [this]; exact Nat.mod_eq_of_lt hx
  have h3 : (255 : Nat).testBit q = true := by
    match q, hq with
    | 0, _ => rfl
    | 1, _ => rfl
    | 2, _ => rfl
    | 3, _ => rfl
    | 4, _ => rfl
    | 5, _ => rfl
    | 6, _ => rfl
    | 7, _ => rfl
    | q + 8, h => omega
  rw [e _ (Nat.or_lt_two_pow (n := 8) hm h2), e _ hm, h3] at h1
  exact h1
structure WsP (t : List Int) (r : Room) (fr : Int) (f m : Nat) : Prop where
  h : Tn t
  r : rok t r
  fb : -1 ≤ fr ∧ fr < (t.length : Int)
  mb : m < 2 ^ t.length
  p : pc m + f = t.length
theorem WsP.next {t : List Int} {r : Room} {fr : Int} {f m k : Nat} (p : WsP t r fr (f + 1) m) (hk : k < t.length) (hb : m.testBit k = false) : WsP t r (k : Int) f (m ||| 2 ^ k) where
  h := p.h
  r := p.r
  fb := by omega
  mb := Nat.or_lt_two_pow p.mb (Nat.pow_lt_pow_right (by decide) hk)
  p := by
    have h8 := p.h.s.2
    have := pow8 h8
    have := pc_add (m := m) (q := k) (by have := p.mb; omega) (by omega) hb
    have := p.p
    omega
def Ok53 (f : Nat) : Prop := ∀ (t : List Int) (r : Room) (fr : Int) (m : Nat), WsP t r fr f m → CallOk Tryd.prog 53 [ls t r, I fr, I m] .nil (I (wsM (sn t) t.length f fr m : Nat)) .nil
theorem ok53 : FokM Tryd.prog none1 53 Tryd.f53 := ⟨mixed, by kernel_rfl, by kernel_rfl, by kernel_rfl, by kernel_rfl⟩
noncomputable def c53 (f : Nat) (hok : Ok53 f) : PCtr Tryd.prog where
  f := 53
  X := (List Int × Room) × Int × Nat
  args x := [ls x.1.1 x.1.2, I x.2.1, I x.2.2]
  pre x := WsP x.1.1 x.1.2 x.2.1 f x.2.2
  v x := I (wsM (sn x.1.1) x.1.1.length f x.2.1 x.2.2 : Nat)
  det := by
    rintro ⟨⟨t, r⟩, a, m⟩ ⟨⟨t', r'⟩, a', m'⟩ e _ _
    simp only [List.cons.injEq, AV.sl.injEq, AV.int.injEq, and_true, true_and] at e
    obtain ⟨⟨e1, -⟩, e2, e3⟩ := e
    have e1 := ints_inj e1
    have e3 : m = m' := by omega
    subst e1 e2 e3; rfl
  ok := by
    rintro ⟨⟨t, r⟩, a, m⟩ p
    have p : WsP t r a f m := p
    refine ⟨ok53.call, fun H => CallOk.wk ?_⟩
    have := pure_call (hok t r.wk a m ⟨p.h, by simpa using p.r, p.fb, p.mb, p.p⟩) (by simp [AV.bnds, AV.bnd, rm_wk_bnd]) (by simp [AV.bnd]) H
    simp only [List.map_cons, List.map_nil, AV.wk]
    exact this
abbrev xS (t : List Int) (r : Room) (m k : Nat) : (List Int × Room) × Int × Nat := ((t, r), (k : Int), m ||| 2 ^ k)
theorem ct53 (f : Nat) (hok : Ok53 f) : Ctrs Tryd.prog none1 [(c53 f hok).to] := .pure _ .nil
abbrev o53 (t : List Int) (f : Nat) (fr : Int) (m : Nat) : List Out := [.mk Unit (.exit 0) [7] (fun _ => True) (fun _ => [I (wsF (sn t) t.length f fr m t.length : Nat)]) (fun _ => .nil) (fun _ => [])]
theorem simp53 : allSimpleM none1 (loopAt Tryd.f53 0) = true := by kernel_rfl
theorem lp53 (f : Nat) (hok : Ok53 f) (t : List Int) (r : Room) (fr : Int) (m : Nat) (p : WsP t r fr (f + 1) m) :
    LoopS (En6 [(c53 f hok).to]) (loopAt Tryd.f53 0) 50 [0, 1, 2, 7, 16, 17] [ls t r, I fr, I m, I 0, I t.length, I 0] .nil (o53 t f fr m) := by
  have hR : Rests (En6 [(c53 f hok).to]) none1 := rests mixed (ct53 f hok)
  have h := p.h
  have h8 := h.s.2
  have hr := p.r
  have hm : m < 256 := by have := p.mb; have := pow8 h8; omega
  have hf8 : f ≤ 7 := by have := p.p; omega
  have h88 : 8 ^ f ≤ 8 ^ 7 := Nat.pow_le_pow_right (by decide) hf8
  have hs8 : s8 ((m : Nat) : Int) := by simp only [s8]; omega
  refine loop_s hR simp53 none (by intro _ h; cases h) (fun k vs H => H = .nil ∧ vs = [ls t r, I fr, I m, I (wsF (sn t) t.length f fr m k : Nat), I t.length, I k]) t.length ⟨rfl, rfl⟩ (by intro _ h; cases h) ?_
  rintro k vs h' hk ⟨rfl, rfl⟩
  by_cases hz : (k : Int) < t.length
  · have hz' : k < t.length := by omega
    have ev0 := wj1 (j := k) (by omega)
    have hwl := wsF_le (A := sn t) (f := f) (fr := fr) (m := m) h8 k
    have hwk : k * 8 ^ f ≤ 8 * 8 ^ 7 := Nat.mul_le_mul (by omega) h88
    have hwm := wsM_le (A := sn t) h8 f (k : Int) (m ||| 2 ^ k)
    have ev4 := pw_shl (n := k) (by omega)
    have h2 : 2 ^ k < 2 ^ 8 := Nat.pow_lt_pow_right (by decide) (by omega)
    have ev5 : IntKind.i64.wrap ((BitVec.ofInt IntKind.i64.bits ((m : Nat) : Int) ||| BitVec.ofInt IntKind.i64.bits ((2 ^ k : Nat) : Int)).toNat : Int) = ((m ||| 2 ^ k : Nat) : Int) := i_or (by omega) (by omega)
    have ev6 : nxt (sn t) fr m k = true → IntKind.i64.wrap (((wsF (sn t) t.length f fr m k : Nat) : Int) + ((wsM (sn t) t.length f (k : Int) (m ||| 2 ^ k) : Nat) : Int)) = ((wsF (sn t) t.length f fr m (k + 1) : Nat) : Int) := fun e => by
      have e7 : (8 : Nat) ^ 7 = 2097152 := by decide
      rw [wsF, e, if_pos rfl, wr _ (by omega) (by omega)]; omega
    have ev7 : nxt (sn t) fr m k = false → wsF (sn t) t.length f fr m (k + 1) = wsF (sn t) t.length f fr m k := fun e => by rw [wsF, e]; rfl
    cases c : m.testBit k
    · have hnb : bi ((m : Nat) : Int) k = false := by simp only [bi, Int.toNat_natCast]; exact c
      obtain ⟨ev1, ev2⟩ := i_bit0 hs8 (show k ≤ 64 by omega) hnb
      have p53 : WsP t r (k : Int) f (m ||| 2 ^ k) := p.next hz' c
      by_cases cf : fr < 0
      · have ev6 := ev6 (by simp [nxt, c, cf])
        refine ⟨[Ans.o (Orc.b true), Ans.o (Orc.val 22 (I (↑((↑m : Int).toNat >>> k) : Int)) H.nil), Ans.o (Orc.val 23 (I 0) H.nil), Ans.o Orc.dflt, Ans.o (Orc.b true), Ans.o (Orc.val 44 (I (↑((2 : Nat) ^ k) : Int)) H.nil), Ans.o (Orc.val 45 (I (↑(m ||| (2 : Nat) ^ k) : Int)) H.nil), Ans.o (Orc.val 46 (I (↑(wsM (sn t) t.length f (↑k : Int) (m ||| (2 : Nat) ^ k)) : Int)) (H.mk [] [] [])), Ans.o (Orc.val 47 (I (↑(wsF (sn t) t.length f fr m (k + (1 : Nat))) : Int)) H.nil), Ans.o (Orc.val 48 (I (↑(k + (1 : Nat)) : Int)) H.nil)], fun u => of_eq ((↑k : Int) < (↑t.length : Int) ∧ aBin Tryd.prog BinOp.shr (3 : Nat) (I (↑m : Int)) (I (↑k : Int)) = some (I (↑((↑m : Int).toNat >>> k) : Int)) ∧ aBin Tryd.prog BinOp.and (3 : Nat) (I (↑((↑m : Int).toNat >>> k) : Int)) (I 1) = some (I 0) ∧ fr < (0 : Int) ∧ aBin Tryd.prog BinOp.shl (3 : Nat) (I 1) (I (↑k : Int)) = some (I (↑((2 : Nat) ^ k) : Int)) ∧ aBin Tryd.prog BinOp.or (3 : Nat) (I (↑m : Int)) (I (↑((2 : Nat) ^ k) : Int)) = some (I (↑(m ||| (2 : Nat) ^ k) : Int)) ∧ aCall (Sof [(c53 f hok).to]) (AV.fn (Fn.func (53 : Nat)) [] []) [AV.sl (ints t) t.length r, I (↑k : Int), I (↑(m ||| (2 : Nat) ^ k) : Int)] (H.mk [] [] []) = some (I (↑(wsM (sn t) t.length f (↑k : Int) (m ||| (2 : Nat) ^ k)) : Int), H.mk [] [] []) ∧ aBin Tryd.prog BinOp.add (3 : Nat) (I (↑(wsF (sn t) t.length f fr m k) : Int)) (I (↑(wsM (sn t) t.length f (↑k : Int) (m ||| (2 : Nat) ^ k)) : Int)) = some (I (↑(wsF (sn t) t.length f fr m (k + (1 : Nat))) : Int)) ∧ aBin Tryd.prog BinOp.add (3 : Nat) (I (↑k : Int)) (I 1) = some (I (↑(k + (1 : Nat)) : Int)) ∧ (50 : Nat) = (50 : Nat) ∧ k < t.length ∧ Keep (H.mk [] [] [] = H.mk [] [] [] ∧ [AV.sl (ints t) t.length r, I fr, I (↑m : Int), I (↑(wsF (sn t) t.length f fr m (k + (1 : Nat))) : Int), I (↑t.length : Int), I (↑(k + (1 : Nat)) : Int)] = [AV.sl (ints t) t.length r, I fr, I (↑m : Int), I (↑(wsF (sn t) t.length f fr m (k + (1 : Nat))) : Int), I (↑t.length : Int), I (↑(k + (1 : Nat)) : Int)])) (by kernel_rfl) ?_⟩
        refine ⟨by first | with_reducible assumption | omega | assumption, ?_⟩
        refine ⟨by first | exact told_shr (by first | exact Int.natCast_nonneg _ | omega) (by with_reducible assumption) | exact told_shr (by omega) rfl, ?_⟩
        refine ⟨told_and (by with_reducible assumption), ?_⟩
        refine ⟨by first | with_reducible assumption | omega | assumption, ?_⟩
        refine ⟨by first | exact told_shl (by first | exact Int.natCast_nonneg _ | omega) (by with_reducible assumption) | exact told_shl (by omega) rfl, ?_⟩
        refine ⟨told_or (by with_reducible assumption), ?_⟩
        refine ⟨acall_hit (c := (c53 f hok).to) (xS t r m k) _ rfl p53, ?_⟩
        refine ⟨told_add (by with_reducible assumption), ?_⟩
        refine ⟨told_add (by with_reducible assumption), ?_⟩
        refine ⟨by first | with_reducible assumption | omega | assumption, ?_⟩
        refine ⟨by first | with_reducible assumption | omega | assumption, ?_⟩
        exact ⟨rfl, rfl⟩
      · have cf : 0 ≤ fr := by omega
        have d1 := p.fb.2
        have d2 : fr.toNat < t.length := by omega
        have hri := rok_idx hr d2
        have hl8 := h.s8 fr.toNat
        have hfr : ¬ fr < 0 := by omega
        cases c2 : (sn t fr.toNat).testBit k
        · have hnb2 : bi (ia t fr.toNat) k = false := c2
          obtain ⟨ev8, ev9⟩ := i_bit0 hl8 (show k ≤ 64 by omega) hnb2
          have e1 := ev7 (by simp [nxt, c, c2, hfr])
          refine ⟨[Ans.o (Orc.b true), Ans.o (Orc.val 22 (I (↑((↑m : Int).toNat >>> k) : Int)) H.nil), Ans.o (Orc.val 23 (I 0) H.nil), Ans.o Orc.dflt, Ans.o (Orc.b false), Ans.o (Orc.val 31 (AV.cptr (ints (List.drop fr.toNat t))) H.nil), Ans.o (Orc.val 32 (I (t.getD fr.toNat i0)) H.nil), Ans.o (Orc.val 34 (I (↑((ia t fr.toNat).toNat >>> k) : Int)) H.nil), Ans.o (Orc.val 35 (I 0) H.nil), Ans.o Orc.dflt, Ans.o (Orc.val 48 (I (↑(k + (1 : Nat)) : Int)) H.nil)], fun u => of_eq ((↑k : Int) < (↑t.length : Int) ∧ aBin Tryd.prog BinOp.shr (3 : Nat) (I (↑m : Int)) (I (↑k : Int)) = some (I (↑((↑m : Int).toNat >>> k) : Int)) ∧ aBin Tryd.prog BinOp.and (3 : Nat) (I (↑((↑m : Int).toNat >>> k) : Int)) (I 1) = some (I 0) ∧ (0 : Int) ≤ fr ∧ aIndexAddr Tryd.prog (22 : Nat) (AV.sl (ints t) t.length r) (I fr) = some (AV.cptr (ints (List.drop fr.toNat t))) ∧ aLoad Tryd.prog (3 : Nat) (ints (List.drop fr.toNat t)) = some (I (t.getD fr.toNat i0)) ∧ aBin Tryd.prog BinOp.shr (3 : Nat) (I (t.getD fr.toNat i0)) (I (↑k : Int)) = some (I (↑((ia t fr.toNat).toNat >>> k) : Int)) ∧ aBin Tryd.prog BinOp.and (3 : Nat) (I (↑((ia t fr.toNat).toNat >>> k) : Int)) (I 1) = some (I 0) ∧ aBin Tryd.prog BinOp.add (3 : Nat) (I (↑k : Int)) (I 1) = some (I (↑(k + (1 : Nat)) : Int)) ∧ (50 : Nat) = (50 : Nat) ∧ k < t.length ∧ Keep (H.mk [] [] [] = H.mk [] [] [] ∧ [AV.sl (ints t) t.length r, I fr, I (↑m : Int), I (↑(wsF (sn t) t.length f fr m k) : Int), I (↑t.length : Int), I (↑(k + (1 : Nat)) : Int)] = [AV.sl (ints t) t.length r, I fr, I (↑m : Int), I (↑(wsF (sn t) t.length f fr m (k + (1 : Nat))) : Int), I (↑t.length : Int), I (↑(k + (1 : Nat)) : Int)])) (by kernel_rfl) ?_⟩
          refine ⟨by first | with_reducible assumption | omega | assumption, ?_⟩
          refine ⟨by first | exact told_shr (by first | exact Int.natCast_nonneg _ | omega) (by with_reducible assumption) | exact told_shr (by omega) rfl, ?_⟩
          refine ⟨told_and (by with_reducible assumption), ?_⟩
          refine ⟨by first | with_reducible assumption | omega | assumption, ?_⟩
          refine ⟨ix_intsI (by kernel_rfl) cf d1 hri, ?_⟩
          refine ⟨ld_ints (by kernel_rfl) (by kernel_rfl) d2, ?_⟩
          refine ⟨by first | exact told_shr (by first | exact Int.natCast_nonneg _ | omega) (by with_reducible assumption) | exact told_shr (by omega) rfl, ?_⟩
          refine ⟨told_and (by with_reducible assumption), ?_⟩
          refine ⟨told_add (by with_reducible assumption), ?_⟩
          refine ⟨by first | with_reducible assumption | omega | assumption, ?_⟩
          refine ⟨by first | with_reducible assumption | omega | assumption, ?_⟩
          exact ⟨rfl, by rw [e1]⟩
        · have hnb2 : bi (ia t fr.toNat) k = true := c2
          obtain ⟨ev8, ev9⟩ := i_bit1 hl8 (show k ≤ 64 by omega) hnb2
          have ev6 := ev6 (by simp [nxt, c, c2])
          refine ⟨[Ans.o (Orc.b true), Ans.o (Orc.val 22 (I (↑((↑m : Int).toNat >>> k) : Int)) H.nil), Ans.o (Orc.val 23 (I 0) H.nil), Ans.o Orc.dflt, Ans.o (Orc.b false), Ans.o (Orc.val 31 (AV.cptr (ints (List.drop fr.toNat t))) H.nil), Ans.o (Orc.val 32 (I (t.getD fr.toNat i0)) H.nil), Ans.o (Orc.val 34 (I (↑((ia t fr.toNat).toNat >>> k) : Int)) H.nil), Ans.o (Orc.val 35 (I 1) H.nil), Ans.o Orc.dflt, Ans.o (Orc.val 44 (I (↑((2 : Nat) ^ k) : Int)) H.nil), Ans.o (Orc.val 45 (I (↑(m ||| (2 : Nat) ^ k) : Int)) H.nil), Ans.o (Orc.val 46 (I (↑(wsM (sn t) t.length f (↑k : Int) (m ||| (2 : Nat) ^ k)) : Int)) (H.mk [] [] [])), Ans.o (Orc.val 47 (I (↑(wsF (sn t) t.length f fr m (k + (1 : Nat))) : Int)) H.nil), Ans.o (Orc.val 48 (I (↑(k + (1 : Nat)) : Int)) H.nil)], fun u => of_eq ((↑k : Int) < (↑t.length : Int) ∧ aBin Tryd.prog BinOp.shr (3 : Nat) (I (↑m : Int)) (I (↑k : Int)) = some (I (↑((↑m : Int).toNat >>> k) : Int)) ∧ aBin Tryd.prog BinOp.and (3 : Nat) (I (↑((↑m : Int).toNat >>> k) : Int)) (I 1) = some (I 0) ∧ (0 : Int) ≤ fr ∧ aIndexAddr Tryd.prog (22 : Nat) (AV.sl (ints t) t.length r) (I fr) = some (AV.cptr (ints (List.drop fr.toNat t))) ∧ aLoad Tryd.prog (3 : Nat) (ints (List.drop fr.toNat t)) = some (I (t.getD fr.toNat i0)) ∧ aBin Tryd.prog BinOp.shr (3 : Nat) (I (t.getD fr.toNat i0)) (I (↑k : Int)) = some (I (↑((ia t fr.toNat).toNat >>> k) : Int)) ∧ aBin Tryd.prog BinOp.and (3 : Nat) (I (↑((ia t fr.toNat).toNat >>> k) : Int)) (I 1) = some (I 1) ∧ aBin Tryd.prog BinOp.shl (3 : Nat) (I 1) (I (↑k : Int)) = some (I (↑((2 : Nat) ^ k) : Int)) ∧ aBin Tryd.prog BinOp.or (3 : Nat) (I (↑m : Int)) (I (↑((2 : Nat) ^ k) : Int)) = some (I (↑(m ||| (2 : Nat) ^ k) : Int)) ∧ aCall (Sof [(c53 f hok).to]) (AV.fn (Fn.func (53 : Nat)) [] []) [AV.sl (ints t) t.length r, I (↑k : Int), I (↑(m ||| (2 : Nat) ^ k) : Int)] (H.mk [] [] []) = some (I (↑(wsM (sn t) t.length f (↑k : Int) (m ||| (2 : Nat) ^ k)) : Int), H.mk [] [] []) ∧ aBin Tryd.prog BinOp.add (3 : Nat) (I (↑(wsF (sn t) t.length f fr m k) : Int)) (I (↑(wsM (sn t) t.length f (↑k : Int) (m ||| (2 : Nat) ^ k)) : Int)) = some (I (↑(wsF (sn t) t.length f fr m (k + (1 : Nat))) : Int)) ∧ aBin Tryd.prog BinOp.add (3 : Nat) (I (↑k : Int)) (I 1) = some (I (↑(k + (1 : Nat)) : Int)) ∧ (50 : Nat) = (50 : Nat) ∧ k < t.length ∧ Keep (H.mk [] [] [] = H.mk [] [] [] ∧ [AV.sl (ints t) t.length r, I fr, I (↑m : Int), I (↑(wsF (sn t) t.length f fr m (k + (1 : Nat))) : Int), I (↑t.length : Int), I (↑(k + (1 : Nat)) : Int)] = [AV.sl (ints t) t.length r, I fr, I (↑m : Int), I (↑(wsF (sn t) t.length f fr m (k + (1 : Nat))) : Int), I (↑t.length : Int), I (↑(k + (1 : Nat)) : Int)])) (by kernel_rfl) ?_⟩
          refine ⟨by first | with_reducible assumption | omega | assumption, ?_⟩
          refine ⟨by first | exact told_shr (by first | exact Int.natCast_nonneg _ | omega) (by with_reducible assumption) | exact told_shr (by omega) rfl, ?_⟩
          refine ⟨told_and (by with_reducible assumption), ?_⟩
          refine ⟨by first | with_reducible assumption | omega | assumption, ?_⟩
          refine ⟨ix_intsI (by kernel_rfl) cf d1 hri, ?_⟩
          refine ⟨ld_ints (by kernel_rfl) (by kernel_rfl) d2, ?_⟩
          refine ⟨by first | exact told_shr (by first | exact Int.natCast_nonneg _ | omega) (by with_reducible assumption) | exact told_shr (by omega) rfl, ?_⟩
          refine ⟨told_and (by with_reducible assumption), ?_⟩
          refine ⟨by first | exact told_shl (by first | exact Int.natCast_nonneg _ | omega) (by with_reducible assumption) | exact told_shl (by omega) rfl, ?_⟩
          refine ⟨told_or (by with_reducible assumption), ?_⟩
          refine ⟨acall_hit (c := (c53 f hok).to) (xS t r m k) _ rfl p53, ?_⟩
          refine ⟨told_add (by with_reducible assumption), ?_⟩
          refine ⟨told_add (by with_reducible assumption), ?_⟩
          refine ⟨by first | with_reducible assumption | omega | assumption, ?_⟩
          refine ⟨by first | with_reducible assumption | omega | assumption, ?_⟩
          exact ⟨rfl, rfl⟩
    · have hnb : bi ((m : Nat) : Int) k = true := by simp only [bi, Int.toNat_natCast]; exact c
      obtain ⟨ev1, ev2⟩ := i_bit1 hs8 (show k ≤ 64 by omega) hnb
      have e1 := ev7 (by simp [nxt, c])
      refine ⟨[Ans.o (Orc.b true), Ans.o (Orc.val 22 (I (↑((↑m : Int).toNat >>> k) : Int)) H.nil), Ans.o (Orc.val 23 (I 1) H.nil), Ans.o Orc.dflt, Ans.o (Orc.val 48 (I (↑(k + (1 : Nat)) : Int)) H.nil)], fun u => of_eq ((↑k : Int) < (↑t.length : Int) ∧ aBin Tryd.prog BinOp.shr (3 : Nat) (I (↑m : Int)) (I (↑k : Int)) = some (I (↑((↑m : Int).toNat >>> k) : Int)) ∧ aBin Tryd.prog BinOp.and (3 : Nat) (I (↑((↑m : Int).toNat >>> k) : Int)) (I 1) = some (I 1) ∧ aBin Tryd.prog BinOp.add (3 : Nat) (I (↑k : Int)) (I 1) = some (I (↑(k + (1 : Nat)) : Int)) ∧ (50 : Nat) = (50 : Nat) ∧ k < t.length ∧ Keep (H.mk [] [] [] = H.mk [] [] [] ∧ [AV.sl (ints t) t.length r, I fr, I (↑m : Int), I (↑(wsF (sn t) t.length f fr m k) : Int), I (↑t.length : Int), I (↑(k + (1 : Nat)) : Int)] = [AV.sl (ints t) t.length r, I fr, I (↑m : Int), I (↑(wsF (sn t) t.length f fr m (k + (1 : Nat))) : Int), I (↑t.length : Int), I (↑(k + (1 : Nat)) : Int)])) (by kernel_rfl) ?_⟩
      refine ⟨by first | with_reducible assumption | omega | assumption, ?_⟩
      refine ⟨by first | exact told_shr (by first | exact Int.natCast_nonneg _ | omega) (by with_reducible assumption) | exact told_shr (by omega) rfl, ?_⟩
      refine ⟨told_and (by with_reducible assumption), ?_⟩
      refine ⟨told_add (by with_reducible assumption), ?_⟩
      refine ⟨by first | with_reducible assumption | omega | assumption, ?_⟩
      refine ⟨by first | with_reducible assumption | omega | assumption, ?_⟩
      exact ⟨rfl, by rw [e1]⟩
  · have hz : (t.length : Int) ≤ k := by omega
    have e : k = t.length := by omega
    subst e
    refine ⟨[Ans.o (Orc.b false)], fun u => of_eq ((↑t.length : Int) ≤ (↑t.length : Int) ∧ (50 : Nat) = (50 : Nat) ∧ hits [Out.mk Unit (AX.exit (0 : Nat)) [(7 : Nat)] (fun x => True) (fun x => [I (↑(wsF (sn t) t.length f fr m t.length) : Int)]) (fun x => H.nil) fun x => []] (AX.exit (0 : Nat)) [AV.sl (ints t) t.length r, I fr, I (↑m : Int), u (3 : Nat), u (4 : Nat), u (5 : Nat), u (6 : Nat), I (↑(wsF (sn t) t.length f fr m t.length) : Int), u (8 : Nat), u (9 : Nat), u (10 : Nat), u (11 : Nat), u (12 : Nat), u (13 : Nat), u (14 : Nat), u (15 : Nat), I (↑t.length : Int), I (↑t.length : Int), AV.bool false, u (19 : Nat), u (20 : Nat), u (21 : Nat), u (22 : Nat), u (23 : Nat), u (24 : Nat), u (25 : Nat), u (26 : Nat), u (27 : Nat), u (28 : Nat), u (29 : Nat), u (30 : Nat), u (31 : Nat), u (32 : Nat), u (33 : Nat), u (34 : Nat), u (35 : Nat), u (36 : Nat), u (37 : Nat), u (38 : Nat), u (39 : Nat), u (40 : Nat), u (41 : Nat), u (42 : Nat), u (43 : Nat), u (44 : Nat), u (45 : Nat), u (46 : Nat), u (47 : Nat), u (48 : Nat), u (49 : Nat)] (H.mk [] [] [])) (by kernel_rfl) ?_⟩
    refine ⟨by first | with_reducible assumption | omega | assumption, ?_⟩
    refine ⟨by first | with_reducible assumption | omega | assumption, ?_⟩
    exact .inl ⟨(), trivial, rfl, rfl, rfl⟩
theorem pc_full : ∀ n, n < 9 → ∀ m, m < 256 → m < 2 ^ n → pc m = n → m = alls n := by decide +kernel
theorem r53z (t : List Int) (r : Room) (fr : Int) (h8 : t.length ≤ 8) : Body (En6 []) none1 Tryd.f53 [ls t r, I fr, I (alls t.length : Nat)] .nil (I 1, .nil) := by
  have ev1 := pw_shl (n := t.length) (by omega)
  have ev2 := pw_alls h8
  have c0 : ((alls t.length : Nat) : Int) = ((alls t.length : Nat) : Int) := rfl
  refine body_s ([Ans.o (Orc.val 12 (I (↑((2 : Nat) ^ t.length) : Int)) H.nil), Ans.o (Orc.val 13 (I (↑(alls t.length) : Int)) H.nil), Ans.o (Orc.b true)]) (aBin Tryd.prog BinOp.shl (3 : Nat) (I 1) (I (↑t.length : Int)) = some (I (↑((2 : Nat) ^ t.length) : Int)) ∧ aBin Tryd.prog BinOp.sub (3 : Nat) (I (↑((2 : Nat) ^ t.length) : Int)) (I 1) = some (I (↑(alls t.length) : Int)) ∧ (↑(alls t.length) : Int) = (↑(alls t.length) : Int) ∧ (I 1, H.mk [] [] []) = (I 1, H.mk [] [] [])) (by kernel_rfl) ?_
  refine ⟨by first | exact told_shl (by first | exact Int.natCast_nonneg _ | omega) (by with_reducible assumption) | exact told_shl (by omega) rfl, ?_⟩
  refine ⟨told_sub (by with_reducible assumption), ?_⟩
  refine ⟨by first | with_reducible assumption | omega | assumption, ?_⟩
  first | with_reducible rfl | (refine bleaf_t ?_; omega) | (refine bleaf_f ?_; omega) | (refine ileaf ?_; omega) | rfl | (exfalso; omega)
theorem r53 (f : Nat) (hok : Ok53 f) (t : List Int) (r : Room) (fr : Int) (m : Nat) (p : WsP t r fr (f + 1) m) : Body (En6 [(c53 f hok).to]) none1 Tryd.f53 [ls t r, I fr, I m] .nil (I (wsF (sn t) t.length f fr m t.length : Nat), .nil) := by
  have h8 := p.h.s.2
  have ev1 := pw_shl (n := t.length) (by omega)
  have ev2 := pw_alls h8
  have hne : m ≠ alls t.length := fun e => by
    have h1 := p.p
    rw [e, pc_allsY _ (by omega)] at h1
    omega
  have c0 : ((m : Nat) : Int) ≠ ((alls t.length : Nat) : Int) := by omega
  have lp := lp53 f hok t r fr m p
  refine body_s ([Ans.o (Orc.val 12 (I (↑((2 : Nat) ^ t.length) : Int)) H.nil), Ans.o (Orc.val 13 (I (↑(alls t.length) : Int)) H.nil), Ans.o (Orc.b false), Ans.loop [(0 : Nat), (1 : Nat), (2 : Nat), (7 : Nat), (16 : Nat), (17 : Nat)] [Out.mk Unit (AX.exit (0 : Nat)) [(7 : Nat)] (fun x => True) (fun x => [I (↑(wsF (sn t) t.length f fr m t.length) : Int)]) (fun x => H.nil) fun y => []]]) (aBin Tryd.prog BinOp.shl (3 : Nat) (I 1) (I (↑t.length : Int)) = some (I (↑((2 : Nat) ^ t.length) : Int)) ∧ aBin Tryd.prog BinOp.sub (3 : Nat) (I (↑((2 : Nat) ^ t.length) : Int)) (I 1) = some (I (↑(alls t.length) : Int)) ∧ (↑m : Int) ≠ (↑(alls t.length) : Int) ∧ LoopS (Env.mk Tryd.prog (Sof [(c53 f hok).to]) (Pof (P := Tryd.prog) []) H.nil.base (300 : Nat)) (loopAt Tryd.f53 (0 : Nat)) (50 : Nat) [(0 : Nat), (1 : Nat), (2 : Nat), (7 : Nat), (16 : Nat), (17 : Nat)] [AV.sl (ints t) t.length r, I fr, I (↑m : Int), I 0, I (↑t.length : Int), I 0] (H.mk [] [] []) [Out.mk Unit (AX.exit (0 : Nat)) [(7 : Nat)] (fun x => True) (fun x => [I (↑(wsF (sn t) t.length f fr m t.length) : Int)]) (fun x => H.nil) fun y => []] ∧ (∀ (y : Unit), True → ∀ (u : Nat → AV), (I (↑(wsF (sn t) t.length f fr m t.length) : Int), H.mk [] [] []) = (I (↑(wsF (sn t) t.length f fr m t.length) : Int), H.mk [] [] [])) ∧ True) (by kernel_rfl) ?_
  refine ⟨by first | exact told_shl (by first | exact Int.natCast_nonneg _ | omega) (by with_reducible assumption) | exact told_shl (by omega) rfl, ?_⟩
  refine ⟨told_sub (by with_reducible assumption), ?_⟩
  refine ⟨by first | with_reducible assumption | omega | assumption, ?_⟩
  refine ⟨lp, ?_⟩
  refine And.intro ?_ ?_
  · skip
    intro y
    intro w1
    intro u
    first | with_reducible rfl | (refine bleaf_t ?_; omega) | (refine bleaf_f ?_; omega) | (refine ileaf ?_; omega) | rfl | (exfalso; omega)
  · skip
    trivial
theorem all53 : ∀ f, Ok53 f
  | 0 => fun t r fr m p => by
    have h8 := p.h.s.2
    have := pow8 h8
    have e := pc_full t.length (by omega) m (by have := p.mb; omega) p.mb p.p
    subst e
    exact (r53z t r fr h8).run ok53 .nil rfl
  | f + 1 => fun t r fr m p => by
    rw [wsM_go]
    exact (r53 f (all53 f) t r fr m p).run ok53 (ct53 f (all53 f)) rfl
/-- all ways of a tournament -/
abbrev waysR (t : List Int) : Nat := wsM (sn t) t.length t.length (-1) 0
noncomputable def c53a : PCtr Tryd.prog where
  f := 53
  X := List Int × Room
  args x := [ls x.1 x.2, I (-1), I 0]
  pre x := Tn x.1 ∧ rok x.1 x.2
  v x := I (waysR x.1 : Nat)
  det := by
    rintro ⟨t, r⟩ ⟨t', r'⟩ e _ _
    simp only [List.cons.injEq, AV.sl.injEq, and_true] at e
    have e1 := ints_inj e.1
    subst e1; rfl
  ok := by
    rintro ⟨t, r⟩ ⟨h, hr⟩
    have h : Tn t := h
    have p0 : pc 0 = 0 := by decide
    have p : WsP t r (-1) t.length 0 := ⟨h, hr, ⟨by omega, by have := h.s.1; omega⟩, Nat.two_pow_pos _, by omega⟩
    exact (c53 t.length (all53 t.length)).ok ((t, r), -1, 0) p
end Go.Proofs.Rnk

