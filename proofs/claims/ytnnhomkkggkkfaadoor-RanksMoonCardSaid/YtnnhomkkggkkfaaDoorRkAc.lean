/- Layer 2: the parts, by the program. -/
import Derived.Test.YtnnhomkkggkkfaaDoorRkZ
import Derived.Test.YtnnhomkkggkkfaaDoorRkAa
import Derived.Test.YtnnhomkkggkkfaaDoorVm9
import Derived.KernelRfl
set_option linter.unusedSimpArgs false
set_option linter.unusedVariables false
set_option linter.unnecessarySimpa false
set_option maxHeartbeats 4000000
set_option maxRecDepth 100000
namespace Go.Proofs.Rnk
open Go Go.VM
open Go.Proofs.Sur (andn andn_bit andn_le i_wrap i_and i_or i_andn i_shl i_shr bit_01)

def pk (t : List Int) (S : Nat) : Nat → Nat
  | 0 => 0
  | j + 1 => if rch t (el S j) = S then pk t S j ||| 2 ^ (el S j) else pk t S j
theorem pk_lt {t : List Int} {S : Nat} : ∀ {j}, j ≤ pc S → pk t S j < 256
  | 0, _ => by simp [pk]
  | j + 1, h => by
    have ih := @pk_lt t S j (by omega)
    simp only [pk]
    split
    · exact Nat.or_lt_two_pow (n := 8) ih (Nat.pow_lt_pow_right (by decide) (el_mem (by omega)).2)
    · exact ih
theorem pk_bit {t : List Int} {S b : Nat} : ∀ j, (pk t S j).testBit b = true ↔ ∃ i, i < j ∧ el S i = b ∧ rch t b = S
  | 0 => by simp [pk]
  | j + 1 => by
    have ih := @pk_bit t S b j
    simp only [pk]
    split
    · rename_i c
      rw [Nat.testBit_or, Nat.testBit_two_pow, Bool.or_eq_true, decide_eq_true_eq, ih]
      constructor
      · rintro (⟨i, h, k⟩ | h)
        · exact ⟨i, by omega, k⟩
        · exact ⟨j, by omega, h, by rw [← h]; exact c⟩
      · rintro ⟨i, h, k1, k2⟩
        rcases Nat.lt_or_ge i j with w | w
        · exact .inl ⟨i, w, k1, k2⟩
        · have : i = j := by omega
          subst this; exact .inr k1
    · rename_i c
      rw [ih]
      constructor
      · rintro ⟨i, h, k⟩; exact ⟨i, by omega, k⟩
      · rintro ⟨i, h, k1, k2⟩
        rcases Nat.lt_or_ge i j with w | w
        · exact ⟨i, w, k1, k2⟩
        · have : i = j := by omega
          subst this; exact absurd (by rw [k1]; exact k2) c
theorem pk_pp {t : List Int} (h : Tn t) (k : Nat) : pk t (rst t k) (pc (rst t k)) = pp t (rst t k) := by
  have h8 := h.s.2
  apply Nat.eq_of_testBit_eq; intro b
  have h1 := @pk_bit t (rst t k) b (pc (rst t k))
  have h2 := @pA_bit t (rst t k) b t.length
  have : (pk t (rst t k) (pc (rst t k))).testBit b = true ↔ (pp t (rst t k)).testBit b = true := by
    rw [h1, h2]
    constructor
    · rintro ⟨i, hi, e, q⟩
      have hm := (el_mem hi).1
      rw [e] at hm
      exact ⟨rst_in h k b hm, hm, (inp_eq h hm).2 q⟩
    · rintro ⟨hb, hm, q⟩
      obtain ⟨i, hi, e⟩ := el_of (s := rst t k) (e := b) (by omega) hm
      exact ⟨i, hi, e, (inp_eq h hm).1 q⟩
  cases c : (pk t (rst t k) (pc (rst t k))).testBit b <;> cases d : (pp t (rst t k)).testBit b <;> simp_all
abbrev rB (t : List Int) : List AV := [.sl (ints (rws t)) t.length .no]
noncomputable abbrev cs33 : List (Ctr Tryd.prog) := [c56.to, c71.to, c70.to, c72]
theorem ct33 : Ctrs Tryd.prog M72 cs33 := .pure _ (.pure _ (.pure _ (.eff c72 rfl .nil)))
theorem simp33 : allSimpleM M72 (rangeBody (rangeAt Tryd.f33 0)) = true := by kernel_rfl
theorem simp33a : allSimpleM M72 (loopAt Tryd.f33 0) = true := by kernel_rfl

abbrev h33_0 (t : List Int) (T : List Nat) (S : Nat) (j : Nat) : H := ⟨[rB t, [I (S : Nat)], [I (pk t S j : Nat)], [I (drop1 S j : Nat)]], T, []⟩
abbrev o33_0 (t : List Int) (L : AV) (T : List Nat) (S : Nat) : List Out := [.mk Unit .normal [4, 5, 6, 7] (fun _ => True) (fun _ => [.ptr 0 0, L, .ptr 1 0, .ptr 2 0]) (fun _ => h33_0 t T S (pc S)) (fun _ => [])]
theorem lp33_0 (t : List Int) (L : AV) (T : List Nat) (h : Tn t) (S : Nat) (hS : S < 256) (hin : ∀ b, S.testBit b = true → b < t.length) :
    RangeS (En6 cs33) (rangeAt Tryd.f33 0) 40 [4, 5, 6, 7, 19] [.ptr 0 0, L, .ptr 1 0, .ptr 2 0, .fn (.func 95) [] [.ptr 3 0]] (h33_0 t T S 0) (o33_0 t L T S) := by
  have hRs : Rests (En6 cs33) M72 := rests mixed ct33
  have h8 := h.s.2
  refine range_at hRs (by kernel_rfl) simp33 (players_it (p := Pof (P := Tryd.prog) []) (b := 3) (s := S) hS rfl) (fun u => rfl) (fun k => rfl) none (by intro nb h; cases h) (fun k h => h = h33_0 t T S k) rfl (by intro nb h; cases h) ?_ ?_
  · rintro k _ hk hown rfl
    have hm := el_mem hk
    have hl := hin _ hm.1
    have hpk := @pk_lt t S k (by omega)
    have ev1 := pw_shl (n := el S k) (by omega)
    have h2 : 2 ^ el S k < 2 ^ 8 := Nat.pow_lt_pow_right (by decide) (by omega)
    have ev2 := i_or (a := pk t S k) (b := 2 ^ el S k) (by omega) (by omega)
    have hg : (rws t).getD (el S k) i0 = ((rch t (el S k) : Nat) : Int) := wl_get _ hl
    by_cases c : rch t (el S k) = S
    · have hc : (rws t).getD (el S k) i0 = ((S : Nat) : Int) := by rw [hg, c]
      have hk' : pk t S (k + 1) = pk t S k ||| 2 ^ el S k := by simp only [pk]; rw [if_pos c]
      refine ⟨[Ans.o (Orc.val 23 (AV.cptr (ints (List.drop (el S k) (rws t)))) H.nil), Ans.o (Orc.val 24 (I ((rws t).getD (el S k) i0)) H.nil), Ans.o (Orc.b true), Ans.o (Orc.val 29 (I (↑((2 : Nat) ^ el S k) : Int)) H.nil), Ans.o (Orc.val 30 (I (↑(pk t S k ||| (2 : Nat) ^ el S k) : Int)) H.nil)], fun u => of_eq (aIndexAddr Tryd.prog 22 (AV.sl (ints (rws t)) t.length Room.no) (I (↑(el S k) : Int)) = some (AV.cptr (ints (List.drop (el S k) (rws t)))) ∧ aLoad Tryd.prog 3 (ints (List.drop (el S k) (rws t))) = some (I ((rws t).getD (el S k) i0)) ∧ (rws t).getD (el S k) i0 = (↑S : Int) ∧ aBin Tryd.prog BinOp.shl (3 : Nat) (I 1) (I (↑(el S k) : Int)) = some (I (↑((2 : Nat) ^ el S k) : Int)) ∧ aBin Tryd.prog BinOp.or (3 : Nat) (I (↑(pk t S k) : Int)) (I (↑((2 : Nat) ^ el S k) : Int)) = some (I (↑(pk t S k ||| (2 : Nat) ^ el S k) : Int)) ∧ True ∧ Keep (pown (3 : Nat) S k (H.mk [[AV.sl (ints (rws t)) t.length Room.no], [I (↑S : Int)], [I (↑(pk t S k ||| (2 : Nat) ^ el S k) : Int)], [I (↑(drop1 S k) : Int)]] T []) ∧ H.mk [[AV.sl (ints (rws t)) t.length Room.no], [I (↑S : Int)], [I (↑(pk t S k ||| (2 : Nat) ^ el S k) : Int)], [I (↑(drop1 S (k + (1 : Nat))) : Int)]] T [] = H.mk [[AV.sl (ints (rws t)) t.length Room.no], [I (↑S : Int)], [I (↑(pk t S (k + (1 : Nat))) : Int)], [I (↑(drop1 S (k + (1 : Nat))) : Int)]] T [])) (by kernel_rfl) ?_⟩
      refine ⟨ix_ints (by kernel_rfl) hl (by decide), ?_⟩
      refine ⟨ld_ints (by kernel_rfl) (by kernel_rfl) (by rw [wl_len]; exact hl), ?_⟩
      refine ⟨by first | with_reducible assumption | omega | assumption, ?_⟩
      refine ⟨by first | exact told_shl (by first | exact Int.natCast_nonneg _ | omega) (by with_reducible assumption) | exact told_shl (by omega) rfl, ?_⟩
      refine ⟨told_or (by with_reducible assumption), ?_⟩
      refine ⟨by trivial, ?_⟩
      (rw [hk']; exact ⟨rfl, rfl⟩)
    · have hc : (rws t).getD (el S k) i0 ≠ ((S : Nat) : Int) := fun e => c (by rw [hg] at e; omega)
      have hk' : pk t S (k + 1) = pk t S k := by simp only [pk]; rw [if_neg c]
      refine ⟨[Ans.o (Orc.val 23 (AV.cptr (ints (List.drop (el S k) (rws t)))) H.nil), Ans.o (Orc.val 24 (I ((rws t).getD (el S k) i0)) H.nil), Ans.o (Orc.b false)], fun u => of_eq (aIndexAddr Tryd.prog 22 (AV.sl (ints (rws t)) t.length Room.no) (I (↑(el S k) : Int)) = some (AV.cptr (ints (List.drop (el S k) (rws t)))) ∧ aLoad Tryd.prog 3 (ints (List.drop (el S k) (rws t))) = some (I ((rws t).getD (el S k) i0)) ∧ (rws t).getD (el S k) i0 ≠ (↑S : Int) ∧ True ∧ Keep (pown (3 : Nat) S k (H.mk [[AV.sl (ints (rws t)) t.length Room.no], [I (↑S : Int)], [I (↑(pk t S k) : Int)], [I (↑(drop1 S k) : Int)]] T []) ∧ H.mk [[AV.sl (ints (rws t)) t.length Room.no], [I (↑S : Int)], [I (↑(pk t S k) : Int)], [I (↑(drop1 S (k + (1 : Nat))) : Int)]] T [] = H.mk [[AV.sl (ints (rws t)) t.length Room.no], [I (↑S : Int)], [I (↑(pk t S (k + (1 : Nat))) : Int)], [I (↑(drop1 S (k + (1 : Nat))) : Int)]] T [])) (by kernel_rfl) ?_⟩
      refine ⟨ix_ints (by kernel_rfl) hl (by decide), ?_⟩
      refine ⟨ld_ints (by kernel_rfl) (by kernel_rfl) (by rw [wl_len]; exact hl), ?_⟩
      refine ⟨by first | with_reducible assumption | omega | assumption, ?_⟩
      refine ⟨by trivial, ?_⟩
      (rw [hk']; exact ⟨rfl, rfl⟩)
  · rintro _ rfl u
    exact .inl ⟨(), trivial, rfl, rfl, rfl⟩

noncomputable abbrev EnP (cs : List (Ctr Tryd.prog)) : Env := ⟨Tryd.prog, Sof (P := Tryd.prog) cs, Pof (P := Tryd.prog) [], H.nil.base, 299⟩
abbrev h33 (t : List Int) (k : Nat) : H := ⟨[rB t, [I (rst t k : Nat)]], tk (pl t k), []⟩
noncomputable abbrev o33 (t : List Int) : List Out := [.mk Unit (.exit 0) [5] (fun _ => True) (fun _ => [lA (pts t)]) (fun _ => h33 t (mP t)) (fun _ => [])]
structure PI33 (t : List Int) (k : Nat) (vs : List AV) (h : H) : Prop where
  e : h = h33 t k
  v : vs = [.ptr 0 0, lA (pl t k), .ptr 1 0]
theorem lA_bnd (l : List Int) : (lA l).bnd 1 (tk l).length 0 = true := by
  have hb : AV.bnds 1 (tk l).length 0 (ints l) = true := enc_bnds ints_c1 l 1 (tk l).length 0
  cases l with
  | nil => rfl
  | cons x l =>
    generalize hc : ints (x :: l) = c at hb
    simp only [lA, hc, AV.bnd, hb]
    simp [rm, tk, Room.bnd]
theorem ren33 (l : List Int) : ([.ptr 0 0, lA l, .ptr 4 0] : List AV).map (ren 1 (tk l).length 0 4) = [.ptr 0 0, lA l, .ptr 1 0] := by
  have h1 : ren 1 (tk l).length 0 4 (lA l) = lA l := by unfold ren; rw [if_pos (lA_bnd l)]
  rw [List.map_cons, List.map_cons, h1]
  rfl
theorem lp33 (t : List Int) (h : Tn t) :
    LoopS (EnP cs33) (loopAt Tryd.f33 0) 40 [4, 5, 6] [.ptr 0 0, lA (pl t 0), .ptr 1 0] (h33 t 0) (o33 t) := by
  have hRs : Rests (EnP cs33) M72 := rests mixed ct33
  have h8 := h.s.2
  have hm := mP_spec h
  refine loop_p hRs simp33a 1 4 (Nat.zero_le _) (by decide) (fun k vs H => PI33 t k vs H) (mP t) ⟨rfl, rfl⟩ (fun _ _ _ en => en_nil _ _ _ en) ?_
  rintro k vs H hk ⟨rfl, rfl⟩
  by_cases hz : k < mP t
  · have h0 : ((rst t k : Nat) : Int) ≠ 0 := by have := hm.2.2 k hz; omega
    have hS := rst_lt h k
    have hin := rst_in h k
    have hlen : (pl t k).length ≤ 1000000 := by rw [pl_len]; omega
    have hpp := pk_pp h k
    have ev1 : IntKind.i64.wrap ((BitVec.ofInt IntKind.i64.bits ((rst t k : Nat) : Int) &&& ~~~BitVec.ofInt IntKind.i64.bits ((pk t (rst t k) (pc (rst t k)) : Nat) : Int)).toNat : Int) = ((rst t (k + 1) : Nat) : Int) := by
      rw [hpp]; exact i_andn (by omega)
    have hap : aAppend Tryd.prog 22 22 (lA (pl t k)) (.sl [I (pk t (rst t k) (pc (rst t k)) : Nat)] 1 .full) ⟨[rB t, [I (rst t k : Nat)], [I (pk t (rst t k) (pc (rst t k)) : Nat)], [I (drop1 (rst t k) (pc (rst t k)) : Nat)]], tk (pl t k), []⟩ = some (lA (pl t (k + 1)), ⟨[rB t, [I (rst t k : Nat)], [I (pk t (rst t k) (pc (rst t k)) : Nat)], [I (drop1 (rst t k) (pc (rst t k)) : Nat)]], tk (pl t (k + 1)), []⟩) := by
      rw [pl_succ, hpp]; exact app_intsb (by kernel_rfl) hlen
    have hcn : ∀ zs ts, (H.mk (rB t :: zs) ts []).clean 1 := fun zs ts cs hcs => by
      simp only [List.take_succ_cons, List.take_zero, List.mem_cons, List.not_mem_nil, or_false] at hcs
      subst hcs
      have hb : AV.bnds 1 ts.length 0 (ints (rws t)) = true := enc_bnds ints_c1 _ 1 ts.length 0
      simp [AV.bnds, AV.bnd, Room.bnd, hb]
    obtain ⟨L0, hL0⟩ : ∃ L, L = lA (pl t k) := ⟨_, rfl⟩
    obtain ⟨L1, hL1⟩ : ∃ L, L = lA (pl t (k + 1)) := ⟨_, rfl⟩
    obtain ⟨T0, hT0⟩ : ∃ T, T = tk (pl t k) := ⟨_, rfl⟩
    obtain ⟨T1, hT1⟩ : ∃ T, T = tk (pl t (k + 1)) := ⟨_, rfl⟩
    rw [← hL0, ← hL1, ← hT0, ← hT1] at hap
    rw [← hL0, show h33 t k = ⟨[rB t, [I (rst t k : Nat)]], T0, []⟩ by rw [hT0]]
    have lp := (lp33_0 t L0 T0 h (rst t k) hS hin).less (n := 299) (by decide)
    clear hpp
    refine ⟨[Ans.o (Orc.b true), Ans.o (Orc.val 19 (AV.fn (Fn.func (95 : FuncId)) [] [AV.ptr 3 0]) (H.mk [[AV.sl (ints (rws t)) t.length Room.no], [I (↑(rst t k) : Int)], [I 0], [I (↑(rst t k) : Int)]] T0 [])), Ans.loop [4, 5, 6, 7, 19] [Out.mk Unit AX.normal [4, 5, 6, 7] (fun x => True) (fun x => [AV.ptr 0 0, L0, AV.ptr 1 0, AV.ptr 2 0]) (fun x => h33_0 t T0 (rst t k) (pc (rst t k))) fun y => [Ans.o (Orc.val 34 L1 (H.mk [rB t, [I (↑(rst t k) : Int)], [I (↑(pk t (rst t k) (pc (rst t k))) : Int)], [I (↑(drop1 (rst t k) (pc (rst t k))) : Int)]] T1 [])), Ans.o (Orc.val 37 (I (↑(rst t (k + (1 : Nat))) : Int)) H.nil)]]], fun u => of_eq ((↑(rst t k) : Int) ≠ (0 : Int) ∧ aCall (Sof cs33) (AV.fn (Fn.func 72) [] []) [I (↑(rst t k) : Int)] (H.mk [[AV.sl (ints (rws t)) t.length Room.no], [I (↑(rst t k) : Int)], [I 0]] T0 []) = some (AV.fn (Fn.func (95 : FuncId)) [] [AV.ptr 3 0], H.mk [[AV.sl (ints (rws t)) t.length Room.no], [I (↑(rst t k) : Int)], [I 0], [I (↑(rst t k) : Int)]] T0 []) ∧ RangeS (Env.mk Tryd.prog (Sof cs33) (Pof (P := Tryd.prog) []) H.nil.base (299 : Nat)) (rangeAt Tryd.f33 (0 : Nat)) (40 : Nat) [4, 5, 6, 7, 19] [AV.ptr 0 0, L0, AV.ptr 1 0, AV.ptr 2 0, AV.fn (Fn.func (95 : FuncId)) [] [AV.ptr 3 0]] (H.mk [[AV.sl (ints (rws t)) t.length Room.no], [I (↑(rst t k) : Int)], [I 0], [I (↑(rst t k) : Int)]] T0 []) [Out.mk Unit AX.normal [4, 5, 6, 7] (fun x => True) (fun x => [AV.ptr 0 0, L0, AV.ptr 1 0, AV.ptr 2 0]) (fun x => h33_0 t T0 (rst t k) (pc (rst t k))) fun y => [Ans.o (Orc.val 34 L1 (H.mk [rB t, [I (↑(rst t k) : Int)], [I (↑(pk t (rst t k) (pc (rst t k))) : Int)], [I (↑(drop1 (rst t k) (pc (rst t k))) : Int)]] T1 [])), Ans.o (Orc.val 37 (I (↑(rst t (k + (1 : Nat))) : Int)) H.nil)]] ∧ (∀ (y : Unit), True → ∀ (u : Nat → AV), aAppend Tryd.prog 22 (22 : Nat) L0 (AV.sl [I (↑(pk t (rst t k) (pc (rst t k))) : Int)] (1 : Nat) Room.full) (H.mk [[AV.sl (ints (rws t)) t.length Room.no], [I (↑(rst t k) : Int)], [I (↑(pk t (rst t k) (pc (rst t k))) : Int)], [I (↑(drop1 (rst t k) (pc (rst t k))) : Int)]] T0 []) = some (L1, H.mk [[AV.sl (ints (rws t)) t.length Room.no], [I (↑(rst t k) : Int)], [I (↑(pk t (rst t k) (pc (rst t k))) : Int)], [I (↑(drop1 (rst t k) (pc (rst t k))) : Int)]] T1 []) ∧ aBin Tryd.prog BinOp.andNot (3 : Nat) (I (↑(rst t k) : Int)) (I (↑(pk t (rst t k) (pc (rst t k))) : Int)) = some (I (↑(rst t (k + (1 : Nat))) : Int)) ∧ (40 : Nat) = (40 : Nat) ∧ k < mP t ∧ Keep (Picks (1 : Nat) (4 : Nat) (H.mk [[AV.sl (ints (rws t)) t.length Room.no], [I (↑(rst t (k + (1 : Nat))) : Int)], [I (↑(pk t (rst t k) (pc (rst t k))) : Int)], [I (↑(drop1 (rst t k) (pc (rst t k))) : Int)], [I (↑(rst t (k + (1 : Nat))) : Int)]] T1 []) ∧ (H.mk [[AV.sl (ints (rws t)) t.length Room.no], [I (↑(rst t (k + (1 : Nat))) : Int)], [I (↑(pk t (rst t k) (pc (rst t k))) : Int)], [I (↑(drop1 (rst t k) (pc (rst t k))) : Int)], [I (↑(rst t (k + (1 : Nat))) : Int)]] T1 []).clean (1 : Nat) ∧ PI33 t (k + (1 : Nat)) (List.map (ren (1 : Nat) T1.length (0 : Nat) (4 : Nat)) [AV.ptr 0 0, L1, AV.ptr 4 0]) (H.mk [[AV.sl (ints (rws t)) t.length Room.no], [I (↑(rst t (k + (1 : Nat))) : Int)]] T1 []))) ∧ True) (by kernel_rfl) ?_⟩
    refine ⟨by first | with_reducible assumption | omega | assumption, ?_⟩
    refine ⟨acall_hit (c := c72) _ _ rfl trivial, ?_⟩
    refine ⟨lp, ?_⟩
    refine And.intro ?_ ?_
    · skip
      intro y
      intro w1
      intro u
      refine ⟨hap, ?_⟩
      refine ⟨told_andn (by with_reducible assumption), ?_⟩
      refine ⟨by first | with_reducible assumption | omega | assumption, ?_⟩
      refine ⟨by first | with_reducible assumption | omega | assumption, ?_⟩
      exact ⟨⟨by decide, _, rfl, rfl⟩, hcn _ _, ⟨by rw [hT1], by rw [hL1, hT1]; exact ren33 (pl t (k + 1))⟩⟩
    · skip
      trivial
  · have e : k = mP t := by omega
    subst e
    have h0 : ((rst t (mP t) : Nat) : Int) = 0 := by rw [hm.2.1]; rfl
    refine ⟨[Ans.o (Orc.b false)], fun u => of_eq ((↑(rst t (mP t)) : Int) = (0 : Int) ∧ (40 : Nat) = (40 : Nat) ∧ hits [Out.mk Unit (AX.exit 0) [5] (fun x => True) (fun x => [lA (pts t)]) (fun x => h33 t (mP t)) fun x => []] (AX.exit 0) [u (0 : Nat), u (1 : Nat), u (2 : Nat), u (3 : Nat), AV.ptr 0 0, ls (pl t (mP t)) (rm (0 : Nat) (pl t (mP t))), AV.ptr 1 0, u (7 : Nat), u (8 : Nat), u (9 : Nat), u (10 : Nat), u (11 : Nat), u (12 : Nat), u (13 : Nat), u (14 : Nat), u (15 : Nat), I (↑(rst t (mP t)) : Int), AV.bool false, u (18 : Nat), u (19 : Nat), u (20 : Nat), u (21 : Nat), u (22 : Nat), u (23 : Nat), u (24 : Nat), u (25 : Nat), u (26 : Nat), u (27 : Nat), u (28 : Nat), u (29 : Nat), u (30 : Nat), u (31 : Nat), u (32 : Nat), u (33 : Nat), u (34 : Nat), u (35 : Nat), u (36 : Nat), u (37 : Nat), u (38 : Nat), u (39 : Nat)] (H.mk [[AV.sl (ints (rws t)) t.length Room.no], [I (↑(rst t (mP t)) : Int)]] (tk (pl t (mP t))) [])) (by kernel_rfl) ?_⟩
    refine ⟨by first | with_reducible assumption | omega | assumption, ?_⟩
    refine ⟨by first | with_reducible assumption | omega | assumption, ?_⟩
    exact .inl ⟨(), trivial, rfl, rfl, rfl⟩
end Go.Proofs.Rnk

