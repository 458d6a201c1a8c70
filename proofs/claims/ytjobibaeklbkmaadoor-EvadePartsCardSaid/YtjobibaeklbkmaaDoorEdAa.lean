/- Layer 8: links and what is left, by the reference. -/
import Derived.Test.YtjobibaeklbkmaaDoorEdZ
import Derived.KernelRfl
set_option linter.unusedSimpArgs false
set_option linter.unusedVariables false
set_option linter.unnecessarySimpa false
set_option maxHeartbeats 4000000
set_option maxRecDepth 100000
namespace Go.Proofs.Evd
open Go Go.VM
open Go.Proofs.Sur (W w_wrap w_nat w_inj w_eq0 w_and w_or w_andn w_shl w_shr neg_nat sub_nat tz tz_ok cl bits_cons bits_0 bits_len andn andn_bit andn_le i_wrap i_and i_or i_andn i_shl i_shr bit_01)

/-- the sets with an element, without it -/
def lkL (x : Nat) (l : List Nat) : List Nat := (l.filter fun s => s.testBit x).map fun s => andn s (2 ^ x)
def wtL (x : Nat) (l : List Nat) : List Nat := l.filter fun s => !s.testBit x
theorem lkL_app (x : Nat) (l : List Nat) (s : Nat) : lkL x (l ++ [s]) = if s.testBit x = true then lkL x l ++ [andn s (2 ^ x)] else lkL x l := by
  simp only [lkL, List.filter_append, List.filter_cons, List.filter_nil]
  split <;> simp
theorem wtL_app (x : Nat) (l : List Nat) (s : Nat) : wtL x (l ++ [s]) = if s.testBit x = true then wtL x l else wtL x l ++ [s] := by
  simp only [wtL, List.filter_append, List.filter_cons, List.filter_nil]
  cases s.testBit x <;> simp
theorem lkL_len (x : Nat) (l : List Nat) : (lkL x l).length ≤ l.length := by simp only [lkL, List.length_map]; exact List.length_filter_le _ _
theorem wtL_len (x : Nat) (l : List Nat) : (wtL x l).length ≤ l.length := List.length_filter_le _ _
theorem lkL_elts {x : Nat} (hx : x < 6) (F : W) : lkL x (elts F) = elts (lnk F x) := by
  refine sorted_ext ?_ (bits_sorted _) (fun s => ?_)
  · simp only [lkL, List.pairwise_map]
    refine (List.Pairwise.filter _ (bits_sorted F)).imp_of_mem (fun {a b} ha hb h => ?_)
    have h1 := List.mem_filter.1 ha
    have h2 := List.mem_filter.1 hb
    have a64 := hs_lt (Go.Proofs.Sur.mem_bits.1 h1.1)
    have b64 := hs_lt (Go.Proofs.Sur.mem_bits.1 h2.1)
    have ha2 : a.testBit x = true := h1.2
    have hb2 : b.testBit x = true := h2.2
    show rst a x < rst b x
    rw [rst_eq hx a64 ha2, rst_eq hx b64 hb2]
    have := Nat.ge_two_pow_of_testBit ha2
    omega
  · rw [Go.Proofs.Sur.mem_bits, ← show hs (lnk F x) s = (lnk F x).getLsbD s from rfl]
    simp only [lkL, List.mem_map, List.mem_filter]
    constructor
    · rintro ⟨a, ⟨h1, h2⟩, rfl⟩
      have h1 := Go.Proofs.Sur.mem_bits.1 h1
      have a64 := hs_lt h1
      have hl := rst_lt (x := x) a64
      rw [lnk_bit hx hl, rst_bit a64]
      have : rst a x ||| 2 ^ x = a := by
        apply Nat.eq_of_testBit_eq; intro i
        rw [Nat.testBit_or, rst_bit a64, Nat.testBit_two_pow]
        by_cases e : x = i
        · subst e; simp [h2]
        · simp [e]
      rw [this]
      simp [show hs F a = true from h1]
    · intro h
      have hl := hs_lt h
      rw [lnk_bit hx hl, Bool.and_eq_true, Bool.not_eq_true'] at h
      have h64 := or_lt (x := x) hx hl
      refine ⟨s ||| 2 ^ x, ⟨Go.Proofs.Sur.mem_bits.2 h.1, by rw [Nat.testBit_or, Nat.testBit_two_pow]; simp⟩, ?_⟩
      apply Nat.eq_of_testBit_eq; intro i
      rw [show andn (s ||| 2 ^ x) (2 ^ x) = rst (s ||| 2 ^ x) x from rfl, rst_bit h64, Nat.testBit_or, Nat.testBit_two_pow]
      by_cases e : x = i
      · subst e; simp [h.2]
      · simp [e]
theorem wtL_elts {x : Nat} (hx : x < 6) (F : W) : wtL x (elts F) = elts (wot F x) := by
  refine sorted_ext (List.Pairwise.filter _ (bits_sorted F)) (bits_sorted _) (fun s => ?_)
  rw [Go.Proofs.Sur.mem_bits, ← show hs (wot F x) s = (wot F x).getLsbD s from rfl]
  simp only [wtL, List.mem_filter, Go.Proofs.Sur.mem_bits]
  constructor
  · rintro ⟨h1, h2⟩
    rw [wot_bit hx (hs_lt h1)]
    simpa [show hs F s = true from h1] using h2
  · intro h
    rw [wot_bit hx (hs_lt h), Bool.and_eq_true] at h
    exact h
abbrev o27 (x : Nat) (F : W) : List Out := [.mk Unit (.exit 0) [5] (fun _ => True) (fun _ => [acc (ic (lkL x (elts F)))]) (fun _ => hacc (ic (lkL x (elts F)))) (fun _ => [])]
theorem simp27 : allSimpleM none1 (loopAt Tryd.f27 0) = true := by kernel_rfl
theorem lp27 (F : W) (x : Nat) (r : Room) (hx : x < 6) (h1 : rok (lst F) r) :
    LoopS (En6 []) (loopAt Tryd.f27 0) 28 [1, 5, 8, 9, 10] [I x, .sl [] 0 .nil, ls (lst F) r, I (lst F).length, I 0] .nil (o27 x F) := by
  have hR : Rests (En6 []) none1 := rests mixed .nil
  have hle : (lst F).length = (elts F).length := ic_len _
  have h64 := lst_len F
  refine loop_s hR simp27 none (by intro _ h; cases h) (fun j vs h => h = hacc (ic (lkL x ((elts F).take j))) ∧ vs = [I x, acc (ic (lkL x ((elts F).take j))), ls (lst F) r, I (lst F).length, I j]) (elts F).length ⟨rfl, rfl⟩ (by intro _ h; cases h) ?_
  rintro j vs h hj ⟨rfl, rfl⟩
  by_cases hz : (j : Int) < (lst F).length
  · have hz' : j < (elts F).length := by omega
    have hzl : j < (lst F).length := by omega
    have hr := rok_idx h1 hzl
    obtain ⟨g1, g2, g3⟩ := ia_elts hz'
    have hst := lkL_app x ((elts F).take j) ((elts F).getD j 0)
    rw [← take_s hz'] at hst
    have hlen : (ic (lkL x ((elts F).take j))).length ≤ 1000000000 := by
      rw [ic_len]
      have := lkL_len x ((elts F).take j)
      rw [List.length_take] at this
      omega
    have ev0 : (ia (lst F) j).fdiv (2 ^ min ((x : Int)).toNat IntKind.i64.bits) = (((elts F).getD j 0 >>> x : Nat) : Int) := by rw [g1]; exact i_shr (by omega)
    have ev1 := i_bit (a := (elts F).getD j 0) (n := x) (by omega)
    have ev2 := pw_shl (n := x) (by omega)
    have ev3 : IntKind.i64.wrap ((BitVec.ofInt IntKind.i64.bits (ia (lst F) j) &&& ~~~BitVec.ofInt IntKind.i64.bits ((2 ^ x : Nat) : Int)).toNat : Int) = ((andn ((elts F).getD j 0) (2 ^ x) : Nat) : Int) := by rw [g1]; exact i_andn (by omega)
    have ev4 : IntKind.i64.wrap ((j : Int) + 1) = ((j + 1 : Nat) : Int) := by rw [wr _ (by omega) (by omega)]; omega
    cases hb : ((elts F).getD j 0).testBit x
    · rw [hb] at ev1 hst
      have ev1 : IntKind.i64.wrap ((BitVec.ofInt IntKind.i64.bits (((elts F).getD j 0 >>> x : Nat) : Int) &&& BitVec.ofInt IntKind.i64.bits 1).toNat : Int) = 0 := ev1
      have hs2 : lkL x ((elts F).take (j + 1)) = lkL x ((elts F).take j) := hst
      refine ⟨[Ans.o (Orc.b true), Ans.o (Orc.val 12 (AV.cptr (ints (List.drop j (lst F)))) H.nil), Ans.o (Orc.val 13 (I ((lst F).getD j i0)) H.nil), Ans.o (Orc.val 16 (I (↑((elts F).getD j (0 : Nat) >>> x) : Int)) H.nil), Ans.o (Orc.val 17 (I (↑false.toNat : Int)) H.nil), Ans.o Orc.dflt, Ans.o (Orc.val 26 (I (↑(j + (1 : Nat)) : Int)) H.nil)], fun u => of_eq ((↑j : Int) < (↑(lst F).length : Int) ∧ aIndexAddr Tryd.prog (22 : Nat) (AV.sl (ints (lst F)) (lst F).length r) (I (↑j : Int)) = some (AV.cptr (ints (List.drop j (lst F)))) ∧ aLoad Tryd.prog (3 : Nat) (ints (List.drop j (lst F))) = some (I ((lst F).getD j i0)) ∧ aBin Tryd.prog BinOp.shr (3 : Nat) (I ((lst F).getD j i0)) (I (↑x : Int)) = some (I (↑((elts F).getD j (0 : Nat) >>> x) : Int)) ∧ aBin Tryd.prog BinOp.and (3 : Nat) (I (↑((elts F).getD j (0 : Nat) >>> x) : Int)) (I 1) = some (I 0) ∧ aBin Tryd.prog BinOp.add (3 : Nat) (I (↑j : Int)) (I 1) = some (I (↑(j + (1 : Nat)) : Int)) ∧ (28 : Nat) = (28 : Nat) ∧ j < (elts F).length ∧ Keep (H.mk [] (tk (ic (lkL x (List.take j (elts F))))) [] = H.mk [] (tk (ic (lkL x (List.take (j + (1 : Nat)) (elts F))))) [] ∧ [I (↑x : Int), AV.sl (ints (ic (lkL x (List.take j (elts F))))) (ic (lkL x (List.take j (elts F)))).length (rm (0 : Nat) (ic (lkL x (List.take j (elts F))))), AV.sl (ints (lst F)) (lst F).length r, I (↑(lst F).length : Int), I (↑(j + (1 : Nat)) : Int)] = [I (↑x : Int), AV.sl (ints (ic (lkL x (List.take (j + (1 : Nat)) (elts F))))) (ic (lkL x (List.take (j + (1 : Nat)) (elts F)))).length (rm (0 : Nat) (ic (lkL x (List.take (j + (1 : Nat)) (elts F))))), AV.sl (ints (lst F)) (lst F).length r, I (↑(lst F).length : Int), I (↑(j + (1 : Nat)) : Int)])) (by kernel_rfl) ?_⟩
      refine ⟨by first | with_reducible assumption | omega | assumption, ?_⟩
      refine ⟨ix_ints (by kernel_rfl) (by omega) hr, ?_⟩
      refine ⟨by first | exact ld_ints (by kernel_rfl) (by kernel_rfl) (by omega) | exact ldm_ints (by kernel_rfl) (by kernel_rfl) (by first | omega | (simp; omega)), ?_⟩
      refine ⟨by first | exact told_shr (by first | exact Int.natCast_nonneg _ | omega) (by with_reducible assumption) | exact told_shr (by omega) rfl, ?_⟩
      refine ⟨told_and (by with_reducible assumption), ?_⟩
      refine ⟨told_add (by with_reducible assumption), ?_⟩
      refine ⟨by first | with_reducible assumption | omega | assumption, ?_⟩
      refine ⟨by first | with_reducible assumption | omega | assumption, ?_⟩
      exact ⟨by rw [hs2], by rw [hs2]⟩
    · rw [hb] at ev1 hst
      have ev1 : IntKind.i64.wrap ((BitVec.ofInt IntKind.i64.bits (((elts F).getD j 0 >>> x : Nat) : Int) &&& BitVec.ofInt IntKind.i64.bits 1).toNat : Int) = 1 := ev1
      have hs2 : ic (lkL x ((elts F).take (j + 1))) = ic (lkL x ((elts F).take j)) ++ [((andn ((elts F).getD j 0) (2 ^ x) : Nat) : Int)] := by rw [hst]; simp [ic]
      refine ⟨[Ans.o (Orc.b true), Ans.o (Orc.val 12 (AV.cptr (ints (List.drop j (lst F)))) H.nil), Ans.o (Orc.val 13 (I ((lst F).getD j i0)) H.nil), Ans.o (Orc.val 16 (I (↑((elts F).getD j (0 : Nat) >>> x) : Int)) H.nil), Ans.o (Orc.val 17 (I (↑true.toNat : Int)) H.nil), Ans.o Orc.dflt, Ans.o (Orc.val 22 (I (↑((2 : Nat) ^ x) : Int)) H.nil), Ans.o (Orc.val 23 (I (↑(andn ((elts F).getD j (0 : Nat)) ((2 : Nat) ^ x)) : Int)) H.nil), Ans.o (Orc.val 25 (AV.sl (ints (ic (lkL x (List.take j (elts F))) ++ [(↑(andn ((elts F).getD j (0 : Nat)) ((2 : Nat) ^ x)) : Int)])) (ic (lkL x (List.take j (elts F))) ++ [(↑(andn ((elts F).getD j (0 : Nat)) ((2 : Nat) ^ x)) : Int)]).length (rm (0 : Nat) (ic (lkL x (List.take j (elts F))) ++ [(↑(andn ((elts F).getD j (0 : Nat)) ((2 : Nat) ^ x)) : Int)]))) (H.mk [] (tk (ic (lkL x (List.take j (elts F))) ++ [(↑(andn ((elts F).getD j (0 : Nat)) ((2 : Nat) ^ x)) : Int)])) [])), Ans.o (Orc.val 26 (I (↑(j + (1 : Nat)) : Int)) H.nil)], fun u => of_eq ((↑j : Int) < (↑(lst F).length : Int) ∧ aIndexAddr Tryd.prog (22 : Nat) (AV.sl (ints (lst F)) (lst F).length r) (I (↑j : Int)) = some (AV.cptr (ints (List.drop j (lst F)))) ∧ aLoad Tryd.prog (3 : Nat) (ints (List.drop j (lst F))) = some (I ((lst F).getD j i0)) ∧ aBin Tryd.prog BinOp.shr (3 : Nat) (I ((lst F).getD j i0)) (I (↑x : Int)) = some (I (↑((elts F).getD j (0 : Nat) >>> x) : Int)) ∧ aBin Tryd.prog BinOp.and (3 : Nat) (I (↑((elts F).getD j (0 : Nat) >>> x) : Int)) (I 1) = some (I 1) ∧ aBin Tryd.prog BinOp.shl (3 : Nat) (I 1) (I (↑x : Int)) = some (I (↑((2 : Nat) ^ x) : Int)) ∧ aBin Tryd.prog BinOp.andNot (3 : Nat) (I ((lst F).getD j i0)) (I (↑((2 : Nat) ^ x) : Int)) = some (I (↑(andn ((elts F).getD j (0 : Nat)) ((2 : Nat) ^ x)) : Int)) ∧ aAppend Tryd.prog (22 : Nat) (22 : Nat) (AV.sl (ints (ic (lkL x (List.take j (elts F))))) (ic (lkL x (List.take j (elts F)))).length (rm (0 : Nat) (ic (lkL x (List.take j (elts F)))))) (AV.sl [I (↑(andn ((elts F).getD j (0 : Nat)) ((2 : Nat) ^ x)) : Int)] (1 : Nat) Room.full) (H.mk [] (tk (ic (lkL x (List.take j (elts F))))) []) = some (AV.sl (ints (ic (lkL x (List.take j (elts F))) ++ [(↑(andn ((elts F).getD j (0 : Nat)) ((2 : Nat) ^ x)) : Int)])) (ic (lkL x (List.take j (elts F))) ++ [(↑(andn ((elts F).getD j (0 : Nat)) ((2 : Nat) ^ x)) : Int)]).length (rm (0 : Nat) (ic (lkL x (List.take j (elts F))) ++ [(↑(andn ((elts F).getD j (0 : Nat)) ((2 : Nat) ^ x)) : Int)])), H.mk [] (tk (ic (lkL x (List.take j (elts F))) ++ [(↑(andn ((elts F).getD j (0 : Nat)) ((2 : Nat) ^ x)) : Int)])) []) ∧ aBin Tryd.prog BinOp.add (3 : Nat) (I (↑j : Int)) (I 1) = some (I (↑(j + (1 : Nat)) : Int)) ∧ (28 : Nat) = (28 : Nat) ∧ j < (elts F).length ∧ Keep (H.mk [] (tk (ic (lkL x (List.take j (elts F))) ++ [(↑(andn ((elts F).getD j (0 : Nat)) ((2 : Nat) ^ x)) : Int)])) [] = H.mk [] (tk (ic (lkL x (List.take (j + (1 : Nat)) (elts F))))) [] ∧ [I (↑x : Int), AV.sl (ints (ic (lkL x (List.take j (elts F))) ++ [(↑(andn ((elts F).getD j (0 : Nat)) ((2 : Nat) ^ x)) : Int)])) (ic (lkL x (List.take j (elts F))) ++ [(↑(andn ((elts F).getD j (0 : Nat)) ((2 : Nat) ^ x)) : Int)]).length (rm (0 : Nat) (ic (lkL x (List.take j (elts F))) ++ [(↑(andn ((elts F).getD j (0 : Nat)) ((2 : Nat) ^ x)) : Int)])), AV.sl (ints (lst F)) (lst F).length r, I (↑(lst F).length : Int), I (↑(j + (1 : Nat)) : Int)] = [I (↑x : Int), AV.sl (ints (ic (lkL x (List.take (j + (1 : Nat)) (elts F))))) (ic (lkL x (List.take (j + (1 : Nat)) (elts F)))).length (rm (0 : Nat) (ic (lkL x (List.take (j + (1 : Nat)) (elts F))))), AV.sl (ints (lst F)) (lst F).length r, I (↑(lst F).length : Int), I (↑(j + (1 : Nat)) : Int)])) (by kernel_rfl) ?_⟩
      refine ⟨by first | with_reducible assumption | omega | assumption, ?_⟩
      refine ⟨ix_ints (by kernel_rfl) (by omega) hr, ?_⟩
      refine ⟨by first | exact ld_ints (by kernel_rfl) (by kernel_rfl) (by omega) | exact ldm_ints (by kernel_rfl) (by kernel_rfl) (by first | omega | (simp; omega)), ?_⟩
      refine ⟨by first | exact told_shr (by first | exact Int.natCast_nonneg _ | omega) (by with_reducible assumption) | exact told_shr (by omega) rfl, ?_⟩
      refine ⟨told_and (by with_reducible assumption), ?_⟩
      refine ⟨by first | exact told_shl (by first | exact Int.natCast_nonneg _ | omega) (by with_reducible assumption) | exact told_shl (by omega) rfl, ?_⟩
      refine ⟨told_andn (by with_reducible assumption), ?_⟩
      refine ⟨app_ints' (by kernel_rfl) hlen, ?_⟩
      refine ⟨told_add (by with_reducible assumption), ?_⟩
      refine ⟨by first | with_reducible assumption | omega | assumption, ?_⟩
      refine ⟨by first | with_reducible assumption | omega | assumption, ?_⟩
      exact ⟨by rw [hs2], by rw [hs2]⟩
  · have hz : ((lst F).length : Int) ≤ j := by omega
    have hj' : j = (elts F).length := by omega
    subst hj'
    refine ⟨[Ans.o (Orc.b false)], fun u => of_eq ((↑(lst F).length : Int) ≤ (↑(elts F).length : Int) ∧ (28 : Nat) = (28 : Nat) ∧ hits [Out.mk Unit (AX.exit (0 : Nat)) [(5 : Nat)] (fun x => True) (fun x_1 => [acc (ic (lkL x (elts F)))]) (fun x_1 => hacc (ic (lkL x (elts F)))) fun x => []] (AX.exit (0 : Nat)) [u (0 : Nat), I (↑x : Int), u (2 : Nat), u (3 : Nat), u (4 : Nat), AV.sl (ints (ic (lkL x (List.take (elts F).length (elts F))))) (ic (lkL x (List.take (elts F).length (elts F)))).length (rm (0 : Nat) (ic (lkL x (List.take (elts F).length (elts F))))), u (6 : Nat), u (7 : Nat), AV.sl (ints (lst F)) (lst F).length r, I (↑(lst F).length : Int), I (↑(elts F).length : Int), AV.bool false, u (12 : Nat), u (13 : Nat), u (14 : Nat), u (15 : Nat), u (16 : Nat), u (17 : Nat), u (18 : Nat), u (19 : Nat), u (20 : Nat), u (21 : Nat), u (22 : Nat), u (23 : Nat), u (24 : Nat), u (25 : Nat), u (26 : Nat), u (27 : Nat)] (H.mk [] (tk (ic (lkL x (List.take (elts F).length (elts F))))) [])) (by kernel_rfl) ?_⟩
    refine ⟨by first | with_reducible assumption | omega | assumption, ?_⟩
    refine ⟨by first | with_reducible assumption | omega | assumption, ?_⟩
    exact .inl ⟨(), trivial, rfl, by rw [List.take_length]; rfl, by rw [List.take_length]⟩
theorem ok27 : FokM Tryd.prog none1 27 Tryd.f27 := ⟨mixed, by kernel_rfl, by kernel_rfl, by kernel_rfl, by kernel_rfl⟩
theorem r27 (F : W) (r : Room) (x : Nat) (hp : rok (lst F) r ∧ x < 6) : Body ⟨Tryd.prog, Sof (P := Tryd.prog) [], Pof (P := Tryd.prog) [], H.nil.base, 300⟩ none1 Tryd.f27 [ls (lst F) r, I x] .nil (acc (lst (lnk F x)), ⟨[], tk (lst (lnk F x)), []⟩) := by
  have hl := lp27 F x r hp.2 hp.1
  have e : lst (lnk F x) = ic (lkL x (elts F)) := by rw [lkL_elts hp.2]
  rw [e]
  refine body_s ([Ans.loop [(1 : Nat), (5 : Nat), (8 : Nat), (9 : Nat), (10 : Nat)] [Out.mk Unit (AX.exit (0 : Nat)) [(5 : Nat)] (fun x => True) (fun x_1 => [acc (ic (lkL x (elts F)))]) (fun x_1 => hacc (ic (lkL x (elts F)))) fun y => []]]) (LoopS (Env.mk Tryd.prog (Sof (P := Tryd.prog) []) (Pof (P := Tryd.prog) []) H.nil.base (300 : Nat)) (loopAt Tryd.f27 (0 : Nat)) (28 : Nat) [(1 : Nat), (5 : Nat), (8 : Nat), (9 : Nat), (10 : Nat)] [I (↑x : Int), AV.sl [] (0 : Nat) Room.nil, AV.sl (ints (lst F)) (lst F).length r, I (↑(lst F).length : Int), I 0] (H.mk [] [] []) [Out.mk Unit (AX.exit (0 : Nat)) [(5 : Nat)] (fun x => True) (fun x_1 => [acc (ic (lkL x (elts F)))]) (fun x_1 => hacc (ic (lkL x (elts F)))) fun y => []] ∧ (∀ (y : Unit), True → ∀ (u : Nat → AV), leave (Base.mk H.nil.blk.length H.nil.toks.length H.nil.maps.length) (AV.sl (ints (ic (lkL x (elts F)))) (ic (lkL x (elts F))).length (rm (0 : Nat) (ic (lkL x (elts F))))) (H.mk [] (tk (ic (lkL x (elts F)))) []) = (AV.sl (ints (ic (lkL x (elts F)))) (ic (lkL x (elts F))).length (rm (0 : Nat) (ic (lkL x (elts F)))), H.mk [] (tk (ic (lkL x (elts F)))) [])) ∧ True) (by kernel_rfl) ?_
  refine ⟨hl, ?_⟩
  refine And.intro ?_ ?_
  · skip
    intro y
    intro w1
    intro u
    exact leave_acc' _ _
  · skip
    trivial
noncomputable def c27 : PCtr Tryd.prog := slctr ok27 (X := W × Room × Nat) (fun x => [ls (lst x.1) x.2.1, I x.2.2]) (fun x => rok (lst x.1) x.2.1 ∧ x.2.2 < 6) (fun x => ls (lst (lnk x.1 x.2.2)) (rn (lst (lnk x.1 x.2.2)))) (by intro x y e _ _; simp [Int.natCast_inj] at e; simp [e]) (fun x => by simp [AV.bnds, AV.bnd, AV.wk, rm_wk_bnd]) (fun x => by first | rfl | (simp [AV.bnd, rm_wk_bnd]; done)  | (simp [AV.bnd, AV.bnds, rm_wk_bnd]; done) | simp [AV.bnd, AV.bnds, Room.bnd, rm_wk_bnd]) (fun x hx => ⟨_, _, _, acc (lst (lnk x.1 x.2.2)), tk (lst (lnk x.1 x.2.2)), .nil, r27 (x.1) (x.2.1).wk (x.2.2) (by first | exact hx | (simp only [rok_wk]; exact hx) | (simp only [rok_wk, lst_wk]; exact hx) | (simp only [rok_wk, lst_wk, lsn_wk]; exact hx)), by simp [AV.plain, AV.plains, plains_ints, plains_rows], by first | (simp only [AV.wkd, wkds_rows]; done) | (simp only [AV.wkd, wkds_ints]; done) | simp [AV.wkd, AV.wkds, Room.wk]⟩)
abbrev o28 (x : Nat) (F : W) : List Out := [.mk Unit (.exit 0) [5] (fun _ => True) (fun _ => [acc (ic (wtL x (elts F)))]) (fun _ => hacc (ic (wtL x (elts F)))) (fun _ => [])]
theorem simp28 : allSimpleM none1 (loopAt Tryd.f28 0) = true := by kernel_rfl
theorem lp28 (F : W) (x : Nat) (r : Room) (hx : x < 6) (h1 : rok (lst F) r) :
    LoopS (En6 []) (loopAt Tryd.f28 0) 25 [1, 5, 8, 9, 10] [I x, .sl [] 0 .nil, ls (lst F) r, I (lst F).length, I 0] .nil (o28 x F) := by
  have hR : Rests (En6 []) none1 := rests mixed .nil
  have hle : (lst F).length = (elts F).length := ic_len _
  have h64 := lst_len F
  refine loop_s hR simp28 none (by intro _ h; cases h) (fun j vs h => h = hacc (ic (wtL x ((elts F).take j))) ∧ vs = [I x, acc (ic (wtL x ((elts F).take j))), ls (lst F) r, I (lst F).length, I j]) (elts F).length ⟨rfl, rfl⟩ (by intro _ h; cases h) ?_
  rintro j vs h hj ⟨rfl, rfl⟩
  by_cases hz : (j : Int) < (lst F).length
  · have hz' : j < (elts F).length := by omega
    have hzl : j < (lst F).length := by omega
    have hr := rok_idx h1 hzl
    obtain ⟨g1, g2, g3⟩ := ia_elts hz'
    have hst := wtL_app x ((elts F).take j) ((elts F).getD j 0)
    rw [← take_s hz'] at hst
    have hlen : (ic (wtL x ((elts F).take j))).length ≤ 1000000000 := by
      rw [ic_len]
      have := wtL_len x ((elts F).take j)
      rw [List.length_take] at this
      omega
    have ev0 : (ia (lst F) j).fdiv (2 ^ min ((x : Int)).toNat IntKind.i64.bits) = (((elts F).getD j 0 >>> x : Nat) : Int) := by rw [g1]; exact i_shr (by omega)
    have ev1 := i_bit (a := (elts F).getD j 0) (n := x) (by omega)
    have ev2 := pw_shl (n := x) (by omega)
    have ev3 : IntKind.i64.wrap ((BitVec.ofInt IntKind.i64.bits (ia (lst F) j) &&& ~~~BitVec.ofInt IntKind.i64.bits ((2 ^ x : Nat) : Int)).toNat : Int) = ((andn ((elts F).getD j 0) (2 ^ x) : Nat) : Int) := by rw [g1]; exact i_andn (by omega)
    have ev4 : IntKind.i64.wrap ((j : Int) + 1) = ((j + 1 : Nat) : Int) := by rw [wr _ (by omega) (by omega)]; omega
    cases hb : ((elts F).getD j 0).testBit x
    · rw [hb] at ev1 hst
      have ev1 : IntKind.i64.wrap ((BitVec.ofInt IntKind.i64.bits (((elts F).getD j 0 >>> x : Nat) : Int) &&& BitVec.ofInt IntKind.i64.bits 1).toNat : Int) = 0 := ev1
      have hs2 : ic (wtL x ((elts F).take (j + 1))) = ic (wtL x ((elts F).take j)) ++ [ia (lst F) j] := by rw [hst, g1]; simp [ic]
      refine ⟨[Ans.o (Orc.b true), Ans.o (Orc.val 12 (AV.cptr (ints (List.drop j (lst F)))) H.nil), Ans.o (Orc.val 13 (I ((lst F).getD j i0)) H.nil), Ans.o (Orc.val 16 (I (↑((elts F).getD j (0 : Nat) >>> x) : Int)) H.nil), Ans.o (Orc.val 17 (I (↑false.toNat : Int)) H.nil), Ans.o Orc.dflt, Ans.o (Orc.val 22 (AV.sl (ints (ic (wtL x (List.take j (elts F))) ++ [(lst F).getD j i0])) (ic (wtL x (List.take j (elts F))) ++ [(lst F).getD j i0]).length (rm (0 : Nat) (ic (wtL x (List.take j (elts F))) ++ [(lst F).getD j i0]))) (H.mk [] (tk (ic (wtL x (List.take j (elts F))) ++ [(lst F).getD j i0])) [])), Ans.o (Orc.val 23 (I (↑(j + (1 : Nat)) : Int)) H.nil)], fun u => of_eq ((↑j : Int) < (↑(lst F).length : Int) ∧ aIndexAddr Tryd.prog (22 : Nat) (AV.sl (ints (lst F)) (lst F).length r) (I (↑j : Int)) = some (AV.cptr (ints (List.drop j (lst F)))) ∧ aLoad Tryd.prog (3 : Nat) (ints (List.drop j (lst F))) = some (I ((lst F).getD j i0)) ∧ aBin Tryd.prog BinOp.shr (3 : Nat) (I ((lst F).getD j i0)) (I (↑x : Int)) = some (I (↑((elts F).getD j (0 : Nat) >>> x) : Int)) ∧ aBin Tryd.prog BinOp.and (3 : Nat) (I (↑((elts F).getD j (0 : Nat) >>> x) : Int)) (I 1) = some (I 0) ∧ aAppend Tryd.prog (22 : Nat) (22 : Nat) (AV.sl (ints (ic (wtL x (List.take j (elts F))))) (ic (wtL x (List.take j (elts F)))).length (rm (0 : Nat) (ic (wtL x (List.take j (elts F)))))) (AV.sl [I ((lst F).getD j i0)] (1 : Nat) Room.full) (H.mk [] (tk (ic (wtL x (List.take j (elts F))))) []) = some (AV.sl (ints (ic (wtL x (List.take j (elts F))) ++ [(lst F).getD j i0])) (ic (wtL x (List.take j (elts F))) ++ [(lst F).getD j i0]).length (rm (0 : Nat) (ic (wtL x (List.take j (elts F))) ++ [(lst F).getD j i0])), H.mk [] (tk (ic (wtL x (List.take j (elts F))) ++ [(lst F).getD j i0])) []) ∧ aBin Tryd.prog BinOp.add (3 : Nat) (I (↑j : Int)) (I 1) = some (I (↑(j + (1 : Nat)) : Int)) ∧ (25 : Nat) = (25 : Nat) ∧ j < (elts F).length ∧ Keep (H.mk [] (tk (ic (wtL x (List.take j (elts F))) ++ [(lst F).getD j i0])) [] = H.mk [] (tk (ic (wtL x (List.take (j + (1 : Nat)) (elts F))))) [] ∧ [I (↑x : Int), AV.sl (ints (ic (wtL x (List.take j (elts F))) ++ [(lst F).getD j i0])) (ic (wtL x (List.take j (elts F))) ++ [(lst F).getD j i0]).length (rm (0 : Nat) (ic (wtL x (List.take j (elts F))) ++ [(lst F).getD j i0])), AV.sl (ints (lst F)) (lst F).length r, I (↑(lst F).length : Int), I (↑(j + (1 : Nat)) : Int)] = [I (↑x : Int), AV.sl (ints (ic (wtL x (List.take (j + (1 : Nat)) (elts F))))) (ic (wtL x (List.take (j + (1 : Nat)) (elts F)))).length (rm (0 : Nat) (ic (wtL x (List.take (j + (1 : Nat)) (elts F))))), AV.sl (ints (lst F)) (lst F).length r, I (↑(lst F).length : Int), I (↑(j + (1 : Nat)) : Int)])) (by kernel_rfl) ?_⟩
      refine ⟨by first | with_reducible assumption | omega | assumption, ?_⟩
      refine ⟨ix_ints (by kernel_rfl) (by omega) hr, ?_⟩
      refine ⟨by first | exact ld_ints (by kernel_rfl) (by kernel_rfl) (by omega) | exact ldm_ints (by kernel_rfl) (by kernel_rfl) (by first | omega | (simp; omega)), ?_⟩
      refine ⟨by first | exact told_shr (by first | exact Int.natCast_nonneg _ | omega) (by with_reducible assumption) | exact told_shr (by omega) rfl, ?_⟩
      refine ⟨told_and (by with_reducible assumption), ?_⟩
      refine ⟨app_ints' (by kernel_rfl) hlen, ?_⟩
      refine ⟨told_add (by with_reducible assumption), ?_⟩
      refine ⟨by first | with_reducible assumption | omega | assumption, ?_⟩
      refine ⟨by first | with_reducible assumption | omega | assumption, ?_⟩
      exact ⟨by rw [hs2], by rw [hs2]⟩
    · rw [hb] at ev1 hst
      have ev1 : IntKind.i64.wrap ((BitVec.ofInt IntKind.i64.bits (((elts F).getD j 0 >>> x : Nat) : Int) &&& BitVec.ofInt IntKind.i64.bits 1).toNat : Int) = 1 := ev1
      have hs2 : wtL x ((elts F).take (j + 1)) = wtL x ((elts F).take j) := hst
      refine ⟨[Ans.o (Orc.b true), Ans.o (Orc.val 12 (AV.cptr (ints (List.drop j (lst F)))) H.nil), Ans.o (Orc.val 13 (I ((lst F).getD j i0)) H.nil), Ans.o (Orc.val 16 (I (↑((elts F).getD j (0 : Nat) >>> x) : Int)) H.nil), Ans.o (Orc.val 17 (I (↑true.toNat : Int)) H.nil), Ans.o Orc.dflt, Ans.o (Orc.val 23 (I (↑(j + (1 : Nat)) : Int)) H.nil)], fun u => of_eq ((↑j : Int) < (↑(lst F).length : Int) ∧ aIndexAddr Tryd.prog (22 : Nat) (AV.sl (ints (lst F)) (lst F).length r) (I (↑j : Int)) = some (AV.cptr (ints (List.drop j (lst F)))) ∧ aLoad Tryd.prog (3 : Nat) (ints (List.drop j (lst F))) = some (I ((lst F).getD j i0)) ∧ aBin Tryd.prog BinOp.shr (3 : Nat) (I ((lst F).getD j i0)) (I (↑x : Int)) = some (I (↑((elts F).getD j (0 : Nat) >>> x) : Int)) ∧ aBin Tryd.prog BinOp.and (3 : Nat) (I (↑((elts F).getD j (0 : Nat) >>> x) : Int)) (I 1) = some (I 1) ∧ aBin Tryd.prog BinOp.add (3 : Nat) (I (↑j : Int)) (I 1) = some (I (↑(j + (1 : Nat)) : Int)) ∧ (25 : Nat) = (25 : Nat) ∧ j < (elts F).length ∧ Keep (H.mk [] (tk (ic (wtL x (List.take j (elts F))))) [] = H.mk [] (tk (ic (wtL x (List.take (j + (1 : Nat)) (elts F))))) [] ∧ [I (↑x : Int), AV.sl (ints (ic (wtL x (List.take j (elts F))))) (ic (wtL x (List.take j (elts F)))).length (rm (0 : Nat) (ic (wtL x (List.take j (elts F))))), AV.sl (ints (lst F)) (lst F).length r, I (↑(lst F).length : Int), I (↑(j + (1 : Nat)) : Int)] = [I (↑x : Int), AV.sl (ints (ic (wtL x (List.take (j + (1 : Nat)) (elts F))))) (ic (wtL x (List.take (j + (1 : Nat)) (elts F)))).length (rm (0 : Nat) (ic (wtL x (List.take (j + (1 : Nat)) (elts F))))), AV.sl (ints (lst F)) (lst F).length r, I (↑(lst F).length : Int), I (↑(j + (1 : Nat)) : Int)])) (by kernel_rfl) ?_⟩
      refine ⟨by first | with_reducible assumption | omega | assumption, ?_⟩
      refine ⟨ix_ints (by kernel_rfl) (by omega) hr, ?_⟩
      refine ⟨by first | exact ld_ints (by kernel_rfl) (by kernel_rfl) (by omega) | exact ldm_ints (by kernel_rfl) (by kernel_rfl) (by first | omega | (simp; omega)), ?_⟩
      refine ⟨by first | exact told_shr (by first | exact Int.natCast_nonneg _ | omega) (by with_reducible assumption) | exact told_shr (by omega) rfl, ?_⟩
      refine ⟨told_and (by with_reducible assumption), ?_⟩
      refine ⟨told_add (by with_reducible assumption), ?_⟩
      refine ⟨by first | with_reducible assumption | omega | assumption, ?_⟩
      refine ⟨by first | with_reducible assumption | omega | assumption, ?_⟩
      exact ⟨by rw [hs2], by rw [hs2]⟩
  · have hz : ((lst F).length : Int) ≤ j := by omega
    have hj' : j = (elts F).length := by omega
    subst hj'
    refine ⟨[Ans.o (Orc.b false)], fun u => of_eq ((↑(lst F).length : Int) ≤ (↑(elts F).length : Int) ∧ (25 : Nat) = (25 : Nat) ∧ hits [Out.mk Unit (AX.exit (0 : Nat)) [(5 : Nat)] (fun x => True) (fun x_1 => [acc (ic (wtL x (elts F)))]) (fun x_1 => hacc (ic (wtL x (elts F)))) fun x => []] (AX.exit (0 : Nat)) [u (0 : Nat), I (↑x : Int), u (2 : Nat), u (3 : Nat), u (4 : Nat), AV.sl (ints (ic (wtL x (List.take (elts F).length (elts F))))) (ic (wtL x (List.take (elts F).length (elts F)))).length (rm (0 : Nat) (ic (wtL x (List.take (elts F).length (elts F))))), u (6 : Nat), u (7 : Nat), AV.sl (ints (lst F)) (lst F).length r, I (↑(lst F).length : Int), I (↑(elts F).length : Int), AV.bool false, u (12 : Nat), u (13 : Nat), u (14 : Nat), u (15 : Nat), u (16 : Nat), u (17 : Nat), u (18 : Nat), u (19 : Nat), u (20 : Nat), u (21 : Nat), u (22 : Nat), u (23 : Nat), u (24 : Nat)] (H.mk [] (tk (ic (wtL x (List.take (elts F).length (elts F))))) [])) (by kernel_rfl) ?_⟩
    refine ⟨by first | with_reducible assumption | omega | assumption, ?_⟩
    refine ⟨by first | with_reducible assumption | omega | assumption, ?_⟩
    exact .inl ⟨(), trivial, rfl, by rw [List.take_length]; rfl, by rw [List.take_length]⟩
theorem ok28 : FokM Tryd.prog none1 28 Tryd.f28 := ⟨mixed, by kernel_rfl, by kernel_rfl, by kernel_rfl, by kernel_rfl⟩
theorem r28 (F : W) (r : Room) (x : Nat) (hp : rok (lst F) r ∧ x < 6) : Body ⟨Tryd.prog, Sof (P := Tryd.prog) [], Pof (P := Tryd.prog) [], H.nil.base, 300⟩ none1 Tryd.f28 [ls (lst F) r, I x] .nil (acc (lst (wot F x)), ⟨[], tk (lst (wot F x)), []⟩) := by
  have hl := lp28 F x r hp.2 hp.1
  have e : lst (wot F x) = ic (wtL x (elts F)) := by rw [wtL_elts hp.2]
  rw [e]
  refine body_s ([Ans.loop [(1 : Nat), (5 : Nat), (8 : Nat), (9 : Nat), (10 : Nat)] [Out.mk Unit (AX.exit (0 : Nat)) [(5 : Nat)] (fun x => True) (fun x_1 => [acc (ic (wtL x (elts F)))]) (fun x_1 => hacc (ic (wtL x (elts F)))) fun y => []]]) (LoopS (Env.mk Tryd.prog (Sof (P := Tryd.prog) []) (Pof (P := Tryd.prog) []) H.nil.base (300 : Nat)) (loopAt Tryd.f28 (0 : Nat)) (25 : Nat) [(1 : Nat), (5 : Nat), (8 : Nat), (9 : Nat), (10 : Nat)] [I (↑x : Int), AV.sl [] (0 : Nat) Room.nil, AV.sl (ints (lst F)) (lst F).length r, I (↑(lst F).length : Int), I 0] (H.mk [] [] []) [Out.mk Unit (AX.exit (0 : Nat)) [(5 : Nat)] (fun x => True) (fun x_1 => [acc (ic (wtL x (elts F)))]) (fun x_1 => hacc (ic (wtL x (elts F)))) fun y => []] ∧ (∀ (y : Unit), True → ∀ (u : Nat → AV), leave (Base.mk H.nil.blk.length H.nil.toks.length H.nil.maps.length) (AV.sl (ints (ic (wtL x (elts F)))) (ic (wtL x (elts F))).length (rm (0 : Nat) (ic (wtL x (elts F))))) (H.mk [] (tk (ic (wtL x (elts F)))) []) = (AV.sl (ints (ic (wtL x (elts F)))) (ic (wtL x (elts F))).length (rm (0 : Nat) (ic (wtL x (elts F)))), H.mk [] (tk (ic (wtL x (elts F)))) [])) ∧ True) (by kernel_rfl) ?_
  refine ⟨hl, ?_⟩
  refine And.intro ?_ ?_
  · skip
    intro y
    intro w1
    intro u
    exact leave_acc' _ _
  · skip
    trivial
noncomputable def c28 : PCtr Tryd.prog := slctr ok28 (X := W × Room × Nat) (fun x => [ls (lst x.1) x.2.1, I x.2.2]) (fun x => rok (lst x.1) x.2.1 ∧ x.2.2 < 6) (fun x => ls (lst (wot x.1 x.2.2)) (rn (lst (wot x.1 x.2.2)))) (by intro x y e _ _; simp [Int.natCast_inj] at e; simp [e]) (fun x => by simp [AV.bnds, AV.bnd, AV.wk, rm_wk_bnd]) (fun x => by first | rfl | (simp [AV.bnd, rm_wk_bnd]; done)  | (simp [AV.bnd, AV.bnds, rm_wk_bnd]; done) | simp [AV.bnd, AV.bnds, Room.bnd, rm_wk_bnd]) (fun x hx => ⟨_, _, _, acc (lst (wot x.1 x.2.2)), tk (lst (wot x.1 x.2.2)), .nil, r28 (x.1) (x.2.1).wk (x.2.2) (by first | exact hx | (simp only [rok_wk]; exact hx) | (simp only [rok_wk, lst_wk]; exact hx) | (simp only [rok_wk, lst_wk, lsn_wk]; exact hx)), by simp [AV.plain, AV.plains, plains_ints, plains_rows], by first | (simp only [AV.wkd, wkds_rows]; done) | (simp only [AV.wkd, wkds_ints]; done) | simp [AV.wkd, AV.wkds, Room.wk]⟩)
end Go.Proofs.Evd

