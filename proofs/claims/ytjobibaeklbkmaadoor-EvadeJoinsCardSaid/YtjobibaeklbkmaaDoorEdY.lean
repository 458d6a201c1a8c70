/- Layer 8: tables as lists; joins by the reference. -/
import Derived.Test.YtjobibaeklbkmaaDoorEdX
import Derived.KernelRfl
set_option linter.unusedSimpArgs false
set_option linter.unusedVariables false
set_option linter.unnecessarySimpa false
set_option maxHeartbeats 4000000
set_option maxRecDepth 100000
namespace Go.Proofs.Evd
open Go Go.VM
open Go.Proofs.Sur (W w_wrap w_nat w_inj w_eq0 w_and w_or w_andn w_shl w_shr neg_nat sub_nat tz tz_ok cl bits_cons bits_0 bits_len andn andn_bit andn_le i_wrap i_and i_or i_andn i_shl i_shr bit_01)

/-- the places that are true -/
abbrev trJ (t : List Bool) (j : Nat) : List Nat := (List.range j).filter fun s => t.getD s b0
abbrev tru (t : List Bool) : List Nat := trJ t t.length
theorem trJ_succ (t : List Bool) (j : Nat) : trJ t (j + 1) = if t.getD j b0 = true then trJ t j ++ [j] else trJ t j := by
  simp only [trJ, List.range_succ, List.filter_append, List.filter_cons, List.filter_nil]
  split
  · rfl
  · simp
abbrev o72 (t : List Bool) : List Out := [.mk Unit (.exit 0) [3] (fun _ => True) (fun _ => [acc (ic (tru t))]) (fun _ => hacc (ic (tru t))) (fun _ => [])]
theorem simp72 : allSimpleM none1 (loopAt Tryd.f72 0) = true := by kernel_rfl
theorem lp72 (t : List Bool) (ht : t.length ≤ 64) :
    LoopS (En6 []) (loopAt Tryd.f72 0) 20 [3, 6, 7, 8] [.sl [] 0 .nil, .sl (bools t) t.length .no, I t.length, I 0] .nil (o72 t) := by
  have hR : Rests (En6 []) none1 := rests mixed .nil
  refine loop_s hR simp72 none (by intro _ h; cases h) (fun j vs h => h = hacc (ic (trJ t j)) ∧ vs = [acc (ic (trJ t j)), .sl (bools t) t.length .no, I t.length, I j]) t.length ⟨rfl, rfl⟩ (by intro _ h; cases h) ?_
  rintro j vs h hj ⟨rfl, rfl⟩
  by_cases hz : (j : Int) < t.length
  · have hz' : j < t.length := by omega
    have ev3 : IntKind.i64.wrap ((j : Int) + 1) = ((j + 1 : Nat) : Int) := by rw [wr _ (by omega) (by omega)]; omega
    have hsu := trJ_succ t j
    have hlen : (ic (trJ t j)).length ≤ 1000000000 := by
      rw [ic_len]
      exact Nat.le_trans (List.length_filter_le _ _) (by rw [List.length_range]; omega)
    have hT : t.getD j b0 = true → ic (trJ t (j + 1)) = ic (trJ t j) ++ [(j : Int)] := fun h => by
      rw [hsu, if_pos h]; simp [ic]
    have hF : t.getD j b0 = false → trJ t (j + 1) = trJ t j := fun h => by
      rw [hsu, if_neg (by rw [h]; decide)]
    refine ⟨[Ans.o (Orc.b true), Ans.o (Orc.val 11 (AV.cptr (bools (List.drop j t))) H.nil), Ans.vfork (12 : Nat) (t.getD j b0) H.nil [Ans.o (Orc.val 17 (AV.sl (ints (ic (trJ t j) ++ [(↑j : Int)])) (ic (trJ t j) ++ [(↑j : Int)]).length (rm (0 : Nat) (ic (trJ t j) ++ [(↑j : Int)]))) (H.mk [] (tk (ic (trJ t j) ++ [(↑j : Int)])) [])), Ans.o (Orc.val 18 (I (↑(j + (1 : Nat)) : Int)) H.nil)] [Ans.o (Orc.val 18 (I (↑(j + (1 : Nat)) : Int)) H.nil)]], fun u => of_eq ((↑j : Int) < (↑t.length : Int) ∧ aIndexAddr Tryd.prog (84 : Nat) (AV.sl (bools t) t.length Room.no) (I (↑j : Int)) = some (AV.cptr (bools (List.drop j t))) ∧ aLoad Tryd.prog (4 : Nat) (bools (List.drop j t)) = some (AV.bool (t.getD j b0)) ∧ (t.getD j b0 = true → aAppend Tryd.prog (22 : Nat) (22 : Nat) (AV.sl (ints (ic (trJ t j))) (ic (trJ t j)).length (rm (0 : Nat) (ic (trJ t j)))) (AV.sl [I (↑j : Int)] (1 : Nat) Room.full) (H.mk [] (tk (ic (trJ t j))) []) = some (AV.sl (ints (ic (trJ t j) ++ [(↑j : Int)])) (ic (trJ t j) ++ [(↑j : Int)]).length (rm (0 : Nat) (ic (trJ t j) ++ [(↑j : Int)])), H.mk [] (tk (ic (trJ t j) ++ [(↑j : Int)])) []) ∧ aBin Tryd.prog BinOp.add (3 : Nat) (I (↑j : Int)) (I 1) = some (I (↑(j + (1 : Nat)) : Int)) ∧ (20 : Nat) = (20 : Nat) ∧ j < t.length ∧ Keep (H.mk [] (tk (ic (trJ t j) ++ [(↑j : Int)])) [] = H.mk [] (tk (ic (trJ t (j + (1 : Nat))))) [] ∧ [AV.sl (ints (ic (trJ t j) ++ [(↑j : Int)])) (ic (trJ t j) ++ [(↑j : Int)]).length (rm (0 : Nat) (ic (trJ t j) ++ [(↑j : Int)])), AV.sl (bools t) t.length Room.no, I (↑t.length : Int), I (↑(j + (1 : Nat)) : Int)] = [AV.sl (ints (ic (trJ t (j + (1 : Nat))))) (ic (trJ t (j + (1 : Nat)))).length (rm (0 : Nat) (ic (trJ t (j + (1 : Nat))))), AV.sl (bools t) t.length Room.no, I (↑t.length : Int), I (↑(j + (1 : Nat)) : Int)])) ∧ (t.getD j b0 = false → aBin Tryd.prog BinOp.add (3 : Nat) (I (↑j : Int)) (I 1) = some (I (↑(j + (1 : Nat)) : Int)) ∧ (20 : Nat) = (20 : Nat) ∧ j < t.length ∧ Keep (H.mk [] (tk (ic (trJ t j))) [] = H.mk [] (tk (ic (trJ t (j + (1 : Nat))))) [] ∧ [AV.sl (ints (ic (trJ t j))) (ic (trJ t j)).length (rm (0 : Nat) (ic (trJ t j))), AV.sl (bools t) t.length Room.no, I (↑t.length : Int), I (↑(j + (1 : Nat)) : Int)] = [AV.sl (ints (ic (trJ t (j + (1 : Nat))))) (ic (trJ t (j + (1 : Nat)))).length (rm (0 : Nat) (ic (trJ t (j + (1 : Nat))))), AV.sl (bools t) t.length Room.no, I (↑t.length : Int), I (↑(j + (1 : Nat)) : Int)]))) (by kernel_rfl) ?_⟩
    refine ⟨by first | with_reducible assumption | omega | assumption, ?_⟩
    refine ⟨ix_bools (by kernel_rfl) hz' no_ne, ?_⟩
    refine ⟨by first | exact ld_bools (by kernel_rfl) (by kernel_rfl) (by omega) | exact ldm_bools (by kernel_rfl) (by kernel_rfl) (by first | omega | (simp; omega)), ?_⟩
    refine And.intro ?_ ?_
    · skip
      intro w0
      refine ⟨app_ints' (by kernel_rfl) hlen, ?_⟩
      refine ⟨told_add (by with_reducible assumption), ?_⟩
      refine ⟨by first | with_reducible assumption | omega | assumption, ?_⟩
      refine ⟨by first | with_reducible assumption | omega | assumption, ?_⟩
      first | exact ⟨by first | (rw [hT w0]; done) | (rw [hT w0]; rfl), by first | (rw [hT w0]; done) | (rw [hT w0]; rfl)⟩ | exact ⟨by first | (rw [hF w0]; done) | (rw [hF w0]; rfl), by first | (rw [hF w0]; done) | (rw [hF w0]; rfl)⟩
    · skip
      intro w0
      refine ⟨told_add (by with_reducible assumption), ?_⟩
      refine ⟨by first | with_reducible assumption | omega | assumption, ?_⟩
      refine ⟨by first | with_reducible assumption | omega | assumption, ?_⟩
      first | exact ⟨by first | (rw [hT w0]; done) | (rw [hT w0]; rfl), by first | (rw [hT w0]; done) | (rw [hT w0]; rfl)⟩ | exact ⟨by first | (rw [hF w0]; done) | (rw [hF w0]; rfl), by first | (rw [hF w0]; done) | (rw [hF w0]; rfl)⟩
  · have hz : (t.length : Int) ≤ j := by omega
    have hj' : j = t.length := by omega
    subst hj'
    refine ⟨[Ans.o (Orc.b false)], fun u => of_eq ((↑t.length : Int) ≤ (↑t.length : Int) ∧ (20 : Nat) = (20 : Nat) ∧ hits [Out.mk Unit (AX.exit (0 : Nat)) [(3 : Nat)] (fun x => True) (fun x => [acc (ic (tru t))]) (fun x => hacc (ic (tru t))) fun x => []] (AX.exit (0 : Nat)) [u (0 : Nat), u (1 : Nat), u (2 : Nat), AV.sl (ints (ic (trJ t t.length))) (ic (trJ t t.length)).length (rm (0 : Nat) (ic (trJ t t.length))), u (4 : Nat), u (5 : Nat), AV.sl (bools t) t.length Room.no, I (↑t.length : Int), I (↑t.length : Int), AV.bool false, u (10 : Nat), u (11 : Nat), u (12 : Nat), u (13 : Nat), u (14 : Nat), u (15 : Nat), u (16 : Nat), u (17 : Nat), u (18 : Nat), u (19 : Nat)] (H.mk [] (tk (ic (trJ t t.length))) [])) (by kernel_rfl) ?_⟩
    refine ⟨by first | with_reducible assumption | omega | assumption, ?_⟩
    refine ⟨by first | with_reducible assumption | omega | assumption, ?_⟩
    exact .inl ⟨(), trivial, rfl, rfl, rfl⟩
theorem ok72 : FokM Tryd.prog none1 72 Tryd.f72 := ⟨mixed, by kernel_rfl, by kernel_rfl, by kernel_rfl, by kernel_rfl⟩
theorem r72 (t : List Bool) (ht : t.length ≤ 64) : Body (En6 []) none1 Tryd.f72 [.sl (bools t) t.length .no] .nil (acc (ic (tru t)), hacc (ic (tru t))) := by
  have hl := lp72 t ht
  refine body_s ([Ans.loop [(3 : Nat), (6 : Nat), (7 : Nat), (8 : Nat)] [Out.mk Unit (AX.exit (0 : Nat)) [(3 : Nat)] (fun x => True) (fun x => [acc (ic (tru t))]) (fun x => hacc (ic (tru t))) fun y => []]]) (LoopS (Env.mk Tryd.prog (Sof (P := Tryd.prog) []) (Pof (P := Tryd.prog) []) H.nil.base (300 : Nat)) (loopAt Tryd.f72 (0 : Nat)) (20 : Nat) [(3 : Nat), (6 : Nat), (7 : Nat), (8 : Nat)] [AV.sl [] (0 : Nat) Room.nil, AV.sl (bools t) t.length Room.no, I (↑t.length : Int), I 0] (H.mk [] [] []) [Out.mk Unit (AX.exit (0 : Nat)) [(3 : Nat)] (fun x => True) (fun x => [acc (ic (tru t))]) (fun x => hacc (ic (tru t))) fun y => []] ∧ (∀ (y : Unit), True → ∀ (u : Nat → AV), leave (Base.mk H.nil.blk.length H.nil.toks.length H.nil.maps.length) (AV.sl (ints (ic (tru t))) (ic (tru t)).length (rm (0 : Nat) (ic (tru t)))) (H.mk [] (tk (ic (tru t))) []) = (AV.sl (ints (ic (tru t))) (ic (tru t)).length (rm (0 : Nat) (ic (tru t))), H.mk [] (tk (ic (tru t))) [])) ∧ True) (by kernel_rfl) ?_
  refine ⟨hl, ?_⟩
  refine And.intro ?_ ?_
  · skip
    intro y
    intro w1
    intro u
    exact leave_acc' _ _
  · skip
    trivial
/-- of what may still be written -/
noncomputable def c72m (t : List Bool) (n : Nat) (hn : t.length = n) (h64 : n ≤ 64) : Ctr Tryd.prog where
  f := 72
  X := Unit
  args _ := [.msl 0 0 n n 1]
  pre _ h := h.blk[0]? = some (bools t)
  res _ h := (.sl (ints (ic (tru t))) (ic (tru t)).length (rm h.toks.length (ic (tru t))), ⟨h.blk, h.toks ++ tk (ic (tru t)), h.maps⟩)
  det := by intro x y h e _ _; rfl
  ok := by
    rintro _ h hp
    refine ⟨ok72.call, ?_⟩
    have hc := (r72 t (by omega)).run ok72 .nil rfl
    have hv : View h (.msl 0 0 n n 1) (.sl (bools t) t.length .no) := by
      have := View.msl (h := h) 0 0 n n 1 (bools t) hp (by simp [hn])
      have e : ((bools t).drop 0).take (n * 1) = bools t := by rw [List.drop_zero, List.take_of_length_le (by simp [hn])]
      rw [e] at this
      rw [hn]; exact this
    cases hq : ic (tru t) with
    | nil =>
      rw [hq] at hc
      have := hc.view (by rfl) (.cons hv .nil)
      simp only [tk, rm, List.append_nil]
      exact this
    | cons x l =>
      rw [hq] at hc
      exact hc.viewTok (enc_flats ints_c1 _) (.cons hv .nil)
/-- where a table is true at a list of places -/
def tabN (N : Nat) (l : List Nat) : List Bool := (List.range N).map fun s => decide (s ∈ l)
@[simp] theorem tabN_len (N : Nat) (l : List Nat) : (tabN N l).length = N := by simp [tabN]
theorem tabN_nil (N : Nat) : tabN N [] = List.replicate N b0 := by simp [tabN, List.map_const']
theorem tabN_set {N : Nat} {l : List Nat} {s : Nat} : (tabN N l).set s true = tabN N (l ++ [s]) := by
  apply List.ext_getElem
  · simp
  · intro i h1 h2
    simp only [tabN, List.getElem_set, List.getElem_map, List.getElem_range, List.mem_append, List.mem_singleton]
    by_cases e : s = i
    · subst e; simp
    · rw [if_neg e]
      have : ¬ i = s := fun q => e q.symm
      simp only [this, or_false]
theorem tru_tabN {N : Nat} (hN : N ≤ 64) {l : List Nat} (hl : ∀ s ∈ l, s < N) : tru (tabN N l) = elts (fm l) := by
  refine sorted_ext (List.Pairwise.filter _ List.pairwise_lt_range) (bits_sorted _) (fun s => ?_)
  rw [Go.Proofs.Sur.mem_bits, List.mem_filter, List.mem_range, tabN_len]
  constructor
  · rintro ⟨h1, h2⟩
    refine (fm_bit (by omega)).2 ?_
    simpa [tabN, List.getD_eq_getElem?_getD, h1] using h2
  · intro h
    have h64 := hs_lt h
    have hm := (fm_bit h64).1 h
    have h1 := hl s hm
    exact ⟨h1, by simpa [tabN, List.getD_eq_getElem?_getD, h1] using hm⟩
/-! ### Join by the reference -/
abbrev h54 (N n : Nat) (F G : W) (i j : Nat) : H := ⟨[bools (tabN N (jJ n (elts F) (elts G) i j))], [], []⟩
abbrev v54 (N n : Nat) (F G : W) (r q : Room) (i : Nat) : List AV := [I n, ls (lst G) q, .msl 0 0 N N 1, ls (lst F) r, I (lst F).length, I i]
abbrev o54b (N n : Nat) (F G : W) (r q : Room) (i : Nat) : List Out := [.mk Unit (.exit 2) [0, 3, 9, 19, 20, 21] (fun _ => True) (fun _ => v54 N n F G r q i) (fun _ => h54 N n F G (i + 1) 0) (fun _ => [])]
theorem simp54b : allSimpleM none1 (loopAt Tryd.f54 1) = true := by kernel_rfl
theorem simp54 : allSimpleM none1 (loopAt Tryd.f54 0) = true := by kernel_rfl
theorem lp54b (n m : Nat) (F G : W) (r q : Room) (i : Nat) (s : Int) (hn : n + m ≤ 6) (hF : Rg n F) (hG : Rg m G) (hq : rok (lst G) q) (hi : i < (elts F).length) (he : s = (((elts F).getD i 0 : Nat) : Int)) :
    LoopS (En6 []) (loopAt Tryd.f54 1) 42 [0, 3, 9, 11, 19, 20, 21, 25, 26, 27] [I n, ls (lst G) q, .msl 0 0 (2 ^ (n + m)) (2 ^ (n + m)) 1, I s, ls (lst F) r, I (lst F).length, I i, ls (lst G) q, I (lst G).length, I 0] (h54 (2 ^ (n + m)) n F G i 0) (o54b (2 ^ (n + m)) n F G r q i) := by
  have hR : Rests (En6 []) none1 := rests mixed .nil
  have hle : (lst G).length = (elts G).length := ic_len _
  have h64 := lst_len G
  obtain ⟨_, f2, f3⟩ := ia_elts hi
  refine loop_s hR simp54b none (by intro _ h; cases h) (fun j vs h => h = h54 (2 ^ (n + m)) n F G i j ∧ vs = [I n, ls (lst G) q, .msl 0 0 (2 ^ (n + m)) (2 ^ (n + m)) 1, I s, ls (lst F) r, I (lst F).length, I i, ls (lst G) q, I (lst G).length, I j]) (elts G).length ⟨rfl, rfl⟩ (by intro _ h; cases h) ?_
  rintro j vs h hj ⟨rfl, rfl⟩
  by_cases hz : (j : Int) < (lst G).length
  · have hz' : j < (elts G).length := by omega
    have hzl : j < (lst G).length := by omega
    have hr := rok_idx hq hzl
    obtain ⟨g1, g2, g3⟩ := ia_elts hz'
    have hst := jJ_step n (elts F) (elts G) hi hz'
    have hpl := pl_lt (hF _ f3) (hG _ g3)
    have hmul : (elts G).getD j 0 * 2 ^ n < 9223372036854775808 := by
      have := Nat.mul_le_mul (Nat.le_of_lt g2) (p64 (n := n) (by omega))
      omega
    have ev0 : IntKind.i64.wrap (ia (lst G) j * 2 ^ min ((n : Int)).toNat IntKind.i64.bits) = (((elts G).getD j 0 * 2 ^ n : Nat) : Int) := by rw [g1]; exact shl_n g2 (by omega)
    have ev1 : IntKind.i64.wrap ((BitVec.ofInt IntKind.i64.bits s ||| BitVec.ofInt IntKind.i64.bits (((elts G).getD j 0 * 2 ^ n : Nat) : Int)).toNat : Int) = ((pl n ((elts F).getD i 0) ((elts G).getD j 0) : Nat) : Int) := by rw [he]; exact i_or (by omega) hmul
    have ev3 : IntKind.i64.wrap ((j : Int) + 1) = ((j + 1 : Nat) : Int) := by rw [wr _ (by omega) (by omega)]; omega
    have hs2 : tabN (2 ^ (n + m)) (jJ n (elts F) (elts G) i (j + 1)) = (tabN (2 ^ (n + m)) (jJ n (elts F) (elts G) i j)).set (pl n ((elts F).getD i 0) ((elts G).getD j 0)) true := by rw [hst, tabN_set]
    have hpl2 : pl n ((elts F).getD i 0) ((elts G).getD j 0) < (tabN (2 ^ (n + m)) (jJ n (elts F) (elts G) i j)).length := by rw [tabN_len]; exact hpl
    clear hst
    generalize pl n ((elts F).getD i 0) ((elts G).getD j 0) = w at hpl hpl2 ev1 hs2
    refine ⟨[Ans.o (Orc.b true), Ans.o (Orc.val 29 (AV.cptr (ints (List.drop j (lst G)))) H.nil), Ans.o (Orc.val 30 (I ((lst G).getD j i0)) H.nil), Ans.o (Orc.val 35 (I (↑((elts G).getD j (0 : Nat) * (2 : Nat) ^ n) : Int)) H.nil), Ans.o (Orc.val 36 (I (↑w : Int)) H.nil), Ans.o (Orc.val 37 (AV.ptr 0 w) H.nil), Ans.o (Orc.val 9999 (AV.tup []) (H.mk [bools ((tabN ((2 : Nat) ^ (n + m)) (jJ n (elts F) (elts G) i j)).set w true)] [] [])), Ans.o (Orc.val 38 (I (↑(j + (1 : Nat)) : Int)) H.nil)], fun u => of_eq ((↑j : Int) < (↑(lst G).length : Int) ∧ aIndexAddr Tryd.prog (22 : Nat) (AV.sl (ints (lst G)) (lst G).length q) (I (↑j : Int)) = some (AV.cptr (ints (List.drop j (lst G)))) ∧ aLoad Tryd.prog (3 : Nat) (ints (List.drop j (lst G))) = some (I ((lst G).getD j i0)) ∧ aBin Tryd.prog BinOp.shl (3 : Nat) (I ((lst G).getD j i0)) (I (↑n : Int)) = some (I (↑((elts G).getD j (0 : Nat) * (2 : Nat) ^ n) : Int)) ∧ aBin Tryd.prog BinOp.or (3 : Nat) (I s) (I (↑((elts G).getD j (0 : Nat) * (2 : Nat) ^ n) : Int)) = some (I (↑w : Int)) ∧ aIndexAddr Tryd.prog (84 : Nat) (AV.msl 0 0 ((2 : Nat) ^ (n + m)) ((2 : Nat) ^ (n + m)) (1 : Nat)) (I (↑w : Int)) = some (AV.ptr 0 w) ∧ aStore Tryd.prog H.nil.base (4 : Nat) (AV.ptr 0 w) (AV.bool true) (H.mk [bools (tabN ((2 : Nat) ^ (n + m)) (jJ n (elts F) (elts G) i j))] [] []) = some (H.mk [bools ((tabN ((2 : Nat) ^ (n + m)) (jJ n (elts F) (elts G) i j)).set w true)] [] []) ∧ aBin Tryd.prog BinOp.add (3 : Nat) (I (↑j : Int)) (I 1) = some (I (↑(j + (1 : Nat)) : Int)) ∧ (42 : Nat) = (42 : Nat) ∧ j < (elts G).length ∧ Keep (H.mk [bools ((tabN ((2 : Nat) ^ (n + m)) (jJ n (elts F) (elts G) i j)).set w true)] [] [] = H.mk [bools (tabN ((2 : Nat) ^ (n + m)) (jJ n (elts F) (elts G) i (j + (1 : Nat))))] [] [] ∧ [I (↑n : Int), AV.sl (ints (lst G)) (lst G).length q, AV.msl 0 0 ((2 : Nat) ^ (n + m)) ((2 : Nat) ^ (n + m)) (1 : Nat), I s, AV.sl (ints (lst F)) (lst F).length r, I (↑(lst F).length : Int), I (↑i : Int), AV.sl (ints (lst G)) (lst G).length q, I (↑(lst G).length : Int), I (↑(j + (1 : Nat)) : Int)] = [I (↑n : Int), AV.sl (ints (lst G)) (lst G).length q, AV.msl 0 0 ((2 : Nat) ^ (n + m)) ((2 : Nat) ^ (n + m)) (1 : Nat), I s, AV.sl (ints (lst F)) (lst F).length r, I (↑(lst F).length : Int), I (↑i : Int), AV.sl (ints (lst G)) (lst G).length q, I (↑(lst G).length : Int), I (↑(j + (1 : Nat)) : Int)])) (by kernel_rfl) ?_⟩
    refine ⟨by first | with_reducible assumption | omega | assumption, ?_⟩
    refine ⟨ix_ints (by kernel_rfl) (by omega) hr, ?_⟩
    refine ⟨by first | exact ld_ints (by kernel_rfl) (by kernel_rfl) (by omega) | exact ldm_ints (by kernel_rfl) (by kernel_rfl) (by first | omega | (simp; omega)), ?_⟩
    refine ⟨by first | exact told_shl (by first | exact Int.natCast_nonneg _ | omega) (by with_reducible assumption) | exact told_shl (by omega) rfl, ?_⟩
    refine ⟨told_or (by with_reducible assumption), ?_⟩
    refine ⟨by first | exact ixm0 (by kernel_rfl) hpl | exact ix_ints (by kernel_rfl) (by omega) hr, ?_⟩
    refine ⟨by first | exact st_bools (by kernel_rfl) rfl (by first | omega | (simp; omega) | (simp at *; omega)) | exact st_u64s (by kernel_rfl) rfl (by first | omega | (simp; omega) | (simp at *; omega)) | exact st_ints (by kernel_rfl) rfl (by first | omega | (simp; omega) | (simp at *; omega)), ?_⟩
    refine ⟨told_add (by with_reducible assumption), ?_⟩
    refine ⟨by first | with_reducible assumption | omega | assumption, ?_⟩
    refine ⟨by first | with_reducible assumption | omega | assumption, ?_⟩
    exact ⟨by rw [hs2], rfl⟩
  · have hz : ((lst G).length : Int) ≤ j := by omega
    have hj' : j = (elts G).length := by omega
    subst hj'
    have hnx := jJ_next n (elts F) (elts G) hi
    refine ⟨[Ans.o (Orc.b false)], fun u => of_eq ((↑(lst G).length : Int) ≤ (↑(elts G).length : Int) ∧ (42 : Nat) = (42 : Nat) ∧ hits [Out.mk Unit (AX.exit (2 : Nat)) [(0 : Nat), (3 : Nat), (9 : Nat), (19 : Nat), (20 : Nat), (21 : Nat)] (fun x => True) (fun x => v54 ((2 : Nat) ^ (n + m)) n F G r q i) (fun x => h54 ((2 : Nat) ^ (n + m)) n F G (i + (1 : Nat)) (0 : Nat)) fun x => []] (AX.exit (2 : Nat)) [I (↑n : Int), u (1 : Nat), u (2 : Nat), AV.sl (ints (lst G)) (lst G).length q, u (4 : Nat), u (5 : Nat), u (6 : Nat), u (7 : Nat), u (8 : Nat), AV.msl 0 0 ((2 : Nat) ^ (n + m)) ((2 : Nat) ^ (n + m)) (1 : Nat), u (10 : Nat), I s, u (12 : Nat), u (13 : Nat), u (14 : Nat), u (15 : Nat), u (16 : Nat), u (17 : Nat), u (18 : Nat), AV.sl (ints (lst F)) (lst F).length r, I (↑(lst F).length : Int), I (↑i : Int), u (22 : Nat), u (23 : Nat), u (24 : Nat), AV.sl (ints (lst G)) (lst G).length q, I (↑(lst G).length : Int), I (↑(elts G).length : Int), AV.bool false, u (29 : Nat), u (30 : Nat), u (31 : Nat), u (32 : Nat), u (33 : Nat), u (34 : Nat), u (35 : Nat), u (36 : Nat), u (37 : Nat), u (38 : Nat), u (39 : Nat), u (40 : Nat), u (41 : Nat)] (H.mk [bools (tabN ((2 : Nat) ^ (n + m)) (jJ n (elts F) (elts G) i (elts G).length))] [] [])) (by kernel_rfl) ?_⟩
    refine ⟨by first | with_reducible assumption | omega | assumption, ?_⟩
    refine ⟨by first | with_reducible assumption | omega | assumption, ?_⟩
    exact .inl ⟨(), trivial, rfl, rfl, by rw [hnx]⟩
abbrev o54 (N n : Nat) (F G : W) : List Out := [.mk Unit (.exit 0) [9] (fun _ => True) (fun _ => [.msl 0 0 N N 1]) (fun _ => h54 N n F G (elts F).length 0) (fun _ => [])]
theorem lp54 (n m : Nat) (F G : W) (r q : Room) (hn : n + m ≤ 6) (hF : Rg n F) (hG : Rg m G) (hr0 : rok (lst F) r) (hq : rok (lst G) q) :
    LoopS (En6 []) (loopAt Tryd.f54 0) 42 [0, 3, 9, 19, 20, 21] (v54 (2 ^ (n + m)) n F G r q 0) (h54 (2 ^ (n + m)) n F G 0 0) (o54 (2 ^ (n + m)) n F G) := by
  have hR : Rests (En6 []) none1 := rests mixed .nil
  have hle : (lst F).length = (elts F).length := ic_len _
  have h64 := lst_len F
  refine loop_s hR simp54 none (by intro _ h; cases h) (fun i vs h => h = h54 (2 ^ (n + m)) n F G i 0 ∧ vs = v54 (2 ^ (n + m)) n F G r q i) (elts F).length ⟨rfl, rfl⟩ (by intro _ h; cases h) ?_
  rintro i vs h hj ⟨rfl, rfl⟩
  by_cases hz : (i : Int) < (lst F).length
  · have hz' : i < (elts F).length := by omega
    have hzl : i < (lst F).length := by omega
    have hr := rok_idx hr0 hzl
    obtain ⟨f1, f2, f3⟩ := ia_elts hz'
    have hin := lp54b n m F G r q i (ia (lst F) i) hn hF hG hq hz' f1
    have ev3 : IntKind.i64.wrap ((i : Int) + 1) = ((i + 1 : Nat) : Int) := by rw [wr _ (by omega) (by omega)]; omega
    refine ⟨[Ans.o (Orc.b true), Ans.o (Orc.val 23 (AV.cptr (ints (List.drop i (lst F)))) H.nil), Ans.o (Orc.val 24 (I ((lst F).getD i i0)) H.nil), Ans.loop [(0 : Nat), (3 : Nat), (9 : Nat), (11 : Nat), (19 : Nat), (20 : Nat), (21 : Nat), (25 : Nat), (26 : Nat), (27 : Nat)] [Out.mk Unit (AX.exit (2 : Nat)) [(0 : Nat), (3 : Nat), (9 : Nat), (19 : Nat), (20 : Nat), (21 : Nat)] (fun x => True) (fun x => v54 ((2 : Nat) ^ (n + m)) n F G r q i) (fun x => h54 ((2 : Nat) ^ (n + m)) n F G (i + (1 : Nat)) (0 : Nat)) fun y => [Ans.o (Orc.val 39 (I (↑(i + (1 : Nat)) : Int)) H.nil)]]], fun u => of_eq ((↑i : Int) < (↑(lst F).length : Int) ∧ aIndexAddr Tryd.prog (22 : Nat) (AV.sl (ints (lst F)) (lst F).length r) (I (↑i : Int)) = some (AV.cptr (ints (List.drop i (lst F)))) ∧ aLoad Tryd.prog (3 : Nat) (ints (List.drop i (lst F))) = some (I ((lst F).getD i i0)) ∧ LoopS (Env.mk Tryd.prog (Sof (P := Tryd.prog) []) (Pof (P := Tryd.prog) []) H.nil.base (300 : Nat)) (loopAt Tryd.f54 (1 : Nat)) (42 : Nat) [(0 : Nat), (3 : Nat), (9 : Nat), (11 : Nat), (19 : Nat), (20 : Nat), (21 : Nat), (25 : Nat), (26 : Nat), (27 : Nat)] [I (↑n : Int), AV.sl (ints (lst G)) (lst G).length q, AV.msl 0 0 ((2 : Nat) ^ (n + m)) ((2 : Nat) ^ (n + m)) (1 : Nat), I ((lst F).getD i i0), AV.sl (ints (lst F)) (lst F).length r, I (↑(lst F).length : Int), I (↑i : Int), AV.sl (ints (lst G)) (lst G).length q, I (↑(lst G).length : Int), I 0] (H.mk [bools (tabN ((2 : Nat) ^ (n + m)) (jJ n (elts F) (elts G) i (0 : Nat)))] [] []) [Out.mk Unit (AX.exit (2 : Nat)) [(0 : Nat), (3 : Nat), (9 : Nat), (19 : Nat), (20 : Nat), (21 : Nat)] (fun x => True) (fun x => v54 ((2 : Nat) ^ (n + m)) n F G r q i) (fun x => h54 ((2 : Nat) ^ (n + m)) n F G (i + (1 : Nat)) (0 : Nat)) fun y => [Ans.o (Orc.val 39 (I (↑(i + (1 : Nat)) : Int)) H.nil)]] ∧ (∀ (y : Unit), True → ∀ (u : Nat → AV), aBin Tryd.prog BinOp.add (3 : Nat) (I (↑i : Int)) (I 1) = some (I (↑(i + (1 : Nat)) : Int)) ∧ (42 : Nat) = (42 : Nat) ∧ i < (elts F).length ∧ Keep (H.mk [bools (tabN ((2 : Nat) ^ (n + m)) (jJ n (elts F) (elts G) (i + (1 : Nat)) (0 : Nat)))] [] [] = H.mk [bools (tabN ((2 : Nat) ^ (n + m)) (jJ n (elts F) (elts G) (i + (1 : Nat)) (0 : Nat)))] [] [] ∧ [I (↑n : Int), AV.sl (ints (lst G)) (lst G).length q, AV.msl 0 0 ((2 : Nat) ^ (n + m)) ((2 : Nat) ^ (n + m)) (1 : Nat), AV.sl (ints (lst F)) (lst F).length r, I (↑(lst F).length : Int), I (↑(i + (1 : Nat)) : Int)] = [I (↑n : Int), AV.sl (ints (lst G)) (lst G).length q, AV.msl 0 0 ((2 : Nat) ^ (n + m)) ((2 : Nat) ^ (n + m)) (1 : Nat), AV.sl (ints (lst F)) (lst F).length r, I (↑(lst F).length : Int), I (↑(i + (1 : Nat)) : Int)])) ∧ True) (by kernel_rfl) ?_⟩
    refine ⟨by first | with_reducible assumption | omega | assumption, ?_⟩
    refine ⟨ix_ints (by kernel_rfl) (by omega) hr, ?_⟩
    refine ⟨by first | exact ld_ints (by kernel_rfl) (by kernel_rfl) (by omega) | exact ldm_ints (by kernel_rfl) (by kernel_rfl) (by first | omega | (simp; omega)), ?_⟩
    refine ⟨hin, ?_⟩
    refine And.intro ?_ ?_
    · skip
      intro y
      intro w1
      intro u
      refine ⟨told_add (by with_reducible assumption), ?_⟩
      refine ⟨by first | with_reducible assumption | omega | assumption, ?_⟩
      refine ⟨by first | with_reducible assumption | omega | assumption, ?_⟩
      exact ⟨rfl, rfl⟩
    · skip
      trivial
  · have hz : ((lst F).length : Int) ≤ i := by omega
    have hj' : i = (elts F).length := by omega
    subst hj'
    refine ⟨[Ans.o (Orc.b false)], fun u => of_eq ((↑(lst F).length : Int) ≤ (↑(elts F).length : Int) ∧ (42 : Nat) = (42 : Nat) ∧ hits [Out.mk Unit (AX.exit (0 : Nat)) [(9 : Nat)] (fun x => True) (fun x => [AV.msl 0 0 ((2 : Nat) ^ (n + m)) ((2 : Nat) ^ (n + m)) (1 : Nat)]) (fun x => h54 ((2 : Nat) ^ (n + m)) n F G (elts F).length (0 : Nat)) fun x => []] (AX.exit (0 : Nat)) [I (↑n : Int), u (1 : Nat), u (2 : Nat), AV.sl (ints (lst G)) (lst G).length q, u (4 : Nat), u (5 : Nat), u (6 : Nat), u (7 : Nat), u (8 : Nat), AV.msl 0 0 ((2 : Nat) ^ (n + m)) ((2 : Nat) ^ (n + m)) (1 : Nat), u (10 : Nat), u (11 : Nat), u (12 : Nat), u (13 : Nat), u (14 : Nat), u (15 : Nat), u (16 : Nat), u (17 : Nat), u (18 : Nat), AV.sl (ints (lst F)) (lst F).length r, I (↑(lst F).length : Int), I (↑(elts F).length : Int), AV.bool false, u (23 : Nat), u (24 : Nat), u (25 : Nat), u (26 : Nat), u (27 : Nat), u (28 : Nat), u (29 : Nat), u (30 : Nat), u (31 : Nat), u (32 : Nat), u (33 : Nat), u (34 : Nat), u (35 : Nat), u (36 : Nat), u (37 : Nat), u (38 : Nat), u (39 : Nat), u (40 : Nat), u (41 : Nat)] (H.mk [bools (tabN ((2 : Nat) ^ (n + m)) (jJ n (elts F) (elts G) (elts F).length (0 : Nat)))] [] [])) (by kernel_rfl) ?_⟩
    refine ⟨by first | with_reducible assumption | omega | assumption, ?_⟩
    refine ⟨by first | with_reducible assumption | omega | assumption, ?_⟩
    exact .inl ⟨(), trivial, rfl, rfl, rfl⟩
abbrev m72 : FuncId → Bool := fun i => i == 72
theorem ok54 : FokM Tryd.prog m72 54 Tryd.f54 := ⟨mixed, by kernel_rfl, by kernel_rfl, by kernel_rfl, by kernel_rfl⟩
theorem jJ_lt {n m : Nat} {F G : W} (hF : Rg n F) (hG : Rg m G) : ∀ s ∈ jJ n (elts F) (elts G) (elts F).length 0, s < 2 ^ (n + m) := fun s h => by
  rw [jJ_0, List.take_length, List.mem_flatMap] at h
  obtain ⟨a, h1, h2⟩ := h
  rw [List.mem_map] at h2
  obtain ⟨b, h3, rfl⟩ := h2
  exact pl_lt (hF a (Go.Proofs.Sur.mem_bits.1 h1)) (hG b (Go.Proofs.Sur.mem_bits.1 h3))
theorem r54 (n m : Nat) (F G : W) (r q : Room) (t : List Bool) (ht : t = tabN (2 ^ (n + m)) (jJ n (elts F) (elts G) (elts F).length 0)) (hT : t.length = 2 ^ (n + m)) (h64 : 2 ^ (n + m) ≤ 64)
    (hf : Fm n (lst F) F) (hg : Fm m (lst G) G) (hr : rok (lst F) r) (hq : rok (lst G) q) (hn : n + m ≤ 6) :
    Body (En6 [c72m t (2 ^ (n + m)) hT h64]) m72 Tryd.f54 [I n, I m, ls (lst F) r, ls (lst G) q] .nil (acc (lst (jn n F G)), hacc (lst (jn n F G))) := by
  have hF : Rg n F := by have := hf.rg; simpa using this
  have hG : Rg m G := by have := hg.rg; simpa using this
  have hl := lp54 n m F G r q hn hF hG hr hq
  have h00 : jJ n (elts F) (elts G) 0 0 = [] := by rw [jJ_0]; rfl
  have e00 : h54 (2 ^ (n + m)) n F G 0 0 = ⟨[bools (List.replicate (2 ^ (n + m)) b0)], [], []⟩ := by rw [h54, h00, tabN_nil]
  rw [e00] at hl
  have hj := jJ_all hn hF hG
  have htr : tru t = elts (jn n F G) := by rw [ht, tru_tabN h64 (jJ_lt hF hG), hj]
  have hlst : ic (tru t) = lst (jn n F G) := by rw [htr]
  have ev2 : IntKind.i64.wrap ((n : Int) + (m : Int)) = ((n + m : Nat) : Int) := by rw [wr _ (by omega) (by omega)]; omega
  have ev0 := pw_shl (n := n + m) (by omega)
  have hb : 2 ^ (n + m) ≤ 1000000000 := by omega
  have hlp : LoopS (En6 [c72m t (2 ^ (n + m)) hT h64]) (loopAt Tryd.f54 0) 42 [0, 3, 9, 19, 20, 21] (v54 (2 ^ (n + m)) n F G r q 0) ⟨[bools (List.replicate (2 ^ (n + m)) b0)], [], []⟩ (o54 (2 ^ (n + m)) n F G) := hl
  have hp72 : (h54 (2 ^ (n + m)) n F G (elts F).length 0).blk[0]? = some (bools t) := by rw [ht]; rfl
  rw [← hlst]
  refine body_s ([Ans.o (Orc.val 16 (I (↑(n + m) : Int)) H.nil), Ans.o (Orc.val 17 (I (↑((2 : Nat) ^ (n + m)) : Int)) H.nil), Ans.o (Orc.val 18 (AV.msl 0 0 ((2 : Nat) ^ (n + m)) ((2 : Nat) ^ (n + m)) (1 : Nat)) (H.mk [bools (List.replicate ((2 : Nat) ^ (n + m)) b0)] [] [])), Ans.loop [(0 : Nat), (3 : Nat), (9 : Nat), (19 : Nat), (20 : Nat), (21 : Nat)] [Out.mk Unit (AX.exit (0 : Nat)) [(9 : Nat)] (fun x => True) (fun x => [AV.msl 0 0 ((2 : Nat) ^ (n + m)) ((2 : Nat) ^ (n + m)) (1 : Nat)]) (fun x => h54 ((2 : Nat) ^ (n + m)) n F G (elts F).length (0 : Nat)) fun y => [Ans.o (Orc.val 41 (AV.sl (ints (ic (tru t))) (ic (tru t)).length (rm (H.mk [bools (tabN ((2 : Nat) ^ (n + m)) (jJ n (elts F) (elts G) (elts F).length (0 : Nat)))] [] []).toks.length (ic (tru t)))) (H.mk [bools (tabN ((2 : Nat) ^ (n + m)) (jJ n (elts F) (elts G) (elts F).length (0 : Nat)))] ((H.mk [bools (tabN ((2 : Nat) ^ (n + m)) (jJ n (elts F) (elts G) (elts F).length (0 : Nat)))] [] []).toks ++ tk (ic (tru t))) []))]]]) (aBin Tryd.prog BinOp.add (3 : Nat) (I (↑n : Int)) (I (↑m : Int)) = some (I (↑(n + m) : Int)) ∧ aBin Tryd.prog BinOp.shl (3 : Nat) (I 1) (I (↑(n + m) : Int)) = some (I (↑((2 : Nat) ^ (n + m)) : Int)) ∧ aMake Tryd.prog (84 : Nat) (↑((2 : Nat) ^ (n + m)) : Int) (↑((2 : Nat) ^ (n + m)) : Int) (H.mk [] [] []) = some (AV.msl 0 0 ((2 : Nat) ^ (n + m)) ((2 : Nat) ^ (n + m)) (1 : Nat), H.mk [bools (List.replicate ((2 : Nat) ^ (n + m)) b0)] [] []) ∧ LoopS (Env.mk Tryd.prog (Sof [c72m t ((2 : Nat) ^ (n + m)) hT h64]) (Pof (P := Tryd.prog) []) H.nil.base (300 : Nat)) (loopAt Tryd.f54 (0 : Nat)) (42 : Nat) [(0 : Nat), (3 : Nat), (9 : Nat), (19 : Nat), (20 : Nat), (21 : Nat)] [I (↑n : Int), AV.sl (ints (lst G)) (lst G).length q, AV.msl 0 0 ((2 : Nat) ^ (n + m)) ((2 : Nat) ^ (n + m)) (1 : Nat), AV.sl (ints (lst F)) (lst F).length r, I (↑(lst F).length : Int), I 0] (H.mk [bools (List.replicate ((2 : Nat) ^ (n + m)) b0)] [] []) [Out.mk Unit (AX.exit (0 : Nat)) [(9 : Nat)] (fun x => True) (fun x => [AV.msl 0 0 ((2 : Nat) ^ (n + m)) ((2 : Nat) ^ (n + m)) (1 : Nat)]) (fun x => h54 ((2 : Nat) ^ (n + m)) n F G (elts F).length (0 : Nat)) fun y => [Ans.o (Orc.val 41 (AV.sl (ints (ic (tru t))) (ic (tru t)).length (rm (H.mk [bools (tabN ((2 : Nat) ^ (n + m)) (jJ n (elts F) (elts G) (elts F).length (0 : Nat)))] [] []).toks.length (ic (tru t)))) (H.mk [bools (tabN ((2 : Nat) ^ (n + m)) (jJ n (elts F) (elts G) (elts F).length (0 : Nat)))] ((H.mk [bools (tabN ((2 : Nat) ^ (n + m)) (jJ n (elts F) (elts G) (elts F).length (0 : Nat)))] [] []).toks ++ tk (ic (tru t))) []))]] ∧ (∀ (y : Unit), True → ∀ (u : Nat → AV), aCall (Sof [c72m t ((2 : Nat) ^ (n + m)) hT h64]) (AV.fn (Fn.func (72 : Nat)) [] []) [AV.msl 0 0 ((2 : Nat) ^ (n + m)) ((2 : Nat) ^ (n + m)) (1 : Nat)] (H.mk [bools (tabN ((2 : Nat) ^ (n + m)) (jJ n (elts F) (elts G) (elts F).length (0 : Nat)))] [] []) = some (AV.sl (ints (ic (tru t))) (ic (tru t)).length (rm (H.mk [bools (tabN ((2 : Nat) ^ (n + m)) (jJ n (elts F) (elts G) (elts F).length (0 : Nat)))] [] []).toks.length (ic (tru t))), H.mk [bools (tabN ((2 : Nat) ^ (n + m)) (jJ n (elts F) (elts G) (elts F).length (0 : Nat)))] ((H.mk [bools (tabN ((2 : Nat) ^ (n + m)) (jJ n (elts F) (elts G) (elts F).length (0 : Nat)))] [] []).toks ++ tk (ic (tru t))) []) ∧ leave (Base.mk H.nil.blk.length H.nil.toks.length H.nil.maps.length) (AV.sl (ints (ic (tru t))) (ic (tru t)).length (rm (H.mk [bools (tabN ((2 : Nat) ^ (n + m)) (jJ n (elts F) (elts G) (elts F).length (0 : Nat)))] [] []).toks.length (ic (tru t)))) (H.mk [bools (tabN ((2 : Nat) ^ (n + m)) (jJ n (elts F) (elts G) (elts F).length (0 : Nat)))] ((H.mk [bools (tabN ((2 : Nat) ^ (n + m)) (jJ n (elts F) (elts G) (elts F).length (0 : Nat)))] [] []).toks ++ tk (ic (tru t))) []) = (AV.sl (ints (ic (tru t))) (ic (tru t)).length (rm (0 : Nat) (ic (tru t))), H.mk [] (tk (ic (tru t))) [])) ∧ True) (by kernel_rfl) ?_
  refine ⟨told_add (by with_reducible assumption), ?_⟩
  refine ⟨by first | exact told_shl (by first | exact Int.natCast_nonneg _ | omega) (by with_reducible assumption) | exact told_shl (by omega) rfl, ?_⟩
  refine ⟨by first | exact mk_u64s (by kernel_rfl) (by omega) | exact mk_ints (by kernel_rfl) (by omega) | exact mk_bools (by kernel_rfl) (by omega), ?_⟩
  refine ⟨hlp, ?_⟩
  refine And.intro ?_ ?_
  · skip
    intro y
    intro w1
    intro u
    refine ⟨acall_hit (c := c72m t (2 ^ (n + m)) hT h64) () _ rfl hp72, ?_⟩
    exact leave_acc' _ _
  · skip
    trivial
noncomputable def c54 : PCtr Tryd.prog := slctr ok54 (X := Nat × Nat × W × W × Room × Room) (fun x => [I x.1, I x.2.1, ls (lst x.2.2.1) x.2.2.2.2.1, ls (lst x.2.2.2.1) x.2.2.2.2.2])
  (fun x => (Fm x.1 (lst x.2.2.1) x.2.2.1 ∧ Fm x.2.1 (lst x.2.2.2.1) x.2.2.2.1) ∧ (rok (lst x.2.2.1) x.2.2.2.2.1 ∧ rok (lst x.2.2.2.1) x.2.2.2.2.2) ∧ x.1 + x.2.1 ≤ 6) (fun x => ls (lst (jn x.1 x.2.2.1 x.2.2.2.1)) (rn (lst (jn x.1 x.2.2.1 x.2.2.2.1))))
  (by
    rintro ⟨n, m, F, G, r, q⟩ ⟨n', m', F', G', r', q'⟩ e _ _
    simp at e
    obtain ⟨h1, h2, ⟨h3, _⟩, h4, _⟩ := e
    have h1 : n = n' := by omega
    subst h1; subst h3; subst h4; rfl) (fun x => by simp [AV.bnds, AV.bnd, AV.wk, rm_wk_bnd]) (fun x => by simp [AV.bnd, AV.bnds, rm_wk_bnd])
  (fun x hx => ⟨_, _, _, acc (lst (jn x.1 x.2.2.1 x.2.2.2.1)), tk (lst (jn x.1 x.2.2.1 x.2.2.2.1)), .eff _ rfl .nil, r54 x.1 x.2.1 x.2.2.1 x.2.2.2.1 x.2.2.2.2.1.wk x.2.2.2.2.2.wk _ rfl (tabN_len _ _) (p64 hx.2.2) hx.1.1 hx.1.2 (by simpa using hx.2.1.1) (by simpa using hx.2.1.2) hx.2.2, by simp [AV.plain, AV.plains, plains_ints, plains_rows], by first | (simp only [AV.wkd, wkds_ints]; done) | simp [AV.wkd, AV.wkds, Room.wk]⟩)
/-! ### EvadeJoins -/
/-- 'list' of two: families -/
theorem ok8 : FokM Tryd.prog none1 8 Tryd.f8 := ⟨mixed, by kernel_rfl, by kernel_rfl, by kernel_rfl, by kernel_rfl⟩
theorem r8g (n m : Nat) (F G : W) (r q : Room) (hf : Fm n (lst F) F) (hg : Fm m (lst G) G) (hr : rok (lst F) r) (he : em (lst F) r) (hq : rok (lst G) q) (hqe : em (lst G) q) (hn : n + m ≤ 6) :
    Body (En6 [c18f.to, c53g.to, c24.to, c54.to, c22.to, c26.to]) none1 Tryd.f8 [I n, I m, ls (lst F) r, ls (lst G) q] .nil (.bool true, .nil) := by
  have hlF : lim (lst F).length := by have := lst_len F; simp only [lim]; omega
  have hlG : lim (lst G).length := by have := lst_len G; simp only [lim]; omega
  have hlj : lim (lst (jn n F G)).length := by have := lst_len (jn n F G); simp only [lim]; omega
  have p18 : rok (lst F) r ∧ em (lst F) r := ⟨hr, he⟩
  have p18g : rok (lst G) q ∧ em (lst G) q := ⟨hq, hqe⟩
  have p53 : (Fm n (lst F) F ∧ Fm m (lst G) G) ∧ (rok (lst F) (rcl r) ∧ rok (lst G) (rcl q)) ∧ n + m ≤ 6 := ⟨⟨hf, hg⟩, ⟨rcl_rok hr, rcl_rok hq⟩, hn⟩
  have p54 : (Fm n (lst F) F ∧ Fm m (lst G) G) ∧ (rok (lst F) r ∧ rok (lst G) q) ∧ n + m ≤ 6 := ⟨⟨hf, hg⟩, ⟨hr, hq⟩, hn⟩
  have p24 : lim (lst F).length ∧ rok (lst F) r := ⟨hlF, hr⟩
  have p24g : lim (lst G).length ∧ rok (lst G) q := ⟨hlG, hq⟩
  have hb1 : famB n (lst F) = true := famB_t ⟨F, hf⟩
  have hb2 : famB m (lst G) = true := famB_t ⟨G, hg⟩
  have p22 : lim (lst (jn n F G)).length ∧ rok (lst (jn n F G)) (rn (lst (jn n F G))) ∧ rok (lst (jn n F G)) (rn (lst (jn n F G))) := ⟨hlj, rn_rok _, rn_rok _⟩
  have heq : decide (lst (jn n F G) = lst (jn n F G)) = true := decide_eq_true rfl
  have ev2 : IntKind.i64.wrap ((n : Int) + (m : Int)) = ((n + m : Nat) : Int) := by rw [wr _ (by omega) (by omega)]; omega
  have h6 : ((n + m : Nat) : Int) ≤ 6 := by omega
  refine body_s ([Ans.o (Orc.val 15 (AV.sl (ints (lst F)) (lst F).length (rcl r)) (H.mk [] [] [])), Ans.o (Orc.val 17 (AV.sl (ints (lst G)) (lst G).length (rcl q)) (H.mk [] [] [])), Ans.o (Orc.val 18 (AV.tup [AV.sl (ints (lst (jn n F G))) (lst (jn n F G)).length (rn (lst (jn n F G))), I 0]) (H.mk [] [] [])), Ans.o (Orc.val 23 (AV.bool true) (H.mk [] [] [])), Ans.o (Orc.val 28 (AV.bool true) (H.mk [] [] [])), Ans.o (Orc.val 34 (I (↑(n + m) : Int)) H.nil), Ans.o (Orc.b false), Ans.o (Orc.val 52 (AV.sl (ints (lst (jn n F G))) (lst (jn n F G)).length (rn (lst (jn n F G)))) (H.mk [] [] [])), Ans.o (Orc.val 53 (AV.bool true) (H.mk [] [] [])), Ans.o Orc.dflt, Ans.o (Orc.val 59 (AV.bool true) (H.mk [] [] []))]) (aCall (Sof [c18f.to, c53g.to, c24.to, c54.to, c22.to, c26.to]) (AV.fn (Fn.func (18 : Nat)) [] []) [AV.sl (ints (lst F)) (lst F).length r] (H.mk [] [] []) = some (AV.sl (ints (lst F)) (lst F).length (rcl r), H.mk [] [] []) ∧ aCall (Sof [c18f.to, c53g.to, c24.to, c54.to, c22.to, c26.to]) (AV.fn (Fn.func (18 : Nat)) [] []) [AV.sl (ints (lst G)) (lst G).length q] (H.mk [] [] []) = some (AV.sl (ints (lst G)) (lst G).length (rcl q), H.mk [] [] []) ∧ aCall (Sof [c18f.to, c53g.to, c24.to, c54.to, c22.to, c26.to]) (AV.fn (Fn.func (53 : Nat)) [] []) [I (↑n : Int), I (↑m : Int), AV.sl (ints (lst F)) (lst F).length (rcl r), AV.sl (ints (lst G)) (lst G).length (rcl q)] (H.mk [] [] []) = some (AV.tup [AV.sl (ints (lst (jn n F G))) (lst (jn n F G)).length (rn (lst (jn n F G))), I 0], H.mk [] [] []) ∧ aCall (Sof [c18f.to, c53g.to, c24.to, c54.to, c22.to, c26.to]) (AV.fn (Fn.func (24 : Nat)) [] []) [I (↑n : Int), AV.sl (ints (lst F)) (lst F).length r] (H.mk [] [] []) = some (AV.bool true, H.mk [] [] []) ∧ aCall (Sof [c18f.to, c53g.to, c24.to, c54.to, c22.to, c26.to]) (AV.fn (Fn.func (24 : Nat)) [] []) [I (↑m : Int), AV.sl (ints (lst G)) (lst G).length q] (H.mk [] [] []) = some (AV.bool true, H.mk [] [] []) ∧ aBin Tryd.prog BinOp.add (3 : Nat) (I (↑n : Int)) (I (↑m : Int)) = some (I (↑(n + m) : Int)) ∧ (↑(n + m) : Int) ≤ (6 : Int) ∧ aCall (Sof [c18f.to, c53g.to, c24.to, c54.to, c22.to, c26.to]) (AV.fn (Fn.func (54 : Nat)) [] []) [I (↑n : Int), I (↑m : Int), AV.sl (ints (lst F)) (lst F).length r, AV.sl (ints (lst G)) (lst G).length q] (H.mk [] [] []) = some (AV.sl (ints (lst (jn n F G))) (lst (jn n F G)).length (rn (lst (jn n F G))), H.mk [] [] []) ∧ aCall (Sof [c18f.to, c53g.to, c24.to, c54.to, c22.to, c26.to]) (AV.fn (Fn.func (22 : Nat)) [] []) [AV.sl (ints (lst (jn n F G))) (lst (jn n F G)).length (rn (lst (jn n F G))), AV.sl (ints (lst (jn n F G))) (lst (jn n F G)).length (rn (lst (jn n F G)))] (H.mk [] [] []) = some (AV.bool true, H.mk [] [] []) ∧ aCall (Sof [c18f.to, c53g.to, c24.to, c54.to, c22.to, c26.to]) (AV.fn (Fn.func (26 : Nat)) [] []) [] (H.mk [] [] []) = some (AV.bool true, H.mk [] [] []) ∧ (AV.bool true, H.mk [] [] []) = (AV.bool true, H.mk [] [] [])) (by kernel_rfl) ?_
  refine ⟨by first | exact acall_hit (c := c18f.to) (F, r) _ rfl p18 | exact acall_hit (c := c18f.to) (G, q) _ rfl p18g, ?_⟩
  refine ⟨by first | exact acall_hit (c := c18f.to) (F, r) _ rfl p18 | exact acall_hit (c := c18f.to) (G, q) _ rfl p18g, ?_⟩
  refine ⟨acall_hit (c := c53g.to) (n, m, F, G, rcl r, rcl q) _ rfl p53, ?_⟩
  refine ⟨by first | exact acall_b (acall_hit (c := c24.to) ((n : Int), lst F, r) _ rfl p24) hb1 | exact acall_b (acall_hit (c := c24.to) ((m : Int), lst G, q) _ rfl p24g) hb2, ?_⟩
  refine ⟨by first | exact acall_b (acall_hit (c := c24.to) ((n : Int), lst F, r) _ rfl p24) hb1 | exact acall_b (acall_hit (c := c24.to) ((m : Int), lst G, q) _ rfl p24g) hb2, ?_⟩
  refine ⟨told_add (by with_reducible assumption), ?_⟩
  refine ⟨by first | with_reducible assumption | omega | assumption, ?_⟩
  refine ⟨acall_hit (c := c54.to) (n, m, F, G, r, q) _ rfl p54, ?_⟩
  refine ⟨acall_b (acall_hit (c := c22.to) (lst (jn n F G), rn (lst (jn n F G)), lst (jn n F G), rn (lst (jn n F G))) _ rfl p22) heq, ?_⟩
  refine ⟨acall_hit (c := c26.to) () _ rfl trivial, ?_⟩
  first | with_reducible rfl | (refine bleaf_t ?_; omega) | (refine bleaf_f ?_; omega) | (refine ileaf ?_; omega) | rfl | (exfalso; omega)
theorem r8b (n m : Int) (l k : List Int) (r q : Room) (b1 b2 : Bool) (hb1 : famB n l = b1) (hb2 : famB m k = b2) (h6 : b1 = true → b2 = true → 6 < n + m ∧ IntKind.i64.wrap (n + m) = n + m) (hno : nojoin n m l k) (hl : lim l.length) (hr : rok l r) (he : em l r) (hg : rng l) (hk : lim k.length) (hq : rok k q) (hqe : em k q) (hkg : rng k) :
    Body (En6 [c18.to, c53b.to, c24.to, c26.to]) none1 Tryd.f8 [I n, I m, ls l r, ls k q] .nil (.bool true, .nil) := by
  have p18 : lim l.length ∧ rok l r ∧ em l r := ⟨hl, hr, he⟩
  have p18k : lim k.length ∧ rok k q ∧ em k q := ⟨hk, hq, hqe⟩
  have rc : ∀ {l : List Int} {r : Room}, rok l r → rok (cut l) (rcl r) := fun {l r} h hne => rcl_rok h (fun e => hne (by rw [cut, e]; rfl))
  have p53 : ((lim (cut l).length ∧ rok (cut l) (rcl r) ∧ rng (cut l)) ∧ (lim (cut k).length ∧ rok (cut k) (rcl q) ∧ rng (cut k))) ∧ nojoin n m (cut l) (cut k) :=
    ⟨⟨⟨cut_lim l, rc hr, cut_rng hg⟩, ⟨cut_lim k, rc hq, cut_rng hkg⟩⟩, hno.imp cut_no (Or.imp cut_no id)⟩
  have p24 : lim l.length ∧ rok l r := ⟨hl, hr⟩
  have p24k : lim k.length ∧ rok k q := ⟨hk, hq⟩
  cases b1
  · refine body_s ([Ans.o (Orc.val 15 (AV.sl (ints (cut l)) (cut l).length (rcl r)) (H.mk [] [] [])), Ans.o (Orc.val 17 (AV.sl (ints (cut k)) (cut k).length (rcl q)) (H.mk [] [] [])), Ans.o (Orc.val 18 (AV.tup [AV.sl [] (0 : Nat) Room.nil, I 2]) (H.mk [] [] [])), Ans.o (Orc.val 23 (AV.bool false) (H.mk [] [] [])), Ans.o Orc.dflt, Ans.o Orc.dflt, Ans.o (Orc.val 45 (AV.bool true) (H.mk [] [] []))]) (aCall (Sof [c18.to, c53b.to, c24.to, c26.to]) (AV.fn (Fn.func (18 : Nat)) [] []) [AV.sl (ints l) l.length r] (H.mk [] [] []) = some (AV.sl (ints (cut l)) (cut l).length (rcl r), H.mk [] [] []) ∧ aCall (Sof [c18.to, c53b.to, c24.to, c26.to]) (AV.fn (Fn.func (18 : Nat)) [] []) [AV.sl (ints k) k.length q] (H.mk [] [] []) = some (AV.sl (ints (cut k)) (cut k).length (rcl q), H.mk [] [] []) ∧ aCall (Sof [c18.to, c53b.to, c24.to, c26.to]) (AV.fn (Fn.func (53 : Nat)) [] []) [I n, I m, AV.sl (ints (cut l)) (cut l).length (rcl r), AV.sl (ints (cut k)) (cut k).length (rcl q)] (H.mk [] [] []) = some (AV.tup [AV.sl [] (0 : Nat) Room.nil, I 2], H.mk [] [] []) ∧ aCall (Sof [c18.to, c53b.to, c24.to, c26.to]) (AV.fn (Fn.func (24 : Nat)) [] []) [I n, AV.sl (ints l) l.length r] (H.mk [] [] []) = some (AV.bool false, H.mk [] [] []) ∧ aCall (Sof [c18.to, c53b.to, c24.to, c26.to]) (AV.fn (Fn.func (26 : Nat)) [] []) [] (H.mk [] [] []) = some (AV.bool true, H.mk [] [] []) ∧ (AV.bool true, H.mk [] [] []) = (AV.bool true, H.mk [] [] [])) (by kernel_rfl) ?_
    refine ⟨by first | exact acall_hit (c := c18.to) (l, r) _ rfl p18 | exact acall_hit (c := c18.to) (k, q) _ rfl p18k, ?_⟩
    refine ⟨by first | exact acall_hit (c := c18.to) (l, r) _ rfl p18 | exact acall_hit (c := c18.to) (k, q) _ rfl p18k, ?_⟩
    refine ⟨acall_hit (c := c53b.to) (n, m, cut l, cut k, rcl r, rcl q) _ rfl p53, ?_⟩
    refine ⟨acall_b (acall_hit (c := c24.to) (n, l, r) _ rfl p24) hb1, ?_⟩
    refine ⟨acall_hit (c := c26.to) () _ rfl trivial, ?_⟩
    first | with_reducible rfl | (refine bleaf_t ?_; omega) | (refine bleaf_f ?_; omega) | (refine ileaf ?_; omega) | rfl | (exfalso; omega)
  · cases b2
    · refine body_s ([Ans.o (Orc.val 15 (AV.sl (ints (cut l)) (cut l).length (rcl r)) (H.mk [] [] [])), Ans.o (Orc.val 17 (AV.sl (ints (cut k)) (cut k).length (rcl q)) (H.mk [] [] [])), Ans.o (Orc.val 18 (AV.tup [AV.sl [] (0 : Nat) Room.nil, I 2]) (H.mk [] [] [])), Ans.o (Orc.val 23 (AV.bool true) (H.mk [] [] [])), Ans.o (Orc.val 28 (AV.bool false) (H.mk [] [] [])), Ans.o Orc.dflt, Ans.o Orc.dflt, Ans.o (Orc.val 45 (AV.bool true) (H.mk [] [] []))]) (aCall (Sof [c18.to, c53b.to, c24.to, c26.to]) (AV.fn (Fn.func (18 : Nat)) [] []) [AV.sl (ints l) l.length r] (H.mk [] [] []) = some (AV.sl (ints (cut l)) (cut l).length (rcl r), H.mk [] [] []) ∧ aCall (Sof [c18.to, c53b.to, c24.to, c26.to]) (AV.fn (Fn.func (18 : Nat)) [] []) [AV.sl (ints k) k.length q] (H.mk [] [] []) = some (AV.sl (ints (cut k)) (cut k).length (rcl q), H.mk [] [] []) ∧ aCall (Sof [c18.to, c53b.to, c24.to, c26.to]) (AV.fn (Fn.func (53 : Nat)) [] []) [I n, I m, AV.sl (ints (cut l)) (cut l).length (rcl r), AV.sl (ints (cut k)) (cut k).length (rcl q)] (H.mk [] [] []) = some (AV.tup [AV.sl [] (0 : Nat) Room.nil, I 2], H.mk [] [] []) ∧ aCall (Sof [c18.to, c53b.to, c24.to, c26.to]) (AV.fn (Fn.func (24 : Nat)) [] []) [I n, AV.sl (ints l) l.length r] (H.mk [] [] []) = some (AV.bool true, H.mk [] [] []) ∧ aCall (Sof [c18.to, c53b.to, c24.to, c26.to]) (AV.fn (Fn.func (24 : Nat)) [] []) [I m, AV.sl (ints k) k.length q] (H.mk [] [] []) = some (AV.bool false, H.mk [] [] []) ∧ aCall (Sof [c18.to, c53b.to, c24.to, c26.to]) (AV.fn (Fn.func (26 : Nat)) [] []) [] (H.mk [] [] []) = some (AV.bool true, H.mk [] [] []) ∧ (AV.bool true, H.mk [] [] []) = (AV.bool true, H.mk [] [] [])) (by kernel_rfl) ?_
      refine ⟨by first | exact acall_hit (c := c18.to) (l, r) _ rfl p18 | exact acall_hit (c := c18.to) (k, q) _ rfl p18k, ?_⟩
      refine ⟨by first | exact acall_hit (c := c18.to) (l, r) _ rfl p18 | exact acall_hit (c := c18.to) (k, q) _ rfl p18k, ?_⟩
      refine ⟨acall_hit (c := c53b.to) (n, m, cut l, cut k, rcl r, rcl q) _ rfl p53, ?_⟩
      refine ⟨by first | exact acall_b (acall_hit (c := c24.to) (n, l, r) _ rfl p24) hb1 | exact acall_b (acall_hit (c := c24.to) (m, k, q) _ rfl p24k) hb2, ?_⟩
      refine ⟨by first | exact acall_b (acall_hit (c := c24.to) (n, l, r) _ rfl p24) hb1 | exact acall_b (acall_hit (c := c24.to) (m, k, q) _ rfl p24k) hb2, ?_⟩
      refine ⟨acall_hit (c := c26.to) () _ rfl trivial, ?_⟩
      first | with_reducible rfl | (refine bleaf_t ?_; omega) | (refine bleaf_f ?_; omega) | (refine ileaf ?_; omega) | rfl | (exfalso; omega)
    · obtain ⟨h7, ev0⟩ := h6 rfl rfl
      refine body_s ([Ans.o (Orc.val 15 (AV.sl (ints (cut l)) (cut l).length (rcl r)) (H.mk [] [] [])), Ans.o (Orc.val 17 (AV.sl (ints (cut k)) (cut k).length (rcl q)) (H.mk [] [] [])), Ans.o (Orc.val 18 (AV.tup [AV.sl [] (0 : Nat) Room.nil, I 2]) (H.mk [] [] [])), Ans.o (Orc.val 23 (AV.bool true) (H.mk [] [] [])), Ans.o (Orc.val 28 (AV.bool true) (H.mk [] [] [])), Ans.o (Orc.val 34 (I (n + m)) H.nil), Ans.o (Orc.b true), Ans.o Orc.dflt, Ans.o Orc.dflt, Ans.o (Orc.val 45 (AV.bool true) (H.mk [] [] []))]) (aCall (Sof [c18.to, c53b.to, c24.to, c26.to]) (AV.fn (Fn.func (18 : Nat)) [] []) [AV.sl (ints l) l.length r] (H.mk [] [] []) = some (AV.sl (ints (cut l)) (cut l).length (rcl r), H.mk [] [] []) ∧ aCall (Sof [c18.to, c53b.to, c24.to, c26.to]) (AV.fn (Fn.func (18 : Nat)) [] []) [AV.sl (ints k) k.length q] (H.mk [] [] []) = some (AV.sl (ints (cut k)) (cut k).length (rcl q), H.mk [] [] []) ∧ aCall (Sof [c18.to, c53b.to, c24.to, c26.to]) (AV.fn (Fn.func (53 : Nat)) [] []) [I n, I m, AV.sl (ints (cut l)) (cut l).length (rcl r), AV.sl (ints (cut k)) (cut k).length (rcl q)] (H.mk [] [] []) = some (AV.tup [AV.sl [] (0 : Nat) Room.nil, I 2], H.mk [] [] []) ∧ aCall (Sof [c18.to, c53b.to, c24.to, c26.to]) (AV.fn (Fn.func (24 : Nat)) [] []) [I n, AV.sl (ints l) l.length r] (H.mk [] [] []) = some (AV.bool true, H.mk [] [] []) ∧ aCall (Sof [c18.to, c53b.to, c24.to, c26.to]) (AV.fn (Fn.func (24 : Nat)) [] []) [I m, AV.sl (ints k) k.length q] (H.mk [] [] []) = some (AV.bool true, H.mk [] [] []) ∧ aBin Tryd.prog BinOp.add (3 : Nat) (I n) (I m) = some (I (n + m)) ∧ (6 : Int) < n + m ∧ aCall (Sof [c18.to, c53b.to, c24.to, c26.to]) (AV.fn (Fn.func (26 : Nat)) [] []) [] (H.mk [] [] []) = some (AV.bool true, H.mk [] [] []) ∧ (AV.bool true, H.mk [] [] []) = (AV.bool true, H.mk [] [] [])) (by kernel_rfl) ?_
      refine ⟨by first | exact acall_hit (c := c18.to) (l, r) _ rfl p18 | exact acall_hit (c := c18.to) (k, q) _ rfl p18k, ?_⟩
      refine ⟨by first | exact acall_hit (c := c18.to) (l, r) _ rfl p18 | exact acall_hit (c := c18.to) (k, q) _ rfl p18k, ?_⟩
      refine ⟨acall_hit (c := c53b.to) (n, m, cut l, cut k, rcl r, rcl q) _ rfl p53, ?_⟩
      refine ⟨by first | exact acall_b (acall_hit (c := c24.to) (n, l, r) _ rfl p24) hb1 | exact acall_b (acall_hit (c := c24.to) (m, k, q) _ rfl p24k) hb2, ?_⟩
      refine ⟨by first | exact acall_b (acall_hit (c := c24.to) (n, l, r) _ rfl p24) hb1 | exact acall_b (acall_hit (c := c24.to) (m, k, q) _ rfl p24k) hb2, ?_⟩
      refine ⟨told_add (by with_reducible assumption), ?_⟩
      refine ⟨by first | with_reducible assumption | omega | assumption, ?_⟩
      refine ⟨acall_hit (c := c26.to) () _ rfl trivial, ?_⟩
      first | with_reducible rfl | (refine bleaf_t ?_; omega) | (refine bleaf_f ?_; omega) | (refine ileaf ?_; omega) | rfl | (exfalso; omega)
theorem joins_ok (n m : Int) (l k : List Int) (q p : RK) (h1 : l.length ≤ Go.maxLen) (h2 : q.mt = true → l = []) (h3 : rng l) (h4 : k.length ≤ Go.maxLen) (h5 : p.mt = true → k = []) (h6 : rng k) : CallOk Tryd.prog 8 [I n, I m, ls l (rr q), ls k (rr p)] .nil (.bool true) .nil := by
  have hm : Go.maxLen ≤ 9223372036854775807 := by decide
  have hl : lim l.length := Nat.le_trans h1 hm
  have hk : lim k.length := Nat.le_trans h4 hm
  have bad : nojoin n m l k → CallOk Tryd.prog 8 [I n, I m, ls l (rr q), ls k (rr p)] .nil (.bool true) .nil := fun hno =>
    (r8b n m l k (rr q) (rr p) _ _ rfl rfl (fun e1 e2 => by
      have f1 : ∃ F, Fm n l F := Classical.byContradiction fun h => by rw [famB_f h] at e1; cases e1
      have f2 : ∃ F, Fm m k F := Classical.byContradiction fun h => by rw [famB_f h] at e2; cases e2
      rcases hno with h | h | h
      · exact absurd f1 h
      · exact absurd f2 h
      · obtain ⟨F, hF⟩ := f1
        obtain ⟨G, hG⟩ := f2
        have b1 := hF.n1; have b2 := hF.n6; have b3 := hG.n1; have b4 := hG.n6
        exact ⟨h, wr _ (by omega) (by omega)⟩) hno hl (rr_rok h2) (em_rr h2) h3 hk (rr_rok h5) (em_rr h5) h6).run ok8 (.pure _ (.pure _ (.pure _ (.pure _ .nil)))) rfl
  by_cases f1 : ∃ F, Fm n l F
  · by_cases f2 : ∃ F, Fm m k F
    · by_cases f3 : n + m ≤ 6
      · obtain ⟨F, hF⟩ := f1
        obtain ⟨G, hG⟩ := f2
        obtain ⟨a, rfl⟩ : ∃ a : Nat, n = a := ⟨n.toNat, by have := hF.n1; omega⟩
        obtain ⟨b, rfl⟩ : ∃ b : Nat, m = b := ⟨m.toNat, by have := hG.n1; omega⟩
        have e := hF.eq
        have e' := hG.eq
        subst e; subst e'
        exact (r8g a b F G (rr q) (rr p) hF hG (rr_rok h2) (em_rr h2) (rr_rok h5) (em_rr h5) (by omega)).run ok8 (.pure _ (.pure _ (.pure _ (.pure _ (.pure _ (.pure _ .nil)))))) rfl
      · exact bad (.inr (.inr (by omega)))
    · exact bad (.inr (.inl f2))
  · exact bad (.inl f1)
end Go.Proofs.Evd

