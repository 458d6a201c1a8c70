/- Layer 8: tables as lists; joins by the reference. -/
import Derived.Test.YtjobibaeklbkmaaDoorEdX
import Derived.KernelRfl
set_option linter.unusedSimpArgs false
set_option linter.unusedVariables false
set_option linter.unnecessarySimpa false
set_option maxHeartbeats 4000000
set_option maxRecDepth 100000
namespace Go.Proofs.Evd
open Go Go.VM
open Go.Proofs.Sur (W w_wrap w_nat w_inj w_eq0 w_and w_or w_andn w_shl w_shr neg_nat sub_nat tz tz_ok cl bits_cons bits_0 bits_len andn andn_bit andn_le i_wrap i_and i_or i_andn i_shl i_shr bit_01)

/-- the places that are true -/
abbrev trJ (t : List Bool) (j : Nat) : List Nat := (List.range j).filter fun s => t.getD s b0
abbrev tru (t : List Bool) : List Nat := trJ t t.length
theorem trJ_succ (t : List Bool) (j : Nat) : trJ t (j + 1) = if t.getD j b0 = true then trJ t j ++ [j] else trJ t j := by
  simp only [trJ, List.range_succ, List.filter_append, List.filter_cons, List.filter_nil]
  split
  · rfl
  · simp
abbrev o72 (t : List Bool) : List Out := [.mk Unit (.exit 0) [3] (fun _ => True) (fun _ => [acc (ic (tru t))]) (fun _ => hacc (ic (tru t))) (fun _ => [])]
theorem simp72 : allSimpleM none1 (loopAt Tryd.f72 0) = true := by kernel_rfl
theorem lp72 (t : List Bool) (ht : t.length ≤ 64) :
    LoopS (En6 []) (loopAt Tryd.f72 0) 20 [3, 6, 7, 8] [.sl [] 0 .nil, .sl (bools t) t.length .no, I t.length, I 0] .nil (o72 t) := by
  have hR : Rests (En6 []) none1 := rests mixed .nil
  refine loop_s hR simp72 none (by intro _ h; cases h) (fun j vs h => h = hacc (ic (trJ t j)) ∧ vs = [acc (ic (trJ t j)), .sl (bools t) t.length .no, I t.length, I j]) t.length ⟨rfl, rfl⟩ (by intro _ h; cases h) ?_
  rintro j vs h hj ⟨rfl, rfl⟩
  by_cases hz : (j : Int) < t.length
  · have hz' : j < t.length := by omega
    have ev3 : IntKind.i64.wrap ((j : Int) + 1) = ((j + 1 : Nat) : Int) := by rw [wr _ (by omega) (by omega)]; omega
    have hsu := trJ_succ t j
    have hlen : (ic (trJ t j)).length ≤ 1000000000 := by
      rw [ic_len]
      exact Nat.le_trans (List.length_filter_le _ _) (by rw [List.length_range]; omega)
    have hT : t.getD j b0 = true → ic (trJ t (j + 1)) = ic (trJ t j) ++ [(j : Int)] := fun h => by
      rw [hsu, if_pos h]; simp [ic]
    have hF : t.getD j b0 = false → trJ t (j + 1) = trJ t j := fun h => by
      rw [hsu, if_neg (by rw [h]; decide)]
    refine ⟨[Ans.o (Orc.b true), Ans.o (Orc.val 11 (AV.cptr (bools (List.drop j t))) H.nil), Ans.vfork (12 : Nat) (t.getD j b0) H.nil [Ans.o (Orc.val 17 (AV.sl (ints (ic (trJ t j) ++ [(↑j : Int)])) (ic (trJ t j) ++ [(↑j : Int)]).length (rm (0 : Nat) (ic (trJ t j) ++ [(↑j : Int)]))) (H.mk [] (tk (ic (trJ t j) ++ [(↑j : Int)])) [])), Ans.o (Orc.val 18 (I (↑(j + (1 : Nat)) : Int)) H.nil)] [Ans.o (Orc.val 18 (I (↑(j + (1 : Nat)) : Int)) H.nil)]], fun u => of_eq ((↑j : Int) < (↑t.length : Int) ∧ aIndexAddr Tryd.prog (84 : Nat) (AV.sl (bools t) t.length Room.no) (I (↑j : Int)) = some (AV.cptr (bools (List.drop j t))) ∧ aLoad Tryd.prog (4 : Nat) (bools (List.drop j t)) = some (AV.bool (t.getD j b0)) ∧ (t.getD j b0 = true → aAppend Tryd.prog (22 : Nat) (22 : Nat) (AV.sl (ints (ic (trJ t j))) (ic (trJ t j)).length (rm (0 : Nat) (ic (trJ t j)))) (AV.sl [I (↑j : Int)] (1 : Nat) Room.full) (H.mk [] (tk (ic (trJ t j))) []) = some (AV.sl (ints (ic (trJ t j) ++ [(↑j : Int)])) (ic (trJ t j) ++ [(↑j : Int)]).length (rm (0 : Nat) (ic (trJ t j) ++ [(↑j : Int)])), H.mk [] (tk (ic (trJ t j) ++ [(↑j : Int)])) []) ∧ aBin Tryd.prog BinOp.add (3 : Nat) (I (↑j : Int)) (I 1) = some (I (↑(j + (1 : Nat)) : Int)) ∧ (20 : Nat) = (20 : Nat) ∧ j < t.length ∧ Keep (H.mk [] (tk (ic (trJ t j) ++ [(↑j : Int)])) [] = H.mk [] (tk (ic (trJ t (j + (1 : Nat))))) [] ∧ [AV.sl (ints (ic (trJ t j) ++ [(↑j : Int)])) (ic (trJ t j) ++ [(↑j : Int)]).length (rm (0 : Nat) (ic (trJ t j) ++ [(↑j : Int)])), AV.sl (bools t) t.length Room.no, I (↑t.length : Int), I (↑(j + (1 : Nat)) : Int)] = [AV.sl (ints (ic (trJ t (j + (1 : Nat))))) (ic (trJ t (j + (1 : Nat)))).length (rm (0 : Nat) (ic (trJ t (j + (1 : Nat))))), AV.sl (bools t) t.length Room.no, I (↑t.length : Int), I (↑(j + (1 : Nat)) : Int)])) ∧ (t.getD j b0 = false → aBin Tryd.prog BinOp.add (3 : Nat) (I (↑j : Int)) (I 1) = some (I (↑(j + (1 : Nat)) : Int)) ∧ (20 : Nat) = (20 : Nat) ∧ j < t.length ∧ Keep (H.mk [] (tk (ic (trJ t j))) [] = H.mk [] (tk (ic (trJ t (j + (1 : Nat))))) [] ∧ [AV.sl (ints (ic (trJ t j))) (ic (trJ t j)).length (rm (0 : Nat) (ic (trJ t j))), AV.sl (bools t) t.length Room.no, I (↑t.length : Int), I (↑(j + (1 : Nat)) : Int)] = [AV.sl (ints (ic (trJ t (j + (1 : Nat))))) (ic (trJ t (j + (1 : Nat)))).length (rm (0 : Nat) (ic (trJ t (j + (1 : Nat))))), AV.sl (bools t) t.length Room.no, I (↑t.length : Int), I (↑(j + (1 : Nat)) : Int)]))) (by kernel_rfl) ?_⟩
    refine ⟨by first | with_reducible assumption | omega | assumption, ?_⟩
    refine ⟨ix_bools (by kernel_rfl) hz' no_ne, ?_⟩
    refine ⟨by first | exact ld_bools (by kernel_rfl) (by kernel_rfl) (by omega) | exact ldm_bools (by kernel_rfl) (by kernel_rfl) (by first | omega | (simp; omega)), ?_⟩
    refine And.intro ?_ ?_
    · skip
      intro w0
      refine ⟨app_ints' (by kernel_rfl) hlen, ?_⟩
      refine ⟨told_add (by with_reducible assumption), ?_⟩
      refine ⟨by first | with_reducible assumption | omega | assumption, ?_⟩
      refine ⟨by first | with_reducible assumption | omega | assumption, ?_⟩
      first | exact ⟨by first | (rw [hT w0]; done) | (rw [hT w0]; rfl), by first | (rw [hT w0]; done) | (rw [hT w0]; rfl)⟩ | exact ⟨by first | (rw [hF w0]; done) | (rw [hF w0]; rfl), by first | (rw [hF w0]; done) | (rw [hF w0]; rfl)⟩
    · skip
      intro w0
      refine ⟨told_add (by with_reducible assumption), ?_⟩
      refine ⟨by first | with_reducible assumption | omega | assumption, ?_⟩
      refine ⟨by first | with_reducible assumption | omega | assumption, ?_⟩
      first | exact ⟨by first | (rw [hT w0]; done) | (rw [hT w0]; rfl), by first | (rw [hT w0]; done) | (rw [hT w0]; rfl)⟩ | exact ⟨by first | (rw [hF w0]; done) | (rw [hF w0]; rfl), by first | (rw [hF w0]; done) | (rw [hF w0]; rfl)⟩
  · have hz : (t.length : Int) ≤ j := by omega
    have hj' : j = t.length := by omega
    subst hj'
    refine ⟨[Ans.o (Orc.b false)], fun u => of_eq ((↑t.length : Int) ≤ (↑t.length : Int) ∧ (20 : Nat) = (20 : Nat) ∧ hits [Out.mk Unit (AX.exit (0 : Nat)) [(3 : Nat)] (fun x => True) (fun x => [acc (ic (tru t))]) (fun x => hacc (ic (tru t))) fun x => []] (AX.exit (0 : Nat)) [u (0 : Nat), u (1 : Nat), u (2 : Nat), AV.sl (ints (ic (trJ t t.length))) (ic (trJ t t.length)).length (rm (0 : Nat) (ic (trJ t t.length))), u (4 : Nat), u (5 : Nat), AV.sl (bools t) t.length Room.no, I (↑t.length : Int), I (↑t.length : Int), AV.bool false, u (10 : Nat), u (11 : Nat), u (12 : Nat), u (13 : Nat), u (14 : Nat), u (15 : Nat), u (16 : Nat), u (17 : Nat), u (18 : Nat), u (19 : Nat)] (H.mk [] (tk (ic (trJ t t.length))) [])) (by kernel_rfl) ?_⟩
    refine ⟨by first | with_reducible assumption | omega | assumption, ?_⟩
    refine ⟨by first | with_reducible assumption | omega | assumption, ?_⟩
    exact .inl ⟨(), trivial, rfl, rfl, rfl⟩
theorem ok72 : FokM Tryd.prog none1 72 Tryd.f72 := ⟨mixed, by kernel_rfl, by kernel_rfl, by kernel_rfl, by kernel_rfl⟩
theorem r72 (t : List Bool) (ht : t.length ≤ 64) : Body (En6 []) none1 Tryd.f72 [.sl (bools t) t.length .no] .nil (acc (ic (tru t)), hacc (ic (tru t))) := by
  have hl := lp72 t ht
  refine body_s ([Ans.loop [(3 : Nat), (6 : Nat), (7 : Nat), (8 : Nat)] [Out.mk Unit (AX.exit (0 : Nat)) [(3 : Nat)] (fun x => True) (fun x => [acc (ic (tru t))]) (fun x => hacc (ic (tru t))) fun y => []]]) (LoopS (Env.mk Tryd.prog (Sof (P := Tryd.prog) []) (Pof (P := Tryd.prog) []) H.nil.base (300 : Nat)) (loopAt Tryd.f72 (0 : Nat)) (20 : Nat) [(3 : Nat), (6 : Nat), (7 : Nat), (8 : Nat)] [AV.sl [] (0 : Nat) Room.nil, AV.sl (bools t) t.length Room.no, I (↑t.length : Int), I 0] (H.mk [] [] []) [Out.mk Unit (AX.exit (0 : Nat)) [(3 : Nat)] (fun x => True) (fun x => [acc (ic (tru t))]) (fun x => hacc (ic (tru t))) fun y => []] ∧ (∀ (y : Unit), True → ∀ (u : Nat → AV), leave (Base.mk H.nil.blk.length H.nil.toks.length H.nil.maps.length) (AV.sl (ints (ic (tru t))) (ic (tru t)).length (rm (0 : Nat) (ic (tru t)))) (H.mk [] (tk (ic (tru t))) []) = (AV.sl (ints (ic (tru t))) (ic (tru t)).length (rm (0 : Nat) (ic (tru t))), H.mk [] (tk (ic (tru t))) [])) ∧ True) (by kernel_rfl) ?_
  refine ⟨hl, ?_⟩
  refine And.intro ?_ ?_
  · skip
    intro y
    intro w1
    intro u
    exact leave_acc' _ _
  · skip
    trivial
/-- of what may still be written -/
noncomputable def c72m (t : List Bool) (n : Nat) (hn : t.length = n) (h64 : n ≤ 64) : Ctr Tryd.prog where
  f := 72
  X := Unit
  args _ := [.msl 0 0 n n 1]
  pre _ h := h.blk[0]? = some (bools t)
  res _ h := (.sl (ints (ic (tru t))) (ic (tru t)).length (rm h.toks.length (ic (tru t))), ⟨h.blk, h.toks ++ tk (ic (tru t)), h.maps⟩)
  det := by intro x y h e _ _; rfl
  ok := by
    rintro _ h hp
    refine ⟨ok72.call, ?_⟩
    have hc := (r72 t (by omega)).run ok72 .nil rfl
    have hv : View h (.msl 0 0 n n 1) (.sl (bools t) t.length .no) := by
      have := View.msl (h := h) 0 0 n n 1 (bools t) hp (by simp [hn])
      have e : ((bools t).drop 0).take (n * 1) = bools t := by rw [List.drop_zero, List.take_of_length_le (by simp [hn])]
      rw [e] at this
      rw [hn]; exact this
    cases hq : ic (tru t) with
    | nil =>
      rw [hq] at hc
      have := hc.view (by rfl) (.cons hv .nil)
      simp only [tk, rm, List.append_nil]
      exact this
    | cons x l =>
      rw [hq] at hc
      exact hc.viewTok (enc_flats ints_c1 _) (.cons hv .nil)
/-- where a table is true at a list of places -/
def tabN (N : Nat) (l : List Nat) : List Bool := (List.range N).map fun s => decide (s ∈ l)
@[simp] theorem tabN_len (N : Nat) (l : List Nat) : (tabN N l).length = N := by simp [tabN]
/-! ### Join by the reference -/
abbrev m72 : FuncId → Bool := fun i => i == 72
/-! ### EvadeJoins -/
end Go.Proofs.Evd

