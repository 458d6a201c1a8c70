/- Layer 2: a tournament with scores, by the program: its rounds. -/
import Derived.Test.YtnnhomkkggkkfaaDoorRkBf
import Derived.KernelRfl
set_option linter.unusedSimpArgs false
set_option linter.unusedVariables false
set_option linter.unnecessarySimpa false
set_option maxHeartbeats 4000000
set_option maxRecDepth 100000
namespace Go.Proofs.Rnk
open Go Go.VM
open Go.Proofs.Sur (andn andn_bit andn_le i_wrap i_and i_or i_andn i_shl i_shr bit_01)

abbrev RT (s : List Int) (r : Nat) : List Int := (rnd s r).1
abbrev RW (s : List Int) (r : Nat) : List Int := (rnd s r).2.1
abbrev RU (s : List Int) (r : Nat) : List Int := (rnd s r).2.2
abbrev hN (s : List Int) (r : Nat) : H := hU (RT s r) (RW s r) (RU s r) s.length
abbrev o61 (s : List Int) : List Out := [.mk Unit (.exit 0) [3] (fun _ => True) (fun _ => [mT s.length]) (fun _ => hN s s.length) (fun _ => [])]
theorem simp61 : allSimpleM M61 (loopAt Tryd.f61 0) = true := by kernel_rfl
theorem slm {P : Program} {t : TypeId} (hu : (elemT P t).bind (sizeT P) = some 1) {b n : Nat} {k : Int} {h : H} (h0 : 0 ≤ k) (hk : k ≤ n) :
    aSlice P t (.msl b 0 n noCap 1) none (some (.int .i64 k)) none h = some (.msl b 0 k.toNat noCap 1) := by
  cases he : elemT P t with
  | none => rw [he] at hu; cases hu
  | some e =>
    rw [he] at hu
    have hs : sizeT P e = some 1 := hu
    simp [aSlice, intOf?, aBounds, he, hs, h0, hk]
theorem lp61 (Z s : List Int) (h1 : 1 ≤ s.length) (h8 : s.length ≤ 8) (hs : Sc8 s) :
    LoopS (En6 (cs61 Z)) (loopAt Tryd.f61 0) 73 [3, 4, 5, 6] [mT s.length, .ptr 2 0, mU s.length, I (s.length - 1 : Int)] (hN s 0) (o61 s) := by
  have hR : Rests (En6 (cs61 Z)) M61 := rests mixed (ct61 Z)
  refine loop_s hR simp61 none (by intro _ h; cases h) (fun r vs h => h = hN s r ∧ vs = [mT s.length, .ptr 2 0, mU (s.length - r), I ((s.length : Int) - 1 - r)]) s.length ⟨rfl, by simp⟩ (by intro _ h; cases h) ?_
  rintro r vs h hr ⟨rfl, rfl⟩
  obtain ⟨⟨l1, l2, l3⟩, bT, bW, bU⟩ := rnd_b h8 h1 hs r hr
  by_cases hz : r < s.length
  · have c0 : (0 : Int) ≤ (s.length : Int) - 1 - r := by omega
    obtain ⟨m, hm⟩ : ∃ m, s.length - r = m + 1 := ⟨s.length - r - 1, by omega⟩
    have hmI : (s.length : Int) - 1 - r = (m : Nat) := by omega
    rw [hm, hmI]
    rw [hmI] at c0
    have bU' : al (okQ s.length) (RU s r) := fun i => by have : ub s.length ((RU s r).getD i i0) := bU i; simp only [ub] at this; simp only [okQ]; omega
    have pU92 : pU ((RT s r, RW s r, RU s r), s.length, m + 1) (hN s r) := ⟨rfl, ⟨l2, l3⟩, ⟨by simp only; omega, by simp only; omega, h8⟩, bU'⟩
    have bS := al_isW (W := RW s r) bU' m
    have hlS : (isW (RW s r) (RU s r) m).length = s.length := (isW_len _ _ _).trans l3
    have hmo := bS m
    have hm1 : m < m + 1 := by omega
    have hmS : m < (isW (RW s r) (RU s r) m).length := by omega
    have bW' : al (wb 100) (RW s r) := fun i => by have : wb (8 * r) ((RW s r).getD i i0) := bW i; simp only [wb] at this ⊢; omega
    have lp := lp61b Z s.length m (m : Nat) ((isW (RW s r) (RU s r) m).getD m i0) (isW (RW s r) (RU s r) m) (RT s r) (RW s r) h8 (by omega) hmo bS hlS l1 l2 bT bW'
    have hk : ((m : Nat) : Int) ≤ ((m + 1 : Nat) : Int) := by omega
    have haS : ∀ h, aSlice Tryd.prog 22 (mU (m + 1)) none (some (.int .i64 ((m : Nat) : Int))) none h = some (mU m) := fun h => slm (by kernel_rfl) c0 hk
    have haS1 := haS (hU (RT s r) (RW s r) (isW (RW s r) (RU s r) m) s.length)
    have ev0 : IntKind.i64.wrap (((m : Nat) : Int) - 1) = (m : Int) - 1 := wr _ (by omega) (by omega)
    have e1 : s.length - (r + 1) = m := by omega
    have e2 : (s.length : Int) - 1 - ((r + 1 : Nat) : Int) = (m : Int) - 1 := by omega
    have e3 : hN s (r + 1) = hU (stp ((isW (RW s r) (RU s r) m).getD m i0) (isW (RW s r) (RU s r) m) (RT s r) (RW s r) m).1 (stp ((isW (RW s r) (RU s r) m).getD m i0) (isW (RW s r) (RU s r) m) (RT s r) (RW s r) m).2 (isW (RW s r) (RU s r) m) s.length := by
      have : s.length - r - 1 = m := by omega
      simp only [hN, RT, RW, RU, rnd, this]
    refine ⟨[Ans.o Orc.dflt, Ans.o (Orc.val 28 (AV.tup []) (H.mk [ints (RT s r), ints (RW s r), [AV.msl 1 0 s.length (9223372036854775808 : Nat) (1 : Nat)], [I 0], ints (isW (RW s r) (RU s r) (m + (1 : Nat) - (1 : Nat)))] [] [])), Ans.o (Orc.val 31 (AV.ptr 4 m) H.nil), Ans.o (Orc.val 32 (I ((isW (RW s r) (RU s r) (m + (1 : Nat) - (1 : Nat))).getD m i0)) H.nil), Ans.o (Orc.val 35 (mU m) H.nil), Ans.loop [(3 : Nat), (4 : Nat), (5 : Nat), (6 : Nat), (7 : Nat), (36 : Nat), (37 : Nat), (38 : Nat)] [Out.mk Unit (AX.exit (2 : Nat)) [(3 : Nat), (4 : Nat), (5 : Nat), (6 : Nat)] (fun x => True) (fun x => [mT s.length, AV.ptr 2 0, mU m, I (↑m : Int)]) (fun x => hU (stp ((isW (RW s r) (RU s r) m).getD m i0) (isW (RW s r) (RU s r) m) (RT s r) (RW s r) m).fst (stp ((isW (RW s r) (RU s r) m).getD m i0) (isW (RW s r) (RU s r) m) (RT s r) (RW s r) m).snd (isW (RW s r) (RU s r) m) s.length) fun y => [Ans.o (Orc.val 25 (I ((↑m : Int) - (1 : Int))) H.nil)]]], fun u => of_eq (aCall (Sof (cs61 Z)) (AV.fn (Fn.func (92 : Nat)) [] []) [AV.msl 4 0 (m + (1 : Nat)) (9223372036854775808 : Nat) (1 : Nat), AV.fn (Fn.func (93 : Nat)) [] [AV.ptr 2 0]] (H.mk [ints (RT s r), ints (RW s r), [AV.msl 1 0 s.length (9223372036854775808 : Nat) (1 : Nat)], [I 0], ints (RU s r)] [] []) = some (AV.tup [], H.mk [ints (RT s r), ints (RW s r), [AV.msl 1 0 s.length (9223372036854775808 : Nat) (1 : Nat)], [I 0], ints (isW (RW s r) (RU s r) (m + (1 : Nat) - (1 : Nat)))] [] []) ∧ aIndexAddr Tryd.prog (22 : Nat) (AV.msl 4 0 (m + (1 : Nat)) (9223372036854775808 : Nat) (1 : Nat)) (I (↑m : Int)) = some (AV.ptr 4 m) ∧ aLoad Tryd.prog (3 : Nat) (List.drop m (ints (isW (RW s r) (RU s r) (m + (1 : Nat) - (1 : Nat))))) = some (I ((isW (RW s r) (RU s r) (m + (1 : Nat) - (1 : Nat))).getD m i0)) ∧ aSlice Tryd.prog (22 : Nat) (AV.msl 4 0 (m + (1 : Nat)) (9223372036854775808 : Nat) (1 : Nat)) none (some (I (↑m : Int))) none (H.mk [ints (RT s r), ints (RW s r), [AV.msl 1 0 s.length (9223372036854775808 : Nat) (1 : Nat)], [I 0], ints (isW (RW s r) (RU s r) (m + (1 : Nat) - (1 : Nat)))] [] []) = some (AV.msl 4 0 m (9223372036854775808 : Nat) (1 : Nat)) ∧ LoopS (Env.mk Tryd.prog (Sof (cs61 Z)) (Pof (P := Tryd.prog) []) H.nil.base (300 : Nat)) (loopAt Tryd.f61 (1 : Nat)) (73 : Nat) [(3 : Nat), (4 : Nat), (5 : Nat), (6 : Nat), (7 : Nat), (36 : Nat), (37 : Nat), (38 : Nat)] [AV.msl 0 0 s.length s.length (1 : Nat), AV.ptr 2 0, AV.msl 4 0 m (9223372036854775808 : Nat) (1 : Nat), I (↑m : Int), I ((isW (RW s r) (RU s r) (m + (1 : Nat) - (1 : Nat))).getD m i0), AV.msl 4 0 m (9223372036854775808 : Nat) (1 : Nat), I (↑m : Int), I 0] (H.mk [ints (RT s r), ints (RW s r), [AV.msl 1 0 s.length (9223372036854775808 : Nat) (1 : Nat)], [I 0], ints (isW (RW s r) (RU s r) (m + (1 : Nat) - (1 : Nat)))] [] []) [Out.mk Unit (AX.exit (2 : Nat)) [(3 : Nat), (4 : Nat), (5 : Nat), (6 : Nat)] (fun x => True) (fun x => [mT s.length, AV.ptr 2 0, mU m, I (↑m : Int)]) (fun x => hU (stp ((isW (RW s r) (RU s r) m).getD m i0) (isW (RW s r) (RU s r) m) (RT s r) (RW s r) m).fst (stp ((isW (RW s r) (RU s r) m).getD m i0) (isW (RW s r) (RU s r) m) (RT s r) (RW s r) m).snd (isW (RW s r) (RU s r) m) s.length) fun y => [Ans.o (Orc.val 25 (I ((↑m : Int) - (1 : Int))) H.nil)]] ∧ (∀ (y : Unit), True → ∀ (u : Nat → AV), aBin Tryd.prog BinOp.sub (3 : Nat) (I (↑m : Int)) (I 1) = some (I ((↑m : Int) - (1 : Int))) ∧ (73 : Nat) = (73 : Nat) ∧ r < s.length ∧ Keep (H.mk [ints (stp ((isW (RW s r) (RU s r) m).getD m i0) (isW (RW s r) (RU s r) m) (RT s r) (RW s r) m).fst, ints (stp ((isW (RW s r) (RU s r) m).getD m i0) (isW (RW s r) (RU s r) m) (RT s r) (RW s r) m).snd, [AV.msl 1 0 s.length (9223372036854775808 : Nat) (1 : Nat)], [I 0], ints (isW (RW s r) (RU s r) m)] [] [] = H.mk [ints (RT s (r + (1 : Nat))), ints (RW s (r + (1 : Nat))), [AV.msl 1 0 s.length (9223372036854775808 : Nat) (1 : Nat)], [I 0], ints (RU s (r + (1 : Nat)))] [] [] ∧ [AV.msl 0 0 s.length s.length (1 : Nat), AV.ptr 2 0, AV.msl 4 0 m (9223372036854775808 : Nat) (1 : Nat), I ((↑m : Int) - (1 : Int))] = [AV.msl 0 0 s.length s.length (1 : Nat), AV.ptr 2 0, AV.msl 4 0 (s.length - (r + (1 : Nat))) (9223372036854775808 : Nat) (1 : Nat), I ((↑s.length : Int) - (1 : Int) - (↑(r + (1 : Nat)) : Int))])) ∧ True) (by kernel_rfl) ?_⟩
    refine ⟨acall_hit (c := c92) ((RT s r, RW s r, RU s r), s.length, m + 1) _ rfl pU92, ?_⟩
    refine ⟨ixm0 (by kernel_rfl) hm1, ?_⟩
    refine ⟨ldm_ints (by kernel_rfl) (by kernel_rfl) hmS, ?_⟩
    refine ⟨haS _, ?_⟩
    refine ⟨lp, ?_⟩
    refine And.intro ?_ ?_
    · skip
      intro y
      intro w1
      intro u
      refine ⟨told_sub (by with_reducible assumption), ?_⟩
      refine ⟨by first | with_reducible assumption | omega | assumption, ?_⟩
      refine ⟨by first | with_reducible assumption | omega | assumption, ?_⟩
      exact ⟨e3.symm, by rw [e1, e2]⟩
    · skip
      trivial
  · have e : r = s.length := by omega
    subst e
    have c0 : (s.length : Int) - 1 - (s.length : Int) < 0 := by omega
    refine ⟨[Ans.o (Orc.b false)], fun u => of_eq ((↑s.length : Int) - (1 : Int) - (↑s.length : Int) < (0 : Int) ∧ (73 : Nat) = (73 : Nat) ∧ hits [Out.mk Unit (AX.exit (0 : Nat)) [(3 : Nat)] (fun x => True) (fun x => [mT s.length]) (fun x => hN s s.length) fun x => []] (AX.exit (0 : Nat)) [u (0 : Nat), u (1 : Nat), u (2 : Nat), AV.msl 0 0 s.length s.length (1 : Nat), AV.ptr 2 0, AV.msl 4 0 (s.length - s.length) (9223372036854775808 : Nat) (1 : Nat), I ((↑s.length : Int) - (1 : Int) - (↑s.length : Int)), u (7 : Nat), u (8 : Nat), u (9 : Nat), u (10 : Nat), u (11 : Nat), u (12 : Nat), u (13 : Nat), u (14 : Nat), u (15 : Nat), u (16 : Nat), u (17 : Nat), u (18 : Nat), u (19 : Nat), u (20 : Nat), u (21 : Nat), I ((↑s.length : Int) - (1 : Int) - (↑s.length : Int)), AV.bool false, u (24 : Nat), u (25 : Nat), u (26 : Nat), u (27 : Nat), u (28 : Nat), u (29 : Nat), u (30 : Nat), u (31 : Nat), u (32 : Nat), u (33 : Nat), u (34 : Nat), u (35 : Nat), u (36 : Nat), u (37 : Nat), u (38 : Nat), u (39 : Nat), u (40 : Nat), u (41 : Nat), u (42 : Nat), u (43 : Nat), u (44 : Nat), u (45 : Nat), u (46 : Nat), u (47 : Nat), u (48 : Nat), u (49 : Nat), u (50 : Nat), u (51 : Nat), u (52 : Nat), u (53 : Nat), u (54 : Nat), u (55 : Nat), u (56 : Nat), u (57 : Nat), u (58 : Nat), u (59 : Nat), u (60 : Nat), u (61 : Nat), u (62 : Nat), u (63 : Nat), u (64 : Nat), u (65 : Nat), u (66 : Nat), u (67 : Nat), u (68 : Nat), u (69 : Nat), u (70 : Nat), u (71 : Nat), u (72 : Nat)] (H.mk [ints (RT s s.length), ints (RW s s.length), [AV.msl 1 0 s.length (9223372036854775808 : Nat) (1 : Nat)], [I 0], ints (RU s s.length)] [] [])) (by kernel_rfl) ?_⟩
    refine ⟨by first | with_reducible assumption | omega | assumption, ?_⟩
    refine ⟨by first | with_reducible assumption | omega | assumption, ?_⟩
    exact .inl ⟨(), trivial, rfl, rfl, rfl⟩
end Go.Proofs.Rnk

