/- Layer 8: closed families, lists. -/
import Derived.Test.YtjobibaeklbkmaaDoorEdB
import Derived.Test.YtjobibaeklbkmaaDoorEdT
import Derived.KernelRfl
set_option linter.unusedSimpArgs false
set_option linter.unusedVariables false
set_option linter.unnecessarySimpa false
set_option maxHeartbeats 4000000
set_option maxRecDepth 100000
namespace Go.Proofs.Evd
open Go Go.VM
open Go.Proofs.Sur (W w_wrap w_nat w_inj w_eq0 w_and w_or w_andn w_shl w_shr neg_nat sub_nat tz tz_ok cl bits_cons bits_0 bits_len andn andn_bit andn_le i_wrap i_and i_or i_andn i_shl i_shr bit_01)

abbrev h66 (r : Nat) (F : W) (j : Nat) : H := ⟨[[I r, u64A (clo F j)], [I 0, .int .u64 0]], [], []⟩
abbrev o66 (r : Nat) (F : W) : List Out := [.mk Unit (.exit 0) [1, 2] (fun _ => True) (fun _ => [.ptr 0 0, .ptr 1 0]) (fun _ => h66 r F 6) (fun _ => [])]
theorem simp66 : allSimpleM none1 (loopAt Tryd.f66 0) = true := by kernel_rfl
theorem lp66 (r : Nat) (F : W) (hr : r < 64) :
    LoopS (En6 [c69.to]) (loopAt Tryd.f66 0) 17 [1, 2, 4] [.ptr 0 0, .ptr 1 0, I 0] (h66 r F 0) (o66 r F) := by
  have hR : Rests (En6 [c69.to]) none1 := rests mixed (.pure _ .nil)
  refine loop_s hR simp66 none (by intro _ h; cases h) (fun j vs h => h = h66 r F j ∧ vs = [.ptr 0 0, .ptr 1 0, I j]) 6 ⟨rfl, rfl⟩ (by intro _ h; cases h) ?_
  rintro j vs h hj ⟨rfl, rfl⟩
  by_cases hz : (j : Int) < 6
  · have hz' : j < 6 := by omega
    have ev0 := w_or (clo F j) (lnk (clo F j) j)
    have p69 : r < 64 ∧ j < 6 := ⟨hr, hz'⟩
    refine ⟨[Ans.o (Orc.b true), Ans.o (Orc.val 11 (AV.agg [I (↑(rst r j) : Int), AV.int IntKind.u64 (↑(BitVec.toNat (lnk (clo F j) j)) : Int)]) (H.mk [[I (↑r : Int), u64A (clo F j)], [I 0, AV.int IntKind.u64 (0 : Int)]] [] [])), Ans.o (Orc.val 13 (AV.int IntKind.u64 (↑(BitVec.toNat (clo F j ||| lnk (clo F j) j)) : Int)) H.nil)], fun u => of_eq ((↑j : Int) < (6 : Int) ∧ aCall (Sof [c69.to]) (AV.fn (Fn.func (69 : Nat)) [] []) [AV.agg [I (↑r : Int), u64A (clo F j)], I (↑j : Int)] (H.mk [[I (↑r : Int), u64A (clo F j)], [I 0, AV.int IntKind.u64 (0 : Int)]] [] []) = some (AV.agg [I (↑(rst r j) : Int), AV.int IntKind.u64 (↑(BitVec.toNat (lnk (clo F j) j)) : Int)], H.mk [[I (↑r : Int), u64A (clo F j)], [I 0, AV.int IntKind.u64 (0 : Int)]] [] []) ∧ aBin Tryd.prog BinOp.or (74 : Nat) (u64A (clo F j)) (AV.int IntKind.u64 (↑(BitVec.toNat (lnk (clo F j) j)) : Int)) = some (AV.int IntKind.u64 (↑(BitVec.toNat (clo F j ||| lnk (clo F j) j)) : Int)) ∧ IntKind.i64.wrap ((↑j : Int) + (1 : Int)) = (↑j : Int) + (1 : Int) ∧ (17 : Nat) = (17 : Nat) ∧ j < (6 : Nat) ∧ Keep (H.mk [[I (↑r : Int), AV.int IntKind.u64 (↑(BitVec.toNat (clo F j ||| lnk (clo F j) j)) : Int)], [I 0, AV.int IntKind.u64 (0 : Int)]] [] [] = H.mk [[I (↑r : Int), AV.int IntKind.u64 (↑(BitVec.toNat (clo F (j + (1 : Nat)))) : Int)], [I 0, AV.int IntKind.u64 (0 : Int)]] [] [] ∧ [AV.ptr 0 0, AV.ptr 1 0, I ((↑j : Int) + (1 : Int))] = [AV.ptr 0 0, AV.ptr 1 0, I (↑(j + (1 : Nat)) : Int)])) (by kernel_rfl) ?_⟩
    refine ⟨by first | with_reducible assumption | omega | assumption, ?_⟩
    refine ⟨acall_hit (c := c69.to) (r, clo F j, j) _ rfl p69, ?_⟩
    refine ⟨told_or (by with_reducible assumption), ?_⟩
    refine ⟨wr _ (by omega) (by omega), ?_⟩
    refine ⟨by first | with_reducible assumption | omega | assumption, ?_⟩
    refine ⟨by first | with_reducible assumption | omega | assumption, ?_⟩
    exact ⟨rfl, rfl⟩
  · have hz : (6 : Int) ≤ j := by omega
    have hj' : j = 6 := by omega
    subst hj'
    refine ⟨[Ans.o Orc.dflt], fun u => of_eq ((17 : Nat) = (17 : Nat) ∧ hits [Out.mk Unit (AX.exit (0 : Nat)) [(1 : Nat), (2 : Nat)] (fun x => True) (fun x => [AV.ptr 0 0, AV.ptr 1 0]) (fun x => h66 r F (6 : Nat)) fun x => []] (AX.exit (0 : Nat)) [u (0 : Nat), AV.ptr 0 0, AV.ptr 1 0, u (3 : Nat), I 6, AV.bool false, u (6 : Nat), u (7 : Nat), u (8 : Nat), u (9 : Nat), u (10 : Nat), u (11 : Nat), u (12 : Nat), u (13 : Nat), u (14 : Nat), u (15 : Nat), u (16 : Nat)] (H.mk [[I (↑r : Int), AV.int IntKind.u64 (↑(BitVec.toNat (clo F (6 : Nat))) : Int)], [I 0, AV.int IntKind.u64 (0 : Int)]] [] [])) (by kernel_rfl) ?_⟩
    refine ⟨by first | with_reducible assumption | omega | assumption, ?_⟩
    exact .inl ⟨(), trivial, rfl, rfl, rfl⟩
theorem ok66 : FokM Tryd.prog none1 66 Tryd.f66 := ⟨mixed, by kernel_rfl, by kernel_rfl, by kernel_rfl, by kernel_rfl⟩
theorem r66 (r : Nat) (F : W) (hr : r < 64) : Body (En6 [c69.to]) none1 Tryd.f66 [fA r F] .nil (fA r (cls F), .nil) := by
  refine body_s ([Ans.loop [(1 : Nat), (2 : Nat), (4 : Nat)] [Out.mk Unit (AX.exit (0 : Nat)) [(1 : Nat), (2 : Nat)] (fun x => True) (fun x => [AV.ptr 0 0, AV.ptr 1 0]) (fun x => h66 r F (6 : Nat)) fun y => []]]) (LoopS (Env.mk Tryd.prog (Sof [c69.to]) (Pof (P := Tryd.prog) []) H.nil.base (300 : Nat)) (loopAt Tryd.f66 (0 : Nat)) (17 : Nat) [(1 : Nat), (2 : Nat), (4 : Nat)] [AV.ptr 0 0, AV.ptr 1 0, I 0] (H.mk [[I (↑r : Int), u64A F], [I 0, AV.int IntKind.u64 (0 : Int)]] [] []) [Out.mk Unit (AX.exit (0 : Nat)) [(1 : Nat), (2 : Nat)] (fun x => True) (fun x => [AV.ptr 0 0, AV.ptr 1 0]) (fun x => h66 r F (6 : Nat)) fun y => []] ∧ (∀ (y : Unit), True → ∀ (u : Nat → AV), (AV.agg [I (↑r : Int), AV.int IntKind.u64 (↑(BitVec.toNat (clo F (6 : Nat))) : Int)], H.mk [] [] []) = (AV.agg [I (↑r : Int), u64A (cls F)], H.mk [] [] [])) ∧ True) (by kernel_rfl) ?_
  refine ⟨lp66 r F hr, ?_⟩
  refine And.intro ?_ ?_
  · skip
    intro y
    intro w1
    intro u
    rfl
  · skip
    trivial
noncomputable def c66 : PCtr Tryd.prog := sctr ok66 (X := Nat × W) (fun x => [fA x.1 x.2]) (fun x => x.1 < 64) (fun x => fA x.1 (cls x.2)) (by intro x y e _ _; simp at e; obtain ⟨h1, h2⟩ := e; rw [show x.1 = y.1 by omega, h2]) (fun x => by simp [AV.bnds, AV.bnd, AV.wk]) (fun x => rfl) (fun x hx => ⟨_, _, _, .pure _ .nil, r66 x.1 x.2 hx⟩)

/-! ### lists -/
abbrev rn {α : Type} (l : List α) : Room := (rm 0 l).wk
theorem rn_rok (l : List Int) : rok l (rn l) := by intro h; cases l <;> simp_all [rn, rm, Room.wk]
abbrev acc (l : List Int) : AV := .sl (ints l) l.length (rm 0 l)
abbrev hacc (l : List Int) : H := ⟨[], tk l, []⟩
def ic (l : List Nat) : List Int := l.map fun n : Nat => (n : Int)
@[simp] theorem ic_len (l : List Nat) : (ic l).length = l.length := by simp [ic]
/-- a family as a slice -/
abbrev lst (F : W) : List Int := ic (elts F)
theorem ic_inj {l m : List Nat} (h : ic l = ic m) : l = m := by
  have : (ic l).map Int.toNat = (ic m).map Int.toNat := by rw [h]
  simpa [ic, List.map_map, Function.comp_def] using this
theorem lst_len (F : W) : (lst F).length ≤ 64 := by rw [ic_len]; exact bits_len F
theorem leave_ints' (bs : List (List AV)) (l : List Int) (n : Nat) : leave ⟨0, 0, 0⟩ (.sl (ints l) n (.tok 0 1)) ⟨bs, [n], []⟩ = (.sl (ints l) n (.tok 0 1), ⟨[], [n], []⟩) := by
  simp [leave, AV.bnd, frz, Room.bnd, retok]
theorem leave_acc' (bs : List (List AV)) (l : List Int) : leave ⟨0, 0, 0⟩ (acc l) ⟨bs, tk l, []⟩ = (acc l, hacc l) := by
  cases l with
  | nil => rfl
  | cons x l => exact leave_ints' bs (x :: l) _
theorem app_ints' {P : Program} {t : TypeId} (hT : appT P t = true) {l : List Int} {x : Int} {bs : List (List AV)} (hn : l.length ≤ 1000000000) :
    aAppend P t t (.sl (ints l) l.length (rm 0 l)) (.sl [I x] 1 .full) ⟨bs, tk l, []⟩ = some (.sl (ints (l ++ [x])) (l ++ [x]).length (rm 0 (l ++ [x])), ⟨bs, tk (l ++ [x]), []⟩) := by
  obtain ⟨e, i, z, he, hi, hz, h1, h2, h3⟩ := appT_of hT
  have hb : (l.length + 1) * i.bytes ≤ 2 ^ 47 := Nat.le_trans (Nat.mul_le_mul (Nat.succ_le_succ hn) h2) (by decide)
  have hm : l.length + 1 ≤ maxLen := Nat.le_trans (Nat.succ_le_succ hn) (by decide)
  cases l with
  | nil =>
    have hb' : i.bytes ≤ 2 ^ 47 := Nat.le_trans h2 (by decide)
    simp [aAppend, he, hi, hz, h1, h3, slCells, hb', rm, tk, ints, AV.one]
    decide
  | cons y l =>
    have hb2 : (l.length + 1 + 1) * i.bytes ≤ 2 ^ 47 := hb
    have hm2 : l.length + 1 + 1 ≤ maxLen := hm
    simp [aAppend, he, hi, hz, h1, h3, slCells, hb2, hm2, rm, tk, ints, AV.one]
theorem simp67 : allSimpleM none1 (loopAt Tryd.f67 0) = true := by kernel_rfl
abbrev b67 (r : Nat) (F : W) (l : List Int) : H := ⟨[[I r, u64A F]], tk l, []⟩
abbrev o67 (r : Nat) (F : W) : List Out := [.mk Unit (.exit 0) [3] (fun _ => True) (fun _ => [acc (lst F)]) (fun _ => b67 r F (lst F)) (fun _ => [])]
theorem lp67 (r : Nat) (F : W) :
    LoopS (En6 [c112.to]) (loopAt Tryd.f67 0) 19 [3, 4] [.sl [] 0 .nil, u64A F] ⟨[[I r, u64A F]], [], []⟩ (o67 r F) := by
  have hR : Rests (En6 [c112.to]) none1 := rests mixed (.pure _ .nil)
  refine loop_s hR simp67 none (by intro _ h; cases h) (fun j vs h => ∃ (l : List Int) (c : W), h = b67 r F l ∧ vs = [acc l, u64A c] ∧ lst F = l ++ lst c ∧ (elts c).length + j ≤ 64) 64 ⟨[], F, rfl, rfl, rfl, by have := bits_len F; omega⟩ (by intro _ h; cases h) ?_
  rintro j vs h hj ⟨l, c, rfl, rfl, ha, hb⟩
  by_cases hz : c = 0#64
  · have hu : (c.toNat : Int) = 0 := (w_eq0 c).2 hz
    have hl : lst F = l := by rw [ha, hz, lst, elts, bits_0]; simp [ic]
    refine ⟨[Ans.o (Orc.b false)], fun u => of_eq ((↑(BitVec.toNat c) : Int) = (0 : Int) ∧ (19 : Nat) = (19 : Nat) ∧ hits [Out.mk Unit (AX.exit (0 : Nat)) [(3 : Nat)] (fun x => True) (fun x => [acc (lst F)]) (fun x => b67 r F (lst F)) fun x => []] (AX.exit (0 : Nat)) [u (0 : Nat), u (1 : Nat), u (2 : Nat), AV.sl (ints l) l.length (rm (0 : Nat) l), u64A c, u (5 : Nat), u (6 : Nat), u64A c, AV.bool false, u (9 : Nat), u (10 : Nat), u (11 : Nat), u (12 : Nat), u (13 : Nat), u (14 : Nat), u (15 : Nat), u (16 : Nat), u (17 : Nat), u (18 : Nat)] (H.mk [[I (↑r : Int), u64A F]] (tk l) [])) (by kernel_rfl) ?_⟩
    refine ⟨by first | with_reducible assumption | omega | assumption, ?_⟩
    refine ⟨by first | with_reducible assumption | omega | assumption, ?_⟩
    exact .inl ⟨(), trivial, rfl, by rw [hl]; rfl, by rw [hl]⟩
  · have hu : (c.toNat : Int) ≠ 0 := fun h => hz ((w_eq0 c).1 h)
    have ev0 := sub_nat c
    have ev1 := w_and c (c - 1#64)
    have hs := bits_cons hz
    have hlen : l.length ≤ 1000000000 := by
      have h1 := lst_len F
      rw [ha, List.length_append] at h1
      omega
    have hn : lst F = (l ++ [(tz c : Int)]) ++ lst (cl c) := by
      rw [ha, lst, elts, hs]
      simp [ic, lst, elts]
    have hpc : (elts (cl c)).length + (j + 1) ≤ 64 := by
      rw [elts, hs, List.length_cons] at hb
      rw [elts]; omega
    have hj2 : j < 64 := by omega
    clear hs ha hb
    refine ⟨[Ans.o (Orc.b true), Ans.o (Orc.val 15 (I (↑(tz c) : Int)) (H.mk [[I (↑r : Int), u64A F]] (tk l) [])), Ans.o (Orc.val 17 (AV.sl (ints (l ++ [(↑(tz c) : Int)])) (l ++ [(↑(tz c) : Int)]).length (rm (0 : Nat) (l ++ [(↑(tz c) : Int)]))) (H.mk [[I (↑r : Int), u64A F]] (tk (l ++ [(↑(tz c) : Int)])) [])), Ans.o (Orc.val 11 (AV.int IntKind.u64 (↑(BitVec.toNat (c - BitVec.ofNat (64 : Nat) (1 : Nat))) : Int)) H.nil), Ans.o (Orc.val 12 (AV.int IntKind.u64 (↑(BitVec.toNat (c &&& c - BitVec.ofNat (64 : Nat) (1 : Nat))) : Int)) H.nil)], fun u => of_eq ((↑(BitVec.toNat c) : Int) ≠ (0 : Int) ∧ aCall (Sof [c112.to]) (AV.fn (Fn.func (112 : Nat)) [] []) [u64A c] (H.mk [[I (↑r : Int), u64A F]] (tk l) []) = some (I (↑(tz c) : Int), H.mk [[I (↑r : Int), u64A F]] (tk l) []) ∧ aAppend Tryd.prog (22 : Nat) (22 : Nat) (AV.sl (ints l) l.length (rm (0 : Nat) l)) (AV.sl [I (↑(tz c) : Int)] (1 : Nat) Room.full) (H.mk [[I (↑r : Int), u64A F]] (tk l) []) = some (AV.sl (ints (l ++ [(↑(tz c) : Int)])) (l ++ [(↑(tz c) : Int)]).length (rm (0 : Nat) (l ++ [(↑(tz c) : Int)])), H.mk [[I (↑r : Int), u64A F]] (tk (l ++ [(↑(tz c) : Int)])) []) ∧ aBin Tryd.prog BinOp.sub (74 : Nat) (u64A c) (AV.int IntKind.u64 (1 : Int)) = some (AV.int IntKind.u64 (↑(BitVec.toNat (c - BitVec.ofNat (64 : Nat) (1 : Nat))) : Int)) ∧ aBin Tryd.prog BinOp.and (74 : Nat) (u64A c) (AV.int IntKind.u64 (↑(BitVec.toNat (c - BitVec.ofNat (64 : Nat) (1 : Nat))) : Int)) = some (AV.int IntKind.u64 (↑(BitVec.toNat (c &&& c - BitVec.ofNat (64 : Nat) (1 : Nat))) : Int)) ∧ (19 : Nat) = (19 : Nat) ∧ j < (64 : Nat) ∧ Keep (∃ l_1 c_1, H.mk [[I (↑r : Int), u64A F]] (tk (l ++ [(↑(tz c) : Int)])) [] = H.mk [[I (↑r : Int), u64A F]] (tk l_1) [] ∧ [AV.sl (ints (l ++ [(↑(tz c) : Int)])) (l ++ [(↑(tz c) : Int)]).length (rm (0 : Nat) (l ++ [(↑(tz c) : Int)])), AV.int IntKind.u64 (↑(BitVec.toNat (c &&& c - BitVec.ofNat (64 : Nat) (1 : Nat))) : Int)] = [AV.sl (ints l_1) l_1.length (rm (0 : Nat) l_1), u64A c_1] ∧ lst F = l_1 ++ lst c_1 ∧ (elts c_1).length + (j + (1 : Nat)) ≤ (64 : Nat))) (by kernel_rfl) ?_⟩
    refine ⟨by first | with_reducible assumption | omega | assumption, ?_⟩
    refine ⟨acall_hit (c := c112.to) c _ rfl hz, ?_⟩
    refine ⟨app_ints' (by kernel_rfl) hlen, ?_⟩
    refine ⟨told_sub (by with_reducible assumption), ?_⟩
    refine ⟨told_and (by with_reducible assumption), ?_⟩
    refine ⟨by first | with_reducible assumption | omega | assumption, ?_⟩
    refine ⟨by first | with_reducible assumption | omega | assumption, ?_⟩
    exact ⟨_, cl c, rfl, rfl, hn, hpc⟩
theorem ok67 : FokM Tryd.prog none1 67 Tryd.f67 := ⟨mixed, by kernel_rfl, by kernel_rfl, by kernel_rfl, by kernel_rfl⟩
theorem r67 (r : Nat) (F : W) (hp : True) : Body ⟨Tryd.prog, Sof (P := Tryd.prog) [c112.to], Pof (P := Tryd.prog) [], H.nil.base, 300⟩ none1 Tryd.f67 [fA r F] .nil (acc (lst F), ⟨[], tk (lst F), []⟩) := by
  refine body_s ([Ans.loop [(3 : Nat), (4 : Nat)] [Out.mk Unit (AX.exit (0 : Nat)) [(3 : Nat)] (fun x => True) (fun x => [acc (lst F)]) (fun x => b67 r F (lst F)) fun y => []]]) (LoopS (Env.mk Tryd.prog (Sof [c112.to]) (Pof (P := Tryd.prog) []) H.nil.base (300 : Nat)) (loopAt Tryd.f67 (0 : Nat)) (19 : Nat) [(3 : Nat), (4 : Nat)] [AV.sl [] (0 : Nat) Room.nil, u64A F] (H.mk [[I (↑r : Int), u64A F]] [] []) [Out.mk Unit (AX.exit (0 : Nat)) [(3 : Nat)] (fun x => True) (fun x => [acc (lst F)]) (fun x => b67 r F (lst F)) fun y => []] ∧ (∀ (y : Unit), True → ∀ (u : Nat → AV), leave (Base.mk H.nil.blk.length H.nil.toks.length H.nil.maps.length) (AV.sl (ints (lst F)) (lst F).length (rm (0 : Nat) (lst F))) (H.mk [[I (↑r : Int), u64A F]] (tk (lst F)) []) = (AV.sl (ints (lst F)) (lst F).length (rm (0 : Nat) (lst F)), H.mk [] (tk (lst F)) [])) ∧ True) (by kernel_rfl) ?_
  refine ⟨lp67 r F, ?_⟩
  refine And.intro ?_ ?_
  · skip
    intro y
    intro w1
    intro u
    exact leave_acc' _ _
  · skip
    trivial
noncomputable def c67 : PCtr Tryd.prog := slctr ok67 (X := Nat × W) (fun x => [fA x.1 x.2]) (fun x => True) (fun x => .sl (ints (lst x.2)) (lst x.2).length (rn (lst x.2))) (by intro x y e _ _; simp [Int.natCast_inj] at e; simp [e]) (fun x => by simp [AV.bnds, AV.bnd, AV.wk, rm_wk_bnd]) (fun x => by first | rfl | (simp [AV.bnd, rm_wk_bnd]; done)  | (simp [AV.bnd, AV.bnds, rm_wk_bnd]; done) | simp [AV.bnd, AV.bnds, Room.bnd, rm_wk_bnd]) (fun x hx => ⟨_, _, _, acc (lst x.2), tk (lst x.2), .pure c112 (.nil), r67 (x.1) (x.2) hx, by simp [AV.plain, AV.plains, plains_ints, plains_rows], by first | (simp only [AV.wkd, wkds_rows]; done) | (simp only [AV.wkd, wkds_ints]; done) | simp [AV.wkd, AV.wkds, Room.wk]⟩)

/-! ### settled -/
theorem ok114 : FokM Tryd.prog none1 114 Tryd.f114 := ⟨mixed, by kernel_rfl, by kernel_rfl, by kernel_rfl, by kernel_rfl⟩
theorem r114 (r : Nat) (F : W) (hp : r < 64) : Body ⟨Tryd.prog, Sof (P := Tryd.prog) [c85.to], Pof (P := Tryd.prog) [], H.nil.base, 300⟩ none1 Tryd.f114 [fA r F] .nil (.bool (stl r F), .nil) := by
  have p0 : 0 < 64 := by decide
  simp only [stl]
  cases h1 : hs F r
  · cases h2 : hs F 0
    · refine body_s ([Ans.o (Orc.val 6 (AV.bool false) (H.mk [[I (↑r : Int), u64A F]] [] [])), Ans.o (Orc.val 9 (AV.bool false) (H.mk [[I (↑r : Int), u64A F]] [] []))]) (aCall (Sof [c85.to]) (AV.fn (Fn.func (85 : Nat)) [] []) [AV.agg [I (↑r : Int), u64A F], I (↑r : Int)] (H.mk [[I (↑r : Int), u64A F]] [] []) = some (AV.bool false, H.mk [[I (↑r : Int), u64A F]] [] []) ∧ aCall (Sof [c85.to]) (AV.fn (Fn.func (85 : Nat)) [] []) [AV.agg [I (↑r : Int), u64A F], I 0] (H.mk [[I (↑r : Int), u64A F]] [] []) = some (AV.bool false, H.mk [[I (↑r : Int), u64A F]] [] []) ∧ (AV.bool true, H.mk [] [] []) = (AV.bool true, H.mk [] [] [])) (by kernel_rfl) ?_
      refine ⟨by first | exact acall_b (acall_hit (c := c85.to) (r, F, r) _ rfl hp) h1 | exact acall_b (acall_hit (c := c85.to) (r, F, 0) _ rfl p0) h2, ?_⟩
      refine ⟨by first | exact acall_b (acall_hit (c := c85.to) (r, F, r) _ rfl hp) h1 | exact acall_b (acall_hit (c := c85.to) (r, F, 0) _ rfl p0) h2, ?_⟩
      first | with_reducible rfl | (refine bleaf_t ?_; omega) | (refine bleaf_f ?_; omega) | (refine ileaf ?_; omega) | rfl | (exfalso; omega)
    · refine body_s ([Ans.o (Orc.val 6 (AV.bool false) (H.mk [[I (↑r : Int), u64A F]] [] [])), Ans.o (Orc.val 9 (AV.bool true) (H.mk [[I (↑r : Int), u64A F]] [] []))]) (aCall (Sof [c85.to]) (AV.fn (Fn.func (85 : Nat)) [] []) [AV.agg [I (↑r : Int), u64A F], I (↑r : Int)] (H.mk [[I (↑r : Int), u64A F]] [] []) = some (AV.bool false, H.mk [[I (↑r : Int), u64A F]] [] []) ∧ aCall (Sof [c85.to]) (AV.fn (Fn.func (85 : Nat)) [] []) [AV.agg [I (↑r : Int), u64A F], I 0] (H.mk [[I (↑r : Int), u64A F]] [] []) = some (AV.bool true, H.mk [[I (↑r : Int), u64A F]] [] []) ∧ (AV.bool false, H.mk [] [] []) = (AV.bool false, H.mk [] [] [])) (by kernel_rfl) ?_
      refine ⟨by first | exact acall_b (acall_hit (c := c85.to) (r, F, r) _ rfl hp) h1 | exact acall_b (acall_hit (c := c85.to) (r, F, 0) _ rfl p0) h2, ?_⟩
      refine ⟨by first | exact acall_b (acall_hit (c := c85.to) (r, F, r) _ rfl hp) h1 | exact acall_b (acall_hit (c := c85.to) (r, F, 0) _ rfl p0) h2, ?_⟩
      first | with_reducible rfl | (refine bleaf_t ?_; omega) | (refine bleaf_f ?_; omega) | (refine ileaf ?_; omega) | rfl | (exfalso; omega)
  · refine body_s ([Ans.o (Orc.val 6 (AV.bool true) (H.mk [[I (↑r : Int), u64A F]] [] []))]) (aCall (Sof [c85.to]) (AV.fn (Fn.func (85 : Nat)) [] []) [AV.agg [I (↑r : Int), u64A F], I (↑r : Int)] (H.mk [[I (↑r : Int), u64A F]] [] []) = some (AV.bool true, H.mk [[I (↑r : Int), u64A F]] [] []) ∧ (AV.bool true, H.mk [] [] []) = (AV.bool true, H.mk [] [] [])) (by kernel_rfl) ?_
    refine ⟨by first | exact acall_b (acall_hit (c := c85.to) (r, F, r) _ rfl hp) h1, ?_⟩
    first | with_reducible rfl | (refine bleaf_t ?_; omega) | (refine bleaf_f ?_; omega) | (refine ileaf ?_; omega) | rfl | (exfalso; omega)
noncomputable def c114 : PCtr Tryd.prog := sctr ok114 (X := Nat × W) (fun x => [fA x.1 x.2]) (fun x => x.1 < 64) (fun x => .bool (stl x.1 x.2)) (by intro x y e _ _; simp [Int.natCast_inj] at e; simp [e]) (fun x => by simp [AV.bnds, AV.bnd, AV.wk, rm_wk_bnd]) (fun x => by first | rfl | (simp [AV.bnd, rm_wk_bnd]; done)  | (simp [AV.bnd, AV.bnds, rm_wk_bnd]; done) | simp [AV.bnd, AV.bnds, Room.bnd, rm_wk_bnd]) (fun x hx => ⟨_, _, _, .pure c85 (.nil), r114 (x.1) (x.2) hx⟩)
end Go.Proofs.Evd

