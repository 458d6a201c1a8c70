/- Layer 5: the words of single signals. -/
import Derived.Test.YtlomlnkafakloaaDoorSuA
import Derived.KernelRfl
set_option linter.unusedSimpArgs false
set_option linter.unusedVariables false
set_option linter.unnecessarySimpa false
set_option maxHeartbeats 4000000
set_option maxRecDepth 100000
namespace Go.Proofs.Sur
open Go Go.VM

def fil {α : Type} (f : Nat → α) (d : α) (n j : Nat) : List α := (List.range n).map fun i => if i < j then f i else d
@[simp] theorem fil_len {α : Type} (f : Nat → α) (d : α) (n j : Nat) : (fil f d n j).length = n := by simp [fil]
theorem fil_0 {α : Type} (f : Nat → α) (d : α) (n : Nat) : fil f d n 0 = List.replicate n d := by
  simp [fil, List.map_const']
theorem fil_set {α : Type} (f : Nat → α) (d : α) {n j : Nat} (h : j < n) : (fil f d n j).set j (f j) = fil f d n (j + 1) := by
  apply List.ext_getElem
  · simp
  · intro i h1 h2
    simp only [fil, List.getElem_set, List.getElem_map, List.getElem_range]
    by_cases e : j = i
    · subst e; simp
    · rw [if_neg e]
      by_cases h3 : i < j
      · rw [if_pos h3, if_pos (by omega)]
      · rw [if_neg h3, if_neg (by omega)]
theorem fil_n {α : Type} (f : Nat → α) (d : α) (n : Nat) : fil f d n n = (List.range n).map f := by
  apply List.map_congr_left; intro i hi; rw [if_pos (List.mem_range.1 hi)]
abbrev ws (l : List W) (r : Room) : AV := .sl (u64s l) l.length r
abbrev wt_ (l : List W) (i : Nat) : W := l.getD i w0
def nrB (g : List Int) (i : Nat) : W := BitVec.ofNat 64 (at_ g i).toNat ||| (1#64 <<< i)
def nrV (g : List Int) : List W := (List.range g.length).map (nrB g)
@[simp] theorem nrV_len (g : List Int) : (nrV g).length = g.length := by simp [nrV]
theorem w_int {x : Int} (h : 0 ≤ x) (h2 : x < 9223372036854775808) : IntKind.u64.wrap x = ((BitVec.ofNat 64 x.toNat).toNat : Int) := by
  obtain ⟨n, rfl⟩ : ∃ n : Nat, x = n := ⟨x.toNat, by omega⟩
  rw [w_wrap (by omega), Int.toNat_natCast, BitVec.toNat_ofNat, Nat.mod_eq_of_lt (by omega)]
theorem w_one {n : Nat} (h : n ≤ 64) : IntKind.u64.wrap (1 * 2 ^ min ((n : Int)).toNat IntKind.u64.bits) = ((1#64 <<< n).toNat : Int) := w_shl 1#64 h
abbrev h78 (g : List Int) (j : Nat) : H := ⟨[u64s (fil (nrB g) w0 g.length j)], [], []⟩
abbrev o78 (g : List Int) : List Out := [.mk Unit (.exit 0) [3] (fun _ => True) (fun _ => [.msl 0 0 g.length g.length 1]) (fun _ => ⟨[u64s (nrV g)], [], []⟩) (fun _ => [])]
theorem simp78 : allSimpleM none1 (loopAt Tryd.f78 0) = true := by kernel_rfl
theorem lp78 (g : List Int) (r : Room) (h1 : Gr g) (h2 : rok g r) :
    LoopS (En6 []) (loopAt Tryd.f78 0) 26 [3, 9, 10, 11] [.msl 0 0 g.length g.length 1, ls g r, I g.length, I 0] ⟨[u64s (List.replicate g.length w0)], [], []⟩ (o78 g) := by
  have hR : Rests (En6 []) none1 := rests mixed .nil
  have hl := h1.1.2
  rw [← fil_0 (nrB g)]
  refine loop_s hR simp78 none (by intro _ h; cases h) (fun j vs h => h = h78 g j ∧ vs = [.msl 0 0 g.length g.length 1, ls g r, I g.length, I j]) g.length ⟨rfl, rfl⟩ (by intro _ h; cases h) ?_
  rintro j vs h hj ⟨rfl, rfl⟩
  by_cases hz : (j : Int) < g.length
  · have hz' : j < g.length := by omega
    have hr := rok_idx h2 hz'
    have hb := rg_lt h1.1 h1.2.1 hz'
    have ev0 := w_int hb.1 (by omega)
    have ev1 := w_one (n := j) (by omega)
    have ev2 := w_or (BitVec.ofNat 64 (at_ g j).toNat) (1#64 <<< j)
    have hs := fil_set (nrB g) w0 hz'
    refine ⟨[Ans.o (Orc.b true), Ans.o (Orc.val 14 (AV.cptr (ints (List.drop j g))) H.nil), Ans.o (Orc.val 15 (I (g.getD j i0)) H.nil), Ans.o (Orc.val 19 (AV.int IntKind.u64 (↑(BitVec.ofNat (64 : Nat) (at_ g j).toNat).toNat : Int)) H.nil), Ans.o (Orc.val 21 (AV.int IntKind.u64 (↑(BitVec.ofNat (64 : Nat) (1 : Nat) <<< j).toNat : Int)) H.nil), Ans.o (Orc.val 22 (AV.int IntKind.u64 (↑(BitVec.toNat (BitVec.ofNat (64 : Nat) (at_ g j).toNat ||| BitVec.ofNat (64 : Nat) (1 : Nat) <<< j)) : Int)) H.nil), Ans.o (Orc.val 23 (AV.ptr 0 j) H.nil), Ans.o (Orc.val 9999 (AV.tup []) (H.mk [u64s ((fil (nrB g) w0 g.length j).set j (BitVec.ofNat (64 : Nat) (at_ g j).toNat ||| BitVec.ofNat (64 : Nat) (1 : Nat) <<< j))] [] []))], fun u => of_eq ((↑j : Int) < (↑g.length : Int) ∧ aIndexAddr Tryd.prog 22 (ls g r) (I (↑j : Int)) = some (AV.cptr (ints (List.drop j g))) ∧ aLoad Tryd.prog 3 (ints (List.drop j g)) = some (I (g.getD j i0)) ∧ aConvert Tryd.prog 3 (71 : Nat) (I (g.getD j i0)) = some (AV.int IntKind.u64 (↑(BitVec.ofNat (64 : Nat) (at_ g j).toNat).toNat : Int)) ∧ aBin Tryd.prog BinOp.shl (71 : Nat) (AV.int IntKind.u64 (1 : Int)) (I (↑j : Int)) = some (AV.int IntKind.u64 (↑(BitVec.ofNat (64 : Nat) (1 : Nat) <<< j).toNat : Int)) ∧ aBin Tryd.prog BinOp.or (71 : Nat) (AV.int IntKind.u64 (↑(BitVec.ofNat (64 : Nat) (at_ g j).toNat).toNat : Int)) (AV.int IntKind.u64 (↑(BitVec.ofNat (64 : Nat) (1 : Nat) <<< j).toNat : Int)) = some (AV.int IntKind.u64 (↑(BitVec.toNat (BitVec.ofNat (64 : Nat) (at_ g j).toNat ||| BitVec.ofNat (64 : Nat) (1 : Nat) <<< j)) : Int)) ∧ aIndexAddr Tryd.prog 66 (AV.msl 0 0 g.length g.length (1 : Nat)) (I (↑j : Int)) = some (AV.ptr 0 j) ∧ aStore Tryd.prog H.nil.base 71 (AV.ptr 0 j) (AV.int IntKind.u64 (↑(BitVec.toNat (BitVec.ofNat (64 : Nat) (at_ g j).toNat ||| BitVec.ofNat (64 : Nat) (1 : Nat) <<< j)) : Int)) (H.mk [u64s (fil (nrB g) w0 g.length j)] [] []) = some (H.mk [u64s ((fil (nrB g) w0 g.length j).set j (BitVec.ofNat (64 : Nat) (at_ g j).toNat ||| BitVec.ofNat (64 : Nat) (1 : Nat) <<< j))] [] []) ∧ IntKind.i64.wrap ((↑j : Int) + (1 : Int)) = (↑j : Int) + (1 : Int) ∧ (26 : Nat) = (26 : Nat) ∧ j < g.length ∧ Keep (H.mk [u64s ((fil (nrB g) w0 g.length j).set j (BitVec.ofNat (64 : Nat) (at_ g j).toNat ||| BitVec.ofNat (64 : Nat) (1 : Nat) <<< j))] [] [] = H.mk [u64s (fil (nrB g) w0 g.length (j + (1 : Nat)))] [] [] ∧ [AV.msl 0 0 g.length g.length (1 : Nat), ls g r, I (↑g.length : Int), I ((↑j : Int) + (1 : Int))] = [AV.msl 0 0 g.length g.length (1 : Nat), ls g r, I (↑g.length : Int), I (↑(j + (1 : Nat)) : Int)])) (by kernel_rfl) ?_⟩
    refine ⟨by first | with_reducible assumption | omega | assumption, ?_⟩
    refine ⟨by first | exact ix_ints (by kernel_rfl) (by omega) (by assumption) | exact ix_ints (by kernel_rfl) (by omega) (rok_idx (by assumption) (by omega)), ?_⟩
    refine ⟨by first | exact ld_ints (by kernel_rfl) (by kernel_rfl) (by omega) | exact ldm_ints (by kernel_rfl) (by kernel_rfl) (by first | omega | (simp; omega)), ?_⟩
    refine ⟨by first | exact told_conv (by kernel_rfl) (by kernel_rfl) (by with_reducible assumption) | exact told_conv (by kernel_rfl) (by kernel_rfl) ev0 | exact told_conv (by kernel_rfl) (by kernel_rfl) ev1 | exact told_conv (by kernel_rfl) (by kernel_rfl) ev2 | exact told_conv (by kernel_rfl) (by kernel_rfl) ev3 | exact told_conv (by kernel_rfl) (by kernel_rfl) ev4 | exact told_conv (by kernel_rfl) (by kernel_rfl) ev5 | exact told_conv (by kernel_rfl) (by kernel_rfl) ev6 | exact told_conv (by kernel_rfl) (by kernel_rfl) ev7 | exact told_conv (by kernel_rfl) (by kernel_rfl) ev8 | exact told_conv (by kernel_rfl) (by kernel_rfl) ev9 | exact told_conv (by kernel_rfl) (by kernel_rfl) ev10 | exact told_conv (by kernel_rfl) (by kernel_rfl) ev11, ?_⟩
    refine ⟨by first | exact told_shl (by first | exact Int.natCast_nonneg _ | omega) (by with_reducible assumption) | exact told_shl (by omega) rfl, ?_⟩
    refine ⟨told_or (by with_reducible assumption), ?_⟩
    refine ⟨by first | exact ixm0 (by kernel_rfl) (by omega) | exact ixa0 (by kernel_rfl) (by omega), ?_⟩
    refine ⟨by first | exact st_u64s (by kernel_rfl) rfl (by first | omega | (simp; omega) | (simp at *; omega)) | exact st_ints (by kernel_rfl) rfl (by first | omega | (simp; omega) | (simp at *; omega)) | exact st_bools (by kernel_rfl) rfl (by first | omega | (simp; omega) | (simp at *; omega)), ?_⟩
    refine ⟨wr _ (by omega) (by omega), ?_⟩
    refine ⟨by first | with_reducible assumption | omega | assumption, ?_⟩
    refine ⟨by first | with_reducible assumption | omega | assumption, ?_⟩
    exact ⟨by rw [← hs]; rfl, rfl⟩
  · have hz : (g.length : Int) ≤ j := by omega
    have hj' : j = g.length := by omega
    subst hj'
    have hn := fil_n (nrB g) w0 g.length
    refine ⟨[Ans.o (Orc.b false)], fun u => of_eq ((↑g.length : Int) ≤ (↑g.length : Int) ∧ (26 : Nat) = (26 : Nat) ∧ hits [Out.mk Unit (AX.exit 0) [3] (fun x => True) (fun x => [AV.msl 0 0 g.length g.length (1 : Nat)]) (fun x => H.mk [u64s (nrV g)] [] []) fun x => []] (AX.exit 0) [u (0 : Nat), u (1 : Nat), u (2 : Nat), AV.msl 0 0 g.length g.length (1 : Nat), u (4 : Nat), u (5 : Nat), u (6 : Nat), u (7 : Nat), u (8 : Nat), ls g r, I (↑g.length : Int), I (↑g.length : Int), AV.bool false, u (13 : Nat), u (14 : Nat), u (15 : Nat), u (16 : Nat), u (17 : Nat), u (18 : Nat), u (19 : Nat), u (20 : Nat), u (21 : Nat), u (22 : Nat), u (23 : Nat), u (24 : Nat), u (25 : Nat)] (H.mk [u64s (fil (nrB g) w0 g.length g.length)] [] [])) (by kernel_rfl) ?_⟩
    refine ⟨by first | with_reducible assumption | omega | assumption, ?_⟩
    refine ⟨by first | with_reducible assumption | omega | assumption, ?_⟩
    exact .inl ⟨(), trivial, rfl, rfl, by rw [hn]; rfl⟩
theorem ok78 : FokM Tryd.prog none1 78 Tryd.f78 := ⟨mixed, by kernel_rfl, by kernel_rfl, by kernel_rfl, by kernel_rfl⟩
theorem r78 (g : List Int) (r : Room) (hp : Gr g ∧ rok g r) : Body ⟨Tryd.prog, Sof (P := Tryd.prog) [], Pof (P := Tryd.prog) [], H.nil.base, 300⟩ none1 Tryd.f78 [ls g r] .nil (ws (nrV g) .full, ⟨[], [], []⟩) := by
  have hl := hp.1.1.2
  have hn := nrV_len g
  simp only [ws, hn]
  refine body_s ([Ans.o (Orc.val 8 (AV.msl 0 0 g.length g.length (1 : Nat)) (H.mk [u64s (List.replicate g.length w0)] [] [])), Ans.loop [3, 9, 10, 11] [Out.mk Unit (AX.exit 0) [3] (fun x => True) (fun x => [AV.msl 0 0 g.length g.length (1 : Nat)]) (fun x => H.mk [u64s (nrV g)] [] []) fun y => []]]) (aMake Tryd.prog 66 (↑g.length : Int) (↑g.length : Int) (H.mk [] [] []) = some (AV.msl 0 0 g.length g.length (1 : Nat), H.mk [u64s (List.replicate g.length w0)] [] []) ∧ LoopS (Env.mk Tryd.prog (Sof (P := Tryd.prog) []) (Pof (P := Tryd.prog) []) H.nil.base (300 : Nat)) (loopAt Tryd.f78 0) 26 [3, 9, 10, 11] [AV.msl 0 0 g.length g.length (1 : Nat), ls g r, I (↑g.length : Int), I 0] (H.mk [u64s (List.replicate g.length w0)] [] []) [Out.mk Unit (AX.exit 0) [3] (fun x => True) (fun x => [AV.msl 0 0 g.length g.length (1 : Nat)]) (fun x => H.mk [u64s (nrV g)] [] []) fun y => []] ∧ (∀ (y : Unit), True → ∀ (u : Nat → AV), leave (Base.mk H.nil.blk.length H.nil.toks.length H.nil.maps.length) (AV.msl 0 0 g.length g.length (1 : Nat)) (H.mk [u64s (nrV g)] [] []) = (AV.sl (u64s (nrV g)) g.length Room.full, H.mk [] [] [])) ∧ True) (by kernel_rfl) ?_
  refine ⟨by first | exact mk_u64s (by kernel_rfl) (by omega) | exact mk_ints (by kernel_rfl) (by omega) | exact mk_bools (by kernel_rfl) (by omega), ?_⟩
  refine ⟨lp78 g r hp.1 hp.2, ?_⟩
  refine And.intro ?_ ?_
  · skip
    intro y
    intro w1
    intro u
    exact leave_u64sm (by simp) rfl
  · skip
    trivial
noncomputable def c78 : PCtr Tryd.prog := slctr ok78 (X := List Int × Room) (fun x => [ls x.1 x.2]) (fun x => Gr x.1 ∧ rok x.1 x.2) (fun x => ws (nrV x.1) .no) (by intro x y e _ _; simp at e; simp [e]) (fun x => by simp [AV.bnds, AV.bnd, AV.wk, rm_wk_bnd]) (fun x => by first | rfl | (simp [AV.bnd, rm_wk_bnd]; done)  | (simp [AV.bnd, AV.bnds, rm_wk_bnd]; done) | simp [AV.bnd, AV.bnds, Room.bnd, rm_wk_bnd]) (fun x hx => ⟨_, _, _, ws (nrV x.1) .full, [], .nil, r78 (x.1) (x.2).wk (by first | exact hx | (simp only [rok_wk]; exact hx) | (simp only [rok_wk, lst_wk]; exact hx) | (simp only [rok_wk, lst_wk, lsn_wk]; exact hx)), by simp [AV.plain, AV.plains, plains_ints, plains_rows], by first | (simp only [AV.wkd, wkds_rows]; done) | (simp only [AV.wkd, wkds_ints]; done) | simp [AV.wkd, AV.wkds, Room.wk]⟩)
def apB (l : List W) (i : Nat) : Int := ((wt_ l i &&& ~~~(1#64 <<< i)).toNat : Nat)
def apV (l : List W) : List Int := (List.range l.length).map (apB l)
@[simp] theorem apV_len (l : List W) : (apV l).length = l.length := by simp [apV]
end Go.Proofs.Sur

