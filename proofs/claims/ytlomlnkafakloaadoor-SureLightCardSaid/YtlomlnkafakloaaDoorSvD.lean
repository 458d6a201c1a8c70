/- Layer 5: sets of neighbours. -/
import Derived.Test.YtlomlnkafakloaaDoorSuB
import Derived.Test.YtlomlnkafakloaaDoorSuK
import Derived.Test.YtlomlnkafakloaaDoorSuF
import Derived.KernelRfl
set_option linter.unusedSimpArgs false
set_option linter.unusedVariables false
set_option linter.unnecessarySimpa false
set_option maxHeartbeats 4000000
set_option maxRecDepth 100000
namespace Go.Proofs.Sur
open Go Go.VM

def qc (g : List Int) (s i : Nat) : Bool := !s.testBit i || decide (andn s (at_ g i).toNat = 2 ^ i)
def okF (g : List Int) (s : Nat) : Nat → Bool
  | 0 => true
  | j + 1 => okF g s j && qc g s j
def clL (g : List Int) : Nat → List Int
  | 0 => []
  | s + 1 => if s ≠ 0 ∧ okF g s g.length = true then clL g s ++ [(s : Int)] else clL g s
def clV (g : List Int) : List Int := clL g (2 ^ g.length)
theorem okF_no {g : List Int} {s j : Nat} (h : qc g s j = false) : ∀ n, j < n → okF g s n = false
  | 0, hj => absurd hj (Nat.not_lt_zero j)
  | n + 1, hj => by
    simp only [okF]
    rcases Nat.lt_or_ge j n with h1 | h1
    · rw [okF_no h n h1]; rfl
    · have : j = n := by omega
      subst this; rw [h]; simp
theorem clL_len (g : List Int) : ∀ s, (clL g s).length ≤ s
  | 0 => Nat.le_refl 0
  | s + 1 => by
    have := clL_len g s
    simp only [clL]; split
    · simp; omega
    · omega
theorem clL_mem (g : List Int) : ∀ (s : Nat) (c : Int), c ∈ clL g s → 0 < c ∧ c < s
  | 0, c, h => by simp [clL] at h
  | s + 1, c, h => by
    simp only [clL] at h
    split at h
    · rename_i hc
      rcases List.mem_append.1 h with h | h
      · have := clL_mem g s c h; omega
      · have := List.mem_singleton.1 h; omega
    · have := clL_mem g s c h; omega
theorem clV_mem {g : List Int} (h : sz g) {c : Int} (hc : c ∈ clV g) : 0 < c ∧ c < ((2 ^ g.length : Nat) : Int) := clL_mem g _ c hc
theorem clV_get {g : List Int} {j : Nat} (hj : j < (clV g).length) : at_ (clV g) j ∈ clV g := by
  have e : at_ (clV g) j = (clV g)[j] := by simp [at_, List.getD_eq_getElem?_getD, List.getElem?_eq_getElem hj]
  rw [e]; exact List.getElem_mem hj
theorem i_andng {s : Nat} {x : Int} (hs : s < 64) (h0 : 0 ≤ x) : IntKind.i64.wrap ((BitVec.ofInt IntKind.i64.bits (s : Int) &&& ~~~BitVec.ofInt IntKind.i64.bits x).toNat : Int) = ((andn s x.toNat : Nat) : Int) := by
  have := i_andn (a := s) (b := x.toNat) (by omega)
  have e : ((x.toNat : Nat) : Int) = x := by omega
  rw [e] at this; exact this
abbrev iac (l : List Int) : AV := .sl (ints l) l.length (rm 0 l)
abbrev ihc (l : List Int) : H := ⟨[], tk l, []⟩
abbrev o68i (g : List Int) (r : Room) (l : List Int) (s : Nat) : List Out :=
  [.mk Unit (.exit 1) [0, 3, 4] (fun _ => okF g s g.length = false) (fun _ => [ls g r, iac l, I (s : Int)]) (fun _ => ihc l) (fun _ => []), .mk Unit (.exit 2) [0, 3, 4] (fun _ => okF g s g.length = true) (fun _ => [ls g r, iac l, I (s : Int)]) (fun _ => ihc l) (fun _ => [])]
theorem simp68i : allSimpleM none1 (loopAt Tryd.f68 1) = true := by kernel_rfl
theorem lp68i (g : List Int) (r : Room) (hg : Gr g) (hr : rok g r) (l : List Int) (s : Nat) (hs : s < 64) :
    LoopS (En6 [c71.to]) (loopAt Tryd.f68 1) 38 [0, 3, 4, 14, 15, 16] [ls g r, iac l, I (s : Int), ls g r, I g.length, I 0] (ihc l) (o68i g r l s) := by
  have hR : Rests (En6 [c71.to]) none1 := rests mixed (.pure _ .nil)
  have g6 := hg.1.2
  refine loop_s hR simp68i none (by intro _ h; cases h) (fun j vs h => h = ihc l ∧ vs = [ls g r, iac l, I (s : Int), ls g r, I g.length, I j] ∧ okF g s j = true) g.length ⟨rfl, rfl, rfl⟩ (by intro _ h; cases h) ?_
  rintro j vs h hj ⟨rfl, rfl, ha⟩
  by_cases hz : (j : Int) < g.length
  · have hz' : j < g.length := by omega
    have hr' := rok_idx hr hz'
    have hb := rg_lt hg.1 hg.2.1 hz'
    have p71 : (0 ≤ (s : Int) ∧ (s : Int) < 9223372036854775808) ∧ 0 ≤ (j : Int) ∧ (j : Int) ≤ 64 := ⟨by omega, by omega⟩
    have ev0 := i_andng hs hb.1
    have ev1 := pw_shl (n := j) (by omega)
    cases c1 : bi (s : Int) ((j : Int)).toNat
    · have c1' : s.testBit j = false := c1
      have hk : okF g s (j + 1) = true := by simp only [okF, ha, qc, c1']; rfl
      refine ⟨[Ans.o (Orc.b true), Ans.o (Orc.val 19 (AV.cptr (ints (List.drop j g))) H.nil), Ans.o (Orc.val 20 (I (g.getD j i0)) H.nil), Ans.o (Orc.val 23 (AV.bool false) (H.mk [] (tk l) []))], fun u => of_eq ((↑j : Int) < (↑g.length : Int) ∧ aIndexAddr Tryd.prog 22 (ls g r) (I (↑j : Int)) = some (AV.cptr (ints (List.drop j g))) ∧ aLoad Tryd.prog 3 (ints (List.drop j g)) = some (I (g.getD j i0)) ∧ aCall (Sof [c71.to]) (AV.fn (Fn.func 71) [] []) [I (↑s : Int), I (↑j : Int)] (H.mk [] (tk l) []) = some (AV.bool false, H.mk [] (tk l) []) ∧ IntKind.i64.wrap ((↑j : Int) + (1 : Int)) = (↑j : Int) + (1 : Int) ∧ (38 : Nat) = (38 : Nat) ∧ j < g.length ∧ Keep (H.mk [] (tk l) [] = H.mk [] (tk l) [] ∧ [ls g r, ls l (rm (0 : Nat) l), I (↑s : Int), ls g r, I (↑g.length : Int), I ((↑j : Int) + (1 : Int))] = [ls g r, ls l (rm (0 : Nat) l), I (↑s : Int), ls g r, I (↑g.length : Int), I (↑(j + (1 : Nat)) : Int)] ∧ okF g s (j + (1 : Nat)) = true)) (by kernel_rfl) ?_⟩
      refine ⟨by first | with_reducible assumption | omega | assumption, ?_⟩
      refine ⟨by first | exact ix_ints (by kernel_rfl) (by omega) (by assumption) | exact ix_ints (by kernel_rfl) (by omega) (rok_idx (by assumption) (by omega)), ?_⟩
      refine ⟨by first | exact ld_ints (by kernel_rfl) (by kernel_rfl) (by omega) | exact ldm_ints (by kernel_rfl) (by kernel_rfl) (by first | omega | (simp; omega)), ?_⟩
      refine ⟨acall_b (acall_hit (c := c71.to) ((s : Int), (j : Int)) _ rfl p71) c1, ?_⟩
      refine ⟨wr _ (by omega) (by omega), ?_⟩
      refine ⟨by first | with_reducible assumption | omega | assumption, ?_⟩
      refine ⟨by first | with_reducible assumption | omega | assumption, ?_⟩
      exact ⟨rfl, rfl, hk⟩
    · have c1' : s.testBit j = true := c1
      by_cases c2 : andn s (at_ g j).toNat = 2 ^ j
      · have c2' : ((andn s (at_ g j).toNat : Nat) : Int) = ((2 ^ j : Nat) : Int) := by omega
        have hk : okF g s (j + 1) = true := by simp only [okF, ha, qc, c1', decide_eq_true c2]; rfl
        refine ⟨[Ans.o (Orc.b true), Ans.o (Orc.val 19 (AV.cptr (ints (List.drop j g))) H.nil), Ans.o (Orc.val 20 (I (g.getD j i0)) H.nil), Ans.o (Orc.val 23 (AV.bool true) (H.mk [] (tk l) [])), Ans.o (Orc.val 27 (I (↑(andn s (at_ g j).toNat) : Int)) H.nil), Ans.o (Orc.val 29 (I (↑((2 : Nat) ^ j) : Int)) H.nil), Ans.o (Orc.b false)], fun u => of_eq ((↑j : Int) < (↑g.length : Int) ∧ aIndexAddr Tryd.prog 22 (ls g r) (I (↑j : Int)) = some (AV.cptr (ints (List.drop j g))) ∧ aLoad Tryd.prog 3 (ints (List.drop j g)) = some (I (g.getD j i0)) ∧ aCall (Sof [c71.to]) (AV.fn (Fn.func 71) [] []) [I (↑s : Int), I (↑j : Int)] (H.mk [] (tk l) []) = some (AV.bool true, H.mk [] (tk l) []) ∧ aBin Tryd.prog BinOp.andNot (3 : Nat) (I (↑s : Int)) (I (g.getD j i0)) = some (I (↑(andn s (at_ g j).toNat) : Int)) ∧ aBin Tryd.prog BinOp.shl (3 : Nat) (I 1) (I (↑j : Int)) = some (I (↑((2 : Nat) ^ j) : Int)) ∧ (↑(andn s (at_ g j).toNat) : Int) = (↑((2 : Nat) ^ j) : Int) ∧ IntKind.i64.wrap ((↑j : Int) + (1 : Int)) = (↑j : Int) + (1 : Int) ∧ (38 : Nat) = (38 : Nat) ∧ j < g.length ∧ Keep (H.mk [] (tk l) [] = H.mk [] (tk l) [] ∧ [ls g r, ls l (rm (0 : Nat) l), I (↑s : Int), ls g r, I (↑g.length : Int), I ((↑j : Int) + (1 : Int))] = [ls g r, ls l (rm (0 : Nat) l), I (↑s : Int), ls g r, I (↑g.length : Int), I (↑(j + (1 : Nat)) : Int)] ∧ okF g s (j + (1 : Nat)) = true)) (by kernel_rfl) ?_⟩
        refine ⟨by first | with_reducible assumption | omega | assumption, ?_⟩
        refine ⟨by first | exact ix_ints (by kernel_rfl) (by omega) (by assumption) | exact ix_ints (by kernel_rfl) (by omega) (rok_idx (by assumption) (by omega)), ?_⟩
        refine ⟨by first | exact ld_ints (by kernel_rfl) (by kernel_rfl) (by omega) | exact ldm_ints (by kernel_rfl) (by kernel_rfl) (by first | omega | (simp; omega)), ?_⟩
        refine ⟨acall_b (acall_hit (c := c71.to) ((s : Int), (j : Int)) _ rfl p71) c1, ?_⟩
        refine ⟨told_andn (by with_reducible assumption), ?_⟩
        refine ⟨by first | exact told_shl (by first | exact Int.natCast_nonneg _ | omega) (by with_reducible assumption) | exact told_shl (by omega) rfl, ?_⟩
        refine ⟨by first | with_reducible assumption | omega | assumption, ?_⟩
        refine ⟨wr _ (by omega) (by omega), ?_⟩
        refine ⟨by first | with_reducible assumption | omega | assumption, ?_⟩
        refine ⟨by first | with_reducible assumption | omega | assumption, ?_⟩
        exact ⟨rfl, rfl, hk⟩
      · have c2' : ((andn s (at_ g j).toNat : Nat) : Int) ≠ ((2 ^ j : Nat) : Int) := by omega
        have hk : okF g s g.length = false := okF_no (j := j) (by simp only [qc, c1', decide_eq_false c2]; rfl) _ hz'
        refine ⟨[Ans.o (Orc.b true), Ans.o (Orc.val 19 (AV.cptr (ints (List.drop j g))) H.nil), Ans.o (Orc.val 20 (I (g.getD j i0)) H.nil), Ans.o (Orc.val 23 (AV.bool true) (H.mk [] (tk l) [])), Ans.o (Orc.val 27 (I (↑(andn s (at_ g j).toNat) : Int)) H.nil), Ans.o (Orc.val 29 (I (↑((2 : Nat) ^ j) : Int)) H.nil), Ans.o (Orc.b true)], fun u => of_eq ((↑j : Int) < (↑g.length : Int) ∧ aIndexAddr Tryd.prog 22 (ls g r) (I (↑j : Int)) = some (AV.cptr (ints (List.drop j g))) ∧ aLoad Tryd.prog 3 (ints (List.drop j g)) = some (I (g.getD j i0)) ∧ aCall (Sof [c71.to]) (AV.fn (Fn.func 71) [] []) [I (↑s : Int), I (↑j : Int)] (H.mk [] (tk l) []) = some (AV.bool true, H.mk [] (tk l) []) ∧ aBin Tryd.prog BinOp.andNot (3 : Nat) (I (↑s : Int)) (I (g.getD j i0)) = some (I (↑(andn s (at_ g j).toNat) : Int)) ∧ aBin Tryd.prog BinOp.shl (3 : Nat) (I 1) (I (↑j : Int)) = some (I (↑((2 : Nat) ^ j) : Int)) ∧ (↑(andn s (at_ g j).toNat) : Int) ≠ (↑((2 : Nat) ^ j) : Int) ∧ (38 : Nat) = (38 : Nat) ∧ hits [Out.mk Unit (AX.exit 1) [0, 3, 4] (fun x => okF g s g.length = false) (fun x => [ls g r, iac l, I (↑s : Int)]) (fun x => ihc l) fun x => [], Out.mk Unit (AX.exit 2) [0, 3, 4] (fun x => okF g s g.length = true) (fun x => [ls g r, iac l, I (↑s : Int)]) (fun x => ihc l) fun x => []] (AX.exit 1) [ls g r, u (1 : Nat), u (2 : Nat), ls l (rm (0 : Nat) l), I (↑s : Int), I (↑j : Int), I (g.getD j i0), u (7 : Nat), u (8 : Nat), u (9 : Nat), u (10 : Nat), u (11 : Nat), u (12 : Nat), u (13 : Nat), ls g r, I (↑g.length : Int), I (↑j : Int), AV.bool true, I (↑j : Int), AV.cptr (ints (List.drop j g)), I (g.getD j i0), I (↑s : Int), I (↑j : Int), AV.bool true, AV.bool true, I (↑s : Int), I (g.getD j i0), I (↑(andn s (at_ g j).toNat) : Int), I (↑j : Int), I (↑((2 : Nat) ^ j) : Int), AV.bool true, AV.bool true, u (32 : Nat), u (33 : Nat), u (34 : Nat), u (35 : Nat), u (36 : Nat), u (37 : Nat)] (H.mk [] (tk l) [])) (by kernel_rfl) ?_⟩
        refine ⟨by first | with_reducible assumption | omega | assumption, ?_⟩
        refine ⟨by first | exact ix_ints (by kernel_rfl) (by omega) (by assumption) | exact ix_ints (by kernel_rfl) (by omega) (rok_idx (by assumption) (by omega)), ?_⟩
        refine ⟨by first | exact ld_ints (by kernel_rfl) (by kernel_rfl) (by omega) | exact ldm_ints (by kernel_rfl) (by kernel_rfl) (by first | omega | (simp; omega)), ?_⟩
        refine ⟨acall_b (acall_hit (c := c71.to) ((s : Int), (j : Int)) _ rfl p71) c1, ?_⟩
        refine ⟨told_andn (by with_reducible assumption), ?_⟩
        refine ⟨by first | exact told_shl (by first | exact Int.natCast_nonneg _ | omega) (by with_reducible assumption) | exact told_shl (by omega) rfl, ?_⟩
        refine ⟨by first | with_reducible assumption | omega | assumption, ?_⟩
        refine ⟨by first | with_reducible assumption | omega | assumption, ?_⟩
        exact .inl ⟨(), hk, rfl, rfl, rfl⟩
  · have hz : (g.length : Int) ≤ j := by omega
    have hj' : j = g.length := by omega
    subst hj'
    refine ⟨[Ans.o (Orc.b false)], fun u => of_eq ((↑g.length : Int) ≤ (↑g.length : Int) ∧ (38 : Nat) = (38 : Nat) ∧ hits [Out.mk Unit (AX.exit 1) [0, 3, 4] (fun x => okF g s g.length = false) (fun x => [ls g r, iac l, I (↑s : Int)]) (fun x => ihc l) fun x => [], Out.mk Unit (AX.exit 2) [0, 3, 4] (fun x => okF g s g.length = true) (fun x => [ls g r, iac l, I (↑s : Int)]) (fun x => ihc l) fun x => []] (AX.exit 2) [ls g r, u (1 : Nat), u (2 : Nat), ls l (rm (0 : Nat) l), I (↑s : Int), u (5 : Nat), u (6 : Nat), u (7 : Nat), u (8 : Nat), u (9 : Nat), u (10 : Nat), u (11 : Nat), u (12 : Nat), u (13 : Nat), ls g r, I (↑g.length : Int), I (↑g.length : Int), AV.bool false, u (18 : Nat), u (19 : Nat), u (20 : Nat), u (21 : Nat), u (22 : Nat), u (23 : Nat), u (24 : Nat), u (25 : Nat), u (26 : Nat), u (27 : Nat), u (28 : Nat), u (29 : Nat), u (30 : Nat), u (31 : Nat), u (32 : Nat), u (33 : Nat), u (34 : Nat), u (35 : Nat), u (36 : Nat), u (37 : Nat)] (H.mk [] (tk l) [])) (by kernel_rfl) ?_⟩
    refine ⟨by first | with_reducible assumption | omega | assumption, ?_⟩
    refine ⟨by first | with_reducible assumption | omega | assumption, ?_⟩
    exact .inr (.inl ⟨(), ha, rfl, rfl, rfl⟩)
abbrev o68 (g : List Int) : List Out := [.mk Unit (.exit 0) [3] (fun _ => True) (fun _ => [iac (clV g)]) (fun _ => ihc (clV g)) (fun _ => [])]
theorem simp68 : allSimpleM none1 (loopAt Tryd.f68 0) = true := by kernel_rfl
theorem clL_suc {g : List Int} {j : Nat} : clL g (j + 1 + 1) = if okF g (j + 1) g.length = true then clL g (j + 1) ++ [((j + 1 : Nat) : Int)] else clL g (j + 1) := by
  rw [clL]
  by_cases h : okF g (j + 1) g.length = true
  · rw [if_pos ⟨by omega, h⟩, if_pos h]
  · rw [if_neg (fun c => h c.2), if_neg h]
theorem lp68 (g : List Int) (r : Room) (hg : Gr g) (hr : rok g r) :
    LoopS (En6 [c71.to]) (loopAt Tryd.f68 0) 38 [0, 3, 4] [ls g r, .sl [] 0 .nil, I 1] .nil (o68 g) := by
  have hR : Rests (En6 [c71.to]) none1 := rests mixed (.pure _ .nil)
  have g6 := hg.1.2
  have h64 := pw_64 g6
  have p1 : 1 ≤ 2 ^ g.length := Nat.one_le_two_pow
  have ev0 := pw_shl (n := g.length) (by omega)
  refine loop_s hR simp68 none (by intro _ h; cases h) (fun j vs h => h = ihc (clL g (j + 1)) ∧ vs = [ls g r, iac (clL g (j + 1)), I ((j + 1 : Nat) : Int)] ∧ j + 1 ≤ 2 ^ g.length) 64 ⟨rfl, rfl, p1⟩ (by intro _ h; cases h) ?_
  rintro j vs h hj ⟨rfl, rfl, hle⟩
  have hlen := clL_len g (j + 1)
  have hs := clL_suc (g := g) (j := j)
  have eV : j + 1 = 2 ^ g.length → clL g (j + 1) = clV g := fun e => by rw [e]; rfl
  by_cases hz : ((j + 1 : Nat) : Int) < ((2 ^ g.length : Nat) : Int)
  · have hlt : j + 1 < 2 ^ g.length := by omega
    have ev1 : IntKind.i64.wrap (((j + 1 : Nat) : Int) + 1) = ((j + 1 + 1 : Nat) : Int) := by
      have : ((j + 1 : Nat) : Int) + 1 = ((j + 1 + 1 : Nat) : Int) := by omega
      rw [this]; exact i_wrap (by omega)
    have lpi := lp68i g r hg hr (clL g (j + 1)) (j + 1) (by omega)
    generalize clL g (j + 1) = m at hlen hs lpi
    have hj64 : j < 64 := by omega
    have hs0 : okF g (j + 1) g.length = false → clL g (j + 1 + 1) = m := fun h => by rw [hs, h]; rfl
    have hs1 : okF g (j + 1) g.length = true → clL g (j + 1 + 1) = m ++ [((j + 1 : Nat) : Int)] := fun h => by rw [hs, h]; rfl
    refine ⟨[Ans.o (Orc.val 10 (I (↑((2 : Nat) ^ g.length) : Int)) H.nil), Ans.o (Orc.b true), Ans.loop [0, 3, 4, 14, 15, 16] [Out.mk Unit (AX.exit 1) [0, 3, 4] (fun x => okF g (j + (1 : Nat)) g.length = false) (fun x => [ls g r, iac m, I (↑(j + (1 : Nat)) : Int)]) (fun x => ihc m) fun y => [Ans.o (Orc.val 13 (I (↑(j + (1 : Nat) + (1 : Nat)) : Int)) H.nil)], Out.mk Unit (AX.exit 2) [0, 3, 4] (fun x => okF g (j + (1 : Nat)) g.length = true) (fun x => [ls g r, iac m, I (↑(j + (1 : Nat)) : Int)]) (fun x => ihc m) fun y => [Ans.o (Orc.val 36 (AV.sl (ints (m ++ [(↑(j + (1 : Nat)) : Int)])) (m ++ [(↑(j + (1 : Nat)) : Int)]).length (rm (0 : Nat) (m ++ [(↑(j + (1 : Nat)) : Int)]))) (H.mk [] (tk (m ++ [(↑(j + (1 : Nat)) : Int)])) [])), Ans.o (Orc.val 13 (I (↑(j + (1 : Nat) + (1 : Nat)) : Int)) H.nil)]]], fun u => of_eq (aBin Tryd.prog BinOp.shl (3 : Nat) (I 1) (I (↑g.length : Int)) = some (I (↑((2 : Nat) ^ g.length) : Int)) ∧ (↑(j + (1 : Nat)) : Int) < (↑((2 : Nat) ^ g.length) : Int) ∧ LoopS (En6 [c71.to]) (loopAt Tryd.f68 1) 38 [0, 3, 4, 14, 15, 16] [ls g r, ls m (rm (0 : Nat) m), I (↑(j + (1 : Nat)) : Int), ls g r, I (↑g.length : Int), I 0] (H.mk [] (tk m) []) [Out.mk Unit (AX.exit 1) [0, 3, 4] (fun x => okF g (j + (1 : Nat)) g.length = false) (fun x => [ls g r, iac m, I (↑(j + (1 : Nat)) : Int)]) (fun x => ihc m) fun y => [Ans.o (Orc.val 13 (I (↑(j + (1 : Nat) + (1 : Nat)) : Int)) H.nil)], Out.mk Unit (AX.exit 2) [0, 3, 4] (fun x => okF g (j + (1 : Nat)) g.length = true) (fun x => [ls g r, iac m, I (↑(j + (1 : Nat)) : Int)]) (fun x => ihc m) fun y => [Ans.o (Orc.val 36 (AV.sl (ints (m ++ [(↑(j + (1 : Nat)) : Int)])) (m ++ [(↑(j + (1 : Nat)) : Int)]).length (rm (0 : Nat) (m ++ [(↑(j + (1 : Nat)) : Int)]))) (H.mk [] (tk (m ++ [(↑(j + (1 : Nat)) : Int)])) [])), Ans.o (Orc.val 13 (I (↑(j + (1 : Nat) + (1 : Nat)) : Int)) H.nil)]] ∧ (∀ (y : Unit), okF g (j + (1 : Nat)) g.length = false → ∀ (u : Nat → AV), aBin Tryd.prog BinOp.add (3 : Nat) (I (↑(j + (1 : Nat)) : Int)) (I 1) = some (I (↑(j + (1 : Nat) + (1 : Nat)) : Int)) ∧ (38 : Nat) = (38 : Nat) ∧ j < (64 : Nat) ∧ Keep (H.mk [] (tk m) [] = H.mk [] (tk (clL g (j + (1 : Nat) + (1 : Nat)))) [] ∧ [ls g r, ls m (rm (0 : Nat) m), I (↑(j + (1 : Nat) + (1 : Nat)) : Int)] = [ls g r, ls (clL g (j + (1 : Nat) + (1 : Nat))) (rm (0 : Nat) (clL g (j + (1 : Nat) + (1 : Nat)))), I (↑(j + (1 : Nat) + (1 : Nat)) : Int)] ∧ j + (1 : Nat) + (1 : Nat) ≤ (2 : Nat) ^ g.length)) ∧ (∀ (y : Unit), okF g (j + (1 : Nat)) g.length = true → ∀ (u : Nat → AV), aAppend Tryd.prog 22 (22 : Nat) (ls m (rm (0 : Nat) m)) (AV.sl [I (↑(j + (1 : Nat)) : Int)] (1 : Nat) Room.full) (H.mk [] (tk m) []) = some (AV.sl (ints (m ++ [(↑(j + (1 : Nat)) : Int)])) (m ++ [(↑(j + (1 : Nat)) : Int)]).length (rm (0 : Nat) (m ++ [(↑(j + (1 : Nat)) : Int)])), H.mk [] (tk (m ++ [(↑(j + (1 : Nat)) : Int)])) []) ∧ aBin Tryd.prog BinOp.add (3 : Nat) (I (↑(j + (1 : Nat)) : Int)) (I 1) = some (I (↑(j + (1 : Nat) + (1 : Nat)) : Int)) ∧ (38 : Nat) = (38 : Nat) ∧ j < (64 : Nat) ∧ Keep (H.mk [] (tk (m ++ [(↑(j + (1 : Nat)) : Int)])) [] = H.mk [] (tk (clL g (j + (1 : Nat) + (1 : Nat)))) [] ∧ [ls g r, AV.sl (ints (m ++ [(↑(j + (1 : Nat)) : Int)])) (m ++ [(↑(j + (1 : Nat)) : Int)]).length (rm (0 : Nat) (m ++ [(↑(j + (1 : Nat)) : Int)])), I (↑(j + (1 : Nat) + (1 : Nat)) : Int)] = [ls g r, ls (clL g (j + (1 : Nat) + (1 : Nat))) (rm (0 : Nat) (clL g (j + (1 : Nat) + (1 : Nat)))), I (↑(j + (1 : Nat) + (1 : Nat)) : Int)] ∧ j + (1 : Nat) + (1 : Nat) ≤ (2 : Nat) ^ g.length)) ∧ True) (by kernel_rfl) ?_⟩
    refine ⟨by first | exact told_shl (by first | exact Int.natCast_nonneg _ | omega) (by with_reducible assumption) | exact told_shl (by omega) rfl, ?_⟩
    refine ⟨by first | with_reducible assumption | omega | assumption, ?_⟩
    refine ⟨lpi, ?_⟩
    refine And.intro ?_ ?_
    · skip
      intro y
      intro w1
      intro u
      refine ⟨told_add (by with_reducible assumption), ?_⟩
      refine ⟨by first | with_reducible assumption | omega | assumption, ?_⟩
      refine ⟨by first | with_reducible assumption | omega | assumption, ?_⟩
      first | exact ⟨by rw [hs0 (by with_reducible assumption)], by rw [hs0 (by with_reducible assumption)]; try rfl, hlt⟩ | exact ⟨by rw [hs1 (by with_reducible assumption)], by rw [hs1 (by with_reducible assumption)]; try rfl, hlt⟩
    · skip
      refine And.intro ?_ ?_
      · skip
        intro y
        intro w1
        intro u
        refine ⟨app_ints (by kernel_rfl) (by omega), ?_⟩
        refine ⟨told_add (by with_reducible assumption), ?_⟩
        refine ⟨by first | with_reducible assumption | omega | assumption, ?_⟩
        refine ⟨by first | with_reducible assumption | omega | assumption, ?_⟩
        first | exact ⟨by rw [hs0 (by with_reducible assumption)], by rw [hs0 (by with_reducible assumption)]; try rfl, hlt⟩ | exact ⟨by rw [hs1 (by with_reducible assumption)], by rw [hs1 (by with_reducible assumption)]; try rfl, hlt⟩
      · skip
        trivial
  · have hz : ((2 ^ g.length : Nat) : Int) ≤ ((j + 1 : Nat) : Int) := by omega
    have e := eV (by omega)
    rw [e]
    refine ⟨[Ans.o (Orc.val 10 (I (↑((2 : Nat) ^ g.length) : Int)) H.nil), Ans.o (Orc.b false)], fun u => of_eq (aBin Tryd.prog BinOp.shl (3 : Nat) (I 1) (I (↑g.length : Int)) = some (I (↑((2 : Nat) ^ g.length) : Int)) ∧ (↑((2 : Nat) ^ g.length) : Int) ≤ (↑(j + (1 : Nat)) : Int) ∧ (38 : Nat) = (38 : Nat) ∧ hits [Out.mk Unit (AX.exit 0) [3] (fun x => True) (fun x => [iac (clV g)]) (fun x => ihc (clV g)) fun x => []] (AX.exit 0) [ls g r, u (1 : Nat), u (2 : Nat), ls (clV g) (rm (0 : Nat) (clV g)), I (↑(j + (1 : Nat)) : Int), u (5 : Nat), u (6 : Nat), I (↑(j + (1 : Nat)) : Int), ls g r, I (↑g.length : Int), I (↑((2 : Nat) ^ g.length) : Int), AV.bool false, u (12 : Nat), u (13 : Nat), u (14 : Nat), u (15 : Nat), u (16 : Nat), u (17 : Nat), u (18 : Nat), u (19 : Nat), u (20 : Nat), u (21 : Nat), u (22 : Nat), u (23 : Nat), u (24 : Nat), u (25 : Nat), u (26 : Nat), u (27 : Nat), u (28 : Nat), u (29 : Nat), u (30 : Nat), u (31 : Nat), u (32 : Nat), u (33 : Nat), u (34 : Nat), u (35 : Nat), u (36 : Nat), u (37 : Nat)] (H.mk [] (tk (clV g)) [])) (by kernel_rfl) ?_⟩
    refine ⟨by first | exact told_shl (by first | exact Int.natCast_nonneg _ | omega) (by with_reducible assumption) | exact told_shl (by omega) rfl, ?_⟩
    refine ⟨by first | with_reducible assumption | omega | assumption, ?_⟩
    refine ⟨by first | with_reducible assumption | omega | assumption, ?_⟩
    exact .inl ⟨(), trivial, rfl, rfl, rfl⟩
theorem ok68 : FokM Tryd.prog none1 68 Tryd.f68 := ⟨mixed, by kernel_rfl, by kernel_rfl, by kernel_rfl, by kernel_rfl⟩
theorem r68 (g : List Int) (r : Room) (hp : Gr g ∧ rok g r) : Body ⟨Tryd.prog, Sof (P := Tryd.prog) [c71.to], Pof (P := Tryd.prog) [], H.nil.base, 300⟩ none1 Tryd.f68 [ls g r] .nil (iac (clV g), ⟨[], tk (clV g), []⟩) := by
  refine body_s ([Ans.loop [0, 3, 4] [Out.mk Unit (AX.exit 0) [3] (fun x => True) (fun x => [iac (clV g)]) (fun x => ihc (clV g)) fun y => []]]) (LoopS (En6 [c71.to]) (loopAt Tryd.f68 0) 38 [0, 3, 4] [ls g r, AV.sl [] (0 : Nat) Room.nil, I 1] (H.mk [] [] []) [Out.mk Unit (AX.exit 0) [3] (fun x => True) (fun x => [iac (clV g)]) (fun x => ihc (clV g)) fun y => []] ∧ (∀ (y : Unit), True → ∀ (u : Nat → AV), leave (Base.mk H.nil.blk.length H.nil.toks.length H.nil.maps.length) (ls (clV g) (rm (0 : Nat) (clV g))) (H.mk [] (tk (clV g)) []) = (ls (clV g) (rm (0 : Nat) (clV g)), H.mk [] (tk (clV g)) [])) ∧ True) (by kernel_rfl) ?_
  refine ⟨lp68 g r hp.1 hp.2, ?_⟩
  refine And.intro ?_ ?_
  · skip
    intro y
    intro w1
    intro u
    exact leave_intsa _
  · skip
    trivial
noncomputable def c68 : PCtr Tryd.prog := slctr ok68 (X := List Int × Room) (fun x => [ls x.1 x.2]) (fun x => Gr x.1 ∧ rok x.1 x.2) (fun x => ls (clV x.1) (rn (clV x.1))) (by intro x y e _ _; simp at e; simp [e]) (fun x => by simp [AV.bnds, AV.bnd, AV.wk, rm_wk_bnd]) (fun x => by first | rfl | (simp [AV.bnd, rm_wk_bnd]; done)  | (simp [AV.bnd, AV.bnds, rm_wk_bnd]; done) | simp [AV.bnd, AV.bnds, Room.bnd, rm_wk_bnd]) (fun x hx => ⟨_, _, _, iac (clV x.1), tk (clV x.1), .pure c71 (.nil), r68 (x.1) (x.2).wk (by first | exact hx | (simp only [rok_wk]; exact hx) | (simp only [rok_wk, lst_wk]; exact hx) | (simp only [rok_wk, lst_wk, lsn_wk]; exact hx)), by simp [AV.plain, AV.plains, plains_ints, plains_rows], by first | (simp only [AV.wkd, wkds_rows]; done) | (simp only [AV.wkd, wkds_ints]; done) | simp [AV.wkd, AV.wkds, Room.wk]⟩)
end Go.Proofs.Sur

