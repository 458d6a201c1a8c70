/- Layer 5: the least rank, row by row. -/
import Derived.Test.YtlomlnkafakloaaDoorSwA
import Derived.Test.YtlomlnkafakloaaDoorSuE
import Derived.Test.YtlomlnkafakloaaDoorSvE
import Derived.KernelRfl
set_option linter.unusedSimpArgs false
set_option linter.unusedVariables false
set_option linter.unnecessarySimpa false
set_option maxHeartbeats 4000000
set_option maxRecDepth 100000
namespace Go.Proofs.Sur
open Go Go.VM

/-- by how much the last rows must raise the rank -/
def ftF (g : List Int) : Nat → List Int → Nat
  | 0, _ => 0
  | d + 1, s => if s.any (ftB g (g.length - (d + 1))) then ftF g d s else (List.range (2 ^ g.length)).foldl (fun (b x : Nat) => if ftB g (g.length - (d + 1)) (x : Int) then min b (1 + ftF g d (wd s (x : Int))) else b) g.length
def ftS (g : List Int) (d : Nat) (s : List Int) (b x : Nat) : Nat := if ftB g (g.length - (d + 1)) (x : Int) then min b (1 + ftF g d (wd s (x : Int))) else b
def ftP (g : List Int) (d : Nat) (s : List Int) (j : Nat) : Nat := (List.range j).foldl (ftS g d s) g.length
theorem ftP_suc (g : List Int) (d : Nat) (s : List Int) (j : Nat) : ftP g d s (j + 1) = ftS g d s (ftP g d s j) j := by
  rw [ftP, List.range_succ, List.foldl_append]; rfl
theorem ftS_le (g : List Int) (d : Nat) (s : List Int) (b x : Nat) : ftS g d s b x ≤ b := by simp only [ftS]; split <;> omega
theorem ftP_le (g : List Int) (d : Nat) (s : List Int) : ∀ j, ftP g d s j ≤ g.length
  | 0 => Nat.le_refl _
  | j + 1 => by rw [ftP_suc]; exact Nat.le_trans (ftS_le _ _ _ _ _) (ftP_le g d s j)
theorem ftF_suc (g : List Int) (d : Nat) (s : List Int) : ftF g (d + 1) s = if s.any (ftB g (g.length - (d + 1))) then ftF g d s else ftP g d s (2 ^ g.length) := rfl
theorem ftF_le (g : List Int) : ∀ (d : Nat) (s : List Int), ftF g d s ≤ g.length
  | 0, _ => Nat.zero_le _
  | d + 1, s => by
    rw [ftF_suc]; split
    · exact ftF_le g d s
    · exact ftP_le _ _ _ _
abbrev p74 (g : List Int) (i : Int) (s : List Int) : Prop := (Gr g ∧ g.length ≤ 5) ∧ (0 ≤ i ∧ i.toNat ≤ g.length) ∧ (0 < s.length ∧ s.length ≤ 2 ^ i.toNat) ∧ ∀ k, k < s.length → 0 ≤ at_ s k ∧ at_ s k < 64
abbrev w74 (g : List Int) (r : Room) (i : Int) (s : List Int) (q : Room) : Prop := p74 g i s ∧ rok g r ∧ rok s q
abbrev v74 (g : List Int) (i : Int) (s : List Int) : AV := I (ftF g (g.length - i.toNat) s : Nat)
abbrev C74ok (n : Nat) : Prop := ∀ g r i s q, w74 g r i s q ∧ g.length - i.toNat < n → CallOk Tryd.prog 74 [ls g r, I i, ls s q] .nil (v74 g i s) .nil
theorem ok74 : FokM Tryd.prog none1 74 Tryd.f74 := ⟨mixed, by kernel_rfl, by kernel_rfl, by kernel_rfl, by kernel_rfl⟩
noncomputable def C74 (n : Nat) (ih : C74ok n) : PCtr Tryd.prog where
  f := 74
  X := List Int × Room × Int × List Int × Room
  args x := [ls x.1 x.2.1, I x.2.2.1, ls x.2.2.2.1 x.2.2.2.2]
  pre x := w74 x.1 x.2.1 x.2.2.1 x.2.2.2.1 x.2.2.2.2 ∧ x.1.length - x.2.2.1.toNat < n
  v x := v74 x.1 x.2.2.1 x.2.2.2.1
  det := by
    rintro ⟨g, r, i, s, q⟩ ⟨g', r', i', s', q'⟩ e _ _
    simp at e
    simp [e]
  ok := by
    rintro ⟨g, r, i, s, q⟩ h
    have h' : w74 g r.wk i s q.wk ∧ g.length - i.toNat < n := ⟨⟨h.1.1, (rok_wk _ _).2 h.1.2.1, (rok_wk _ _).2 h.1.2.2⟩, h.2⟩
    exact ⟨ok74.call, fun H => (pure_call (ih g r.wk i s q.wk h') (by simp [AV.bnds, AV.bnd, rm_wk_bnd]) rfl H).wk⟩
abbrev o74a (g : List Int) (r : Room) (i : Nat) (d : Nat) (s : List Int) (q : Room) : List Out :=
  [.mk Unit .ret [6] (fun _ => s.any (ftB g i) = true) (fun _ => [I (ftF g d s : Nat)]) (fun _ => .nil) (fun _ => []), .mk Unit (.exit 0) [0, 1, 2] (fun _ => s.any (ftB g i) = false) (fun _ => [ls g r, I (i : Nat), ls s q]) (fun _ => .nil) (fun _ => [])]
theorem simp74a : allSimpleM none1 (loopAt Tryd.f74 0) = true := by kernel_rfl
theorem any_at {l : List Int} {f : Int → Bool} {j : Nat} (h : j < l.length) (hf : f (at_ l j) = true) : l.any f = true := by
  have e : at_ l j = l[j] := by simp [at_, List.getD_eq_getElem?_getD, List.getElem?_eq_getElem h]
  rw [List.any_eq_true]; exact ⟨l[j], List.getElem_mem h, by rw [← e]; exact hf⟩
theorem any_no {l : List Int} {f : Int → Bool} (h : ∀ j, j < l.length → f (at_ l j) = false) : l.any f = false := by
  rw [List.any_eq_false]
  intro x hx
  obtain ⟨j, hj, rfl⟩ := List.mem_iff_getElem.1 hx
  have e : at_ l j = l[j] := by simp [at_, List.getD_eq_getElem?_getD, List.getElem?_eq_getElem hj]
  have := h j hj
  rw [e] at this; rw [this]; simp
theorem lp74a (n : Nat) (ih : C74ok n) (g : List Int) (r : Room) (i d : Nat) (s : List Int) (q : Room) (h0 : w74 g r (i : Nat) s q) (hd : i + d + 1 = g.length) (hn : g.length - i < n + 1) :
    LoopS (En6 [c94.to, c95.to, (C74 n ih).to]) (loopAt Tryd.f74 0) 55 [0, 1, 2, 15, 16, 17] [ls g r, I (i : Nat), ls s q, ls s q, I s.length, I 0] .nil (o74a g r i d s q) := by
  have hR : Rests (En6 [c94.to, c95.to, (C74 n ih).to]) none1 := rests mixed (.pure _ (.pure _ (.pure _ .nil)))
  obtain ⟨⟨⟨hg, g5⟩, hi, hl, hs⟩, hr, hq⟩ := h0
  simp only [Int.toNat_natCast] at hi hl
  have h2 : 2 ^ i ≤ 2 ^ 5 := Nat.pow_le_pow_right (by decide) (by omega)
  have h2 : 2 ^ i ≤ 32 := h2
  refine loop_s hR simp74a none (by intro _ h; cases h) (fun j vs h => h = .nil ∧ vs = [ls g r, I (i : Nat), ls s q, ls s q, I s.length, I j] ∧ ∀ k, k < j → ftB g i (at_ s k) = false) s.length ⟨rfl, rfl, fun k hk => absurd hk (Nat.not_lt_zero k)⟩ (by intro _ h; cases h) ?_
  rintro j vs h hj ⟨rfl, rfl, ha⟩
  by_cases hz : (j : Int) < s.length
  · have hz' : j < s.length := by omega
    have hr' := rok_idx hq hz'
    have p94' : p94 g (i : Nat) (at_ s j) ∧ rok g r := ⟨⟨hg, ⟨by omega, by simp only [Int.toNat_natCast]; omega⟩, hs j hz'⟩, hr⟩
    have ev0 : IntKind.i64.wrap (((i : Nat) : Int) + 1) = ((i + 1 : Nat) : Int) := by
      have : ((i : Nat) : Int) + 1 = ((i + 1 : Nat) : Int) := by omega
      rw [this]; exact i_wrap (by omega)
    cases c1 : ftB g ((i : Nat) : Int).toNat (at_ s j)
    · have c1' : ftB g i (at_ s j) = false := c1
      have hk := all_succ (q := fun k => ftB g i (at_ s k) = false) ha c1'
      refine ⟨[Ans.o (Orc.b true), Ans.o (Orc.val 19 (AV.cptr (ints (List.drop j s))) H.nil), Ans.o (Orc.val 20 (I (s.getD j i0)) H.nil), Ans.o (Orc.val 24 (AV.bool false) (H.mk [] [] []))], fun u => of_eq ((↑j : Int) < (↑s.length : Int) ∧ aIndexAddr Tryd.prog (22 : Nat) (AV.sl (ints s) s.length q) (I (↑j : Int)) = some (AV.cptr (ints (List.drop j s))) ∧ aLoad Tryd.prog (3 : Nat) (ints (List.drop j s)) = some (I (s.getD j i0)) ∧ aCall (Sof [c94.to, c95.to, (C74 n ih).to]) (AV.fn (Fn.func (94 : Nat)) [] []) [AV.sl (ints g) g.length r, I (↑i : Int), I (s.getD j i0)] (H.mk [] [] []) = some (AV.bool false, H.mk [] [] []) ∧ IntKind.i64.wrap ((↑j : Int) + (1 : Int)) = (↑j : Int) + (1 : Int) ∧ (55 : Nat) = (55 : Nat) ∧ j < s.length ∧ Keep (H.mk [] [] [] = H.mk [] [] [] ∧ [AV.sl (ints g) g.length r, I (↑i : Int), AV.sl (ints s) s.length q, AV.sl (ints s) s.length q, I (↑s.length : Int), I ((↑j : Int) + (1 : Int))] = [AV.sl (ints g) g.length r, I (↑i : Int), AV.sl (ints s) s.length q, AV.sl (ints s) s.length q, I (↑s.length : Int), I (↑(j + (1 : Nat)) : Int)] ∧ ∀ (k : Nat), k < j + (1 : Nat) → ftB g i (at_ s k) = false)) (by kernel_rfl) ?_⟩
      refine ⟨by first | with_reducible assumption | omega | assumption, ?_⟩
      refine ⟨by first | exact ix_ints (by kernel_rfl) (by omega) (by assumption) | exact ix_ints (by kernel_rfl) (by omega) (rok_idx (by assumption) (by omega)), ?_⟩
      refine ⟨by first | exact ld_ints (by kernel_rfl) (by kernel_rfl) (by omega) | exact ldm_ints (by kernel_rfl) (by kernel_rfl) (by first | omega | (simp; omega)), ?_⟩
      refine ⟨acall_b (acall_hit (c := c94.to) (g, r, ((i : Nat) : Int), at_ s j) _ rfl p94') c1, ?_⟩
      refine ⟨wr _ (by omega) (by omega), ?_⟩
      refine ⟨by first | with_reducible assumption | omega | assumption, ?_⟩
      refine ⟨by first | with_reducible assumption | omega | assumption, ?_⟩
      exact ⟨rfl, rfl, hk⟩
    · have c1' : ftB g i (at_ s j) = true := c1
      have hany := any_at hz' c1'
      have e2 : i + 1 ≤ g.length := by omega
      have h3 : 2 ^ i ≤ 2 ^ (i + 1) := Nat.pow_le_pow_right (by decide) (by omega)
      have p74' : w74 g r ((i + 1 : Nat) : Int) s q ∧ g.length - ((i + 1 : Nat) : Int).toNat < n := ⟨⟨⟨⟨hg, g5⟩, ⟨by omega, by simp only [Int.toNat_natCast]; omega⟩, ⟨hl.1, by simp only [Int.toNat_natCast]; omega⟩, hs⟩, hr, hq⟩, by simp only [Int.toNat_natCast]; omega⟩
      have ed : g.length - ((i + 1 : Nat) : Int).toNat = d := by simp only [Int.toNat_natCast]; omega
      refine ⟨[Ans.o (Orc.b true), Ans.o (Orc.val 19 (AV.cptr (ints (List.drop j s))) H.nil), Ans.o (Orc.val 20 (I (s.getD j i0)) H.nil), Ans.o (Orc.val 24 (AV.bool true) (H.mk [] [] [])), Ans.o (Orc.val 27 (I (↑(i + (1 : Nat)) : Int)) H.nil), Ans.o (Orc.val 29 (I (↑(ftF g (g.length - (↑(i + (1 : Nat)) : Int).toNat) s) : Int)) (H.mk [] [] []))], fun u => of_eq ((↑j : Int) < (↑s.length : Int) ∧ aIndexAddr Tryd.prog (22 : Nat) (AV.sl (ints s) s.length q) (I (↑j : Int)) = some (AV.cptr (ints (List.drop j s))) ∧ aLoad Tryd.prog (3 : Nat) (ints (List.drop j s)) = some (I (s.getD j i0)) ∧ aCall (Sof [c94.to, c95.to, (C74 n ih).to]) (AV.fn (Fn.func (94 : Nat)) [] []) [AV.sl (ints g) g.length r, I (↑i : Int), I (s.getD j i0)] (H.mk [] [] []) = some (AV.bool true, H.mk [] [] []) ∧ aBin Tryd.prog BinOp.add (3 : Nat) (I (↑i : Int)) (I 1) = some (I (↑(i + (1 : Nat)) : Int)) ∧ aCall (Sof [c94.to, c95.to, (C74 n ih).to]) (AV.fn (Fn.func (74 : Nat)) [] []) [AV.sl (ints g) g.length r, I (↑(i + (1 : Nat)) : Int), AV.sl (ints s) s.length q] (H.mk [] [] []) = some (I (↑(ftF g (g.length - (↑(i + (1 : Nat)) : Int).toNat) s) : Int), H.mk [] [] []) ∧ (55 : Nat) = (55 : Nat) ∧ hits [Out.mk Unit AX.ret [(6 : Nat)] (fun x => s.any (ftB g i) = true) (fun x => [I (↑(ftF g d s) : Int)]) (fun x => H.nil) fun x => [], Out.mk Unit (AX.exit (0 : Nat)) [(0 : Nat), (1 : Nat), (2 : Nat)] (fun x => s.any (ftB g i) = false) (fun x => [ls g r, I (↑i : Int), ls s q]) (fun x => H.nil) fun x => []] AX.ret [AV.sl (ints g) g.length r, I (↑i : Int), AV.sl (ints s) s.length q, u (3 : Nat), u (4 : Nat), u (5 : Nat), I (↑(ftF g (g.length - (↑(i + (1 : Nat)) : Int).toNat) s) : Int), u (7 : Nat), I (s.getD j i0), u (9 : Nat), u (10 : Nat), u (11 : Nat), u (12 : Nat), u (13 : Nat), u (14 : Nat), AV.sl (ints s) s.length q, I (↑s.length : Int), I (↑j : Int), AV.bool true, AV.cptr (ints (List.drop j s)), I (s.getD j i0), AV.sl (ints g) g.length r, I (↑i : Int), I (s.getD j i0), AV.bool true, AV.sl (ints g) g.length r, I (↑i : Int), I (↑(i + (1 : Nat)) : Int), AV.sl (ints s) s.length q, I (↑(ftF g (g.length - (↑(i + (1 : Nat)) : Int).toNat) s) : Int), u (30 : Nat), u (31 : Nat), u (32 : Nat), u (33 : Nat), u (34 : Nat), u (35 : Nat), u (36 : Nat), u (37 : Nat), u (38 : Nat), u (39 : Nat), u (40 : Nat), u (41 : Nat), u (42 : Nat), u (43 : Nat), u (44 : Nat), u (45 : Nat), u (46 : Nat), u (47 : Nat), u (48 : Nat), u (49 : Nat), u (50 : Nat), u (51 : Nat), u (52 : Nat), u (53 : Nat), u (54 : Nat)] (H.mk [] [] [])) (by kernel_rfl) ?_⟩
      refine ⟨by first | with_reducible assumption | omega | assumption, ?_⟩
      refine ⟨by first | exact ix_ints (by kernel_rfl) (by omega) (by assumption) | exact ix_ints (by kernel_rfl) (by omega) (rok_idx (by assumption) (by omega)), ?_⟩
      refine ⟨by first | exact ld_ints (by kernel_rfl) (by kernel_rfl) (by omega) | exact ldm_ints (by kernel_rfl) (by kernel_rfl) (by first | omega | (simp; omega)), ?_⟩
      refine ⟨acall_b (acall_hit (c := c94.to) (g, r, ((i : Nat) : Int), at_ s j) _ rfl p94') c1, ?_⟩
      refine ⟨told_add (by with_reducible assumption), ?_⟩
      refine ⟨acall_hit (c := (C74 n ih).to) (g, r, ((i + 1 : Nat) : Int), s, q) _ rfl p74', ?_⟩
      refine ⟨by first | with_reducible assumption | omega | assumption, ?_⟩
      exact .inl ⟨(), hany, rfl, by rw [← ed]; rfl, rfl⟩
  · have hz : (s.length : Int) ≤ j := by omega
    have e : j = s.length := by omega
    subst e
    have hany := any_no ha
    refine ⟨[Ans.o (Orc.b false)], fun u => of_eq ((↑s.length : Int) ≤ (↑s.length : Int) ∧ (55 : Nat) = (55 : Nat) ∧ hits [Out.mk Unit AX.ret [(6 : Nat)] (fun x => s.any (ftB g i) = true) (fun x => [I (↑(ftF g d s) : Int)]) (fun x => H.nil) fun x => [], Out.mk Unit (AX.exit (0 : Nat)) [(0 : Nat), (1 : Nat), (2 : Nat)] (fun x => s.any (ftB g i) = false) (fun x => [ls g r, I (↑i : Int), ls s q]) (fun x => H.nil) fun x => []] (AX.exit (0 : Nat)) [AV.sl (ints g) g.length r, I (↑i : Int), AV.sl (ints s) s.length q, u (3 : Nat), u (4 : Nat), u (5 : Nat), u (6 : Nat), u (7 : Nat), u (8 : Nat), u (9 : Nat), u (10 : Nat), u (11 : Nat), u (12 : Nat), u (13 : Nat), u (14 : Nat), AV.sl (ints s) s.length q, I (↑s.length : Int), I (↑s.length : Int), AV.bool false, u (19 : Nat), u (20 : Nat), u (21 : Nat), u (22 : Nat), u (23 : Nat), u (24 : Nat), u (25 : Nat), u (26 : Nat), u (27 : Nat), u (28 : Nat), u (29 : Nat), u (30 : Nat), u (31 : Nat), u (32 : Nat), u (33 : Nat), u (34 : Nat), u (35 : Nat), u (36 : Nat), u (37 : Nat), u (38 : Nat), u (39 : Nat), u (40 : Nat), u (41 : Nat), u (42 : Nat), u (43 : Nat), u (44 : Nat), u (45 : Nat), u (46 : Nat), u (47 : Nat), u (48 : Nat), u (49 : Nat), u (50 : Nat), u (51 : Nat), u (52 : Nat), u (53 : Nat), u (54 : Nat)] (H.mk [] [] [])) (by kernel_rfl) ?_⟩
    refine ⟨by first | with_reducible assumption | omega | assumption, ?_⟩
    refine ⟨by first | with_reducible assumption | omega | assumption, ?_⟩
    exact .inr (.inl ⟨(), hany, rfl, rfl, rfl⟩)
abbrev o74b (g : List Int) (d : Nat) (s : List Int) : List Out :=
  [.mk Unit (.exit 2) [9] (fun _ => True) (fun _ => [I (ftP g d s (2 ^ g.length) : Nat)]) (fun _ => .nil) (fun _ => [])]
theorem simp74b : allSimpleM none1 (loopAt Tryd.f74 1) = true := by kernel_rfl
theorem wd_len (s : List Int) (x : Int) : (wd s x).length = 2 * s.length := by simp [wd]; omega
theorem wd_sm {s : List Int} {x : Int} (hs : ∀ k, k < s.length → 0 ≤ at_ s k ∧ at_ s k < 64) (hx : 0 ≤ x ∧ x < 64) : ∀ k, k < (wd s x).length → 0 ≤ at_ (wd s x) k ∧ at_ (wd s x) k < 64 := by
  have hs2 : ∀ y ∈ s, 0 ≤ y ∧ y < 64 := fun y hy => by
    obtain ⟨j, hj, rfl⟩ := List.mem_iff_getElem.1 hy
    have := hs j hj
    have e : at_ s j = s[j] := by simp [at_, List.getD_eq_getElem?_getD, List.getElem?_eq_getElem hj]
    rw [e] at this; exact this
  intro k hk
  have e : at_ (wd s x) k = (wd s x)[k] := by simp [at_, List.getD_eq_getElem?_getD, List.getElem?_eq_getElem hk]
  have hm := List.getElem_mem hk
  rw [e]
  generalize (wd s x)[k] = z at hm
  rcases List.mem_append.1 hm with h | h
  · exact hs2 z h
  · obtain ⟨y, hy, rfl⟩ := List.mem_map.1 h
    have h1 := hs2 y hy
    have := Nat.xor_lt_two_pow (n := 6) (x := y.toNat) (y := x.toNat) (by omega) (by omega)
    constructor
    · exact Int.natCast_nonneg _
    · show ((y.toNat ^^^ x.toNat : Nat) : Int) < 64
      omega
theorem lp74b (n : Nat) (ih : C74ok n) (g : List Int) (r : Room) (i d : Nat) (s : List Int) (q : Room) (h0 : w74 g r (i : Nat) s q) (hd : i + d + 1 = g.length) (hn : g.length - i < n + 1) (M : Nat) (hM : 2 ^ g.length = M) :
    LoopS (En6 [c94.to, c95.to, (C74 n ih).to]) (loopAt Tryd.f74 1) 55 [0, 1, 2, 9, 35, 36] [ls g r, I (i : Nat), ls s q, I g.length, I (M : Nat), I 0] .nil (o74b g d s) := by
  have hR : Rests (En6 [c94.to, c95.to, (C74 n ih).to]) none1 := rests mixed (.pure _ (.pure _ (.pure _ .nil)))
  obtain ⟨⟨⟨hg, g5⟩, hi, hl, hs⟩, hr, hq⟩ := h0
  simp only [Int.toNat_natCast] at hi hl
  have h2 : 2 ^ i ≤ 2 ^ 5 := Nat.pow_le_pow_right (by decide) (by omega)
  have h2 : 2 ^ i ≤ 32 := h2
  have hM6 := pw_64 hg.1.2
  rw [hM] at hM6
  refine loop_s hR simp74b none (by intro _ h; cases h) (fun j vs h => h = .nil ∧ vs = [ls g r, I (i : Nat), ls s q, I (ftP g d s j : Nat), I (M : Nat), I j]) M ⟨rfl, rfl⟩ (by intro _ h; cases h) ?_
  rintro j vs h hj ⟨rfl, rfl⟩
  have hs1 := ftP_suc g d s j
  by_cases hz : (j : Int) < M
  · have hz' : j < M := by omega
    have p94' : p94 g (i : Nat) (j : Nat) ∧ rok g r := ⟨⟨hg, ⟨by omega, by simp only [Int.toNat_natCast]; omega⟩, by omega, by omega⟩, hr⟩
    have ei : g.length - (d + 1) = i := by omega
    cases c1 : ftB g ((i : Nat) : Int).toNat (j : Nat)
    · have c1' : ftB g i (j : Nat) = false := c1
      have hk : ftP g d s (j + 1) = ftP g d s j := by rw [hs1, ftS, ei, c1']; rfl
      refine ⟨[Ans.o (Orc.b true), Ans.o (Orc.val 42 (AV.bool false) (H.mk [] [] []))], fun u => of_eq ((↑j : Int) < (↑M : Int) ∧ aCall (Sof [c94.to, c95.to, (C74 n ih).to]) (AV.fn (Fn.func (94 : Nat)) [] []) [AV.sl (ints g) g.length r, I (↑i : Int), I (↑j : Int)] (H.mk [] [] []) = some (AV.bool false, H.mk [] [] []) ∧ IntKind.i64.wrap ((↑j : Int) + (1 : Int)) = (↑j : Int) + (1 : Int) ∧ (55 : Nat) = (55 : Nat) ∧ j < M ∧ Keep (H.mk [] [] [] = H.mk [] [] [] ∧ [AV.sl (ints g) g.length r, I (↑i : Int), AV.sl (ints s) s.length q, I (↑(ftP g d s j) : Int), I (↑M : Int), I ((↑j : Int) + (1 : Int))] = [AV.sl (ints g) g.length r, I (↑i : Int), AV.sl (ints s) s.length q, I (↑(ftP g d s (j + (1 : Nat))) : Int), I (↑M : Int), I (↑(j + (1 : Nat)) : Int)])) (by kernel_rfl) ?_⟩
      refine ⟨by first | with_reducible assumption | omega | assumption, ?_⟩
      refine ⟨acall_b (acall_hit (c := c94.to) (g, r, ((i : Nat) : Int), ((j : Nat) : Int)) _ rfl p94') c1, ?_⟩
      refine ⟨wr _ (by omega) (by omega), ?_⟩
      refine ⟨by first | with_reducible assumption | omega | assumption, ?_⟩
      refine ⟨by first | with_reducible assumption | omega | assumption, ?_⟩
      exact ⟨rfl, by rw [hk]; rfl⟩
    · have c1' : ftB g i (j : Nat) = true := c1
      have hk : ftP g d s (j + 1) = min (ftP g d s j) (1 + ftF g d (wd s (j : Nat))) := by rw [hs1, ftS, ei, c1']; rfl
      have ev0 : IntKind.i64.wrap (((i : Nat) : Int) + 1) = ((i + 1 : Nat) : Int) := by
        have : ((i : Nat) : Int) + 1 = ((i + 1 : Nat) : Int) := by omega
        rw [this]; exact i_wrap (by omega)
      have hx : (0 : Int) ≤ (j : Nat) ∧ ((j : Nat) : Int) < 64 := by omega
      have p95' : p95 s (j : Nat) ∧ rok s q := ⟨⟨⟨hl.1, by omega⟩, hs, hx⟩, hq⟩
      have hw := wd_len s (j : Nat)
      have h3 : 2 ^ (i + 1) = 2 * 2 ^ i := by rw [Nat.pow_succ]; omega
      have p74' : w74 g r ((i + 1 : Nat) : Int) (wd s (j : Nat)) .no ∧ g.length - ((i + 1 : Nat) : Int).toNat < n := ⟨⟨⟨⟨hg, g5⟩, ⟨by omega, by simp only [Int.toNat_natCast]; omega⟩, ⟨by omega, by simp only [Int.toNat_natCast]; omega⟩, wd_sm hs hx⟩, hr, fun _ => by simp⟩, by simp only [Int.toNat_natCast]; omega⟩
      have ed : g.length - ((i + 1 : Nat) : Int).toNat = d := by simp only [Int.toNat_natCast]; omega
      have ev1 : IntKind.i64.wrap (1 + ((ftF g (g.length - ((i + 1 : Nat) : Int).toNat) (wd s (j : Nat)) : Nat) : Int)) = ((1 + ftF g d (wd s (j : Nat)) : Nat) : Int) := by
        rw [ed]; exact i_add1 (Nat.le_trans (ftF_le _ _ _) (by omega))
      have hk2 := mn_nat (ftP g d s j) (1 + ftF g d (wd s (j : Nat)))
      rw [← hk] at hk2
      generalize 1 + ftF g d (wd s (j : Nat)) = Z at ev1 hk2
      refine ⟨[Ans.o (Orc.b true), Ans.o (Orc.val 42 (AV.bool true) (H.mk [] [] [])), Ans.o (Orc.val 46 (I (↑(i + (1 : Nat)) : Int)) H.nil), Ans.o (Orc.val 49 (AV.sl (ints (wd s (↑j : Int))) (wd s (↑j : Int)).length Room.no) (H.mk [] [] [])), Ans.o (Orc.val 50 (I (↑(ftF g (g.length - (↑(i + (1 : Nat)) : Int).toNat) (wd s (↑j : Int))) : Int)) (H.mk [] [] [])), Ans.o (Orc.val 51 (I (↑Z : Int)) H.nil)], fun u => of_eq ((↑j : Int) < (↑M : Int) ∧ aCall (Sof [c94.to, c95.to, (C74 n ih).to]) (AV.fn (Fn.func (94 : Nat)) [] []) [AV.sl (ints g) g.length r, I (↑i : Int), I (↑j : Int)] (H.mk [] [] []) = some (AV.bool true, H.mk [] [] []) ∧ aBin Tryd.prog BinOp.add (3 : Nat) (I (↑i : Int)) (I 1) = some (I (↑(i + (1 : Nat)) : Int)) ∧ aCall (Sof [c94.to, c95.to, (C74 n ih).to]) (AV.fn (Fn.func (95 : Nat)) [] []) [AV.sl (ints s) s.length q, I (↑j : Int)] (H.mk [] [] []) = some (AV.sl (ints (wd s (↑j : Int))) (wd s (↑j : Int)).length Room.no, H.mk [] [] []) ∧ aCall (Sof [c94.to, c95.to, (C74 n ih).to]) (AV.fn (Fn.func (74 : Nat)) [] []) [AV.sl (ints g) g.length r, I (↑(i + (1 : Nat)) : Int), AV.sl (ints (wd s (↑j : Int))) (wd s (↑j : Int)).length Room.no] (H.mk [] [] []) = some (I (↑(ftF g (g.length - (↑(i + (1 : Nat)) : Int).toNat) (wd s (↑j : Int))) : Int), H.mk [] [] []) ∧ aBin Tryd.prog BinOp.add (3 : Nat) (I 1) (I (↑(ftF g (g.length - (↑(i + (1 : Nat)) : Int).toNat) (wd s (↑j : Int))) : Int)) = some (I (↑Z : Int)) ∧ IntKind.i64.wrap ((↑j : Int) + (1 : Int)) = (↑j : Int) + (1 : Int) ∧ (55 : Nat) = (55 : Nat) ∧ j < M ∧ Keep (H.mk [] [] [] = H.mk [] [] [] ∧ [AV.sl (ints g) g.length r, I (↑i : Int), AV.sl (ints s) s.length q, I (pick2 false (↑(ftP g d s j) : Int) (↑Z : Int)), I (↑M : Int), I ((↑j : Int) + (1 : Int))] = [AV.sl (ints g) g.length r, I (↑i : Int), AV.sl (ints s) s.length q, I (↑(ftP g d s (j + (1 : Nat))) : Int), I (↑M : Int), I (↑(j + (1 : Nat)) : Int)])) (by kernel_rfl) ?_⟩
      refine ⟨by first | with_reducible assumption | omega | assumption, ?_⟩
      refine ⟨acall_b (acall_hit (c := c94.to) (g, r, ((i : Nat) : Int), ((j : Nat) : Int)) _ rfl p94') c1, ?_⟩
      refine ⟨told_add (by with_reducible assumption), ?_⟩
      refine ⟨acall_hit (c := c95.to) (s, q, ((j : Nat) : Int)) _ rfl p95', ?_⟩
      refine ⟨acall_hit (c := (C74 n ih).to) (g, r, ((i + 1 : Nat) : Int), wd s (j : Nat), .no) _ rfl p74', ?_⟩
      refine ⟨told_add (by with_reducible assumption), ?_⟩
      refine ⟨wr _ (by omega) (by omega), ?_⟩
      refine ⟨by first | with_reducible assumption | omega | assumption, ?_⟩
      refine ⟨by first | with_reducible assumption | omega | assumption, ?_⟩
      exact ⟨rfl, by rw [← hk2]; rfl⟩
  · have hz : (M : Int) ≤ j := by omega
    have e : j = M := by omega
    subst e
    refine ⟨[Ans.o (Orc.b false)], fun u => of_eq ((↑j : Int) ≤ (↑j : Int) ∧ (55 : Nat) = (55 : Nat) ∧ hits [Out.mk Unit (AX.exit (2 : Nat)) [(9 : Nat)] (fun x => True) (fun x => [I (↑(ftP g d s ((2 : Nat) ^ g.length)) : Int)]) (fun x => H.nil) fun x => []] (AX.exit (2 : Nat)) [AV.sl (ints g) g.length r, I (↑i : Int), AV.sl (ints s) s.length q, u (3 : Nat), u (4 : Nat), u (5 : Nat), u (6 : Nat), u (7 : Nat), u (8 : Nat), I (↑(ftP g d s j) : Int), u (10 : Nat), u (11 : Nat), u (12 : Nat), u (13 : Nat), u (14 : Nat), u (15 : Nat), u (16 : Nat), u (17 : Nat), u (18 : Nat), u (19 : Nat), u (20 : Nat), u (21 : Nat), u (22 : Nat), u (23 : Nat), u (24 : Nat), u (25 : Nat), u (26 : Nat), u (27 : Nat), u (28 : Nat), u (29 : Nat), u (30 : Nat), u (31 : Nat), u (32 : Nat), u (33 : Nat), u (34 : Nat), I (↑j : Int), I (↑j : Int), AV.bool false, u (38 : Nat), u (39 : Nat), u (40 : Nat), u (41 : Nat), u (42 : Nat), u (43 : Nat), u (44 : Nat), u (45 : Nat), u (46 : Nat), u (47 : Nat), u (48 : Nat), u (49 : Nat), u (50 : Nat), u (51 : Nat), u (52 : Nat), u (53 : Nat), u (54 : Nat)] (H.mk [] [] [])) (by kernel_rfl) ?_⟩
    refine ⟨by first | with_reducible assumption | omega | assumption, ?_⟩
    refine ⟨by first | with_reducible assumption | omega | assumption, ?_⟩
    exact .inl ⟨(), trivial, rfl, by rw [hM]; rfl, rfl⟩
theorem r74 (n : Nat) (ih : C74ok n) (g : List Int) (r : Room) (i : Int) (s : List Int) (q : Room) (hp : w74 g r i s q ∧ g.length - i.toNat < n + 1) : Body (En6 [c94.to, c95.to, (C74 n ih).to]) none1 Tryd.f74 [ls g r, I i, ls s q] .nil (v74 g i s, .nil) := by
  obtain ⟨h0, hn⟩ := hp
  obtain ⟨k, rfl⟩ : ∃ k : Nat, i = k := ⟨i.toNat, by have := h0.1.2.1.1; omega⟩
  simp only [v74, Int.toNat_natCast] at hn ⊢
  have hk := h0.1.2.1.2
  simp only [Int.toNat_natCast] at hk
  have g5 := h0.1.1.2
  by_cases hz : k = g.length
  · have hu : ((k : Nat) : Int) = g.length := by omega
    have hm : ftF g (g.length - k) s = 0 := by rw [hz, Nat.sub_self]; rfl
    rw [hm]
    refine body_s ([Ans.o (Orc.b true)]) ((↑k : Int) = (↑g.length : Int) ∧ (I 0, H.mk [] [] []) = (I 0, H.mk [] [] [])) (by kernel_rfl) ?_
    refine ⟨by first | with_reducible assumption | omega | assumption, ?_⟩
    rfl
  · have hu : ((k : Nat) : Int) ≠ g.length := by omega
    obtain ⟨d, hd⟩ : ∃ d, k + d + 1 = g.length := ⟨g.length - k - 1, by omega⟩
    have e : g.length - k = d + 1 := by omega
    have ei : g.length - (d + 1) = k := by omega
    have hm : ftF g (g.length - k) s = if s.any (ftB g k) then ftF g d s else ftP g d s (2 ^ g.length) := by rw [e, ftF_suc, ei]
    rw [hm]
    have ev0 := pw_shl (n := g.length) (by omega)
    have l1 := lp74a n ih g r k d s q h0 hd hn
    have l2 := lp74b n ih g r k d s q h0 hd hn _ rfl
    refine body_s ([Ans.o (Orc.b false), Ans.loop [(0 : Nat), (1 : Nat), (2 : Nat), (15 : Nat), (16 : Nat), (17 : Nat)] [Out.mk Unit AX.ret [(6 : Nat)] (fun x => s.any (ftB g k) = true) (fun x => [I (↑(ftF g d s) : Int)]) (fun x => H.nil) fun y => [], Out.mk Unit (AX.exit (0 : Nat)) [(0 : Nat), (1 : Nat), (2 : Nat)] (fun x => s.any (ftB g k) = false) (fun x => [ls g r, I (↑k : Int), ls s q]) (fun x => H.nil) fun y => [Ans.o (Orc.val 35 (I (↑((2 : Nat) ^ g.length) : Int)) H.nil), Ans.loop [(0 : Nat), (1 : Nat), (2 : Nat), (9 : Nat), (35 : Nat), (36 : Nat)] [Out.mk Unit (AX.exit (2 : Nat)) [(9 : Nat)] (fun x => True) (fun x => [I (↑(ftP g d s ((2 : Nat) ^ g.length)) : Int)]) (fun x => H.nil) fun y => []]]]]) ((↑k : Int) ≠ (↑g.length : Int) ∧ LoopS (Env.mk Tryd.prog (Sof [c94.to, c95.to, (C74 n ih).to]) (Pof (P := Tryd.prog) []) H.nil.base (300 : Nat)) (loopAt Tryd.f74 (0 : Nat)) (55 : Nat) [(0 : Nat), (1 : Nat), (2 : Nat), (15 : Nat), (16 : Nat), (17 : Nat)] [AV.sl (ints g) g.length r, I (↑k : Int), AV.sl (ints s) s.length q, AV.sl (ints s) s.length q, I (↑s.length : Int), I 0] (H.mk [] [] []) [Out.mk Unit AX.ret [(6 : Nat)] (fun x => s.any (ftB g k) = true) (fun x => [I (↑(ftF g d s) : Int)]) (fun x => H.nil) fun y => [], Out.mk Unit (AX.exit (0 : Nat)) [(0 : Nat), (1 : Nat), (2 : Nat)] (fun x => s.any (ftB g k) = false) (fun x => [ls g r, I (↑k : Int), ls s q]) (fun x => H.nil) fun y => [Ans.o (Orc.val 35 (I (↑((2 : Nat) ^ g.length) : Int)) H.nil), Ans.loop [(0 : Nat), (1 : Nat), (2 : Nat), (9 : Nat), (35 : Nat), (36 : Nat)] [Out.mk Unit (AX.exit (2 : Nat)) [(9 : Nat)] (fun x => True) (fun x => [I (↑(ftP g d s ((2 : Nat) ^ g.length)) : Int)]) (fun x => H.nil) fun y => []]]] ∧ (∀ (y : Unit), s.any (ftB g k) = true → ∀ (u : Nat → AV), (I (↑(ftF g d s) : Int), H.mk [] [] []) = (I (↑(if s.any (ftB g k) = true then ftF g d s else ftP g d s ((2 : Nat) ^ g.length)) : Int), H.mk [] [] [])) ∧ (∀ (y : Unit), s.any (ftB g k) = false → ∀ (u : Nat → AV), aBin Tryd.prog BinOp.shl (3 : Nat) (I 1) (I (↑g.length : Int)) = some (I (↑((2 : Nat) ^ g.length) : Int)) ∧ LoopS (Env.mk Tryd.prog (Sof [c94.to, c95.to, (C74 n ih).to]) (Pof (P := Tryd.prog) []) H.nil.base (300 : Nat)) (loopAt Tryd.f74 (1 : Nat)) (55 : Nat) [(0 : Nat), (1 : Nat), (2 : Nat), (9 : Nat), (35 : Nat), (36 : Nat)] [AV.sl (ints g) g.length r, I (↑k : Int), AV.sl (ints s) s.length q, I (↑g.length : Int), I (↑((2 : Nat) ^ g.length) : Int), I 0] (H.mk [] [] []) [Out.mk Unit (AX.exit (2 : Nat)) [(9 : Nat)] (fun x => True) (fun x => [I (↑(ftP g d s ((2 : Nat) ^ g.length)) : Int)]) (fun x => H.nil) fun y => []] ∧ (∀ (y : Unit), True → ∀ (u : Nat → AV), (I (↑(ftP g d s ((2 : Nat) ^ g.length)) : Int), H.mk [] [] []) = (I (↑(if s.any (ftB g k) = true then ftF g d s else ftP g d s ((2 : Nat) ^ g.length)) : Int), H.mk [] [] [])) ∧ True) ∧ True) (by kernel_rfl) ?_
    refine ⟨by first | with_reducible assumption | omega | assumption, ?_⟩
    refine ⟨l1, ?_⟩
    refine And.intro ?_ ?_
    · skip
      intro y
      intro w1
      intro u
      first | (rw [(by with_reducible assumption : s.any (ftB g k) = true)]; rfl) | (rw [(by with_reducible assumption : s.any (ftB g k) = false)]; rfl)
    · skip
      refine And.intro ?_ ?_
      · skip
        intro y
        intro w1
        intro u
        refine ⟨by first | exact told_shl (by first | exact Int.natCast_nonneg _ | omega) (by with_reducible assumption) | exact told_shl (by omega) rfl, ?_⟩
        refine ⟨l2, ?_⟩
        refine And.intro ?_ ?_
        · skip
          intro y
          intro w4
          intro u
          first | (rw [(by with_reducible assumption : s.any (ftB g k) = true)]; rfl) | (rw [(by with_reducible assumption : s.any (ftB g k) = false)]; rfl)
        · skip
          trivial
      · skip
        trivial
theorem C74_all : ∀ n, C74ok n
  | 0 => fun _ _ _ _ _ hp => absurd hp.2 (Nat.not_lt_zero _)
  | n + 1 => fun g r i s q hp => (r74 n (C74_all n) g r i s q hp).run ok74 (.pure _ (.pure _ (.pure _ .nil))) rfl
noncomputable def c74 : PCtr Tryd.prog where
  f := 74
  X := List Int × Room × Int × List Int × Room
  args x := [ls x.1 x.2.1, I x.2.2.1, ls x.2.2.2.1 x.2.2.2.2]
  pre x := w74 x.1 x.2.1 x.2.2.1 x.2.2.2.1 x.2.2.2.2
  v x := v74 x.1 x.2.2.1 x.2.2.2.1
  det := by
    rintro ⟨g, r, i, s, q⟩ ⟨g', r', i', s', q'⟩ e _ _
    simp at e
    simp [e]
  ok := by
    rintro ⟨g, r, i, s, q⟩ h
    exact (C74 65 (C74_all 65)).ok (g, r, i, s, q) ⟨h, by have h5 : g.length ≤ 5 := h.1.1.2; show g.length - i.toNat < 65; omega⟩
noncomputable def c74z : PCtr Tryd.prog where
  f := 74
  X := List Int × Room
  args x := [ls x.1 x.2, I 0, .sl [I 0] 1 .full]
  pre x := w74 x.1 x.2 0 [0] .full
  v x := I (ftF x.1 x.1.length [0] : Nat)
  det := by
    rintro ⟨g, r⟩ ⟨g', r'⟩ e _ _
    simp at e
    simp [e]
  ok := by
    rintro ⟨g, r⟩ h
    exact c74.ok (g, r, 0, [0], .full) h
theorem ok43g : FokM Tryd.prog none1 43 Tryd.f43 := ⟨mixed, by kernel_rfl, by kernel_rfl, by kernel_rfl, by kernel_rfl⟩
theorem r43g (g : List Int) (r : Room) (hp : (lim g.length ∧ rok g r) ∧ Gr g ∧ g.length ≤ 5) : Body ⟨Tryd.prog, Sof (P := Tryd.prog) [c67.to, c74z.to], Pof (P := Tryd.prog) [], H.nil.base, 300⟩ none1 Tryd.f43 [ls g r] .nil (.tup [I (ftF g g.length [0] : Nat), I 0], .nil) := by
  obtain ⟨p67, hg, g5⟩ := hp
  have b1 := grB_t hg
  have g5' : (g.length : Int) ≤ 5 := by omega
  have p74' : w74 g r 0 [0] .full := ⟨⟨⟨hg, g5⟩, ⟨by omega, by simp⟩, ⟨by decide, by decide⟩, by decide⟩, p67.2, fun _ => by simp⟩
  refine body_s ([Ans.o (Orc.val 5 (AV.bool true) (H.mk [] [] [])), Ans.o (Orc.b false), Ans.o (Orc.val 14 (I (↑(ftF g g.length [(0 : Int)]) : Int)) (H.mk [] [] []))]) (aCall (Sof [c67.to, c74z.to]) (AV.fn (Fn.func (67 : Nat)) [] []) [AV.sl (ints g) g.length r] (H.mk [] [] []) = some (AV.bool true, H.mk [] [] []) ∧ (↑g.length : Int) ≤ (5 : Int) ∧ aCall (Sof [c67.to, c74z.to]) (AV.fn (Fn.func (74 : Nat)) [] []) [AV.sl (ints g) g.length r, I 0, AV.sl [I 0] (1 : Nat) Room.full] (H.mk [] [] []) = some (I (↑(ftF g g.length [(0 : Int)]) : Int), H.mk [] [] []) ∧ (AV.tup [I (↑(ftF g g.length [(0 : Int)]) : Int), I 0], H.mk [] [] []) = (AV.tup [I (↑(ftF g g.length [(0 : Int)]) : Int), I 0], H.mk [] [] [])) (by kernel_rfl) ?_
  refine ⟨acall_b (acall_hit (c := c67.to) (g, r) _ rfl p67) b1, ?_⟩
  refine ⟨by first | with_reducible assumption | omega | assumption, ?_⟩
  refine ⟨acall_hit (c := c74z.to) (g, r) _ rfl p74', ?_⟩
  rfl
noncomputable def c43g : PCtr Tryd.prog := sctr ok43g (X := List Int × Room) (fun x => [ls x.1 x.2]) (fun x => (lim x.1.length ∧ rok x.1 x.2) ∧ Gr x.1 ∧ x.1.length ≤ 5) (fun x => .tup [I (ftF x.1 x.1.length [0] : Nat), I 0]) (by intro x y e _ _; simp at e; simp [e]) (fun x => by simp [AV.bnds, AV.bnd, AV.wk, rm_wk_bnd]) (fun x => by first | rfl | (simp [AV.bnd, rm_wk_bnd]; done)  | (simp [AV.bnd, AV.bnds, rm_wk_bnd]; done) | simp [AV.bnd, AV.bnds, Room.bnd, rm_wk_bnd]) (fun x hx => ⟨_, _, _, .pure c67 (.pure c74z (.nil)), r43g (x.1) (x.2).wk (by first | exact hx | (simp only [rok_wk]; exact hx) | (simp only [rok_wk, lst_wk]; exact hx) | (simp only [rok_wk, lst_wk, lsn_wk]; exact hx))⟩)
end Go.Proofs.Sur

