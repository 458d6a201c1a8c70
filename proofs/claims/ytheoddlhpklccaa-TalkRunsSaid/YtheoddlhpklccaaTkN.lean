/- Layer 3: TalkRuns, its body. -/
import Derived.Test.YtheoddlhpklccaaTkM
import Derived.KernelRfl
set_option linter.unusedSimpArgs false
set_option linter.unusedVariables false
set_option linter.unnecessarySimpa false
set_option maxHeartbeats 400000
set_option maxRecDepth 100000
namespace Go.Proofs.Tlk
open Go Go.VM
theorem rok_pl (l : List Nd) : rok (pl l) (rmz 6 (pl l)).wk := by
  cases h : pl l with
  | nil => intro h; exact absurd rfl h
  | cons x m => intro _ e; cases e
theorem rok_sr (t : List Int) : rok t (rm 0 t).wk := by
  cases t with
  | nil => intro h; exact absurd rfl h
  | cons x m => intro _ e; cases e
theorem pth_len {l : List Nd} (r c : Nat) : ∀ (n i : Nat), (pth l r c n i).length ≤ n
  | 0, i => by simp [pth]
  | n + 1, i => by
    simp only [pth]
    split
    · simp
    · simp only [List.length_cons]; have := pth_len (l := l) r c n (nx (nd l i) r c); omega
theorem ok5 : FokM Try.prog none1 5 Try.f5 := ⟨mixed, by kernel_rfl, by kernel_rfl, by kernel_rfl, by kernel_rfl⟩
theorem pl_len (l : List Nd) : (pl l).length ≤ 110 := by
  simp only [pl, m1, List.length_take]; split <;> omega
theorem r5 (l : List Nd) (q : Room) (r c : Int) (h0 : lim l.length) (h1 : rok l q) (hl : okR l r c) : Body (EnT [c15.to, c25t.to, c20.to, c18.to, c27.to, c26.to]) none1 Try.f5 [nl l q, I r, I c] .nil (.bool true, .nil) := by
  obtain ⟨ha, hb, hc⟩ := hl
  have hlen := isP_len ha
  have he : pl l = l := pl_eq (by omega)
  obtain ⟨rn, rfl⟩ := Int.eq_ofNat_of_zero_le hb.1
  obtain ⟨cn, rfl⟩ := Int.eq_ofNat_of_zero_le hc.1
  have hr : rn < 4 := by omega
  have hd : cn < 4 := by omega
  have k1 : (0 : Int) ≤ rn := hb.1
  have k2 : (rn : Int) ≤ 3 := by omega
  have k3 : (0 : Int) ≤ cn := hc.1
  have k4 : (cn : Int) ≤ 3 := by omega
  have hpa : isP (pl l) = true := by rw [he]; exact ha
  have hpt : pt (pl l) rn cn = pt l rn cn := by rw [he]
  have hdd : decide (pt (pl l) rn cn = pt l rn cn) = true := decide_eq_true hpt
  have hpl := pl_len l
  have hln : lim (pt (pl l) rn cn).length := Nat.le_trans (pth_len (l := pl l) rn cn _ 0) (by omega)
  refine body_s ([Ans.o (Orc.val 11 (AV.sl (nodesA (pl l)) (pl l).length (rmz (6 : Nat) (pl l)).wk) (H.mk [] [] [])), Ans.o (Orc.val 14 (AV.tup [AV.sl (ints (pt (pl l) rn cn)) (pt (pl l) rn cn).length (rm (0 : Nat) (pt (pl l) rn cn)).wk, I 0]) (H.mk [] [] [])), Ans.o (Orc.val 18 (AV.bool true) (H.mk [] [] [])), Ans.o Orc.dflt, Ans.o (Orc.b false), Ans.o Orc.dflt, Ans.o (Orc.b false), Ans.o (Orc.val 50 (AV.sl (ints (pt l rn cn)) (pt l rn cn).length (rm (0 : Nat) (pt l rn cn)).wk) (H.mk [] [] [])), Ans.o (Orc.val 51 (AV.bool true) (H.mk [] [] [])), Ans.o Orc.dflt, Ans.o (Orc.val 57 (AV.bool true) (H.mk [] [] []))]) (aCall (Sof [c15.to, c25t.to, c20.to, c18.to, c27.to, c26.to]) (AV.fn (Fn.func (15 : Nat)) [] []) [AV.sl (nodesA l) l.length q] (H.mk [] [] []) = some (AV.sl (nodesA (pl l)) (pl l).length (rmz (6 : Nat) (pl l)).wk, H.mk [] [] []) ∧ aCall (Sof [c15.to, c25t.to, c20.to, c18.to, c27.to, c26.to]) (AV.fn (Fn.func (25 : Nat)) [] []) [AV.sl (nodesA (pl l)) (pl l).length (rmz (6 : Nat) (pl l)).wk, I (↑rn : Int), I (↑cn : Int)] (H.mk [] [] []) = some (AV.tup [AV.sl (ints (pt (pl l) rn cn)) (pt (pl l) rn cn).length (rm (0 : Nat) (pt (pl l) rn cn)).wk, I 0], H.mk [] [] []) ∧ aCall (Sof [c15.to, c25t.to, c20.to, c18.to, c27.to, c26.to]) (AV.fn (Fn.func (20 : Nat)) [] []) [AV.sl (nodesA l) l.length q] (H.mk [] [] []) = some (AV.bool true, H.mk [] [] []) ∧ (↑rn : Int) ≤ (3 : Int) ∧ (↑cn : Int) ≤ (3 : Int) ∧ aCall (Sof [c15.to, c25t.to, c20.to, c18.to, c27.to, c26.to]) (AV.fn (Fn.func (27 : Nat)) [] []) [AV.sl (nodesA l) l.length q, I (↑rn : Int), I (↑cn : Int)] (H.mk [] [] []) = some (AV.sl (ints (pt l rn cn)) (pt l rn cn).length (rm (0 : Nat) (pt l rn cn)).wk, H.mk [] [] []) ∧ aCall (Sof [c15.to, c25t.to, c20.to, c18.to, c27.to, c26.to]) (AV.fn (Fn.func (26 : Nat)) [] []) [AV.sl (ints (pt (pl l) rn cn)) (pt (pl l) rn cn).length (rm (0 : Nat) (pt (pl l) rn cn)).wk, AV.sl (ints (pt l rn cn)) (pt l rn cn).length (rm (0 : Nat) (pt l rn cn)).wk] (H.mk [] [] []) = some (AV.bool true, H.mk [] [] []) ∧ aCall (Sof [c15.to, c25t.to, c20.to, c18.to, c27.to, c26.to]) (AV.fn (Fn.func (18 : Nat)) [] []) [] (H.mk [] [] []) = some (AV.bool true, H.mk [] [] []) ∧ (AV.bool true, H.mk [] [] []) = (AV.bool true, H.mk [] [] [])) (by kernel_rfl) ?_
  refine ⟨by (refine acall_hit (c := c15.to) ((l, q) : List Nd × Room) _ rfl ?_; exact ⟨h0, h1⟩), ?_⟩
  refine ⟨by (refine acall_hit (c := c25t.to) ((pl l, (rmz 6 (pl l)).wk, rn, cn) : List Nd × Room × Nat × Nat) _ rfl ?_; exact ⟨Nat.le_trans hpl (by decide), rok_pl l, hpa, hr, hd⟩), ?_⟩
  refine ⟨by (refine acall_b (acall_hit (c := c20.to) ((l, q) : List Nd × Room) _ rfl ?_) (by assumption); exact ⟨h0, h1⟩), ?_⟩
  refine ⟨by first | with_reducible assumption | omega | assumption, ?_⟩
  refine ⟨by first | with_reducible assumption | omega | assumption, ?_⟩
  refine ⟨by (refine acall_hit (c := c27.to) ((l, q, rn, cn) : List Nd × Room × Nat × Nat) _ rfl ?_; exact ⟨ha, h1, hr, hd⟩), ?_⟩
  refine ⟨by (refine acall_b (acall_hit (c := c26.to) ((pt (pl l) rn cn, (rm 0 (pt (pl l) rn cn)).wk, pt l rn cn, (rm 0 (pt l rn cn)).wk) : List Int × Room × List Int × Room) _ rfl ?_) (by assumption); exact ⟨hln, rok_sr _, rok_sr _⟩), ?_⟩
  refine ⟨by (refine acall_hit (c := c18.to) () _ rfl ?_; trivial), ?_⟩
  rfl
theorem okR_pl (l : List Nd) (r c : Int) : okR (pl l) r c ↔ okR l r c := by simp only [okR, isP_pl]
theorem r5f (l : List Nd) (q : Room) (r c : Int) (h0 : lim l.length) (h1 : rok l q) (hl : ¬ okR l r c) : Body (EnT [c15.to, c25f.to, c20.to, c18.to]) none1 Try.f5 [nl l q, I r, I c] .nil (.bool true, .nil) := by
  have hpl := pl_len l
  have hn : ¬ okR (pl l) r c := fun w => hl ((okR_pl l r c).1 w)
  by_cases ha : isP l = true
  · have hcs : r < 0 ∨ (0 ≤ r ∧ 3 < r) ∨ (0 ≤ r ∧ r ≤ 3 ∧ c < 0) ∨ (0 ≤ r ∧ r ≤ 3 ∧ 0 ≤ c ∧ 3 < c) := by
      have : ¬ ((0 ≤ r ∧ r < 4) ∧ (0 ≤ c ∧ c < 4)) := fun w => hl ⟨ha, w.1, w.2⟩
      omega
    rcases hcs with k1 | ⟨k1, k2⟩ | ⟨k1, k2, k3⟩ | ⟨k1, k2, k3, k4⟩
    · refine body_s ([Ans.o (Orc.val 11 (AV.sl (nodesA (pl l)) (pl l).length (rmz (6 : Nat) (pl l)).wk) (H.mk [] [] [])), Ans.o (Orc.val 14 (AV.tup [AV.sl [] (0 : Nat) Room.nil, I 2]) (H.mk [] [] [])), Ans.o (Orc.val 18 (AV.bool true) (H.mk [] [] [])), Ans.o (Orc.b true), Ans.o Orc.dflt, Ans.o Orc.dflt, Ans.o (Orc.val 44 (AV.bool true) (H.mk [] [] []))]) (aCall (Sof [c15.to, c25f.to, c20.to, c18.to]) (AV.fn (Fn.func (15 : Nat)) [] []) [AV.sl (nodesA l) l.length q] (H.mk [] [] []) = some (AV.sl (nodesA (pl l)) (pl l).length (rmz (6 : Nat) (pl l)).wk, H.mk [] [] []) ∧ aCall (Sof [c15.to, c25f.to, c20.to, c18.to]) (AV.fn (Fn.func (25 : Nat)) [] []) [AV.sl (nodesA (pl l)) (pl l).length (rmz (6 : Nat) (pl l)).wk, I r, I c] (H.mk [] [] []) = some (AV.tup [AV.sl [] (0 : Nat) Room.nil, I 2], H.mk [] [] []) ∧ aCall (Sof [c15.to, c25f.to, c20.to, c18.to]) (AV.fn (Fn.func (20 : Nat)) [] []) [AV.sl (nodesA l) l.length q] (H.mk [] [] []) = some (AV.bool true, H.mk [] [] []) ∧ r < (0 : Int) ∧ aCall (Sof [c15.to, c25f.to, c20.to, c18.to]) (AV.fn (Fn.func (18 : Nat)) [] []) [] (H.mk [] [] []) = some (AV.bool true, H.mk [] [] []) ∧ (AV.bool true, H.mk [] [] []) = (AV.bool true, H.mk [] [] [])) (by kernel_rfl) ?_
      refine ⟨by (refine acall_hit (c := c15.to) ((l, q) : List Nd × Room) _ rfl ?_; exact ⟨h0, h1⟩), ?_⟩
      refine ⟨by (refine acall_hit (c := c25f.to) ((pl l, (rmz 6 (pl l)).wk, r, c) : List Nd × Room × Int × Int) _ rfl ?_; exact ⟨Nat.le_trans hpl (by decide), rok_pl l, hn⟩), ?_⟩
      refine ⟨by (refine acall_b (acall_hit (c := c20.to) ((l, q) : List Nd × Room) _ rfl ?_) (by assumption); exact ⟨h0, h1⟩), ?_⟩
      refine ⟨by first | with_reducible assumption | omega | assumption, ?_⟩
      refine ⟨by (refine acall_hit (c := c18.to) () _ rfl ?_; trivial), ?_⟩
      rfl
    · refine body_s ([Ans.o (Orc.val 11 (AV.sl (nodesA (pl l)) (pl l).length (rmz (6 : Nat) (pl l)).wk) (H.mk [] [] [])), Ans.o (Orc.val 14 (AV.tup [AV.sl [] (0 : Nat) Room.nil, I 2]) (H.mk [] [] [])), Ans.o (Orc.val 18 (AV.bool true) (H.mk [] [] [])), Ans.o (Orc.b false), Ans.o (Orc.b true), Ans.o Orc.dflt, Ans.o Orc.dflt, Ans.o (Orc.val 44 (AV.bool true) (H.mk [] [] []))]) (aCall (Sof [c15.to, c25f.to, c20.to, c18.to]) (AV.fn (Fn.func (15 : Nat)) [] []) [AV.sl (nodesA l) l.length q] (H.mk [] [] []) = some (AV.sl (nodesA (pl l)) (pl l).length (rmz (6 : Nat) (pl l)).wk, H.mk [] [] []) ∧ aCall (Sof [c15.to, c25f.to, c20.to, c18.to]) (AV.fn (Fn.func (25 : Nat)) [] []) [AV.sl (nodesA (pl l)) (pl l).length (rmz (6 : Nat) (pl l)).wk, I r, I c] (H.mk [] [] []) = some (AV.tup [AV.sl [] (0 : Nat) Room.nil, I 2], H.mk [] [] []) ∧ aCall (Sof [c15.to, c25f.to, c20.to, c18.to]) (AV.fn (Fn.func (20 : Nat)) [] []) [AV.sl (nodesA l) l.length q] (H.mk [] [] []) = some (AV.bool true, H.mk [] [] []) ∧ (0 : Int) ≤ r ∧ (3 : Int) < r ∧ aCall (Sof [c15.to, c25f.to, c20.to, c18.to]) (AV.fn (Fn.func (18 : Nat)) [] []) [] (H.mk [] [] []) = some (AV.bool true, H.mk [] [] []) ∧ (AV.bool true, H.mk [] [] []) = (AV.bool true, H.mk [] [] [])) (by kernel_rfl) ?_
      refine ⟨by (refine acall_hit (c := c15.to) ((l, q) : List Nd × Room) _ rfl ?_; exact ⟨h0, h1⟩), ?_⟩
      refine ⟨by (refine acall_hit (c := c25f.to) ((pl l, (rmz 6 (pl l)).wk, r, c) : List Nd × Room × Int × Int) _ rfl ?_; exact ⟨Nat.le_trans hpl (by decide), rok_pl l, hn⟩), ?_⟩
      refine ⟨by (refine acall_b (acall_hit (c := c20.to) ((l, q) : List Nd × Room) _ rfl ?_) (by assumption); exact ⟨h0, h1⟩), ?_⟩
      refine ⟨by first | with_reducible assumption | omega | assumption, ?_⟩
      refine ⟨by first | with_reducible assumption | omega | assumption, ?_⟩
      refine ⟨by (refine acall_hit (c := c18.to) () _ rfl ?_; trivial), ?_⟩
      rfl
    · refine body_s ([Ans.o (Orc.val 11 (AV.sl (nodesA (pl l)) (pl l).length (rmz (6 : Nat) (pl l)).wk) (H.mk [] [] [])), Ans.o (Orc.val 14 (AV.tup [AV.sl [] (0 : Nat) Room.nil, I 2]) (H.mk [] [] [])), Ans.o (Orc.val 18 (AV.bool true) (H.mk [] [] [])), Ans.o (Orc.b false), Ans.o (Orc.b false), Ans.o (Orc.b true), Ans.o Orc.dflt, Ans.o Orc.dflt, Ans.o (Orc.val 44 (AV.bool true) (H.mk [] [] []))]) (aCall (Sof [c15.to, c25f.to, c20.to, c18.to]) (AV.fn (Fn.func (15 : Nat)) [] []) [AV.sl (nodesA l) l.length q] (H.mk [] [] []) = some (AV.sl (nodesA (pl l)) (pl l).length (rmz (6 : Nat) (pl l)).wk, H.mk [] [] []) ∧ aCall (Sof [c15.to, c25f.to, c20.to, c18.to]) (AV.fn (Fn.func (25 : Nat)) [] []) [AV.sl (nodesA (pl l)) (pl l).length (rmz (6 : Nat) (pl l)).wk, I r, I c] (H.mk [] [] []) = some (AV.tup [AV.sl [] (0 : Nat) Room.nil, I 2], H.mk [] [] []) ∧ aCall (Sof [c15.to, c25f.to, c20.to, c18.to]) (AV.fn (Fn.func (20 : Nat)) [] []) [AV.sl (nodesA l) l.length q] (H.mk [] [] []) = some (AV.bool true, H.mk [] [] []) ∧ (0 : Int) ≤ r ∧ r ≤ (3 : Int) ∧ c < (0 : Int) ∧ aCall (Sof [c15.to, c25f.to, c20.to, c18.to]) (AV.fn (Fn.func (18 : Nat)) [] []) [] (H.mk [] [] []) = some (AV.bool true, H.mk [] [] []) ∧ (AV.bool true, H.mk [] [] []) = (AV.bool true, H.mk [] [] [])) (by kernel_rfl) ?_
      refine ⟨by (refine acall_hit (c := c15.to) ((l, q) : List Nd × Room) _ rfl ?_; exact ⟨h0, h1⟩), ?_⟩
      refine ⟨by (refine acall_hit (c := c25f.to) ((pl l, (rmz 6 (pl l)).wk, r, c) : List Nd × Room × Int × Int) _ rfl ?_; exact ⟨Nat.le_trans hpl (by decide), rok_pl l, hn⟩), ?_⟩
      refine ⟨by (refine acall_b (acall_hit (c := c20.to) ((l, q) : List Nd × Room) _ rfl ?_) (by assumption); exact ⟨h0, h1⟩), ?_⟩
      refine ⟨by first | with_reducible assumption | omega | assumption, ?_⟩
      refine ⟨by first | with_reducible assumption | omega | assumption, ?_⟩
      refine ⟨by first | with_reducible assumption | omega | assumption, ?_⟩
      refine ⟨by (refine acall_hit (c := c18.to) () _ rfl ?_; trivial), ?_⟩
      rfl
    · refine body_s ([Ans.o (Orc.val 11 (AV.sl (nodesA (pl l)) (pl l).length (rmz (6 : Nat) (pl l)).wk) (H.mk [] [] [])), Ans.o (Orc.val 14 (AV.tup [AV.sl [] (0 : Nat) Room.nil, I 2]) (H.mk [] [] [])), Ans.o (Orc.val 18 (AV.bool true) (H.mk [] [] [])), Ans.o (Orc.b false), Ans.o (Orc.b false), Ans.o (Orc.b false), Ans.o (Orc.b true), Ans.o Orc.dflt, Ans.o Orc.dflt, Ans.o (Orc.val 44 (AV.bool true) (H.mk [] [] []))]) (aCall (Sof [c15.to, c25f.to, c20.to, c18.to]) (AV.fn (Fn.func (15 : Nat)) [] []) [AV.sl (nodesA l) l.length q] (H.mk [] [] []) = some (AV.sl (nodesA (pl l)) (pl l).length (rmz (6 : Nat) (pl l)).wk, H.mk [] [] []) ∧ aCall (Sof [c15.to, c25f.to, c20.to, c18.to]) (AV.fn (Fn.func (25 : Nat)) [] []) [AV.sl (nodesA (pl l)) (pl l).length (rmz (6 : Nat) (pl l)).wk, I r, I c] (H.mk [] [] []) = some (AV.tup [AV.sl [] (0 : Nat) Room.nil, I 2], H.mk [] [] []) ∧ aCall (Sof [c15.to, c25f.to, c20.to, c18.to]) (AV.fn (Fn.func (20 : Nat)) [] []) [AV.sl (nodesA l) l.length q] (H.mk [] [] []) = some (AV.bool true, H.mk [] [] []) ∧ (0 : Int) ≤ r ∧ r ≤ (3 : Int) ∧ (0 : Int) ≤ c ∧ (3 : Int) < c ∧ aCall (Sof [c15.to, c25f.to, c20.to, c18.to]) (AV.fn (Fn.func (18 : Nat)) [] []) [] (H.mk [] [] []) = some (AV.bool true, H.mk [] [] []) ∧ (AV.bool true, H.mk [] [] []) = (AV.bool true, H.mk [] [] [])) (by kernel_rfl) ?_
      refine ⟨by (refine acall_hit (c := c15.to) ((l, q) : List Nd × Room) _ rfl ?_; exact ⟨h0, h1⟩), ?_⟩
      refine ⟨by (refine acall_hit (c := c25f.to) ((pl l, (rmz 6 (pl l)).wk, r, c) : List Nd × Room × Int × Int) _ rfl ?_; exact ⟨Nat.le_trans hpl (by decide), rok_pl l, hn⟩), ?_⟩
      refine ⟨by (refine acall_b (acall_hit (c := c20.to) ((l, q) : List Nd × Room) _ rfl ?_) (by assumption); exact ⟨h0, h1⟩), ?_⟩
      refine ⟨by first | with_reducible assumption | omega | assumption, ?_⟩
      refine ⟨by first | with_reducible assumption | omega | assumption, ?_⟩
      refine ⟨by first | with_reducible assumption | omega | assumption, ?_⟩
      refine ⟨by first | with_reducible assumption | omega | assumption, ?_⟩
      refine ⟨by (refine acall_hit (c := c18.to) () _ rfl ?_; trivial), ?_⟩
      rfl
  · have ha : isP l = false := by simpa using ha
    refine body_s ([Ans.o (Orc.val 11 (AV.sl (nodesA (pl l)) (pl l).length (rmz (6 : Nat) (pl l)).wk) (H.mk [] [] [])), Ans.o (Orc.val 14 (AV.tup [AV.sl [] (0 : Nat) Room.nil, I 2]) (H.mk [] [] [])), Ans.o (Orc.val 18 (AV.bool false) (H.mk [] [] [])), Ans.o Orc.dflt, Ans.o Orc.dflt, Ans.o (Orc.val 44 (AV.bool true) (H.mk [] [] []))]) (aCall (Sof [c15.to, c25f.to, c20.to, c18.to]) (AV.fn (Fn.func (15 : Nat)) [] []) [AV.sl (nodesA l) l.length q] (H.mk [] [] []) = some (AV.sl (nodesA (pl l)) (pl l).length (rmz (6 : Nat) (pl l)).wk, H.mk [] [] []) ∧ aCall (Sof [c15.to, c25f.to, c20.to, c18.to]) (AV.fn (Fn.func (25 : Nat)) [] []) [AV.sl (nodesA (pl l)) (pl l).length (rmz (6 : Nat) (pl l)).wk, I r, I c] (H.mk [] [] []) = some (AV.tup [AV.sl [] (0 : Nat) Room.nil, I 2], H.mk [] [] []) ∧ aCall (Sof [c15.to, c25f.to, c20.to, c18.to]) (AV.fn (Fn.func (20 : Nat)) [] []) [AV.sl (nodesA l) l.length q] (H.mk [] [] []) = some (AV.bool false, H.mk [] [] []) ∧ aCall (Sof [c15.to, c25f.to, c20.to, c18.to]) (AV.fn (Fn.func (18 : Nat)) [] []) [] (H.mk [] [] []) = some (AV.bool true, H.mk [] [] []) ∧ (AV.bool true, H.mk [] [] []) = (AV.bool true, H.mk [] [] [])) (by kernel_rfl) ?_
    refine ⟨by (refine acall_hit (c := c15.to) ((l, q) : List Nd × Room) _ rfl ?_; exact ⟨h0, h1⟩), ?_⟩
    refine ⟨by (refine acall_hit (c := c25f.to) ((pl l, (rmz 6 (pl l)).wk, r, c) : List Nd × Room × Int × Int) _ rfl ?_; exact ⟨Nat.le_trans hpl (by decide), rok_pl l, hn⟩), ?_⟩
    refine ⟨by (refine acall_b (acall_hit (c := c20.to) ((l, q) : List Nd × Room) _ rfl ?_) (by assumption); exact ⟨h0, h1⟩), ?_⟩
    refine ⟨by (refine acall_hit (c := c18.to) () _ rfl ?_; trivial), ?_⟩
    rfl
end Go.Proofs.Tlk

