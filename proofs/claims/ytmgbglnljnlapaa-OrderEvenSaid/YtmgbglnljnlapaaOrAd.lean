/- Layer 7: the most even pair, by the reference; the law. -/
import Derived.Test.YtmgbglnljnlapaaOrAc
import Derived.Test.YtmgbglnljnlapaaVm6
import Derived.KernelRfl
set_option linter.unusedSimpArgs false
set_option linter.unusedVariables false
set_option linter.unnecessarySimpa false
set_option maxHeartbeats 4000000
set_option maxRecDepth 100000
namespace Go.Proofs.Ord
open Go Go.VM
open Go.Proofs.Sur (andn andn_bit andn_le i_wrap i_and i_or i_andn i_shl i_shr bit_01)

/-- the best of some pairs, one after another -/
def fo (b : Pr → Nat) (a : Nat) (L : List Pr) : Nat × Pr := L.foldl (fun s p => if b p < s.1 then (b p, p) else s) (a + 1, pair0)
theorem fo_app {b : Pr → Nat} {a : Nat} {L : List Pr} {p : Pr} : fo b a (L ++ [p]) = if b p < (fo b a L).1 then (b p, p) else fo b a L := by
  rw [fo, List.foldl_append]; rfl
theorem fo_mn {b : Pr → Nat} {a : Nat} {L : List Pr} (hb : ∀ k, k < L.length → b (L.getD k pair0) ≤ a) : ∀ k, k < L.length → fo b a (L.take (k + 1)) = (b (mnL b L k), mnL b L k)
  | 0, hk => by
    have e : L.take 1 = [] ++ [L.getD 0 pair0] := by
      cases L with
      | nil => simp at hk
      | cons x l => rfl
    rw [e, fo_app, if_pos]; rfl
    have := hb 0 hk
    show b _ < a + 1
    omega
  | k + 1, hk => by
    have e : L.take (k + 1 + 1) = L.take (k + 1) ++ [L.getD (k + 1) pair0] := by
      rw [List.take_add_one, List.getElem?_eq_getElem hk, List.getD_eq_getElem?_getD, List.getElem?_eq_getElem hk]; rfl
    rw [e, fo_app, fo_mn hb k (by omega), mnL]
    show (if b _ < b (mnL b L k) then _ else _) = _
    split <;> rfl
theorem bsP_all {n : Nat} {A : Rel} (h : pD n A) {p : Pr} (hp : okp A n p) : bsP A n p ≤ ct A n (alls n) := by
  have := bf_sum h.1 h.2 (i := p.1.toNat) (j := p.2.toNat) (by have := hp.1; omega) (by have := hp.2.1; omega) hp.2.2
  simp only [bsP, bs]; omega
abbrev hp40 (s : Nat × Pr) : H := ⟨[[I 0, I 0], [I s.2.1, I s.2.2]], [], []⟩
abbrev foO (o : List Int) (P : List Pr) : Nat × Pr := fo (bsP (rel o) o.length) (ctO o) P
abbrev o40b (o : List Int) (r : Room) (i : Nat) (P : List Pr) : List Out :=
  [.mk Unit (.exit 2) [0, 2, 4, 5, 6, 15, 16] (fun _ => True) (fun _ => [ls o r, .ptr 0 0, I (ctO o : Nat), I ((foO o P).1 : Nat), .ptr 1 0, I o.length, I i]) (fun _ => hp40 (foO o P)) (fun _ => [])]
theorem simp40b : allSimpleM none1 (loopAt Try.f40 1) = true := by kernel_rfl
theorem lp40b (o : List Int) (r : Room) (h : OrdL o ∧ rok o r) (i : Nat) (hi : i < o.length) (P0 : List Pr) (hP : ∀ p, p ∈ P0 → okp (rel o) o.length p) :
    LoopS (En6 [c33.to, c27.to, c28.to]) (loopAt Try.f40 1) 57 [0, 2, 4, 5, 6, 7, 8, 15, 16] [ls o r, .ptr 0 0, I (ctO o : Nat), I ((foO o P0).1 : Nat), .ptr 1 0, I i, I (i + 1 : Nat), I o.length, I i] (hp40 (foO o P0)) (o40b o r i (P0 ++ frow (rel o) i (o.length - (i + 1)))) := by
  have hR : Rests (En6 [c33.to, c27.to, c28.to]) none1 := rests mixed (.pure _ (.pure _ (.pure _ .nil)))
  have h6 := h.1.s.2
  have hod := h.1.od
  have hD : pD o.length (rel o) := ⟨hod, h6⟩
  have hle : ctO o ≤ 46656 := ct_le (A := rel o) h6 (alls_lt o.length)
  refine loop_s hR simp40b none (by intro _ h; cases h) (fun d vs H => H = hp40 (foO o (P0 ++ frow (rel o) i d)) ∧ vs = [ls o r, .ptr 0 0, I (ctO o : Nat), I ((foO o (P0 ++ frow (rel o) i d)).1 : Nat), .ptr 1 0, I i, I (i + 1 + d : Nat), I o.length, I i]) (o.length - (i + 1)) ⟨by rw [frow, List.append_nil], by rw [frow, List.append_nil]⟩ (by intro _ h; cases h) ?_
  rintro d vs H hd ⟨rfl, rfl⟩
  by_cases hz : ((i + 1 + d : Nat) : Int) < o.length
  · have hz' : i + 1 + d < o.length := by omega
    have ev0 : IntKind.i64.wrap (((i + 1 + d : Nat) : Int) + 1) = ((i + 1 + (d + 1) : Nat) : Int) := by rw [wr _ (by omega) (by omega)]; omega
    have hrow : frow (rel o) i (d + 1) = if frB (rel o) i (i + 1 + d) = true then frow (rel o) i d ++ [((i : Int), ((i + 1 + d : Nat) : Int))] else frow (rel o) i d := rfl
    have hsz : (sz o ∧ rgO o) ∧ rok o r := ⟨⟨h.1.s, h.1.r⟩, h.2⟩
    cases b1 : frB (rel o) i (i + 1 + d)
    · rw [b1] at hrow
      have hrow : frow (rel o) i (d + 1) = frow (rel o) i d := hrow
      refine ⟨[Ans.o (Orc.b true), Ans.o (Orc.val 30 (AV.bool false) (H.mk [[I 0, I 0], [I (foO o (P0 ++ frow (rel o) i d)).snd.fst, I (foO o (P0 ++ frow (rel o) i d)).snd.snd]] [] [])), Ans.o (Orc.val 26 (I (↑(i + (1 : Nat) + (d + (1 : Nat))) : Int)) H.nil)], fun u => of_eq ((↑(i + (1 : Nat) + d) : Int) < (↑o.length : Int) ∧ aCall (Sof [c33.to, c27.to, c28.to]) (AV.fn (Fn.func (27 : Nat)) [] []) [AV.sl (ints o) o.length r, I (↑i : Int), I (↑(i + (1 : Nat) + d) : Int)] (H.mk [[I 0, I 0], [I (foO o (P0 ++ frow (rel o) i d)).snd.fst, I (foO o (P0 ++ frow (rel o) i d)).snd.snd]] [] []) = some (AV.bool false, H.mk [[I 0, I 0], [I (foO o (P0 ++ frow (rel o) i d)).snd.fst, I (foO o (P0 ++ frow (rel o) i d)).snd.snd]] [] []) ∧ aBin Try.prog BinOp.add (3 : Nat) (I (↑(i + (1 : Nat) + d) : Int)) (I 1) = some (I (↑(i + (1 : Nat) + (d + (1 : Nat))) : Int)) ∧ (57 : Nat) = (57 : Nat) ∧ d < o.length - (i + (1 : Nat)) ∧ Keep (H.mk [[I 0, I 0], [I (foO o (P0 ++ frow (rel o) i d)).snd.fst, I (foO o (P0 ++ frow (rel o) i d)).snd.snd]] [] [] = H.mk [[I 0, I 0], [I (foO o (P0 ++ frow (rel o) i (d + (1 : Nat)))).snd.fst, I (foO o (P0 ++ frow (rel o) i (d + (1 : Nat)))).snd.snd]] [] [] ∧ [AV.sl (ints o) o.length r, AV.ptr 0 0, I (↑(ctO o) : Int), I (↑(foO o (P0 ++ frow (rel o) i d)).fst : Int), AV.ptr 1 0, I (↑i : Int), I (↑(i + (1 : Nat) + (d + (1 : Nat))) : Int), I (↑o.length : Int), I (↑i : Int)] = [AV.sl (ints o) o.length r, AV.ptr 0 0, I (↑(ctO o) : Int), I (↑(foO o (P0 ++ frow (rel o) i (d + (1 : Nat)))).fst : Int), AV.ptr 1 0, I (↑i : Int), I (↑(i + (1 : Nat) + (d + (1 : Nat))) : Int), I (↑o.length : Int), I (↑i : Int)])) (by kernel_rfl) ?_⟩
      refine ⟨by first | with_reducible assumption | omega | assumption, ?_⟩
      refine ⟨acall_b (acall_hit (c := c27.to) ((o, r), i, i + 1 + d) _ rfl ⟨hsz, hi, hz'⟩) b1, ?_⟩
      refine ⟨told_add (by with_reducible assumption), ?_⟩
      refine ⟨by first | with_reducible assumption | omega | assumption, ?_⟩
      refine ⟨by first | with_reducible assumption | omega | assumption, ?_⟩
      exact ⟨by rw [hrow], by rw [hrow]⟩
    · rw [b1] at hrow
      have hrow : frow (rel o) i (d + 1) = frow (rel o) i d ++ [((i : Int), ((i + 1 + d : Nat) : Int))] := hrow
      have hf := frB_iff.1 b1
      have ha := ad_or hod hi hz' hf
      have hOa : OrdL (rl o.length (adR (rel o) i (i + 1 + d))) := rl_ord ha h.1.s.1 h6
      have hca : ctO (rl o.length (adR (rel o) i (i + 1 + d))) = bf (rel o) o.length i (i + 1 + d) := ctO_rl ha.rg
      have hs : ctO o = bf (rel o) o.length i (i + 1 + d) + bf (rel o) o.length (i + 1 + d) i := bf_sum hod h6 hi hz' hf
      have hbs : bsP (rel o) o.length ((i : Int), ((i + 1 + d : Nat) : Int)) = bs (rel o) o.length i (i + 1 + d) := rfl
      generalize hX : ctO (rl o.length (adR (rel o) i (i + 1 + d))) = X at hca
      have ev1 : IntKind.i64.wrap (2 * ((X : Nat) : Int)) = ((2 * X : Nat) : Int) := by rw [wr _ (by omega) (by omega)]; omega
      have ev2 : IntKind.i64.wrap (((2 * X : Nat) : Int) - ((ctO o : Nat) : Int)) = ((2 * X : Nat) : Int) - ((ctO o : Nat) : Int) := wr _ (by omega) (by omega)
      have ev3 : IntKind.i64.wrap (0 - (((2 * X : Nat) : Int) - ((ctO o : Nat) : Int))) = 0 - (((2 * X : Nat) : Int) - ((ctO o : Nat) : Int)) := wr _ (by omega) (by omega)
      have hpk : pick2 true (((2 * X : Nat) : Int) - ((ctO o : Nat) : Int)) (0 - (((2 * X : Nat) : Int) - ((ctO o : Nat) : Int))) = ((bs (rel o) o.length i (i + 1 + d) : Nat) : Int) := by
        simp only [pick2, bs, if_true]
        split <;> omega
      have happ : foO o (P0 ++ frow (rel o) i (d + 1)) = if bs (rel o) o.length i (i + 1 + d) < (foO o (P0 ++ frow (rel o) i d)).1 then (bs (rel o) o.length i (i + 1 + d), ((i : Int), ((i + 1 + d : Nat) : Int))) else foO o (P0 ++ frow (rel o) i d) := by
        rw [hrow, ← List.append_assoc]; exact fo_app
      rw [← hX] at ev1 ev2 ev3 hpk
      by_cases c1 : bs (rel o) o.length i (i + 1 + d) < (foO o (P0 ++ frow (rel o) i d)).1
      · rw [if_pos c1] at happ
        have c2 : pick2 true (((2 * ctO (rl o.length (adR (rel o) i (i + 1 + d))) : Nat) : Int) - ((ctO o : Nat) : Int)) (0 - (((2 * ctO (rl o.length (adR (rel o) i (i + 1 + d))) : Nat) : Int) - ((ctO o : Nat) : Int))) < (((foO o (P0 ++ frow (rel o) i d)).1 : Nat) : Int) := by rw [hpk]; omega
        refine ⟨[Ans.o (Orc.b true), Ans.o (Orc.val 30 (AV.bool true) (H.mk [[I 0, I 0], [I (foO o (P0 ++ frow (rel o) i d)).snd.fst, I (foO o (P0 ++ frow (rel o) i d)).snd.snd]] [] [])), Ans.o (Orc.val 35 (AV.sl (ints (rl o.length (adR (rel o) i (i + (1 : Nat) + d)))) (rl o.length (adR (rel o) i (i + (1 : Nat) + d))).length Room.no) (H.mk [[I 0, I 0], [I (foO o (P0 ++ frow (rel o) i d)).snd.fst, I (foO o (P0 ++ frow (rel o) i d)).snd.snd]] [] [])), Ans.o (Orc.val 36 (I (↑(ctO (rl o.length (adR (rel o) i (i + (1 : Nat) + d)))) : Int)) (H.mk [[I 0, I 0], [I (foO o (P0 ++ frow (rel o) i d)).snd.fst, I (foO o (P0 ++ frow (rel o) i d)).snd.snd]] [] [])), Ans.o (Orc.val 37 (I (↑((2 : Nat) * ctO (rl o.length (adR (rel o) i (i + (1 : Nat) + d)))) : Int)) H.nil), Ans.o (Orc.val 39 (I ((↑((2 : Nat) * ctO (rl o.length (adR (rel o) i (i + (1 : Nat) + d)))) : Int) - (↑(ctO o) : Int))) H.nil), Ans.o (Orc.val 42 (I ((0 : Int) - ((↑((2 : Nat) * ctO (rl o.length (adR (rel o) i (i + (1 : Nat) + d)))) : Int) - (↑(ctO o) : Int)))) H.nil), Ans.o (Orc.b true), Ans.o (Orc.val 26 (I (↑(i + (1 : Nat) + (d + (1 : Nat))) : Int)) H.nil)], fun u => of_eq ((↑(i + (1 : Nat) + d) : Int) < (↑o.length : Int) ∧ aCall (Sof [c33.to, c27.to, c28.to]) (AV.fn (Fn.func (27 : Nat)) [] []) [AV.sl (ints o) o.length r, I (↑i : Int), I (↑(i + (1 : Nat) + d) : Int)] (H.mk [[I 0, I 0], [I (foO o (P0 ++ frow (rel o) i d)).snd.fst, I (foO o (P0 ++ frow (rel o) i d)).snd.snd]] [] []) = some (AV.bool true, H.mk [[I 0, I 0], [I (foO o (P0 ++ frow (rel o) i d)).snd.fst, I (foO o (P0 ++ frow (rel o) i d)).snd.snd]] [] []) ∧ aCall (Sof [c33.to, c27.to, c28.to]) (AV.fn (Fn.func (28 : Nat)) [] []) [AV.sl (ints o) o.length r, I (↑i : Int), I (↑(i + (1 : Nat) + d) : Int)] (H.mk [[I 0, I 0], [I (foO o (P0 ++ frow (rel o) i d)).snd.fst, I (foO o (P0 ++ frow (rel o) i d)).snd.snd]] [] []) = some (AV.sl (ints (rl o.length (adR (rel o) i (i + (1 : Nat) + d)))) (rl o.length (adR (rel o) i (i + (1 : Nat) + d))).length Room.no, H.mk [[I 0, I 0], [I (foO o (P0 ++ frow (rel o) i d)).snd.fst, I (foO o (P0 ++ frow (rel o) i d)).snd.snd]] [] []) ∧ aCall (Sof [c33.to, c27.to, c28.to]) (AV.fn (Fn.func (33 : Nat)) [] []) [AV.sl (ints (rl o.length (adR (rel o) i (i + (1 : Nat) + d)))) (rl o.length (adR (rel o) i (i + (1 : Nat) + d))).length Room.no] (H.mk [[I 0, I 0], [I (foO o (P0 ++ frow (rel o) i d)).snd.fst, I (foO o (P0 ++ frow (rel o) i d)).snd.snd]] [] []) = some (I (↑(ctO (rl o.length (adR (rel o) i (i + (1 : Nat) + d)))) : Int), H.mk [[I 0, I 0], [I (foO o (P0 ++ frow (rel o) i d)).snd.fst, I (foO o (P0 ++ frow (rel o) i d)).snd.snd]] [] []) ∧ aBin Try.prog BinOp.mul (3 : Nat) (I 2) (I (↑(ctO (rl o.length (adR (rel o) i (i + (1 : Nat) + d)))) : Int)) = some (I (↑((2 : Nat) * ctO (rl o.length (adR (rel o) i (i + (1 : Nat) + d)))) : Int)) ∧ aBin Try.prog BinOp.sub (3 : Nat) (I (↑((2 : Nat) * ctO (rl o.length (adR (rel o) i (i + (1 : Nat) + d)))) : Int)) (I (↑(ctO o) : Int)) = some (I ((↑((2 : Nat) * ctO (rl o.length (adR (rel o) i (i + (1 : Nat) + d)))) : Int) - (↑(ctO o) : Int))) ∧ aUn UnOp.neg (I ((↑((2 : Nat) * ctO (rl o.length (adR (rel o) i (i + (1 : Nat) + d)))) : Int) - (↑(ctO o) : Int))) = some (I ((0 : Int) - ((↑((2 : Nat) * ctO (rl o.length (adR (rel o) i (i + (1 : Nat) + d)))) : Int) - (↑(ctO o) : Int)))) ∧ pick2 true ((↑((2 : Nat) * ctO (rl o.length (adR (rel o) i (i + (1 : Nat) + d)))) : Int) - (↑(ctO o) : Int)) ((0 : Int) - ((↑((2 : Nat) * ctO (rl o.length (adR (rel o) i (i + (1 : Nat) + d)))) : Int) - (↑(ctO o) : Int))) < (↑(foO o (P0 ++ frow (rel o) i d)).fst : Int) ∧ aBin Try.prog BinOp.add (3 : Nat) (I (↑(i + (1 : Nat) + d) : Int)) (I 1) = some (I (↑(i + (1 : Nat) + (d + (1 : Nat))) : Int)) ∧ (57 : Nat) = (57 : Nat) ∧ d < o.length - (i + (1 : Nat)) ∧ Keep (H.mk [[I 0, I 0], [I (↑i : Int), I (↑(i + (1 : Nat) + d) : Int)]] [] [] = H.mk [[I 0, I 0], [I (foO o (P0 ++ frow (rel o) i (d + (1 : Nat)))).snd.fst, I (foO o (P0 ++ frow (rel o) i (d + (1 : Nat)))).snd.snd]] [] [] ∧ [AV.sl (ints o) o.length r, AV.ptr 0 0, I (↑(ctO o) : Int), I (pick2 true ((↑((2 : Nat) * ctO (rl o.length (adR (rel o) i (i + (1 : Nat) + d)))) : Int) - (↑(ctO o) : Int)) ((0 : Int) - ((↑((2 : Nat) * ctO (rl o.length (adR (rel o) i (i + (1 : Nat) + d)))) : Int) - (↑(ctO o) : Int)))), AV.ptr 1 0, I (↑i : Int), I (↑(i + (1 : Nat) + (d + (1 : Nat))) : Int), I (↑o.length : Int), I (↑i : Int)] = [AV.sl (ints o) o.length r, AV.ptr 0 0, I (↑(ctO o) : Int), I (↑(foO o (P0 ++ frow (rel o) i (d + (1 : Nat)))).fst : Int), AV.ptr 1 0, I (↑i : Int), I (↑(i + (1 : Nat) + (d + (1 : Nat))) : Int), I (↑o.length : Int), I (↑i : Int)])) (by kernel_rfl) ?_⟩
        refine ⟨by first | with_reducible assumption | omega | assumption, ?_⟩
        refine ⟨acall_b (acall_hit (c := c27.to) ((o, r), i, i + 1 + d) _ rfl ⟨hsz, hi, hz'⟩) b1, ?_⟩
        refine ⟨acall_hit (c := c28.to) ((o, r), i, i + 1 + d) _ rfl ⟨hsz, hi, hz'⟩, ?_⟩
        refine ⟨acall_hit (c := c33.to) (rl o.length (adR (rel o) i (i + 1 + d)), .no) _ rfl ⟨hOa, fun _ => no_ne⟩, ?_⟩
        refine ⟨told_mul (by with_reducible assumption), ?_⟩
        refine ⟨told_sub (by with_reducible assumption), ?_⟩
        refine ⟨told_int rfl ev3, ?_⟩
        refine ⟨by first | with_reducible assumption | omega | assumption, ?_⟩
        refine ⟨told_add (by with_reducible assumption), ?_⟩
        refine ⟨by first | with_reducible assumption | omega | assumption, ?_⟩
        refine ⟨by first | with_reducible assumption | omega | assumption, ?_⟩
        exact ⟨by rw [happ], by rw [happ, hpk]⟩
      · rw [if_neg c1] at happ
        have c2 : (((foO o (P0 ++ frow (rel o) i d)).1 : Nat) : Int) ≤ pick2 true (((2 * ctO (rl o.length (adR (rel o) i (i + 1 + d))) : Nat) : Int) - ((ctO o : Nat) : Int)) (0 - (((2 * ctO (rl o.length (adR (rel o) i (i + 1 + d))) : Nat) : Int) - ((ctO o : Nat) : Int))) := by rw [hpk]; omega
        refine ⟨[Ans.o (Orc.b true), Ans.o (Orc.val 30 (AV.bool true) (H.mk [[I 0, I 0], [I (foO o (P0 ++ frow (rel o) i d)).snd.fst, I (foO o (P0 ++ frow (rel o) i d)).snd.snd]] [] [])), Ans.o (Orc.val 35 (AV.sl (ints (rl o.length (adR (rel o) i (i + (1 : Nat) + d)))) (rl o.length (adR (rel o) i (i + (1 : Nat) + d))).length Room.no) (H.mk [[I 0, I 0], [I (foO o (P0 ++ frow (rel o) i d)).snd.fst, I (foO o (P0 ++ frow (rel o) i d)).snd.snd]] [] [])), Ans.o (Orc.val 36 (I (↑(ctO (rl o.length (adR (rel o) i (i + (1 : Nat) + d)))) : Int)) (H.mk [[I 0, I 0], [I (foO o (P0 ++ frow (rel o) i d)).snd.fst, I (foO o (P0 ++ frow (rel o) i d)).snd.snd]] [] [])), Ans.o (Orc.val 37 (I (↑((2 : Nat) * ctO (rl o.length (adR (rel o) i (i + (1 : Nat) + d)))) : Int)) H.nil), Ans.o (Orc.val 39 (I ((↑((2 : Nat) * ctO (rl o.length (adR (rel o) i (i + (1 : Nat) + d)))) : Int) - (↑(ctO o) : Int))) H.nil), Ans.o (Orc.val 42 (I ((0 : Int) - ((↑((2 : Nat) * ctO (rl o.length (adR (rel o) i (i + (1 : Nat) + d)))) : Int) - (↑(ctO o) : Int)))) H.nil), Ans.o (Orc.b false), Ans.o (Orc.val 26 (I (↑(i + (1 : Nat) + (d + (1 : Nat))) : Int)) H.nil)], fun u => of_eq ((↑(i + (1 : Nat) + d) : Int) < (↑o.length : Int) ∧ aCall (Sof [c33.to, c27.to, c28.to]) (AV.fn (Fn.func (27 : Nat)) [] []) [AV.sl (ints o) o.length r, I (↑i : Int), I (↑(i + (1 : Nat) + d) : Int)] (H.mk [[I 0, I 0], [I (foO o (P0 ++ frow (rel o) i d)).snd.fst, I (foO o (P0 ++ frow (rel o) i d)).snd.snd]] [] []) = some (AV.bool true, H.mk [[I 0, I 0], [I (foO o (P0 ++ frow (rel o) i d)).snd.fst, I (foO o (P0 ++ frow (rel o) i d)).snd.snd]] [] []) ∧ aCall (Sof [c33.to, c27.to, c28.to]) (AV.fn (Fn.func (28 : Nat)) [] []) [AV.sl (ints o) o.length r, I (↑i : Int), I (↑(i + (1 : Nat) + d) : Int)] (H.mk [[I 0, I 0], [I (foO o (P0 ++ frow (rel o) i d)).snd.fst, I (foO o (P0 ++ frow (rel o) i d)).snd.snd]] [] []) = some (AV.sl (ints (rl o.length (adR (rel o) i (i + (1 : Nat) + d)))) (rl o.length (adR (rel o) i (i + (1 : Nat) + d))).length Room.no, H.mk [[I 0, I 0], [I (foO o (P0 ++ frow (rel o) i d)).snd.fst, I (foO o (P0 ++ frow (rel o) i d)).snd.snd]] [] []) ∧ aCall (Sof [c33.to, c27.to, c28.to]) (AV.fn (Fn.func (33 : Nat)) [] []) [AV.sl (ints (rl o.length (adR (rel o) i (i + (1 : Nat) + d)))) (rl o.length (adR (rel o) i (i + (1 : Nat) + d))).length Room.no] (H.mk [[I 0, I 0], [I (foO o (P0 ++ frow (rel o) i d)).snd.fst, I (foO o (P0 ++ frow (rel o) i d)).snd.snd]] [] []) = some (I (↑(ctO (rl o.length (adR (rel o) i (i + (1 : Nat) + d)))) : Int), H.mk [[I 0, I 0], [I (foO o (P0 ++ frow (rel o) i d)).snd.fst, I (foO o (P0 ++ frow (rel o) i d)).snd.snd]] [] []) ∧ aBin Try.prog BinOp.mul (3 : Nat) (I 2) (I (↑(ctO (rl o.length (adR (rel o) i (i + (1 : Nat) + d)))) : Int)) = some (I (↑((2 : Nat) * ctO (rl o.length (adR (rel o) i (i + (1 : Nat) + d)))) : Int)) ∧ aBin Try.prog BinOp.sub (3 : Nat) (I (↑((2 : Nat) * ctO (rl o.length (adR (rel o) i (i + (1 : Nat) + d)))) : Int)) (I (↑(ctO o) : Int)) = some (I ((↑((2 : Nat) * ctO (rl o.length (adR (rel o) i (i + (1 : Nat) + d)))) : Int) - (↑(ctO o) : Int))) ∧ aUn UnOp.neg (I ((↑((2 : Nat) * ctO (rl o.length (adR (rel o) i (i + (1 : Nat) + d)))) : Int) - (↑(ctO o) : Int))) = some (I ((0 : Int) - ((↑((2 : Nat) * ctO (rl o.length (adR (rel o) i (i + (1 : Nat) + d)))) : Int) - (↑(ctO o) : Int)))) ∧ (↑(foO o (P0 ++ frow (rel o) i d)).fst : Int) ≤ pick2 true ((↑((2 : Nat) * ctO (rl o.length (adR (rel o) i (i + (1 : Nat) + d)))) : Int) - (↑(ctO o) : Int)) ((0 : Int) - ((↑((2 : Nat) * ctO (rl o.length (adR (rel o) i (i + (1 : Nat) + d)))) : Int) - (↑(ctO o) : Int))) ∧ aBin Try.prog BinOp.add (3 : Nat) (I (↑(i + (1 : Nat) + d) : Int)) (I 1) = some (I (↑(i + (1 : Nat) + (d + (1 : Nat))) : Int)) ∧ (57 : Nat) = (57 : Nat) ∧ d < o.length - (i + (1 : Nat)) ∧ Keep (H.mk [[I 0, I 0], [I (foO o (P0 ++ frow (rel o) i d)).snd.fst, I (foO o (P0 ++ frow (rel o) i d)).snd.snd]] [] [] = H.mk [[I 0, I 0], [I (foO o (P0 ++ frow (rel o) i (d + (1 : Nat)))).snd.fst, I (foO o (P0 ++ frow (rel o) i (d + (1 : Nat)))).snd.snd]] [] [] ∧ [AV.sl (ints o) o.length r, AV.ptr 0 0, I (↑(ctO o) : Int), I (↑(foO o (P0 ++ frow (rel o) i d)).fst : Int), AV.ptr 1 0, I (↑i : Int), I (↑(i + (1 : Nat) + (d + (1 : Nat))) : Int), I (↑o.length : Int), I (↑i : Int)] = [AV.sl (ints o) o.length r, AV.ptr 0 0, I (↑(ctO o) : Int), I (↑(foO o (P0 ++ frow (rel o) i (d + (1 : Nat)))).fst : Int), AV.ptr 1 0, I (↑i : Int), I (↑(i + (1 : Nat) + (d + (1 : Nat))) : Int), I (↑o.length : Int), I (↑i : Int)])) (by kernel_rfl) ?_⟩
        refine ⟨by first | with_reducible assumption | omega | assumption, ?_⟩
        refine ⟨acall_b (acall_hit (c := c27.to) ((o, r), i, i + 1 + d) _ rfl ⟨hsz, hi, hz'⟩) b1, ?_⟩
        refine ⟨acall_hit (c := c28.to) ((o, r), i, i + 1 + d) _ rfl ⟨hsz, hi, hz'⟩, ?_⟩
        refine ⟨acall_hit (c := c33.to) (rl o.length (adR (rel o) i (i + 1 + d)), .no) _ rfl ⟨hOa, fun _ => no_ne⟩, ?_⟩
        refine ⟨told_mul (by with_reducible assumption), ?_⟩
        refine ⟨told_sub (by with_reducible assumption), ?_⟩
        refine ⟨told_int rfl ev3, ?_⟩
        refine ⟨by first | with_reducible assumption | omega | assumption, ?_⟩
        refine ⟨told_add (by with_reducible assumption), ?_⟩
        refine ⟨by first | with_reducible assumption | omega | assumption, ?_⟩
        refine ⟨by first | with_reducible assumption | omega | assumption, ?_⟩
        exact ⟨by rw [happ], by rw [happ]⟩
  · have hz : (o.length : Int) ≤ ((i + 1 + d : Nat) : Int) := by omega
    have hd' : d = o.length - (i + 1) := by omega
    subst hd'
    refine ⟨[Ans.o (Orc.b false)], fun u => of_eq ((↑o.length : Int) ≤ (↑(i + (1 : Nat) + (o.length - (i + (1 : Nat)))) : Int) ∧ (57 : Nat) = (57 : Nat) ∧ hits [Out.mk Unit (AX.exit (2 : Nat)) [(0 : Nat), (2 : Nat), (4 : Nat), (5 : Nat), (6 : Nat), (15 : Nat), (16 : Nat)] (fun x => True) (fun x => [ls o r, AV.ptr 0 0, I (↑(ctO o) : Int), I (↑(foO o (P0 ++ frow (rel o) i (o.length - (i + (1 : Nat))))).fst : Int), AV.ptr 1 0, I (↑o.length : Int), I (↑i : Int)]) (fun x => hp40 (foO o (P0 ++ frow (rel o) i (o.length - (i + (1 : Nat)))))) fun x => []] (AX.exit (2 : Nat)) [AV.sl (ints o) o.length r, u (1 : Nat), AV.ptr 0 0, u (3 : Nat), I (↑(ctO o) : Int), I (↑(foO o (P0 ++ frow (rel o) i (o.length - (i + (1 : Nat))))).fst : Int), AV.ptr 1 0, I (↑i : Int), I (↑(i + (1 : Nat) + (o.length - (i + (1 : Nat)))) : Int), u (9 : Nat), u (10 : Nat), u (11 : Nat), u (12 : Nat), u (13 : Nat), u (14 : Nat), I (↑o.length : Int), I (↑i : Int), u (17 : Nat), u (18 : Nat), u (19 : Nat), u (20 : Nat), I (↑(i + (1 : Nat) + (o.length - (i + (1 : Nat)))) : Int), AV.sl (ints o) o.length r, I (↑o.length : Int), AV.bool false, u (25 : Nat), u (26 : Nat), u (27 : Nat), u (28 : Nat), u (29 : Nat), u (30 : Nat), u (31 : Nat), u (32 : Nat), u (33 : Nat), u (34 : Nat), u (35 : Nat), u (36 : Nat), u (37 : Nat), u (38 : Nat), u (39 : Nat), u (40 : Nat), u (41 : Nat), u (42 : Nat), u (43 : Nat), u (44 : Nat), u (45 : Nat), u (46 : Nat), u (47 : Nat), u (48 : Nat), u (49 : Nat), u (50 : Nat), u (51 : Nat), u (52 : Nat), u (53 : Nat), u (54 : Nat), u (55 : Nat), u (56 : Nat)] (H.mk [[I 0, I 0], [I (foO o (P0 ++ frow (rel o) i (o.length - (i + (1 : Nat))))).snd.fst, I (foO o (P0 ++ frow (rel o) i (o.length - (i + (1 : Nat))))).snd.snd]] [] [])) (by kernel_rfl) ?_⟩
    refine ⟨by first | with_reducible assumption | omega | assumption, ?_⟩
    refine ⟨by first | with_reducible assumption | omega | assumption, ?_⟩
    exact .inl ⟨(), trivial, rfl, rfl, rfl⟩
abbrev o40 (o : List Int) (s : Nat × Pr) : List Out :=
  [.mk Unit (.exit 0) [2, 4, 5, 6] (fun _ => True) (fun _ => [.ptr 0 0, I (ctO o : Nat), I (s.1 : Nat), .ptr 1 0]) (fun _ => hp40 s) (fun _ => [])]
theorem simp40 : allSimpleM none1 (loopAt Try.f40 0) = true := by kernel_rfl
theorem lp40 (o : List Int) (r : Room) (h : OrdL o ∧ rok o r) :
    LoopS (En6 [c33.to, c27.to, c28.to]) (loopAt Try.f40 0) 57 [0, 2, 4, 5, 6, 15, 16] [ls o r, .ptr 0 0, I (ctO o : Nat), I (ctO o + 1 : Nat), .ptr 1 0, I o.length, I 0] (hp40 (0, pair0)) (o40 o (foO o (fO o))) := by
  have hR : Rests (En6 [c33.to, c27.to, c28.to]) none1 := rests mixed (.pure _ (.pure _ (.pure _ .nil)))
  have h6 := h.1.s.2
  refine loop_s hR simp40 none (by intro _ h; cases h) (fun i vs H => H = hp40 (foO o (fall (rel o) o.length i)) ∧ vs = [ls o r, .ptr 0 0, I (ctO o : Nat), I ((foO o (fall (rel o) o.length i)).1 : Nat), .ptr 1 0, I o.length, I i]) o.length ⟨rfl, rfl⟩ (by intro _ h; cases h) ?_
  rintro i vs H hi ⟨rfl, rfl⟩
  by_cases hz : (i : Int) < o.length
  · have hz' : i < o.length := by omega
    have ev0 := wj1 (j := i) (by omega)
    have hl := lp40b o r h i hz' (fall (rel o) o.length i) (fun p hp => fall_mem (by omega) hp)
    refine ⟨[Ans.o (Orc.b true), Ans.o (Orc.val 20 (I (↑(i + (1 : Nat)) : Int)) H.nil), Ans.loop [(0 : Nat), (2 : Nat), (4 : Nat), (5 : Nat), (6 : Nat), (7 : Nat), (8 : Nat), (15 : Nat), (16 : Nat)] [Out.mk Unit (AX.exit (2 : Nat)) [(0 : Nat), (2 : Nat), (4 : Nat), (5 : Nat), (6 : Nat), (15 : Nat), (16 : Nat)] (fun x => True) (fun x => [ls o r, AV.ptr 0 0, I (↑(ctO o) : Int), I (↑(foO o (fall (rel o) o.length (i + (1 : Nat)))).fst : Int), AV.ptr 1 0, I (↑o.length : Int), I (↑i : Int)]) (fun x => hp40 (foO o (fall (rel o) o.length (i + (1 : Nat))))) fun y => [Ans.o (Orc.val 51 (I (↑(i + (1 : Nat)) : Int)) H.nil)]]], fun u => of_eq ((↑i : Int) < (↑o.length : Int) ∧ aBin Try.prog BinOp.add (3 : Nat) (I (↑i : Int)) (I 1) = some (I (↑(i + (1 : Nat)) : Int)) ∧ LoopS (Env.mk Try.prog (Sof [c33.to, c27.to, c28.to]) (Pof (P := Try.prog) []) H.nil.base (300 : Nat)) (loopAt Try.f40 (1 : Nat)) (57 : Nat) [(0 : Nat), (2 : Nat), (4 : Nat), (5 : Nat), (6 : Nat), (7 : Nat), (8 : Nat), (15 : Nat), (16 : Nat)] [AV.sl (ints o) o.length r, AV.ptr 0 0, I (↑(ctO o) : Int), I (↑(foO o (fall (rel o) o.length i)).fst : Int), AV.ptr 1 0, I (↑i : Int), I (↑(i + (1 : Nat)) : Int), I (↑o.length : Int), I (↑i : Int)] (H.mk [[I 0, I 0], [I (foO o (fall (rel o) o.length i)).snd.fst, I (foO o (fall (rel o) o.length i)).snd.snd]] [] []) [Out.mk Unit (AX.exit (2 : Nat)) [(0 : Nat), (2 : Nat), (4 : Nat), (5 : Nat), (6 : Nat), (15 : Nat), (16 : Nat)] (fun x => True) (fun x => [ls o r, AV.ptr 0 0, I (↑(ctO o) : Int), I (↑(foO o (fall (rel o) o.length (i + (1 : Nat)))).fst : Int), AV.ptr 1 0, I (↑o.length : Int), I (↑i : Int)]) (fun x => hp40 (foO o (fall (rel o) o.length (i + (1 : Nat))))) fun y => [Ans.o (Orc.val 51 (I (↑(i + (1 : Nat)) : Int)) H.nil)]] ∧ (∀ (y : Unit), True → ∀ (u : Nat → AV), aBin Try.prog BinOp.add (3 : Nat) (I (↑i : Int)) (I 1) = some (I (↑(i + (1 : Nat)) : Int)) ∧ (57 : Nat) = (57 : Nat) ∧ i < o.length ∧ Keep (H.mk [[I 0, I 0], [I (foO o (fall (rel o) o.length (i + (1 : Nat)))).snd.fst, I (foO o (fall (rel o) o.length (i + (1 : Nat)))).snd.snd]] [] [] = H.mk [[I 0, I 0], [I (foO o (fall (rel o) o.length (i + (1 : Nat)))).snd.fst, I (foO o (fall (rel o) o.length (i + (1 : Nat)))).snd.snd]] [] [] ∧ [AV.sl (ints o) o.length r, AV.ptr 0 0, I (↑(ctO o) : Int), I (↑(foO o (fall (rel o) o.length (i + (1 : Nat)))).fst : Int), AV.ptr 1 0, I (↑o.length : Int), I (↑(i + (1 : Nat)) : Int)] = [AV.sl (ints o) o.length r, AV.ptr 0 0, I (↑(ctO o) : Int), I (↑(foO o (fall (rel o) o.length (i + (1 : Nat)))).fst : Int), AV.ptr 1 0, I (↑o.length : Int), I (↑(i + (1 : Nat)) : Int)])) ∧ True) (by kernel_rfl) ?_⟩
    refine ⟨by first | with_reducible assumption | omega | assumption, ?_⟩
    refine ⟨told_add (by with_reducible assumption), ?_⟩
    refine ⟨hl, ?_⟩
    refine And.intro ?_ ?_
    · skip
      intro y
      intro w1
      intro u
      refine ⟨told_add (by with_reducible assumption), ?_⟩
      refine ⟨by first | with_reducible assumption | omega | assumption, ?_⟩
      refine ⟨by first | with_reducible assumption | omega | assumption, ?_⟩
      exact ⟨rfl, rfl⟩
    · skip
      trivial
  · have hz : (o.length : Int) ≤ i := by omega
    have hi' : i = o.length := by omega
    subst hi'
    refine ⟨[Ans.o (Orc.b false)], fun u => of_eq ((↑o.length : Int) ≤ (↑o.length : Int) ∧ (57 : Nat) = (57 : Nat) ∧ hits [Out.mk Unit (AX.exit (0 : Nat)) [(2 : Nat), (4 : Nat), (5 : Nat), (6 : Nat)] (fun x => True) (fun x => [AV.ptr 0 0, I (↑(ctO o) : Int), I (↑(foO o (fO o)).fst : Int), AV.ptr 1 0]) (fun x => hp40 (foO o (fO o))) fun x => []] (AX.exit (0 : Nat)) [AV.sl (ints o) o.length r, u (1 : Nat), AV.ptr 0 0, u (3 : Nat), I (↑(ctO o) : Int), I (↑(foO o (fall (rel o) o.length o.length)).fst : Int), AV.ptr 1 0, u (7 : Nat), u (8 : Nat), u (9 : Nat), u (10 : Nat), u (11 : Nat), u (12 : Nat), u (13 : Nat), u (14 : Nat), I (↑o.length : Int), I (↑o.length : Int), AV.bool false, u (18 : Nat), u (19 : Nat), u (20 : Nat), u (21 : Nat), u (22 : Nat), u (23 : Nat), u (24 : Nat), u (25 : Nat), u (26 : Nat), u (27 : Nat), u (28 : Nat), u (29 : Nat), u (30 : Nat), u (31 : Nat), u (32 : Nat), u (33 : Nat), u (34 : Nat), u (35 : Nat), u (36 : Nat), u (37 : Nat), u (38 : Nat), u (39 : Nat), u (40 : Nat), u (41 : Nat), u (42 : Nat), u (43 : Nat), u (44 : Nat), u (45 : Nat), u (46 : Nat), u (47 : Nat), u (48 : Nat), u (49 : Nat), u (50 : Nat), u (51 : Nat), u (52 : Nat), u (53 : Nat), u (54 : Nat), u (55 : Nat), u (56 : Nat)] (H.mk [[I 0, I 0], [I (foO o (fall (rel o) o.length o.length)).snd.fst, I (foO o (fall (rel o) o.length o.length)).snd.snd]] [] [])) (by kernel_rfl) ?_⟩
    refine ⟨by first | with_reducible assumption | omega | assumption, ?_⟩
    refine ⟨by first | with_reducible assumption | omega | assumption, ?_⟩
    exact .inl ⟨(), trivial, rfl, rfl, rfl⟩
theorem ok40 : FokM Try.prog none1 40 Try.f40 := ⟨mixed, by kernel_rfl, by kernel_rfl, by kernel_rfl, by kernel_rfl⟩
theorem r40t (o : List Int) (r : Room) (h : OrdL o ∧ rok o r) (h0 : 1 ≤ (fO o).length) : Body (En6 [c33.to, c27.to, c28.to]) none1 Try.f40 [ls o r] .nil (.tup [.agg [I (mnA o.length (rel o) (fO o)).1, I (mnA o.length (rel o) (fO o)).2], I 0], .nil) := by
  have h6 := h.1.s.2
  have hD : pD o.length (rel o) := ⟨h.1.od, h6⟩
  have hle : ctO o ≤ 46656 := ct_le (A := rel o) h6 (alls_lt o.length)
  have ev0 : IntKind.i64.wrap (((ctO o : Nat) : Int) + 1) = ((ctO o + 1 : Nat) : Int) := by rw [wr _ (by omega) (by omega)]; omega
  have hl := lp40 o r h
  have hfo : foO o (fO o) = (bsP (rel o) o.length (mnA o.length (rel o) (fO o)), mnA o.length (rel o) (fO o)) := by
    have := fo_mn (b := bsP (rel o) o.length) (a := ctO o) (L := fO o) (fun k hk => bsP_all hD (fall_mem (Nat.le_refl _) (getD_mem hk))) ((fO o).length - 1) (by omega)
    rw [show (fO o).length - 1 + 1 = (fO o).length by omega, List.take_length] at this
    exact this
  rw [hfo] at hl
  have hlt : (fO o).length - 1 < (fO o).length := by omega
  have c1 : ((bsP (rel o) o.length (mnA o.length (rel o) (fO o)) : Nat) : Int) ≤ ((ctO o : Nat) : Int) := by
    have : bsP (rel o) o.length (mnA o.length (rel o) (fO o)) ≤ ctO o := bsP_all hD (mnL_ok (b := bsP (rel o) o.length) (q := okp (rel o) o.length) (fun k hk => fall_mem (Nat.le_refl _) (getD_mem hk)) ((fO o).length - 1) hlt)
    omega
  refine body_s ([Ans.o (Orc.val 11 (I (↑(ctO o) : Int)) (H.mk [[I 0, I 0]] [] [])), Ans.o (Orc.val 13 (I (↑(ctO o + (1 : Nat)) : Int)) H.nil), Ans.loop [(0 : Nat), (2 : Nat), (4 : Nat), (5 : Nat), (6 : Nat), (15 : Nat), (16 : Nat)] [Out.mk Unit (AX.exit (0 : Nat)) [(2 : Nat), (4 : Nat), (5 : Nat), (6 : Nat)] (fun x => True) (fun x => [AV.ptr 0 0, I (↑(ctO o) : Int), I (↑(bsP (rel o) o.length (mnA o.length (rel o) (fO o)), mnA o.length (rel o) (fO o)).fst : Int), AV.ptr 1 0]) (fun x => hp40 (bsP (rel o) o.length (mnA o.length (rel o) (fO o)), mnA o.length (rel o) (fO o))) fun y => [Ans.o (Orc.b false)]]]) (aCall (Sof [c33.to, c27.to, c28.to]) (AV.fn (Fn.func (33 : Nat)) [] []) [AV.sl (ints o) o.length r] (H.mk [[I 0, I 0]] [] []) = some (I (↑(ctO o) : Int), H.mk [[I 0, I 0]] [] []) ∧ aBin Try.prog BinOp.add (3 : Nat) (I (↑(ctO o) : Int)) (I 1) = some (I (↑(ctO o + (1 : Nat)) : Int)) ∧ LoopS (Env.mk Try.prog (Sof [c33.to, c27.to, c28.to]) (Pof (P := Try.prog) []) H.nil.base (300 : Nat)) (loopAt Try.f40 (0 : Nat)) (57 : Nat) [(0 : Nat), (2 : Nat), (4 : Nat), (5 : Nat), (6 : Nat), (15 : Nat), (16 : Nat)] [AV.sl (ints o) o.length r, AV.ptr 0 0, I (↑(ctO o) : Int), I (↑(ctO o + (1 : Nat)) : Int), AV.ptr 1 0, I (↑o.length : Int), I 0] (H.mk [[I 0, I 0], [I 0, I 0]] [] []) [Out.mk Unit (AX.exit (0 : Nat)) [(2 : Nat), (4 : Nat), (5 : Nat), (6 : Nat)] (fun x => True) (fun x => [AV.ptr 0 0, I (↑(ctO o) : Int), I (↑(bsP (rel o) o.length (mnA o.length (rel o) (fO o)), mnA o.length (rel o) (fO o)).fst : Int), AV.ptr 1 0]) (fun x => hp40 (bsP (rel o) o.length (mnA o.length (rel o) (fO o)), mnA o.length (rel o) (fO o))) fun y => [Ans.o (Orc.b false)]] ∧ (∀ (y : Unit), True → ∀ (u : Nat → AV), (↑(bsP (rel o) o.length (mnA o.length (rel o) (fO o)), mnA o.length (rel o) (fO o)).fst : Int) ≤ (↑(ctO o) : Int) ∧ (AV.tup [AV.agg [I (bsP (rel o) o.length (mnA o.length (rel o) (fO o)), mnA o.length (rel o) (fO o)).snd.fst, I (bsP (rel o) o.length (mnA o.length (rel o) (fO o)), mnA o.length (rel o) (fO o)).snd.snd], I 0], H.mk [] [] []) = (AV.tup [AV.agg [I (mnA o.length (rel o) (fO o)).fst, I (mnA o.length (rel o) (fO o)).snd], I 0], H.mk [] [] [])) ∧ True) (by kernel_rfl) ?_
  refine ⟨acall_hit (c := c33.to) (o, r) _ rfl h, ?_⟩
  refine ⟨told_add (by with_reducible assumption), ?_⟩
  refine ⟨hl, ?_⟩
  refine And.intro ?_ ?_
  · skip
    intro y
    intro w1
    intro u
    refine ⟨by first | with_reducible assumption | omega | assumption, ?_⟩
    rfl
  · skip
    trivial
theorem r40n (o : List Int) (r : Room) (h : OrdL o ∧ rok o r) (h0 : (fO o).length = 0) : Body (En6 [c33.to, c27.to, c28.to]) none1 Try.f40 [ls o r] .nil (.tup [.agg [I 0, I 0], I 4], .nil) := by
  have h6 := h.1.s.2
  have hle : ctO o ≤ 46656 := ct_le (A := rel o) h6 (alls_lt o.length)
  have ev0 : IntKind.i64.wrap (((ctO o : Nat) : Int) + 1) = ((ctO o + 1 : Nat) : Int) := by rw [wr _ (by omega) (by omega)]; omega
  have hl := lp40 o r h
  have hfo : foO o (fO o) = (ctO o + 1, pair0) := by
    rw [List.length_eq_zero_iff.1 h0]; rfl
  rw [hfo] at hl
  have c1 : ((ctO o : Nat) : Int) < ((ctO o + 1 : Nat) : Int) := by omega
  refine body_s ([Ans.o (Orc.val 11 (I (↑(ctO o) : Int)) (H.mk [[I 0, I 0]] [] [])), Ans.o (Orc.val 13 (I (↑(ctO o + (1 : Nat)) : Int)) H.nil), Ans.loop [(0 : Nat), (2 : Nat), (4 : Nat), (5 : Nat), (6 : Nat), (15 : Nat), (16 : Nat)] [Out.mk Unit (AX.exit (0 : Nat)) [(2 : Nat), (4 : Nat), (5 : Nat), (6 : Nat)] (fun x => True) (fun x => [AV.ptr 0 0, I (↑(ctO o) : Int), I (↑(ctO o + (1 : Nat), pair0).fst : Int), AV.ptr 1 0]) (fun x => hp40 (ctO o + (1 : Nat), pair0)) fun y => [Ans.o (Orc.b true)]]]) (aCall (Sof [c33.to, c27.to, c28.to]) (AV.fn (Fn.func (33 : Nat)) [] []) [AV.sl (ints o) o.length r] (H.mk [[I 0, I 0]] [] []) = some (I (↑(ctO o) : Int), H.mk [[I 0, I 0]] [] []) ∧ aBin Try.prog BinOp.add (3 : Nat) (I (↑(ctO o) : Int)) (I 1) = some (I (↑(ctO o + (1 : Nat)) : Int)) ∧ LoopS (Env.mk Try.prog (Sof [c33.to, c27.to, c28.to]) (Pof (P := Try.prog) []) H.nil.base (300 : Nat)) (loopAt Try.f40 (0 : Nat)) (57 : Nat) [(0 : Nat), (2 : Nat), (4 : Nat), (5 : Nat), (6 : Nat), (15 : Nat), (16 : Nat)] [AV.sl (ints o) o.length r, AV.ptr 0 0, I (↑(ctO o) : Int), I (↑(ctO o + (1 : Nat)) : Int), AV.ptr 1 0, I (↑o.length : Int), I 0] (H.mk [[I 0, I 0], [I 0, I 0]] [] []) [Out.mk Unit (AX.exit (0 : Nat)) [(2 : Nat), (4 : Nat), (5 : Nat), (6 : Nat)] (fun x => True) (fun x => [AV.ptr 0 0, I (↑(ctO o) : Int), I (↑(ctO o + (1 : Nat), pair0).fst : Int), AV.ptr 1 0]) (fun x => hp40 (ctO o + (1 : Nat), pair0)) fun y => [Ans.o (Orc.b true)]] ∧ (∀ (y : Unit), True → ∀ (u : Nat → AV), (↑(ctO o) : Int) < (↑(ctO o + (1 : Nat), pair0).fst : Int) ∧ (AV.tup [AV.agg [I (ctO o + (1 : Nat), pair0).snd.fst, I (ctO o + (1 : Nat), pair0).snd.snd], I 4], H.mk [] [] []) = (AV.tup [AV.agg [I 0, I 0], I 4], H.mk [] [] [])) ∧ True) (by kernel_rfl) ?_
  refine ⟨acall_hit (c := c33.to) (o, r) _ rfl h, ?_⟩
  refine ⟨told_add (by with_reducible assumption), ?_⟩
  refine ⟨hl, ?_⟩
  refine And.intro ?_ ?_
  · skip
    intro y
    intro w1
    intro u
    refine ⟨by first | with_reducible assumption | omega | assumption, ?_⟩
    rfl
  · skip
    trivial
noncomputable def c40t : PCtr Try.prog := sctr ok40 (X := List Int × Room) (fun x => [ls x.1 x.2]) (fun x => (OrdL x.1 ∧ rok x.1 x.2) ∧ 1 ≤ (fO x.1).length) (fun x => .tup [.agg [I (mnA x.1.length (rel x.1) (fO x.1)).1, I (mnA x.1.length (rel x.1) (fO x.1)).2], I 0])
  (by rintro ⟨l, r⟩ ⟨m, s⟩ e _ _; simp at e; simp only [e.1]) (fun x => ls_wk _ _) (fun x => rfl) (fun x hx => ⟨_, _, _, (.pure _ (.pure _ (.pure _ .nil))), r40t x.1 x.2.wk ⟨hx.1.1, by simpa using hx.1.2⟩ hx.2⟩)
noncomputable def c40n : PCtr Try.prog := sctr ok40 (X := List Int × Room) (fun x => [ls x.1 x.2]) (fun x => (OrdL x.1 ∧ rok x.1 x.2) ∧ (fO x.1).length = 0) (fun x => .tup [.agg [I 0, I 0], I 4])
  (fun _ _ _ _ _ => rfl) (fun x => ls_wk _ _) (fun x => rfl) (fun x hx => ⟨_, _, _, (.pure _ (.pure _ (.pure _ .nil))), r40n x.1 x.2.wk ⟨hx.1.1, by simpa using hx.1.2⟩ hx.2⟩)
theorem r6f (o : List Int) (r : Room) (h : pJ o r) (hn : ¬ OrdL o) : Body (En6 [c20.to, c39f.to, c24.to, c26.to]) none1 Try.f6 [ls o r] .nil (.bool true, .nil) := by
  have h2 : ¬ OrdL (cut o) := fun k => hn (cut_ord.1 k)
  have b24 := ord_f hn
  refine body_s ([Ans.o (Orc.val 9 (AV.sl (ints (cut o)) (cut o).length (rcl r)) (H.mk [] [] [])), Ans.o (Orc.val 10 (AV.tup [AV.agg [I 0, I 0], I 2]) (H.mk [] [] [])), Ans.o (Orc.val 14 (AV.bool false) (H.mk [[I 0, I 0]] [] [])), Ans.o Orc.dflt, Ans.o (Orc.val 24 (AV.bool true) (H.mk [[I 0, I 0]] [] []))]) (aCall (Sof [c20.to, c39f.to, c24.to, c26.to]) (AV.fn (Fn.func (20 : Nat)) [] []) [AV.sl (ints o) o.length r] (H.mk [] [] []) = some (AV.sl (ints (cut o)) (cut o).length (rcl r), H.mk [] [] []) ∧ aCall (Sof [c20.to, c39f.to, c24.to, c26.to]) (AV.fn (Fn.func (39 : Nat)) [] []) [AV.sl (ints (cut o)) (cut o).length (rcl r)] (H.mk [] [] []) = some (AV.tup [AV.agg [I 0, I 0], I 2], H.mk [] [] []) ∧ aCall (Sof [c20.to, c39f.to, c24.to, c26.to]) (AV.fn (Fn.func (24 : Nat)) [] []) [AV.sl (ints o) o.length r] (H.mk [[I 0, I 0]] [] []) = some (AV.bool false, H.mk [[I 0, I 0]] [] []) ∧ aCall (Sof [c20.to, c39f.to, c24.to, c26.to]) (AV.fn (Fn.func (26 : Nat)) [] []) [] (H.mk [[I 0, I 0]] [] []) = some (AV.bool true, H.mk [[I 0, I 0]] [] []) ∧ (AV.bool true, H.mk [] [] []) = (AV.bool true, H.mk [] [] [])) (by kernel_rfl) ?_
  refine ⟨acall_hit (c := c20.to) ((o, r) : List Int × Room) _ rfl (pJ_20 h), ?_⟩
  refine ⟨acall_hit (c := c39f.to) ((cut o, rcl r) : List Int × Room) _ rfl ⟨cut_pI h.1, h2⟩, ?_⟩
  refine ⟨acall_b (acall_hit (c := c24.to) ((o, r) : List Int × Room) _ rfl h.1) b24, ?_⟩
  refine ⟨acall_hit (c := c26.to) () _ rfl trivial, ?_⟩
  rfl
theorem r6n (o : List Int) (r : Room) (h : pJ o r ∧ OrdL o) (h0 : (fO o).length = 0) : Body (En6 [c20t.to, c39n.to, c24.to, c26.to, c40n.to]) none1 Try.f6 [ls o r] .nil (.bool true, .nil) := by
  have b24 := ord_t h.2
  have h9 : o.length ≤ 9 := by have := h.2.s.2; omega
  refine body_s ([Ans.o (Orc.val 9 (AV.sl (ints o) o.length (rcl r)) (H.mk [] [] [])), Ans.o (Orc.val 10 (AV.tup [AV.agg [I 0, I 0], I 4]) (H.mk [] [] [])), Ans.o (Orc.val 14 (AV.bool true) (H.mk [[I 0, I 0]] [] [])), Ans.o (Orc.val 28 (AV.tup [AV.agg [I 0, I 0], I 4]) (H.mk [[I 0, I 0]] [] [])), Ans.o Orc.dflt, Ans.o (Orc.val 40 (AV.bool true) (H.mk [[I 0, I 0], [I 0, I 0]] [] []))]) (aCall (Sof [c20t.to, c39n.to, c24.to, c26.to, c40n.to]) (AV.fn (Fn.func (20 : Nat)) [] []) [AV.sl (ints o) o.length r] (H.mk [] [] []) = some (AV.sl (ints o) o.length (rcl r), H.mk [] [] []) ∧ aCall (Sof [c20t.to, c39n.to, c24.to, c26.to, c40n.to]) (AV.fn (Fn.func (39 : Nat)) [] []) [AV.sl (ints o) o.length (rcl r)] (H.mk [] [] []) = some (AV.tup [AV.agg [I 0, I 0], I 4], H.mk [] [] []) ∧ aCall (Sof [c20t.to, c39n.to, c24.to, c26.to, c40n.to]) (AV.fn (Fn.func (24 : Nat)) [] []) [AV.sl (ints o) o.length r] (H.mk [[I 0, I 0]] [] []) = some (AV.bool true, H.mk [[I 0, I 0]] [] []) ∧ aCall (Sof [c20t.to, c39n.to, c24.to, c26.to, c40n.to]) (AV.fn (Fn.func (40 : Nat)) [] []) [AV.sl (ints o) o.length r] (H.mk [[I 0, I 0]] [] []) = some (AV.tup [AV.agg [I 0, I 0], I 4], H.mk [[I 0, I 0]] [] []) ∧ aCall (Sof [c20t.to, c39n.to, c24.to, c26.to, c40n.to]) (AV.fn (Fn.func (26 : Nat)) [] []) [] (H.mk [[I 0, I 0], [I 0, I 0]] [] []) = some (AV.bool true, H.mk [[I 0, I 0], [I 0, I 0]] [] []) ∧ (AV.bool true, H.mk [] [] []) = (AV.bool true, H.mk [] [] [])) (by kernel_rfl) ?_
  refine ⟨acall_hit (c := c20t.to) ((o, r) : List Int × Room) _ rfl ⟨pJ_20 h.1, h9⟩, ?_⟩
  refine ⟨acall_hit (c := c39n.to) ((o, rcl r) : List Int × Room) _ rfl ⟨⟨rcl_pI h.1.1, h.2⟩, h0⟩, ?_⟩
  refine ⟨acall_b (acall_hit (c := c24.to) ((o, r) : List Int × Room) _ rfl h.1.1) b24, ?_⟩
  refine ⟨acall_hit (c := c40n.to) ((o, r) : List Int × Room) _ rfl ⟨⟨h.2, h.1.1.2.1⟩, h0⟩, ?_⟩
  refine ⟨acall_hit (c := c26.to) () _ rfl trivial, ?_⟩
  rfl
theorem r6t (o : List Int) (r : Room) (h : pJ o r ∧ OrdL o) (h0 : 1 ≤ (fO o).length) : Body (En6 [c20t.to, c39t.to, c24.to, c26.to, c40t.to]) none1 Try.f6 [ls o r] .nil (.bool true, .nil) := by
  have b24 := ord_t h.2
  have h9 : o.length ≤ 9 := by have := h.2.s.2; omega
  refine body_s ([Ans.o (Orc.val 9 (AV.sl (ints o) o.length (rcl r)) (H.mk [] [] [])), Ans.o (Orc.val 10 (AV.tup [AV.agg [I (mnA o.length (rel o) (fO o)).fst, I (mnA o.length (rel o) (fO o)).snd], I 0]) (H.mk [] [] [])), Ans.o (Orc.val 14 (AV.bool true) (H.mk [[I (mnA o.length (rel o) (fO o)).fst, I (mnA o.length (rel o) (fO o)).snd]] [] [])), Ans.o (Orc.val 28 (AV.tup [AV.agg [I (mnA o.length (rel o) (fO o)).fst, I (mnA o.length (rel o) (fO o)).snd], I 0]) (H.mk [[I (mnA o.length (rel o) (fO o)).fst, I (mnA o.length (rel o) (fO o)).snd]] [] [])), Ans.bfork (33 : Nat) [Ans.o Orc.dflt, Ans.o (Orc.val 40 (AV.bool true) (H.mk [[I (mnA o.length (rel o) (fO o)).fst, I (mnA o.length (rel o) (fO o)).snd], [I (mnA o.length (rel o) (fO o)).fst, I (mnA o.length (rel o) (fO o)).snd]] [] []))] []]) (aCall (Sof [c20t.to, c39t.to, c24.to, c26.to, c40t.to]) (AV.fn (Fn.func (20 : Nat)) [] []) [AV.sl (ints o) o.length r] (H.mk [] [] []) = some (AV.sl (ints o) o.length (rcl r), H.mk [] [] []) ∧ aCall (Sof [c20t.to, c39t.to, c24.to, c26.to, c40t.to]) (AV.fn (Fn.func (39 : Nat)) [] []) [AV.sl (ints o) o.length (rcl r)] (H.mk [] [] []) = some (AV.tup [AV.agg [I (mnA o.length (rel o) (fO o)).fst, I (mnA o.length (rel o) (fO o)).snd], I 0], H.mk [] [] []) ∧ aCall (Sof [c20t.to, c39t.to, c24.to, c26.to, c40t.to]) (AV.fn (Fn.func (24 : Nat)) [] []) [AV.sl (ints o) o.length r] (H.mk [[I (mnA o.length (rel o) (fO o)).fst, I (mnA o.length (rel o) (fO o)).snd]] [] []) = some (AV.bool true, H.mk [[I (mnA o.length (rel o) (fO o)).fst, I (mnA o.length (rel o) (fO o)).snd]] [] []) ∧ aCall (Sof [c20t.to, c39t.to, c24.to, c26.to, c40t.to]) (AV.fn (Fn.func (40 : Nat)) [] []) [AV.sl (ints o) o.length r] (H.mk [[I (mnA o.length (rel o) (fO o)).fst, I (mnA o.length (rel o) (fO o)).snd]] [] []) = some (AV.tup [AV.agg [I (mnA o.length (rel o) (fO o)).fst, I (mnA o.length (rel o) (fO o)).snd], I 0], H.mk [[I (mnA o.length (rel o) (fO o)).fst, I (mnA o.length (rel o) (fO o)).snd]] [] []) ∧ (((mnA o.length (rel o) (fO o)).fst == (mnA o.length (rel o) (fO o)).fst && ((mnA o.length (rel o) (fO o)).snd == (mnA o.length (rel o) (fO o)).snd && true)) = true → aCall (Sof [c20t.to, c39t.to, c24.to, c26.to, c40t.to]) (AV.fn (Fn.func (26 : Nat)) [] []) [] (H.mk [[I (mnA o.length (rel o) (fO o)).fst, I (mnA o.length (rel o) (fO o)).snd], [I (mnA o.length (rel o) (fO o)).fst, I (mnA o.length (rel o) (fO o)).snd]] [] []) = some (AV.bool true, H.mk [[I (mnA o.length (rel o) (fO o)).fst, I (mnA o.length (rel o) (fO o)).snd], [I (mnA o.length (rel o) (fO o)).fst, I (mnA o.length (rel o) (fO o)).snd]] [] []) ∧ (AV.bool true, H.mk [] [] []) = (AV.bool true, H.mk [] [] [])) ∧ (((mnA o.length (rel o) (fO o)).fst == (mnA o.length (rel o) (fO o)).fst && ((mnA o.length (rel o) (fO o)).snd == (mnA o.length (rel o) (fO o)).snd && true)) = false → (AV.bool false, H.mk [] [] []) = (AV.bool true, H.mk [] [] []))) (by kernel_rfl) ?_
  refine ⟨acall_hit (c := c20t.to) ((o, r) : List Int × Room) _ rfl ⟨pJ_20 h.1, h9⟩, ?_⟩
  refine ⟨acall_hit (c := c39t.to) ((o, rcl r) : List Int × Room) _ rfl ⟨⟨rcl_pI h.1.1, h.2⟩, h0⟩, ?_⟩
  refine ⟨acall_b (acall_hit (c := c24.to) ((o, r) : List Int × Room) _ rfl h.1.1) b24, ?_⟩
  refine ⟨acall_hit (c := c40t.to) ((o, r) : List Int × Room) _ rfl ⟨⟨h.2, h.1.1.2.1⟩, h0⟩, ?_⟩
  refine And.intro ?_ ?_
  · skip
    intro w0
    refine ⟨acall_hit (c := c26.to) () _ rfl trivial, ?_⟩
    first | rfl | (exfalso; simp at *)
  · skip
    intro w0
    first | rfl | (exfalso; simp at *)
theorem ok6 : FokM Try.prog none1 6 Try.f6 := ⟨mixed, by kernel_rfl, by kernel_rfl, by kernel_rfl, by kernel_rfl⟩
theorem even_ok (o : List Int) (q : RK) (h1 : o.length ≤ Go.maxLen) (h2 : q.mt = true → o = []) (h3 : inI o) : CallOk Try.prog 6 [ls o (rr q)] .nil (.bool true) .nil := by
  have hp : pJ o (rr q) := by
    refine ⟨⟨Nat.le_trans h1 (by decide), fun hl e => ?_, h3⟩, fun e => ?_⟩
    · cases q <;> simp_all [rr, RK.mt]
    · cases q <;> simp_all [rr, RK.mt]
  by_cases ho : OrdL o
  · by_cases h0 : (fO o).length = 0
    · exact (r6n o _ ⟨hp, ho⟩ h0).run ok6 (.pure _ (.pure _ (.pure _ (.pure _ (.pure _ .nil))))) rfl
    · exact (r6t o _ ⟨hp, ho⟩ (by omega)).run ok6 (.pure _ (.pure _ (.pure _ (.pure _ (.pure _ .nil))))) rfl
  · exact (r6f o _ hp ho).run ok6 (.pure _ (.pure _ (.pure _ (.pure _ .nil)))) rfl
end Go.Proofs.Ord

