/- Layer 2: the first row of players, by the reference. -/
import Derived.Test.YtnnhomkkggkkfaaDoorRkAb
import Derived.KernelRfl
set_option linter.unusedSimpArgs false
set_option linter.unusedVariables false
set_option linter.unnecessarySimpa false
set_option maxHeartbeats 4000000
set_option maxRecDepth 100000
namespace Go.Proofs.Rnk
open Go Go.VM
open Go.Proofs.Sur (andn andn_bit andn_le i_wrap i_and i_or i_xor i_andn i_shl i_shr bit_01)

abbrev lastN (b : List Int) : Nat := (b.getD (b.length - 1) i0).toNat
abbrev frsN (b : List Int) : Nat := (b.getD 0 i0).toNat
def fol (A : Nat → Nat) (b : List Int) (m i : Nat) : Bool := !m.testBit i && (decide (b = []) || (A (lastN b)).testBit i)
def wyM (A : Nat → Nat) (n : Nat) (rd : Bool) : Nat → List Int → Nat → Option (List Int)
  | 0, b, _ => if rd && !(A (lastN b)).testBit (frsN b) then none else some b
  | f + 1, b, m => (List.range n).foldl (fun r i => r.or (if fol A b m i then wyM A n rd f (b ++ [(i : Int)]) (m ||| 2 ^ i) else none)) none
def fRw (A : Nat → Nat) (n : Nat) (rd : Bool) (f : Nat) (b : List Int) (m : Nat) : Nat → Option (List Int)
  | 0 => none
  | k + 1 => (fRw A n rd f b m k).or (if fol A b m k then wyM A n rd f (b ++ [(k : Int)]) (m ||| 2 ^ k) else none)
theorem fRw_fold {A : Nat → Nat} {n : Nat} {rd : Bool} {f : Nat} {b : List Int} {m : Nat} : ∀ k, (List.range k).foldl (fun r i => r.or (if fol A b m i then wyM A n rd f (b ++ [(i : Int)]) (m ||| 2 ^ i) else none)) none = fRw A n rd f b m k
  | 0 => rfl
  | k + 1 => by rw [List.range_succ, List.foldl_append, fRw_fold k]; rfl
theorem wyM_go {A : Nat → Nat} {n : Nat} {rd : Bool} {f : Nat} {b : List Int} {m : Nat} : wyM A n rd (f + 1) b m = fRw A n rd f b m n := by rw [wyM, fRw_fold]
theorem fRw_some {A : Nat → Nat} {n : Nat} {rd : Bool} {f : Nat} {b : List Int} {m : Nat} {l : List Int} {k : Nat} (h : fRw A n rd f b m k = some l) : ∀ j, fRw A n rd f b m (k + j) = some l
  | 0 => h
  | j + 1 => by rw [← Nat.add_assoc, fRw, fRw_some h j]; rfl
abbrev ov : Option (List Int) → AV
  | none => .sl [] 0 .nil
  | some l => .sl (ints l) l.length .no
abbrev inN (n : Nat) (b : List Int) : Prop := ∀ j, j < b.length → 0 ≤ b.getD j i0 ∧ b.getD j i0 < (n : Int)
theorem ap_qT {P : Program} {t : TypeId} (hT : appT P t = true) {b : List Int} {x : Int} {B : List (List AV)} {T : List Nat} (hn : b.length ≤ 1000000) :
    aAppend P t t (.sl (ints b) b.length (rs1 b)) (.sl [I x] 1 .full) ⟨B, T, []⟩ = some (.sl (ints (b ++ [x])) (b ++ [x]).length (.tok T.length 1), ⟨B, T ++ [(b ++ [x]).length], []⟩) := by
  obtain ⟨e, i, z, he, hi, hz, g1, g2, g3⟩ := appT_of hT
  have hb : (b.length + 1) * i.bytes ≤ 2 ^ 47 := Nat.le_trans (Nat.mul_le_mul (Nat.succ_le_succ hn) g2) (by decide)
  have hm' : b.length + 1 ≤ maxLen := Nat.le_trans (Nat.succ_le_succ hn) (by decide)
  have hi2 : ints (b ++ [x]) = ints b ++ [I x] := by simp [ints]
  rw [hi2]
  have ho : (I x).one = true := rfl
  by_cases h0 : b.length = 0
  · have hb0 : i.bytes ≤ 140737488355328 := by have := hb; rw [h0] at this; simpa using this
    have hb1 : b = [] := List.length_eq_zero_iff.1 h0
    subst hb1
    simp [aAppend, he, hi, hz, g1, g3, slCells, rs1, ho, hb0]
    decide
  · simp [aAppend, he, hi, hz, g1, g3, slCells, hb, hm', rs1, h0, ho]
structure WyP (t b : List Int) (r : Room) (f k m : Nat) : Prop where
  h : Tn t
  r : rok t r
  l : b.length + f = k
  k1 : 1 ≤ k
  k8 : k ≤ 8
  m : m < 256
  i : inN t.length b
theorem WyP.next {t b : List Int} {r : Room} {f k m i : Nat} (p : WyP t b r (f + 1) k m) (hi : i < t.length) : WyP t (b ++ [(i : Int)]) r f k (m ||| 2 ^ i) where
  h := p.h
  r := p.r
  l := by have := p.l; simp only [List.length_append, List.length_cons, List.length_nil]; omega
  k1 := p.k1
  k8 := p.k8
  m := Nat.or_lt_two_pow (n := 8) p.m (Nat.pow_lt_pow_right (by decide) (by have := p.h.s.2; omega))
  i := fun j hj => by
    simp only [List.length_append, List.length_cons, List.length_nil] at hj
    by_cases c : j < b.length
    · have : (b ++ [(i : Int)]).getD j i0 = b.getD j i0 := by simp only [List.getD_eq_getElem?_getD, List.getElem?_append_left c]
      rw [this]; exact p.i j c
    · have e : j = b.length := by omega
      subst e
      have : (b ++ [(i : Int)]).getD b.length i0 = (i : Int) := by simp [List.getD_eq_getElem?_getD]
      rw [this]; omega
def Ok68 (f : Nat) : Prop := ∀ (t : List Int) (r : Room) (k : Nat) (b : List Int) (m : Nat) (rd : Bool), WyP t b r f k m →
  CallOk Tryd.prog 68 [ls t r, I k, lq b, I m, .bool rd] .nil (ov (wyM (sn t) t.length rd f b m)) .nil
abbrev X68 := (List Int × Room) × Nat × (List Int × Room) × Nat × Bool
theorem ok68 : FokL Tryd.prog none1 68 Tryd.f68 := ⟨mixed, by kernel_rfl, by kernel_rfl, by kernel_rfl⟩
theorem ov_bnd (o : Option (List Int)) : (ov o).bnd 0 0 0 = true := by
  cases o with
  | none => rfl
  | some l => simp [ov, AV.bnd, Room.bnd]
noncomputable def c68 (f : Nat) (hok : Ok68 f) : PCtr Tryd.prog where
  f := 68
  X := X68
  args x := [ls x.1.1 x.1.2, I x.2.1, .sl (ints x.2.2.1.1) x.2.2.1.1.length x.2.2.1.2, I x.2.2.2.1, .bool x.2.2.2.2]
  pre x := WyP x.1.1 x.2.2.1.1 x.1.2 f x.2.1 x.2.2.2.1 ∧ x.2.2.1.2.wk = rq x.2.2.1.1
  v x := ov (wyM (sn x.1.1) x.1.1.length x.2.2.2.2 f x.2.2.1.1 x.2.2.2.1)
  det := by
    rintro ⟨⟨t, r⟩, k, ⟨b, q⟩, m, d⟩ ⟨⟨t', r'⟩, k', ⟨b', q'⟩, m', d'⟩ e _ _
    simp only [List.cons.injEq, AV.sl.injEq, AV.int.injEq, AV.bool.injEq, and_true, true_and] at e
    obtain ⟨⟨e1, -⟩, e2, ⟨e3, -⟩, e4, e5⟩ := e
    have e1 := ints_inj e1
    have e3 := ints_inj e3
    have e4 : m = m' := by omega
    subst e1 e3 e4 e5; rfl
  ok := by
    rintro ⟨⟨t, r⟩, k, ⟨b, q⟩, m, d⟩ ⟨p, hq⟩
    have hq : q.wk = rq b := hq
    have p : WyP t b r f k m := p
    refine ⟨ok68.call, fun H => CallOk.wk ?_⟩
    have := pure_call (hok t r.wk k b m d ⟨p.h, by simpa using p.r, p.l, p.k1, p.k8, p.m, p.i⟩) (by simp [AV.bnds, AV.bnd, rm_wk_bnd]) (ov_bnd _) H
    simp only [List.map_cons, List.map_nil, AV.wk, hq]
    exact this
abbrev N68 : FuncId → Bool := (· == 68)
theorem ct68 (f : Nat) (hok : Ok68 f) : Ctrs Tryd.prog none1 [(c68 f hok).to] := .pure _ .nil
theorem free68 (f : Nat) (hok : Ok68 f) : FreeS (En6 [(c68 f hok).to]).S N68 := free_sof (fun c hc hM x h hp h1 => by
  simp only [List.mem_cons, List.not_mem_nil, or_false] at hc
  subst hc
  exact ⟨hp, rfl, rfl⟩)
abbrev o68 (t : List Int) (b : List Int) (m f : Nat) (rd : Bool) : List Out := [.mk (List Int × List Nat) .ret [10] (fun y => fRw (sn t) t.length rd f b m t.length = some y.1) (fun y => [.sl (ints y.1) y.1.length .no]) (fun y => ⟨[], y.2, []⟩) (fun _ => []), .mk (List Nat) (.exit 0) [] (fun _ => fRw (sn t) t.length rd f b m t.length = none) (fun _ => []) (fun T => ⟨[], T, []⟩) (fun _ => [])]
theorem simp68 : allSimpleN N68 none1 (loopAt Tryd.f68 0) = true := by kernel_rfl
abbrev xW (t : List Int) (r : Room) (k : Nat) (b : List Int) (m i : Nat) (rd : Bool) (T : List Nat) : X68 := ((t, r), k, (b ++ [(i : Int)], .tok T.length 1), (m ||| 2 ^ i), rd)
theorem hc68 (f : Nat) (hok : Ok68 f) {t : List Int} {r : Room} {k : Nat} {b : List Int} {m i : Nat} {rd : Bool} {T : List Nat} {H : H} {o : Option (List Int)} (p : WyP t b r (f + 1) k m) (hi : i < t.length) (hw : wyM (sn t) t.length rd f (b ++ [(i : Int)]) (m ||| 2 ^ i) = o) :
    aCall (Sof [(c68 f hok).to]) (.fn (.func 68) [] []) [ls t r, I k, .sl (ints (b ++ [(i : Int)])) (b ++ [(i : Int)]).length (.tok T.length 1), I ((m ||| 2 ^ i : Nat) : Int), .bool rd] H = some (ov o, H) := by
  have hq1 : rq (b ++ [(i : Int)]) = .no := by simp [rq]
  subst hw
  exact acall_hit (c := (c68 f hok).to) (cs := [(c68 f hok).to]) (xW t r k b m i rd T) _ rfl ⟨p.next hi, hq1.symm⟩
theorem hc68n (f : Nat) (hok : Ok68 f) {t : List Int} {r : Room} {k : Nat} {b : List Int} {m i : Nat} {rd : Bool} {T : List Nat} {H : H} (p : WyP t b r (f + 1) k m) (hi : i < t.length) (hw : wyM (sn t) t.length rd f (b ++ [(i : Int)]) (m ||| 2 ^ i) = none) :
    aCall (Sof [(c68 f hok).to]) (.fn (.func 68) [] []) [ls t r, I k, .sl (ints (b ++ [(i : Int)])) (b ++ [(i : Int)]).length (.tok T.length 1), I ((m ||| 2 ^ i : Nat) : Int), .bool rd] H = some (.sl [] 0 .nil, H) := hc68 f hok p hi hw
theorem hc68s (f : Nat) (hok : Ok68 f) {t : List Int} {r : Room} {k : Nat} {b : List Int} {m i : Nat} {rd : Bool} {T : List Nat} {H : H} {l : List Int} (p : WyP t b r (f + 1) k m) (hi : i < t.length) (hw : wyM (sn t) t.length rd f (b ++ [(i : Int)]) (m ||| 2 ^ i) = some l) :
    aCall (Sof [(c68 f hok).to]) (.fn (.func 68) [] []) [ls t r, I k, .sl (ints (b ++ [(i : Int)])) (b ++ [(i : Int)]).length (.tok T.length 1), I ((m ||| 2 ^ i : Nat) : Int), .bool rd] H = some (.sl (ints l) l.length .no, H) := hc68 f hok p hi hw
theorem lp68t (f : Nat) (hok : Ok68 f) (t : List Int) (r : Room) (kk : Nat) (b : List Int) (m : Nat) (p : WyP t b r (f + 1) kk m) :
    LoopS (En6 [(c68 f hok).to]) (loopAt Tryd.f68 0) 84 [0, 1, 2, 3, 4, 11, 38, 39] [ls t r, I kk, lq b, I m, .bool true, I b.length, I t.length, I 0] .nil (o68 t b m f true) := by
  have hR : Rests (En6 [(c68 f hok).to]) none1 := rests mixed (ct68 f hok)
  have h := p.h
  have h8 := h.s.2
  have hr := p.r
  have hm := p.m
  have hl := p.l
  have hk8 := p.k8
  refine loop_sN hR (free68 f hok) simp68 none (by intro _ h; cases h) (fun k vs H => (fRw (sn t) t.length true f b m k = none ∧ ∃ T, H = ⟨[], T, []⟩) ∧ vs = [ls t r, I kk, lq b, I m, .bool true, I b.length, I t.length, I k]) t.length ⟨⟨rfl, [], rfl⟩, rfl⟩ (by intro _ h; cases h) ?_
  rintro k vs h' hk ⟨⟨hf, T, rfl⟩, rfl⟩
  by_cases hz : (k : Int) < t.length
  · have hz' : k < t.length := by omega
    have ev0 := wj1 (j := k) (by omega)
    have hs8 : s8 ((m : Nat) : Int) := by simp only [s8]; omega
    have stay : ∀ o, (if fol (sn t) b m k then wyM (sn t) t.length true f (b ++ [(k : Int)]) (m ||| 2 ^ k) else none) = o → fRw (sn t) t.length true f b m (k + 1) = o := fun o e => by rw [fRw, hf, e]; rfl
    have stop : ∀ l, fRw (sn t) t.length true f b m (k + 1) = some l → fRw (sn t) t.length true f b m t.length = some l := fun l e => by
      have := fRw_some e (t.length - (k + 1))
      rwa [show k + 1 + (t.length - (k + 1)) = t.length by omega] at this
    cases c : m.testBit k
    · have hnb : bi ((m : Nat) : Int) k = false := by simp only [bi, Int.toNat_natCast]; exact c
      obtain ⟨ev1, ev2⟩ := i_bit0 hs8 (show k ≤ 64 by omega) hnb
      have ev4 := pw_shl (n := k) (by omega)
      have h2 : 2 ^ k < 2 ^ 8 := Nat.pow_lt_pow_right (by decide) (by omega)
      have ev5 : IntKind.i64.wrap ((BitVec.ofInt IntKind.i64.bits ((m : Nat) : Int) ||| BitVec.ofInt IntKind.i64.bits ((2 ^ k : Nat) : Int)).toNat : Int) = ((m ||| 2 ^ k : Nat) : Int) := i_or (by omega) (by omega)
      have hS : ∀ H, aSlice Tryd.prog 22 (lq b) none (some (I b.length)) (some (I b.length)) H = some (.sl (ints b) b.length (rs1 b)) := fun H => sl_q (by kernel_rfl)
      have hS' := hS ⟨[], T, []⟩
      have hA := ap_qT (P := Tryd.prog) (t := 22) (by kernel_rfl) (b := b) (x := (k : Int)) (B := []) (T := T) (by omega)
      by_cases cb : b.length = 0
      · have hb0 : b = [] := List.length_eq_zero_iff.1 cb
        have cb1 : (b.length : Int) ≤ 0 := by omega
        have hfo : fol (sn t) b m k = true := by simp [fol, c, hb0]
        rw [hfo, if_pos rfl] at stay
        cases hw : wyM (sn t) t.length true f (b ++ [(k : Int)]) (m ||| 2 ^ k)
        · have hc := hc68n f hok (T := T) (H := ⟨[], T ++ [(b ++ [(k : Int)]).length], []⟩) p hz' hw
          have e1 := stay _ hw
          refine ⟨[Ans.o (Orc.b true), Ans.o (Orc.val 44 (I (↑((↑m : Int).toNat >>> k) : Int)) H.nil), Ans.o (Orc.val 45 (I 0) H.nil), Ans.o Orc.dflt, Ans.o (Orc.b false), Ans.o (Orc.val 70 (ls b (rs1 b)) H.nil), Ans.o (Orc.val 73 (ls (b ++ [(↑k : Int)]) (Room.tok T.length (1 : Nat))) (H.mk [] (T ++ [(b ++ [(↑k : Int)]).length]) [])), Ans.o (Orc.val 76 (I (↑((2 : Nat) ^ k) : Int)) H.nil), Ans.o (Orc.val 77 (I (↑(m ||| (2 : Nat) ^ k) : Int)) H.nil), Ans.o (Orc.val 79 (AV.sl [] (0 : Nat) Room.nil) (H.mk [] (T ++ [(b ++ [(↑k : Int)]).length]) [])), Ans.o (Orc.val 83 (I (↑(k + (1 : Nat)) : Int)) H.nil)], fun u => of_eq ((↑k : Int) < (↑t.length : Int) ∧ aBin Tryd.prog BinOp.shr (3 : Nat) (I (↑m : Int)) (I (↑k : Int)) = some (I (↑((↑m : Int).toNat >>> k) : Int)) ∧ aBin Tryd.prog BinOp.and (3 : Nat) (I (↑((↑m : Int).toNat >>> k) : Int)) (I 1) = some (I 0) ∧ (↑b.length : Int) ≤ (0 : Int) ∧ aSlice Tryd.prog 22 (ls b (rq b)) none (some (I (↑b.length : Int))) (some (I (↑b.length : Int))) (H.mk [] T []) = some (ls b (rs1 b)) ∧ aAppend Tryd.prog 22 (22 : Nat) (ls b (rs1 b)) (AV.sl [I (↑k : Int)] (1 : Nat) Room.full) (H.mk [] T []) = some (ls (b ++ [(↑k : Int)]) (Room.tok T.length (1 : Nat)), H.mk [] (T ++ [(b ++ [(↑k : Int)]).length]) []) ∧ aBin Tryd.prog BinOp.shl (3 : Nat) (I 1) (I (↑k : Int)) = some (I (↑((2 : Nat) ^ k) : Int)) ∧ aBin Tryd.prog BinOp.or (3 : Nat) (I (↑m : Int)) (I (↑((2 : Nat) ^ k) : Int)) = some (I (↑(m ||| (2 : Nat) ^ k) : Int)) ∧ aCall (Sof [(c68 f hok).to]) (AV.fn (Fn.func 68) [] []) [ls t r, I (↑kk : Int), ls (b ++ [(↑k : Int)]) (Room.tok T.length (1 : Nat)), I (↑(m ||| (2 : Nat) ^ k) : Int), AV.bool true] (H.mk [] (T ++ [(b ++ [(↑k : Int)]).length]) []) = some (AV.sl [] (0 : Nat) Room.nil, H.mk [] (T ++ [(b ++ [(↑k : Int)]).length]) []) ∧ aBin Tryd.prog BinOp.add (3 : Nat) (I (↑k : Int)) (I 1) = some (I (↑(k + (1 : Nat)) : Int)) ∧ (84 : Nat) = (84 : Nat) ∧ k < t.length ∧ Keep ((fRw (sn t) t.length true f b m (k + (1 : Nat)) = none ∧ ∃ T_1, H.mk [] (T ++ [(b ++ [(↑k : Int)]).length]) [] = H.mk [] T_1 []) ∧ [ls t r, I (↑kk : Int), ls b (rq b), I (↑m : Int), AV.bool true, I (↑b.length : Int), I (↑t.length : Int), I (↑(k + (1 : Nat)) : Int)] = [ls t r, I (↑kk : Int), ls b (rq b), I (↑m : Int), AV.bool true, I (↑b.length : Int), I (↑t.length : Int), I (↑(k + (1 : Nat)) : Int)])) (by kernel_rfl) ?_⟩
          refine ⟨by first | with_reducible assumption | omega | assumption, ?_⟩
          refine ⟨by first | exact told_shr (by first | exact Int.natCast_nonneg _ | omega) (by with_reducible assumption) | exact told_shr (by omega) rfl, ?_⟩
          refine ⟨told_and (by with_reducible assumption), ?_⟩
          refine ⟨by first | with_reducible assumption | omega | assumption, ?_⟩
          refine ⟨hS _, ?_⟩
          refine ⟨hA, ?_⟩
          refine ⟨by first | exact told_shl (by first | exact Int.natCast_nonneg _ | omega) (by with_reducible assumption) | exact told_shl (by omega) rfl, ?_⟩
          refine ⟨told_or (by with_reducible assumption), ?_⟩
          refine ⟨hc, ?_⟩
          refine ⟨told_add (by with_reducible assumption), ?_⟩
          refine ⟨by first | with_reducible assumption | omega | assumption, ?_⟩
          refine ⟨by first | with_reducible assumption | omega | assumption, ?_⟩
          exact ⟨⟨e1, _, rfl⟩, rfl⟩
        · rename_i l
          have hc := hc68s f hok (T := T) (H := ⟨[], T ++ [(b ++ [(k : Int)]).length], []⟩) p hz' hw
          have e1 := stop _ (stay _ hw)
          refine ⟨[Ans.o (Orc.b true), Ans.o (Orc.val 44 (I (↑((↑m : Int).toNat >>> k) : Int)) H.nil), Ans.o (Orc.val 45 (I 0) H.nil), Ans.o Orc.dflt, Ans.o (Orc.b false), Ans.o (Orc.val 70 (ls b (rs1 b)) H.nil), Ans.o (Orc.val 73 (ls (b ++ [(↑k : Int)]) (Room.tok T.length (1 : Nat))) (H.mk [] (T ++ [(b ++ [(↑k : Int)]).length]) [])), Ans.o (Orc.val 76 (I (↑((2 : Nat) ^ k) : Int)) H.nil), Ans.o (Orc.val 77 (I (↑(m ||| (2 : Nat) ^ k) : Int)) H.nil), Ans.o (Orc.val 79 (ls l Room.no) (H.mk [] (T ++ [(b ++ [(↑k : Int)]).length]) []))], fun u => of_eq ((↑k : Int) < (↑t.length : Int) ∧ aBin Tryd.prog BinOp.shr (3 : Nat) (I (↑m : Int)) (I (↑k : Int)) = some (I (↑((↑m : Int).toNat >>> k) : Int)) ∧ aBin Tryd.prog BinOp.and (3 : Nat) (I (↑((↑m : Int).toNat >>> k) : Int)) (I 1) = some (I 0) ∧ (↑b.length : Int) ≤ (0 : Int) ∧ aSlice Tryd.prog 22 (ls b (rq b)) none (some (I (↑b.length : Int))) (some (I (↑b.length : Int))) (H.mk [] T []) = some (ls b (rs1 b)) ∧ aAppend Tryd.prog 22 (22 : Nat) (ls b (rs1 b)) (AV.sl [I (↑k : Int)] (1 : Nat) Room.full) (H.mk [] T []) = some (ls (b ++ [(↑k : Int)]) (Room.tok T.length (1 : Nat)), H.mk [] (T ++ [(b ++ [(↑k : Int)]).length]) []) ∧ aBin Tryd.prog BinOp.shl (3 : Nat) (I 1) (I (↑k : Int)) = some (I (↑((2 : Nat) ^ k) : Int)) ∧ aBin Tryd.prog BinOp.or (3 : Nat) (I (↑m : Int)) (I (↑((2 : Nat) ^ k) : Int)) = some (I (↑(m ||| (2 : Nat) ^ k) : Int)) ∧ aCall (Sof [(c68 f hok).to]) (AV.fn (Fn.func 68) [] []) [ls t r, I (↑kk : Int), ls (b ++ [(↑k : Int)]) (Room.tok T.length (1 : Nat)), I (↑(m ||| (2 : Nat) ^ k) : Int), AV.bool true] (H.mk [] (T ++ [(b ++ [(↑k : Int)]).length]) []) = some (ls l Room.no, H.mk [] (T ++ [(b ++ [(↑k : Int)]).length]) []) ∧ (84 : Nat) = (84 : Nat) ∧ hits [Out.mk (List Int × List Nat) AX.ret [10] (fun y => fRw (sn t) t.length true f b m t.length = some y.fst) (fun y => [AV.sl (ints y.fst) y.fst.length Room.no]) (fun y => H.mk [] y.snd []) fun x => [], Out.mk (List Nat) (AX.exit 0) [] (fun x => fRw (sn t) t.length true f b m t.length = none) (fun x => []) (fun T => H.mk [] T []) fun x => []] AX.ret [ls t r, I (↑kk : Int), ls b (rq b), I (↑m : Int), AV.bool true, u (5 : Nat), u (6 : Nat), u (7 : Nat), u (8 : Nat), u (9 : Nat), ls l Room.no, I (↑b.length : Int), I (↑k : Int), ls l Room.no, u (14 : Nat), u (15 : Nat), u (16 : Nat), u (17 : Nat), u (18 : Nat), u (19 : Nat), u (20 : Nat), u (21 : Nat), u (22 : Nat), u (23 : Nat), u (24 : Nat), u (25 : Nat), u (26 : Nat), u (27 : Nat), u (28 : Nat), u (29 : Nat), u (30 : Nat), u (31 : Nat), u (32 : Nat), u (33 : Nat), u (34 : Nat), u (35 : Nat), u (36 : Nat), u (37 : Nat), I (↑t.length : Int), I (↑k : Int), AV.bool true, I (↑k : Int), I (↑m : Int), I (↑k : Int), I (↑((↑m : Int).toNat >>> k) : Int), I 0, AV.bool false, AV.bool false, I (↑b.length : Int), AV.bool false, AV.bool false, AV.tup [], AV.tup [], AV.tup [], AV.tup [], AV.tup [], AV.tup [], AV.tup [], AV.tup [], AV.tup [], AV.tup [], AV.tup [], AV.tup [], AV.bool false, AV.bool false, ls t r, I (↑kk : Int), ls b (rq b), I (↑b.length : Int), I (↑b.length : Int), ls b (rs1 b), I (↑k : Int), AV.sl [I (↑k : Int)] (1 : Nat) Room.full, ls (b ++ [(↑k : Int)]) (Room.tok T.length (1 : Nat)), I (↑m : Int), I (↑k : Int), I (↑((2 : Nat) ^ k) : Int), I (↑(m ||| (2 : Nat) ^ k) : Int), AV.bool true, ls l Room.no, ls l Room.no, AV.bool true, ls l Room.no, u (83 : Nat)] (H.mk [] (T ++ [(b ++ [(↑k : Int)]).length]) [])) (by kernel_rfl) ?_⟩
          refine ⟨by first | with_reducible assumption | omega | assumption, ?_⟩
          refine ⟨by first | exact told_shr (by first | exact Int.natCast_nonneg _ | omega) (by with_reducible assumption) | exact told_shr (by omega) rfl, ?_⟩
          refine ⟨told_and (by with_reducible assumption), ?_⟩
          refine ⟨by first | with_reducible assumption | omega | assumption, ?_⟩
          refine ⟨hS _, ?_⟩
          refine ⟨hA, ?_⟩
          refine ⟨by first | exact told_shl (by first | exact Int.natCast_nonneg _ | omega) (by with_reducible assumption) | exact told_shl (by omega) rfl, ?_⟩
          refine ⟨told_or (by with_reducible assumption), ?_⟩
          refine ⟨hc, ?_⟩
          refine ⟨by first | with_reducible assumption | omega | assumption, ?_⟩
          exact .inl ⟨(l, _), e1, rfl, rfl, rfl⟩
      · have hb1 : b.length - 1 < b.length := by omega
        have hbne : b ≠ [] := fun e => cb (by rw [e]; rfl)
        have hrq : rq b ≠ .nil := rq_rok b hbne
        have cb1 : (0 : Int) < (b.length : Int) := by omega
        obtain ⟨d0, d1⟩ := p.i _ hb1
        have d2 : (b.getD (b.length - 1) i0).toNat < t.length := by omega
        have hri := rok_idx hr d2
        have ev6 : IntKind.i64.wrap ((b.length : Int) - 1) = ((b.length - 1 : Nat) : Int) := by rw [wr _ (by omega) (by omega)]; omega
        have hl8 := h.s8 (lastN b)
        cases c2 : (sn t (lastN b)).testBit k
        · have hnb2 : bi (ia t (lastN b)) k = false := c2
          obtain ⟨ev7, ev8⟩ := i_bit0 hl8 (show k ≤ 64 by omega) hnb2
          have hfo : fol (sn t) b m k = false := by simp [fol, c, c2, hbne]
          have e1 := stay none (by rw [hfo]; rfl)
          refine ⟨[Ans.o (Orc.b true), Ans.o (Orc.val 44 (I (↑((↑m : Int).toNat >>> k) : Int)) H.nil), Ans.o (Orc.val 45 (I 0) H.nil), Ans.o Orc.dflt, Ans.o (Orc.b true), Ans.o (Orc.val 54 (I (↑(b.length - (1 : Nat)) : Int)) H.nil), Ans.o (Orc.val 55 (AV.cptr (ints (List.drop (b.length - (1 : Nat)) b))) H.nil), Ans.o (Orc.val 56 (I (b.getD (b.length - (1 : Nat)) i0)) H.nil), Ans.o (Orc.val 57 (AV.cptr (ints (List.drop (b.getD (b.length - (1 : Nat)) i0).toNat t))) H.nil), Ans.o (Orc.val 58 (I (t.getD (b.getD (b.length - (1 : Nat)) i0).toNat i0)) H.nil), Ans.o (Orc.val 60 (I (↑((ia t (lastN b)).toNat >>> k) : Int)) H.nil), Ans.o (Orc.val 61 (I 0) H.nil), Ans.o Orc.dflt, Ans.o (Orc.val 83 (I (↑(k + (1 : Nat)) : Int)) H.nil)], fun u => of_eq ((↑k : Int) < (↑t.length : Int) ∧ aBin Tryd.prog BinOp.shr (3 : Nat) (I (↑m : Int)) (I (↑k : Int)) = some (I (↑((↑m : Int).toNat >>> k) : Int)) ∧ aBin Tryd.prog BinOp.and (3 : Nat) (I (↑((↑m : Int).toNat >>> k) : Int)) (I 1) = some (I 0) ∧ (0 : Int) < (↑b.length : Int) ∧ aBin Tryd.prog BinOp.sub (3 : Nat) (I (↑b.length : Int)) (I 1) = some (I (↑(b.length - (1 : Nat)) : Int)) ∧ aIndexAddr Tryd.prog 22 (ls b (rq b)) (I (↑(b.length - (1 : Nat)) : Int)) = some (AV.cptr (ints (List.drop (b.length - (1 : Nat)) b))) ∧ aLoad Tryd.prog 3 (ints (List.drop (b.length - (1 : Nat)) b)) = some (I (b.getD (b.length - (1 : Nat)) i0)) ∧ aIndexAddr Tryd.prog 22 (ls t r) (I (b.getD (b.length - (1 : Nat)) i0)) = some (AV.cptr (ints (List.drop (b.getD (b.length - (1 : Nat)) i0).toNat t))) ∧ aLoad Tryd.prog 3 (ints (List.drop (b.getD (b.length - (1 : Nat)) i0).toNat t)) = some (I (t.getD (b.getD (b.length - (1 : Nat)) i0).toNat i0)) ∧ aBin Tryd.prog BinOp.shr (3 : Nat) (I (t.getD (b.getD (b.length - (1 : Nat)) i0).toNat i0)) (I (↑k : Int)) = some (I (↑((ia t (lastN b)).toNat >>> k) : Int)) ∧ aBin Tryd.prog BinOp.and (3 : Nat) (I (↑((ia t (lastN b)).toNat >>> k) : Int)) (I 1) = some (I 0) ∧ aBin Tryd.prog BinOp.add (3 : Nat) (I (↑k : Int)) (I 1) = some (I (↑(k + (1 : Nat)) : Int)) ∧ (84 : Nat) = (84 : Nat) ∧ k < t.length ∧ Keep ((fRw (sn t) t.length true f b m (k + (1 : Nat)) = none ∧ ∃ T_1, H.mk [] T [] = H.mk [] T_1 []) ∧ [ls t r, I (↑kk : Int), ls b (rq b), I (↑m : Int), AV.bool true, I (↑b.length : Int), I (↑t.length : Int), I (↑(k + (1 : Nat)) : Int)] = [ls t r, I (↑kk : Int), ls b (rq b), I (↑m : Int), AV.bool true, I (↑b.length : Int), I (↑t.length : Int), I (↑(k + (1 : Nat)) : Int)])) (by kernel_rfl) ?_⟩
          refine ⟨by first | with_reducible assumption | omega | assumption, ?_⟩
          refine ⟨by first | exact told_shr (by first | exact Int.natCast_nonneg _ | omega) (by with_reducible assumption) | exact told_shr (by omega) rfl, ?_⟩
          refine ⟨told_and (by with_reducible assumption), ?_⟩
          refine ⟨by first | with_reducible assumption | omega | assumption, ?_⟩
          refine ⟨told_sub (by with_reducible assumption), ?_⟩
          refine ⟨by first | exact ix_ints (by kernel_rfl) hb1 hrq | exact ix_intsI (by kernel_rfl) d0 d1 hri, ?_⟩
          refine ⟨by first | exact ld_ints (by kernel_rfl) (by kernel_rfl) hb1 | exact ld_ints (by kernel_rfl) (by kernel_rfl) d2, ?_⟩
          refine ⟨by first | exact ix_ints (by kernel_rfl) hb1 hrq | exact ix_intsI (by kernel_rfl) d0 d1 hri, ?_⟩
          refine ⟨by first | exact ld_ints (by kernel_rfl) (by kernel_rfl) hb1 | exact ld_ints (by kernel_rfl) (by kernel_rfl) d2, ?_⟩
          refine ⟨by first | exact told_shr (by first | exact Int.natCast_nonneg _ | omega) (by with_reducible assumption) | exact told_shr (by omega) rfl, ?_⟩
          refine ⟨told_and (by with_reducible assumption), ?_⟩
          refine ⟨told_add (by with_reducible assumption), ?_⟩
          refine ⟨by first | with_reducible assumption | omega | assumption, ?_⟩
          refine ⟨by first | with_reducible assumption | omega | assumption, ?_⟩
          exact ⟨⟨e1, T, rfl⟩, rfl⟩
        · have hnb2 : bi (ia t (lastN b)) k = true := c2
          obtain ⟨ev7, ev8⟩ := i_bit1 hl8 (show k ≤ 64 by omega) hnb2
          have hfo : fol (sn t) b m k = true := by simp [fol, c, c2]
          rw [hfo, if_pos rfl] at stay
          cases hw : wyM (sn t) t.length true f (b ++ [(k : Int)]) (m ||| 2 ^ k)
          · have hc := hc68n f hok (T := T) (H := ⟨[], T ++ [(b ++ [(k : Int)]).length], []⟩) p hz' hw
            have e1 := stay _ hw
            refine ⟨[Ans.o (Orc.b true), Ans.o (Orc.val 44 (I (↑((↑m : Int).toNat >>> k) : Int)) H.nil), Ans.o (Orc.val 45 (I 0) H.nil), Ans.o Orc.dflt, Ans.o (Orc.b true), Ans.o (Orc.val 54 (I (↑(b.length - (1 : Nat)) : Int)) H.nil), Ans.o (Orc.val 55 (AV.cptr (ints (List.drop (b.length - (1 : Nat)) b))) H.nil), Ans.o (Orc.val 56 (I (b.getD (b.length - (1 : Nat)) i0)) H.nil), Ans.o (Orc.val 57 (AV.cptr (ints (List.drop (b.getD (b.length - (1 : Nat)) i0).toNat t))) H.nil), Ans.o (Orc.val 58 (I (t.getD (b.getD (b.length - (1 : Nat)) i0).toNat i0)) H.nil), Ans.o (Orc.val 60 (I (↑((ia t (lastN b)).toNat >>> k) : Int)) H.nil), Ans.o (Orc.val 61 (I 1) H.nil), Ans.o Orc.dflt, Ans.o (Orc.val 70 (ls b (rs1 b)) H.nil), Ans.o (Orc.val 73 (ls (b ++ [(↑k : Int)]) (Room.tok T.length (1 : Nat))) (H.mk [] (T ++ [(b ++ [(↑k : Int)]).length]) [])), Ans.o (Orc.val 76 (I (↑((2 : Nat) ^ k) : Int)) H.nil), Ans.o (Orc.val 77 (I (↑(m ||| (2 : Nat) ^ k) : Int)) H.nil), Ans.o (Orc.val 79 (AV.sl [] (0 : Nat) Room.nil) (H.mk [] (T ++ [(b ++ [(↑k : Int)]).length]) [])), Ans.o (Orc.val 83 (I (↑(k + (1 : Nat)) : Int)) H.nil)], fun u => of_eq ((↑k : Int) < (↑t.length : Int) ∧ aBin Tryd.prog BinOp.shr (3 : Nat) (I (↑m : Int)) (I (↑k : Int)) = some (I (↑((↑m : Int).toNat >>> k) : Int)) ∧ aBin Tryd.prog BinOp.and (3 : Nat) (I (↑((↑m : Int).toNat >>> k) : Int)) (I 1) = some (I 0) ∧ (0 : Int) < (↑b.length : Int) ∧ aBin Tryd.prog BinOp.sub (3 : Nat) (I (↑b.length : Int)) (I 1) = some (I (↑(b.length - (1 : Nat)) : Int)) ∧ aIndexAddr Tryd.prog 22 (ls b (rq b)) (I (↑(b.length - (1 : Nat)) : Int)) = some (AV.cptr (ints (List.drop (b.length - (1 : Nat)) b))) ∧ aLoad Tryd.prog 3 (ints (List.drop (b.length - (1 : Nat)) b)) = some (I (b.getD (b.length - (1 : Nat)) i0)) ∧ aIndexAddr Tryd.prog 22 (ls t r) (I (b.getD (b.length - (1 : Nat)) i0)) = some (AV.cptr (ints (List.drop (b.getD (b.length - (1 : Nat)) i0).toNat t))) ∧ aLoad Tryd.prog 3 (ints (List.drop (b.getD (b.length - (1 : Nat)) i0).toNat t)) = some (I (t.getD (b.getD (b.length - (1 : Nat)) i0).toNat i0)) ∧ aBin Tryd.prog BinOp.shr (3 : Nat) (I (t.getD (b.getD (b.length - (1 : Nat)) i0).toNat i0)) (I (↑k : Int)) = some (I (↑((ia t (lastN b)).toNat >>> k) : Int)) ∧ aBin Tryd.prog BinOp.and (3 : Nat) (I (↑((ia t (lastN b)).toNat >>> k) : Int)) (I 1) = some (I 1) ∧ aSlice Tryd.prog 22 (ls b (rq b)) none (some (I (↑b.length : Int))) (some (I (↑b.length : Int))) (H.mk [] T []) = some (ls b (rs1 b)) ∧ aAppend Tryd.prog 22 (22 : Nat) (ls b (rs1 b)) (AV.sl [I (↑k : Int)] (1 : Nat) Room.full) (H.mk [] T []) = some (ls (b ++ [(↑k : Int)]) (Room.tok T.length (1 : Nat)), H.mk [] (T ++ [(b ++ [(↑k : Int)]).length]) []) ∧ aBin Tryd.prog BinOp.shl (3 : Nat) (I 1) (I (↑k : Int)) = some (I (↑((2 : Nat) ^ k) : Int)) ∧ aBin Tryd.prog BinOp.or (3 : Nat) (I (↑m : Int)) (I (↑((2 : Nat) ^ k) : Int)) = some (I (↑(m ||| (2 : Nat) ^ k) : Int)) ∧ aCall (Sof [(c68 f hok).to]) (AV.fn (Fn.func 68) [] []) [ls t r, I (↑kk : Int), ls (b ++ [(↑k : Int)]) (Room.tok T.length (1 : Nat)), I (↑(m ||| (2 : Nat) ^ k) : Int), AV.bool true] (H.mk [] (T ++ [(b ++ [(↑k : Int)]).length]) []) = some (AV.sl [] (0 : Nat) Room.nil, H.mk [] (T ++ [(b ++ [(↑k : Int)]).length]) []) ∧ aBin Tryd.prog BinOp.add (3 : Nat) (I (↑k : Int)) (I 1) = some (I (↑(k + (1 : Nat)) : Int)) ∧ (84 : Nat) = (84 : Nat) ∧ k < t.length ∧ Keep ((fRw (sn t) t.length true f b m (k + (1 : Nat)) = none ∧ ∃ T_1, H.mk [] (T ++ [(b ++ [(↑k : Int)]).length]) [] = H.mk [] T_1 []) ∧ [ls t r, I (↑kk : Int), ls b (rq b), I (↑m : Int), AV.bool true, I (↑b.length : Int), I (↑t.length : Int), I (↑(k + (1 : Nat)) : Int)] = [ls t r, I (↑kk : Int), ls b (rq b), I (↑m : Int), AV.bool true, I (↑b.length : Int), I (↑t.length : Int), I (↑(k + (1 : Nat)) : Int)])) (by kernel_rfl) ?_⟩
            refine ⟨by first | with_reducible assumption | omega | assumption, ?_⟩
            refine ⟨by first | exact told_shr (by first | exact Int.natCast_nonneg _ | omega) (by with_reducible assumption) | exact told_shr (by omega) rfl, ?_⟩
            refine ⟨told_and (by with_reducible assumption), ?_⟩
            refine ⟨by first | with_reducible assumption | omega | assumption, ?_⟩
            refine ⟨told_sub (by with_reducible assumption), ?_⟩
            refine ⟨by first | exact ix_ints (by kernel_rfl) hb1 hrq | exact ix_intsI (by kernel_rfl) d0 d1 hri, ?_⟩
            refine ⟨by first | exact ld_ints (by kernel_rfl) (by kernel_rfl) hb1 | exact ld_ints (by kernel_rfl) (by kernel_rfl) d2, ?_⟩
            refine ⟨by first | exact ix_ints (by kernel_rfl) hb1 hrq | exact ix_intsI (by kernel_rfl) d0 d1 hri, ?_⟩
            refine ⟨by first | exact ld_ints (by kernel_rfl) (by kernel_rfl) hb1 | exact ld_ints (by kernel_rfl) (by kernel_rfl) d2, ?_⟩
            refine ⟨by first | exact told_shr (by first | exact Int.natCast_nonneg _ | omega) (by with_reducible assumption) | exact told_shr (by omega) rfl, ?_⟩
            refine ⟨told_and (by with_reducible assumption), ?_⟩
            refine ⟨hS _, ?_⟩
            refine ⟨hA, ?_⟩
            refine ⟨by first | exact told_shl (by first | exact Int.natCast_nonneg _ | omega) (by with_reducible assumption) | exact told_shl (by omega) rfl, ?_⟩
            refine ⟨told_or (by with_reducible assumption), ?_⟩
            refine ⟨hc, ?_⟩
            refine ⟨told_add (by with_reducible assumption), ?_⟩
            refine ⟨by first | with_reducible assumption | omega | assumption, ?_⟩
            refine ⟨by first | with_reducible assumption | omega | assumption, ?_⟩
            exact ⟨⟨e1, _, rfl⟩, rfl⟩
          · rename_i l
            have hc := hc68s f hok (T := T) (H := ⟨[], T ++ [(b ++ [(k : Int)]).length], []⟩) p hz' hw
            have e1 := stop _ (stay _ hw)
            refine ⟨[Ans.o (Orc.b true), Ans.o (Orc.val 44 (I (↑((↑m : Int).toNat >>> k) : Int)) H.nil), Ans.o (Orc.val 45 (I 0) H.nil), Ans.o Orc.dflt, Ans.o (Orc.b true), Ans.o (Orc.val 54 (I (↑(b.length - (1 : Nat)) : Int)) H.nil), Ans.o (Orc.val 55 (AV.cptr (ints (List.drop (b.length - (1 : Nat)) b))) H.nil), Ans.o (Orc.val 56 (I (b.getD (b.length - (1 : Nat)) i0)) H.nil), Ans.o (Orc.val 57 (AV.cptr (ints (List.drop (b.getD (b.length - (1 : Nat)) i0).toNat t))) H.nil), Ans.o (Orc.val 58 (I (t.getD (b.getD (b.length - (1 : Nat)) i0).toNat i0)) H.nil), Ans.o (Orc.val 60 (I (↑((ia t (lastN b)).toNat >>> k) : Int)) H.nil), Ans.o (Orc.val 61 (I 1) H.nil), Ans.o Orc.dflt, Ans.o (Orc.val 70 (ls b (rs1 b)) H.nil), Ans.o (Orc.val 73 (ls (b ++ [(↑k : Int)]) (Room.tok T.length (1 : Nat))) (H.mk [] (T ++ [(b ++ [(↑k : Int)]).length]) [])), Ans.o (Orc.val 76 (I (↑((2 : Nat) ^ k) : Int)) H.nil), Ans.o (Orc.val 77 (I (↑(m ||| (2 : Nat) ^ k) : Int)) H.nil), Ans.o (Orc.val 79 (ls l Room.no) (H.mk [] (T ++ [(b ++ [(↑k : Int)]).length]) []))], fun u => of_eq ((↑k : Int) < (↑t.length : Int) ∧ aBin Tryd.prog BinOp.shr (3 : Nat) (I (↑m : Int)) (I (↑k : Int)) = some (I (↑((↑m : Int).toNat >>> k) : Int)) ∧ aBin Tryd.prog BinOp.and (3 : Nat) (I (↑((↑m : Int).toNat >>> k) : Int)) (I 1) = some (I 0) ∧ (0 : Int) < (↑b.length : Int) ∧ aBin Tryd.prog BinOp.sub (3 : Nat) (I (↑b.length : Int)) (I 1) = some (I (↑(b.length - (1 : Nat)) : Int)) ∧ aIndexAddr Tryd.prog 22 (ls b (rq b)) (I (↑(b.length - (1 : Nat)) : Int)) = some (AV.cptr (ints (List.drop (b.length - (1 : Nat)) b))) ∧ aLoad Tryd.prog 3 (ints (List.drop (b.length - (1 : Nat)) b)) = some (I (b.getD (b.length - (1 : Nat)) i0)) ∧ aIndexAddr Tryd.prog 22 (ls t r) (I (b.getD (b.length - (1 : Nat)) i0)) = some (AV.cptr (ints (List.drop (b.getD (b.length - (1 : Nat)) i0).toNat t))) ∧ aLoad Tryd.prog 3 (ints (List.drop (b.getD (b.length - (1 : Nat)) i0).toNat t)) = some (I (t.getD (b.getD (b.length - (1 : Nat)) i0).toNat i0)) ∧ aBin Tryd.prog BinOp.shr (3 : Nat) (I (t.getD (b.getD (b.length - (1 : Nat)) i0).toNat i0)) (I (↑k : Int)) = some (I (↑((ia t (lastN b)).toNat >>> k) : Int)) ∧ aBin Tryd.prog BinOp.and (3 : Nat) (I (↑((ia t (lastN b)).toNat >>> k) : Int)) (I 1) = some (I 1) ∧ aSlice Tryd.prog 22 (ls b (rq b)) none (some (I (↑b.length : Int))) (some (I (↑b.length : Int))) (H.mk [] T []) = some (ls b (rs1 b)) ∧ aAppend Tryd.prog 22 (22 : Nat) (ls b (rs1 b)) (AV.sl [I (↑k : Int)] (1 : Nat) Room.full) (H.mk [] T []) = some (ls (b ++ [(↑k : Int)]) (Room.tok T.length (1 : Nat)), H.mk [] (T ++ [(b ++ [(↑k : Int)]).length]) []) ∧ aBin Tryd.prog BinOp.shl (3 : Nat) (I 1) (I (↑k : Int)) = some (I (↑((2 : Nat) ^ k) : Int)) ∧ aBin Tryd.prog BinOp.or (3 : Nat) (I (↑m : Int)) (I (↑((2 : Nat) ^ k) : Int)) = some (I (↑(m ||| (2 : Nat) ^ k) : Int)) ∧ aCall (Sof [(c68 f hok).to]) (AV.fn (Fn.func 68) [] []) [ls t r, I (↑kk : Int), ls (b ++ [(↑k : Int)]) (Room.tok T.length (1 : Nat)), I (↑(m ||| (2 : Nat) ^ k) : Int), AV.bool true] (H.mk [] (T ++ [(b ++ [(↑k : Int)]).length]) []) = some (ls l Room.no, H.mk [] (T ++ [(b ++ [(↑k : Int)]).length]) []) ∧ (84 : Nat) = (84 : Nat) ∧ hits [Out.mk (List Int × List Nat) AX.ret [10] (fun y => fRw (sn t) t.length true f b m t.length = some y.fst) (fun y => [AV.sl (ints y.fst) y.fst.length Room.no]) (fun y => H.mk [] y.snd []) fun x => [], Out.mk (List Nat) (AX.exit 0) [] (fun x => fRw (sn t) t.length true f b m t.length = none) (fun x => []) (fun T => H.mk [] T []) fun x => []] AX.ret [ls t r, I (↑kk : Int), ls b (rq b), I (↑m : Int), AV.bool true, u (5 : Nat), u (6 : Nat), u (7 : Nat), u (8 : Nat), u (9 : Nat), ls l Room.no, I (↑b.length : Int), I (↑k : Int), ls l Room.no, u (14 : Nat), u (15 : Nat), u (16 : Nat), u (17 : Nat), u (18 : Nat), u (19 : Nat), u (20 : Nat), u (21 : Nat), u (22 : Nat), u (23 : Nat), u (24 : Nat), u (25 : Nat), u (26 : Nat), u (27 : Nat), u (28 : Nat), u (29 : Nat), u (30 : Nat), u (31 : Nat), u (32 : Nat), u (33 : Nat), u (34 : Nat), u (35 : Nat), u (36 : Nat), u (37 : Nat), I (↑t.length : Int), I (↑k : Int), AV.bool true, I (↑k : Int), I (↑m : Int), I (↑k : Int), I (↑((↑m : Int).toNat >>> k) : Int), I 0, AV.bool false, AV.bool false, I (↑b.length : Int), AV.bool true, AV.bool true, ls t r, ls b (rq b), I (↑b.length : Int), I (↑(b.length - (1 : Nat)) : Int), AV.cptr (ints (List.drop (b.length - (1 : Nat)) b)), I (b.getD (b.length - (1 : Nat)) i0), AV.cptr (ints (List.drop (b.getD (b.length - (1 : Nat)) i0).toNat t)), I (t.getD (b.getD (b.length - (1 : Nat)) i0).toNat i0), I (↑k : Int), I (↑((ia t (lastN b)).toNat >>> k) : Int), I 1, AV.bool false, AV.bool false, AV.bool false, ls t r, I (↑kk : Int), ls b (rq b), I (↑b.length : Int), I (↑b.length : Int), ls b (rs1 b), I (↑k : Int), AV.sl [I (↑k : Int)] (1 : Nat) Room.full, ls (b ++ [(↑k : Int)]) (Room.tok T.length (1 : Nat)), I (↑m : Int), I (↑k : Int), I (↑((2 : Nat) ^ k) : Int), I (↑(m ||| (2 : Nat) ^ k) : Int), AV.bool true, ls l Room.no, ls l Room.no, AV.bool true, ls l Room.no, u (83 : Nat)] (H.mk [] (T ++ [(b ++ [(↑k : Int)]).length]) [])) (by kernel_rfl) ?_⟩
            refine ⟨by first | with_reducible assumption | omega | assumption, ?_⟩
            refine ⟨by first | exact told_shr (by first | exact Int.natCast_nonneg _ | omega) (by with_reducible assumption) | exact told_shr (by omega) rfl, ?_⟩
            refine ⟨told_and (by with_reducible assumption), ?_⟩
            refine ⟨by first | with_reducible assumption | omega | assumption, ?_⟩
            refine ⟨told_sub (by with_reducible assumption), ?_⟩
            refine ⟨by first | exact ix_ints (by kernel_rfl) hb1 hrq | exact ix_intsI (by kernel_rfl) d0 d1 hri, ?_⟩
            refine ⟨by first | exact ld_ints (by kernel_rfl) (by kernel_rfl) hb1 | exact ld_ints (by kernel_rfl) (by kernel_rfl) d2, ?_⟩
            refine ⟨by first | exact ix_ints (by kernel_rfl) hb1 hrq | exact ix_intsI (by kernel_rfl) d0 d1 hri, ?_⟩
            refine ⟨by first | exact ld_ints (by kernel_rfl) (by kernel_rfl) hb1 | exact ld_ints (by kernel_rfl) (by kernel_rfl) d2, ?_⟩
            refine ⟨by first | exact told_shr (by first | exact Int.natCast_nonneg _ | omega) (by with_reducible assumption) | exact told_shr (by omega) rfl, ?_⟩
            refine ⟨told_and (by with_reducible assumption), ?_⟩
            refine ⟨hS _, ?_⟩
            refine ⟨hA, ?_⟩
            refine ⟨by first | exact told_shl (by first | exact Int.natCast_nonneg _ | omega) (by with_reducible assumption) | exact told_shl (by omega) rfl, ?_⟩
            refine ⟨told_or (by with_reducible assumption), ?_⟩
            refine ⟨hc, ?_⟩
            refine ⟨by first | with_reducible assumption | omega | assumption, ?_⟩
            exact .inl ⟨(l, _), e1, rfl, rfl, rfl⟩
    · have hnb : bi ((m : Nat) : Int) k = true := by simp only [bi, Int.toNat_natCast]; exact c
      obtain ⟨ev1, ev2⟩ := i_bit1 hs8 (show k ≤ 64 by omega) hnb
      have hfo : fol (sn t) b m k = false := by simp [fol, c]
      have e1 := stay none (by rw [hfo]; rfl)
      refine ⟨[Ans.o (Orc.b true), Ans.o (Orc.val 44 (I (↑((↑m : Int).toNat >>> k) : Int)) H.nil), Ans.o (Orc.val 45 (I 1) H.nil), Ans.o Orc.dflt, Ans.o (Orc.val 83 (I (↑(k + (1 : Nat)) : Int)) H.nil)], fun u => of_eq ((↑k : Int) < (↑t.length : Int) ∧ aBin Tryd.prog BinOp.shr (3 : Nat) (I (↑m : Int)) (I (↑k : Int)) = some (I (↑((↑m : Int).toNat >>> k) : Int)) ∧ aBin Tryd.prog BinOp.and (3 : Nat) (I (↑((↑m : Int).toNat >>> k) : Int)) (I 1) = some (I 1) ∧ aBin Tryd.prog BinOp.add (3 : Nat) (I (↑k : Int)) (I 1) = some (I (↑(k + (1 : Nat)) : Int)) ∧ (84 : Nat) = (84 : Nat) ∧ k < t.length ∧ Keep ((fRw (sn t) t.length true f b m (k + (1 : Nat)) = none ∧ ∃ T_1, H.mk [] T [] = H.mk [] T_1 []) ∧ [ls t r, I (↑kk : Int), ls b (rq b), I (↑m : Int), AV.bool true, I (↑b.length : Int), I (↑t.length : Int), I (↑(k + (1 : Nat)) : Int)] = [ls t r, I (↑kk : Int), ls b (rq b), I (↑m : Int), AV.bool true, I (↑b.length : Int), I (↑t.length : Int), I (↑(k + (1 : Nat)) : Int)])) (by kernel_rfl) ?_⟩
      refine ⟨by first | with_reducible assumption | omega | assumption, ?_⟩
      refine ⟨by first | exact told_shr (by first | exact Int.natCast_nonneg _ | omega) (by with_reducible assumption) | exact told_shr (by omega) rfl, ?_⟩
      refine ⟨told_and (by with_reducible assumption), ?_⟩
      refine ⟨told_add (by with_reducible assumption), ?_⟩
      refine ⟨by first | with_reducible assumption | omega | assumption, ?_⟩
      refine ⟨by first | with_reducible assumption | omega | assumption, ?_⟩
      exact ⟨⟨e1, T, rfl⟩, rfl⟩
  · have hz : (t.length : Int) ≤ k := by omega
    have e : k = t.length := by omega
    subst e
    refine ⟨[Ans.o (Orc.b false)], fun u => of_eq ((↑t.length : Int) ≤ (↑t.length : Int) ∧ (84 : Nat) = (84 : Nat) ∧ hits [Out.mk (List Int × List Nat) AX.ret [10] (fun y => fRw (sn t) t.length true f b m t.length = some y.fst) (fun y => [AV.sl (ints y.fst) y.fst.length Room.no]) (fun y => H.mk [] y.snd []) fun x => [], Out.mk (List Nat) (AX.exit 0) [] (fun x => fRw (sn t) t.length true f b m t.length = none) (fun x => []) (fun T => H.mk [] T []) fun x => []] (AX.exit 0) [ls t r, I (↑kk : Int), ls b (rq b), I (↑m : Int), AV.bool true, u (5 : Nat), u (6 : Nat), u (7 : Nat), u (8 : Nat), u (9 : Nat), u (10 : Nat), I (↑b.length : Int), u (12 : Nat), u (13 : Nat), u (14 : Nat), u (15 : Nat), u (16 : Nat), u (17 : Nat), u (18 : Nat), u (19 : Nat), u (20 : Nat), u (21 : Nat), u (22 : Nat), u (23 : Nat), u (24 : Nat), u (25 : Nat), u (26 : Nat), u (27 : Nat), u (28 : Nat), u (29 : Nat), u (30 : Nat), u (31 : Nat), u (32 : Nat), u (33 : Nat), u (34 : Nat), u (35 : Nat), u (36 : Nat), u (37 : Nat), I (↑t.length : Int), I (↑t.length : Int), AV.bool false, u (41 : Nat), u (42 : Nat), u (43 : Nat), u (44 : Nat), u (45 : Nat), u (46 : Nat), u (47 : Nat), u (48 : Nat), u (49 : Nat), u (50 : Nat), u (51 : Nat), u (52 : Nat), u (53 : Nat), u (54 : Nat), u (55 : Nat), u (56 : Nat), u (57 : Nat), u (58 : Nat), u (59 : Nat), u (60 : Nat), u (61 : Nat), u (62 : Nat), u (63 : Nat), u (64 : Nat), u (65 : Nat), u (66 : Nat), u (67 : Nat), u (68 : Nat), u (69 : Nat), u (70 : Nat), u (71 : Nat), u (72 : Nat), u (73 : Nat), u (74 : Nat), u (75 : Nat), u (76 : Nat), u (77 : Nat), u (78 : Nat), u (79 : Nat), u (80 : Nat), u (81 : Nat), u (82 : Nat), u (83 : Nat)] (H.mk [] T [])) (by kernel_rfl) ?_⟩
    refine ⟨by first | with_reducible assumption | omega | assumption, ?_⟩
    refine ⟨by first | with_reducible assumption | omega | assumption, ?_⟩
    exact .inr (.inl ⟨T, hf, rfl, rfl, rfl⟩)
theorem lp68f (f : Nat) (hok : Ok68 f) (t : List Int) (r : Room) (kk : Nat) (b : List Int) (m : Nat) (p : WyP t b r (f + 1) kk m) :
    LoopS (En6 [(c68 f hok).to]) (loopAt Tryd.f68 0) 84 [0, 1, 2, 3, 4, 11, 38, 39] [ls t r, I kk, lq b, I m, .bool false, I b.length, I t.length, I 0] .nil (o68 t b m f false) := by
  have hR : Rests (En6 [(c68 f hok).to]) none1 := rests mixed (ct68 f hok)
  have h := p.h
  have h8 := h.s.2
  have hr := p.r
  have hm := p.m
  have hl := p.l
  have hk8 := p.k8
  refine loop_sN hR (free68 f hok) simp68 none (by intro _ h; cases h) (fun k vs H => (fRw (sn t) t.length false f b m k = none ∧ ∃ T, H = ⟨[], T, []⟩) ∧ vs = [ls t r, I kk, lq b, I m, .bool false, I b.length, I t.length, I k]) t.length ⟨⟨rfl, [], rfl⟩, rfl⟩ (by intro _ h; cases h) ?_
  rintro k vs h' hk ⟨⟨hf, T, rfl⟩, rfl⟩
  by_cases hz : (k : Int) < t.length
  · have hz' : k < t.length := by omega
    have ev0 := wj1 (j := k) (by omega)
    have hs8 : s8 ((m : Nat) : Int) := by simp only [s8]; omega
    have stay : ∀ o, (if fol (sn t) b m k then wyM (sn t) t.length false f (b ++ [(k : Int)]) (m ||| 2 ^ k) else none) = o → fRw (sn t) t.length false f b m (k + 1) = o := fun o e => by rw [fRw, hf, e]; rfl
    have stop : ∀ l, fRw (sn t) t.length false f b m (k + 1) = some l → fRw (sn t) t.length false f b m t.length = some l := fun l e => by
      have := fRw_some e (t.length - (k + 1))
      rwa [show k + 1 + (t.length - (k + 1)) = t.length by omega] at this
    cases c : m.testBit k
    · have hnb : bi ((m : Nat) : Int) k = false := by simp only [bi, Int.toNat_natCast]; exact c
      obtain ⟨ev1, ev2⟩ := i_bit0 hs8 (show k ≤ 64 by omega) hnb
      have ev4 := pw_shl (n := k) (by omega)
      have h2 : 2 ^ k < 2 ^ 8 := Nat.pow_lt_pow_right (by decide) (by omega)
      have ev5 : IntKind.i64.wrap ((BitVec.ofInt IntKind.i64.bits ((m : Nat) : Int) ||| BitVec.ofInt IntKind.i64.bits ((2 ^ k : Nat) : Int)).toNat : Int) = ((m ||| 2 ^ k : Nat) : Int) := i_or (by omega) (by omega)
      have hS : ∀ H, aSlice Tryd.prog 22 (lq b) none (some (I b.length)) (some (I b.length)) H = some (.sl (ints b) b.length (rs1 b)) := fun H => sl_q (by kernel_rfl)
      have hS' := hS ⟨[], T, []⟩
      have hA := ap_qT (P := Tryd.prog) (t := 22) (by kernel_rfl) (b := b) (x := (k : Int)) (B := []) (T := T) (by omega)
      by_cases cb : b.length = 0
      · have hb0 : b = [] := List.length_eq_zero_iff.1 cb
        have cb1 : (b.length : Int) ≤ 0 := by omega
        have hfo : fol (sn t) b m k = true := by simp [fol, c, hb0]
        rw [hfo, if_pos rfl] at stay
        cases hw : wyM (sn t) t.length false f (b ++ [(k : Int)]) (m ||| 2 ^ k)
        · have hc := hc68n f hok (T := T) (H := ⟨[], T ++ [(b ++ [(k : Int)]).length], []⟩) p hz' hw
          have e1 := stay _ hw
          refine ⟨[Ans.o (Orc.b true), Ans.o (Orc.val 44 (I (↑((↑m : Int).toNat >>> k) : Int)) H.nil), Ans.o (Orc.val 45 (I 0) H.nil), Ans.o Orc.dflt, Ans.o (Orc.b false), Ans.o (Orc.val 70 (ls b (rs1 b)) H.nil), Ans.o (Orc.val 73 (ls (b ++ [(↑k : Int)]) (Room.tok T.length (1 : Nat))) (H.mk [] (T ++ [(b ++ [(↑k : Int)]).length]) [])), Ans.o (Orc.val 76 (I (↑((2 : Nat) ^ k) : Int)) H.nil), Ans.o (Orc.val 77 (I (↑(m ||| (2 : Nat) ^ k) : Int)) H.nil), Ans.o (Orc.val 79 (AV.sl [] (0 : Nat) Room.nil) (H.mk [] (T ++ [(b ++ [(↑k : Int)]).length]) [])), Ans.o (Orc.val 83 (I (↑(k + (1 : Nat)) : Int)) H.nil)], fun u => of_eq ((↑k : Int) < (↑t.length : Int) ∧ aBin Tryd.prog BinOp.shr (3 : Nat) (I (↑m : Int)) (I (↑k : Int)) = some (I (↑((↑m : Int).toNat >>> k) : Int)) ∧ aBin Tryd.prog BinOp.and (3 : Nat) (I (↑((↑m : Int).toNat >>> k) : Int)) (I 1) = some (I 0) ∧ (↑b.length : Int) ≤ (0 : Int) ∧ aSlice Tryd.prog 22 (ls b (rq b)) none (some (I (↑b.length : Int))) (some (I (↑b.length : Int))) (H.mk [] T []) = some (ls b (rs1 b)) ∧ aAppend Tryd.prog 22 (22 : Nat) (ls b (rs1 b)) (AV.sl [I (↑k : Int)] (1 : Nat) Room.full) (H.mk [] T []) = some (ls (b ++ [(↑k : Int)]) (Room.tok T.length (1 : Nat)), H.mk [] (T ++ [(b ++ [(↑k : Int)]).length]) []) ∧ aBin Tryd.prog BinOp.shl (3 : Nat) (I 1) (I (↑k : Int)) = some (I (↑((2 : Nat) ^ k) : Int)) ∧ aBin Tryd.prog BinOp.or (3 : Nat) (I (↑m : Int)) (I (↑((2 : Nat) ^ k) : Int)) = some (I (↑(m ||| (2 : Nat) ^ k) : Int)) ∧ aCall (Sof [(c68 f hok).to]) (AV.fn (Fn.func 68) [] []) [ls t r, I (↑kk : Int), ls (b ++ [(↑k : Int)]) (Room.tok T.length (1 : Nat)), I (↑(m ||| (2 : Nat) ^ k) : Int), AV.bool false] (H.mk [] (T ++ [(b ++ [(↑k : Int)]).length]) []) = some (AV.sl [] (0 : Nat) Room.nil, H.mk [] (T ++ [(b ++ [(↑k : Int)]).length]) []) ∧ aBin Tryd.prog BinOp.add (3 : Nat) (I (↑k : Int)) (I 1) = some (I (↑(k + (1 : Nat)) : Int)) ∧ (84 : Nat) = (84 : Nat) ∧ k < t.length ∧ Keep ((fRw (sn t) t.length false f b m (k + (1 : Nat)) = none ∧ ∃ T_1, H.mk [] (T ++ [(b ++ [(↑k : Int)]).length]) [] = H.mk [] T_1 []) ∧ [ls t r, I (↑kk : Int), ls b (rq b), I (↑m : Int), AV.bool false, I (↑b.length : Int), I (↑t.length : Int), I (↑(k + (1 : Nat)) : Int)] = [ls t r, I (↑kk : Int), ls b (rq b), I (↑m : Int), AV.bool false, I (↑b.length : Int), I (↑t.length : Int), I (↑(k + (1 : Nat)) : Int)])) (by kernel_rfl) ?_⟩
          refine ⟨by first | with_reducible assumption | omega | assumption, ?_⟩
          refine ⟨by first | exact told_shr (by first | exact Int.natCast_nonneg _ | omega) (by with_reducible assumption) | exact told_shr (by omega) rfl, ?_⟩
          refine ⟨told_and (by with_reducible assumption), ?_⟩
          refine ⟨by first | with_reducible assumption | omega | assumption, ?_⟩
          refine ⟨hS _, ?_⟩
          refine ⟨hA, ?_⟩
          refine ⟨by first | exact told_shl (by first | exact Int.natCast_nonneg _ | omega) (by with_reducible assumption) | exact told_shl (by omega) rfl, ?_⟩
          refine ⟨told_or (by with_reducible assumption), ?_⟩
          refine ⟨hc, ?_⟩
          refine ⟨told_add (by with_reducible assumption), ?_⟩
          refine ⟨by first | with_reducible assumption | omega | assumption, ?_⟩
          refine ⟨by first | with_reducible assumption | omega | assumption, ?_⟩
          exact ⟨⟨e1, _, rfl⟩, rfl⟩
        · rename_i l
          have hc := hc68s f hok (T := T) (H := ⟨[], T ++ [(b ++ [(k : Int)]).length], []⟩) p hz' hw
          have e1 := stop _ (stay _ hw)
          refine ⟨[Ans.o (Orc.b true), Ans.o (Orc.val 44 (I (↑((↑m : Int).toNat >>> k) : Int)) H.nil), Ans.o (Orc.val 45 (I 0) H.nil), Ans.o Orc.dflt, Ans.o (Orc.b false), Ans.o (Orc.val 70 (ls b (rs1 b)) H.nil), Ans.o (Orc.val 73 (ls (b ++ [(↑k : Int)]) (Room.tok T.length (1 : Nat))) (H.mk [] (T ++ [(b ++ [(↑k : Int)]).length]) [])), Ans.o (Orc.val 76 (I (↑((2 : Nat) ^ k) : Int)) H.nil), Ans.o (Orc.val 77 (I (↑(m ||| (2 : Nat) ^ k) : Int)) H.nil), Ans.o (Orc.val 79 (ls l Room.no) (H.mk [] (T ++ [(b ++ [(↑k : Int)]).length]) []))], fun u => of_eq ((↑k : Int) < (↑t.length : Int) ∧ aBin Tryd.prog BinOp.shr (3 : Nat) (I (↑m : Int)) (I (↑k : Int)) = some (I (↑((↑m : Int).toNat >>> k) : Int)) ∧ aBin Tryd.prog BinOp.and (3 : Nat) (I (↑((↑m : Int).toNat >>> k) : Int)) (I 1) = some (I 0) ∧ (↑b.length : Int) ≤ (0 : Int) ∧ aSlice Tryd.prog 22 (ls b (rq b)) none (some (I (↑b.length : Int))) (some (I (↑b.length : Int))) (H.mk [] T []) = some (ls b (rs1 b)) ∧ aAppend Tryd.prog 22 (22 : Nat) (ls b (rs1 b)) (AV.sl [I (↑k : Int)] (1 : Nat) Room.full) (H.mk [] T []) = some (ls (b ++ [(↑k : Int)]) (Room.tok T.length (1 : Nat)), H.mk [] (T ++ [(b ++ [(↑k : Int)]).length]) []) ∧ aBin Tryd.prog BinOp.shl (3 : Nat) (I 1) (I (↑k : Int)) = some (I (↑((2 : Nat) ^ k) : Int)) ∧ aBin Tryd.prog BinOp.or (3 : Nat) (I (↑m : Int)) (I (↑((2 : Nat) ^ k) : Int)) = some (I (↑(m ||| (2 : Nat) ^ k) : Int)) ∧ aCall (Sof [(c68 f hok).to]) (AV.fn (Fn.func 68) [] []) [ls t r, I (↑kk : Int), ls (b ++ [(↑k : Int)]) (Room.tok T.length (1 : Nat)), I (↑(m ||| (2 : Nat) ^ k) : Int), AV.bool false] (H.mk [] (T ++ [(b ++ [(↑k : Int)]).length]) []) = some (ls l Room.no, H.mk [] (T ++ [(b ++ [(↑k : Int)]).length]) []) ∧ (84 : Nat) = (84 : Nat) ∧ hits [Out.mk (List Int × List Nat) AX.ret [10] (fun y => fRw (sn t) t.length false f b m t.length = some y.fst) (fun y => [AV.sl (ints y.fst) y.fst.length Room.no]) (fun y => H.mk [] y.snd []) fun x => [], Out.mk (List Nat) (AX.exit 0) [] (fun x => fRw (sn t) t.length false f b m t.length = none) (fun x => []) (fun T => H.mk [] T []) fun x => []] AX.ret [ls t r, I (↑kk : Int), ls b (rq b), I (↑m : Int), AV.bool false, u (5 : Nat), u (6 : Nat), u (7 : Nat), u (8 : Nat), u (9 : Nat), ls l Room.no, I (↑b.length : Int), I (↑k : Int), ls l Room.no, u (14 : Nat), u (15 : Nat), u (16 : Nat), u (17 : Nat), u (18 : Nat), u (19 : Nat), u (20 : Nat), u (21 : Nat), u (22 : Nat), u (23 : Nat), u (24 : Nat), u (25 : Nat), u (26 : Nat), u (27 : Nat), u (28 : Nat), u (29 : Nat), u (30 : Nat), u (31 : Nat), u (32 : Nat), u (33 : Nat), u (34 : Nat), u (35 : Nat), u (36 : Nat), u (37 : Nat), I (↑t.length : Int), I (↑k : Int), AV.bool true, I (↑k : Int), I (↑m : Int), I (↑k : Int), I (↑((↑m : Int).toNat >>> k) : Int), I 0, AV.bool false, AV.bool false, I (↑b.length : Int), AV.bool false, AV.bool false, AV.tup [], AV.tup [], AV.tup [], AV.tup [], AV.tup [], AV.tup [], AV.tup [], AV.tup [], AV.tup [], AV.tup [], AV.tup [], AV.tup [], AV.bool false, AV.bool false, ls t r, I (↑kk : Int), ls b (rq b), I (↑b.length : Int), I (↑b.length : Int), ls b (rs1 b), I (↑k : Int), AV.sl [I (↑k : Int)] (1 : Nat) Room.full, ls (b ++ [(↑k : Int)]) (Room.tok T.length (1 : Nat)), I (↑m : Int), I (↑k : Int), I (↑((2 : Nat) ^ k) : Int), I (↑(m ||| (2 : Nat) ^ k) : Int), AV.bool false, ls l Room.no, ls l Room.no, AV.bool true, ls l Room.no, u (83 : Nat)] (H.mk [] (T ++ [(b ++ [(↑k : Int)]).length]) [])) (by kernel_rfl) ?_⟩
          refine ⟨by first | with_reducible assumption | omega | assumption, ?_⟩
          refine ⟨by first | exact told_shr (by first | exact Int.natCast_nonneg _ | omega) (by with_reducible assumption) | exact told_shr (by omega) rfl, ?_⟩
          refine ⟨told_and (by with_reducible assumption), ?_⟩
          refine ⟨by first | with_reducible assumption | omega | assumption, ?_⟩
          refine ⟨hS _, ?_⟩
          refine ⟨hA, ?_⟩
          refine ⟨by first | exact told_shl (by first | exact Int.natCast_nonneg _ | omega) (by with_reducible assumption) | exact told_shl (by omega) rfl, ?_⟩
          refine ⟨told_or (by with_reducible assumption), ?_⟩
          refine ⟨hc, ?_⟩
          refine ⟨by first | with_reducible assumption | omega | assumption, ?_⟩
          exact .inl ⟨(l, _), e1, rfl, rfl, rfl⟩
      · have hb1 : b.length - 1 < b.length := by omega
        have hbne : b ≠ [] := fun e => cb (by rw [e]; rfl)
        have hrq : rq b ≠ .nil := rq_rok b hbne
        have cb1 : (0 : Int) < (b.length : Int) := by omega
        obtain ⟨d0, d1⟩ := p.i _ hb1
        have d2 : (b.getD (b.length - 1) i0).toNat < t.length := by omega
        have hri := rok_idx hr d2
        have ev6 : IntKind.i64.wrap ((b.length : Int) - 1) = ((b.length - 1 : Nat) : Int) := by rw [wr _ (by omega) (by omega)]; omega
        have hl8 := h.s8 (lastN b)
        cases c2 : (sn t (lastN b)).testBit k
        · have hnb2 : bi (ia t (lastN b)) k = false := c2
          obtain ⟨ev7, ev8⟩ := i_bit0 hl8 (show k ≤ 64 by omega) hnb2
          have hfo : fol (sn t) b m k = false := by simp [fol, c, c2, hbne]
          have e1 := stay none (by rw [hfo]; rfl)
          refine ⟨[Ans.o (Orc.b true), Ans.o (Orc.val 44 (I (↑((↑m : Int).toNat >>> k) : Int)) H.nil), Ans.o (Orc.val 45 (I 0) H.nil), Ans.o Orc.dflt, Ans.o (Orc.b true), Ans.o (Orc.val 54 (I (↑(b.length - (1 : Nat)) : Int)) H.nil), Ans.o (Orc.val 55 (AV.cptr (ints (List.drop (b.length - (1 : Nat)) b))) H.nil), Ans.o (Orc.val 56 (I (b.getD (b.length - (1 : Nat)) i0)) H.nil), Ans.o (Orc.val 57 (AV.cptr (ints (List.drop (b.getD (b.length - (1 : Nat)) i0).toNat t))) H.nil), Ans.o (Orc.val 58 (I (t.getD (b.getD (b.length - (1 : Nat)) i0).toNat i0)) H.nil), Ans.o (Orc.val 60 (I (↑((ia t (lastN b)).toNat >>> k) : Int)) H.nil), Ans.o (Orc.val 61 (I 0) H.nil), Ans.o Orc.dflt, Ans.o (Orc.val 83 (I (↑(k + (1 : Nat)) : Int)) H.nil)], fun u => of_eq ((↑k : Int) < (↑t.length : Int) ∧ aBin Tryd.prog BinOp.shr (3 : Nat) (I (↑m : Int)) (I (↑k : Int)) = some (I (↑((↑m : Int).toNat >>> k) : Int)) ∧ aBin Tryd.prog BinOp.and (3 : Nat) (I (↑((↑m : Int).toNat >>> k) : Int)) (I 1) = some (I 0) ∧ (0 : Int) < (↑b.length : Int) ∧ aBin Tryd.prog BinOp.sub (3 : Nat) (I (↑b.length : Int)) (I 1) = some (I (↑(b.length - (1 : Nat)) : Int)) ∧ aIndexAddr Tryd.prog 22 (ls b (rq b)) (I (↑(b.length - (1 : Nat)) : Int)) = some (AV.cptr (ints (List.drop (b.length - (1 : Nat)) b))) ∧ aLoad Tryd.prog 3 (ints (List.drop (b.length - (1 : Nat)) b)) = some (I (b.getD (b.length - (1 : Nat)) i0)) ∧ aIndexAddr Tryd.prog 22 (ls t r) (I (b.getD (b.length - (1 : Nat)) i0)) = some (AV.cptr (ints (List.drop (b.getD (b.length - (1 : Nat)) i0).toNat t))) ∧ aLoad Tryd.prog 3 (ints (List.drop (b.getD (b.length - (1 : Nat)) i0).toNat t)) = some (I (t.getD (b.getD (b.length - (1 : Nat)) i0).toNat i0)) ∧ aBin Tryd.prog BinOp.shr (3 : Nat) (I (t.getD (b.getD (b.length - (1 : Nat)) i0).toNat i0)) (I (↑k : Int)) = some (I (↑((ia t (lastN b)).toNat >>> k) : Int)) ∧ aBin Tryd.prog BinOp.and (3 : Nat) (I (↑((ia t (lastN b)).toNat >>> k) : Int)) (I 1) = some (I 0) ∧ aBin Tryd.prog BinOp.add (3 : Nat) (I (↑k : Int)) (I 1) = some (I (↑(k + (1 : Nat)) : Int)) ∧ (84 : Nat) = (84 : Nat) ∧ k < t.length ∧ Keep ((fRw (sn t) t.length false f b m (k + (1 : Nat)) = none ∧ ∃ T_1, H.mk [] T [] = H.mk [] T_1 []) ∧ [ls t r, I (↑kk : Int), ls b (rq b), I (↑m : Int), AV.bool false, I (↑b.length : Int), I (↑t.length : Int), I (↑(k + (1 : Nat)) : Int)] = [ls t r, I (↑kk : Int), ls b (rq b), I (↑m : Int), AV.bool false, I (↑b.length : Int), I (↑t.length : Int), I (↑(k + (1 : Nat)) : Int)])) (by kernel_rfl) ?_⟩
          refine ⟨by first | with_reducible assumption | omega | assumption, ?_⟩
          refine ⟨by first | exact told_shr (by first | exact Int.natCast_nonneg _ | omega) (by with_reducible assumption) | exact told_shr (by omega) rfl, ?_⟩
          refine ⟨told_and (by with_reducible assumption), ?_⟩
          refine ⟨by first | with_reducible assumption | omega | assumption, ?_⟩
          refine ⟨told_sub (by with_reducible assumption), ?_⟩
          refine ⟨by first | exact ix_ints (by kernel_rfl) hb1 hrq | exact ix_intsI (by kernel_rfl) d0 d1 hri, ?_⟩
          refine ⟨by first | exact ld_ints (by kernel_rfl) (by kernel_rfl) hb1 | exact ld_ints (by kernel_rfl) (by kernel_rfl) d2, ?_⟩
          refine ⟨by first | exact ix_ints (by kernel_rfl) hb1 hrq | exact ix_intsI (by kernel_rfl) d0 d1 hri, ?_⟩
          refine ⟨by first | exact ld_ints (by kernel_rfl) (by kernel_rfl) hb1 | exact ld_ints (by kernel_rfl) (by kernel_rfl) d2, ?_⟩
          refine ⟨by first | exact told_shr (by first | exact Int.natCast_nonneg _ | omega) (by with_reducible assumption) | exact told_shr (by omega) rfl, ?_⟩
          refine ⟨told_and (by with_reducible assumption), ?_⟩
          refine ⟨told_add (by with_reducible assumption), ?_⟩
          refine ⟨by first | with_reducible assumption | omega | assumption, ?_⟩
          refine ⟨by first | with_reducible assumption | omega | assumption, ?_⟩
          exact ⟨⟨e1, T, rfl⟩, rfl⟩
        · have hnb2 : bi (ia t (lastN b)) k = true := c2
          obtain ⟨ev7, ev8⟩ := i_bit1 hl8 (show k ≤ 64 by omega) hnb2
          have hfo : fol (sn t) b m k = true := by simp [fol, c, c2]
          rw [hfo, if_pos rfl] at stay
          cases hw : wyM (sn t) t.length false f (b ++ [(k : Int)]) (m ||| 2 ^ k)
          · have hc := hc68n f hok (T := T) (H := ⟨[], T ++ [(b ++ [(k : Int)]).length], []⟩) p hz' hw
            have e1 := stay _ hw
            refine ⟨[Ans.o (Orc.b true), Ans.o (Orc.val 44 (I (↑((↑m : Int).toNat >>> k) : Int)) H.nil), Ans.o (Orc.val 45 (I 0) H.nil), Ans.o Orc.dflt, Ans.o (Orc.b true), Ans.o (Orc.val 54 (I (↑(b.length - (1 : Nat)) : Int)) H.nil), Ans.o (Orc.val 55 (AV.cptr (ints (List.drop (b.length - (1 : Nat)) b))) H.nil), Ans.o (Orc.val 56 (I (b.getD (b.length - (1 : Nat)) i0)) H.nil), Ans.o (Orc.val 57 (AV.cptr (ints (List.drop (b.getD (b.length - (1 : Nat)) i0).toNat t))) H.nil), Ans.o (Orc.val 58 (I (t.getD (b.getD (b.length - (1 : Nat)) i0).toNat i0)) H.nil), Ans.o (Orc.val 60 (I (↑((ia t (lastN b)).toNat >>> k) : Int)) H.nil), Ans.o (Orc.val 61 (I 1) H.nil), Ans.o Orc.dflt, Ans.o (Orc.val 70 (ls b (rs1 b)) H.nil), Ans.o (Orc.val 73 (ls (b ++ [(↑k : Int)]) (Room.tok T.length (1 : Nat))) (H.mk [] (T ++ [(b ++ [(↑k : Int)]).length]) [])), Ans.o (Orc.val 76 (I (↑((2 : Nat) ^ k) : Int)) H.nil), Ans.o (Orc.val 77 (I (↑(m ||| (2 : Nat) ^ k) : Int)) H.nil), Ans.o (Orc.val 79 (AV.sl [] (0 : Nat) Room.nil) (H.mk [] (T ++ [(b ++ [(↑k : Int)]).length]) [])), Ans.o (Orc.val 83 (I (↑(k + (1 : Nat)) : Int)) H.nil)], fun u => of_eq ((↑k : Int) < (↑t.length : Int) ∧ aBin Tryd.prog BinOp.shr (3 : Nat) (I (↑m : Int)) (I (↑k : Int)) = some (I (↑((↑m : Int).toNat >>> k) : Int)) ∧ aBin Tryd.prog BinOp.and (3 : Nat) (I (↑((↑m : Int).toNat >>> k) : Int)) (I 1) = some (I 0) ∧ (0 : Int) < (↑b.length : Int) ∧ aBin Tryd.prog BinOp.sub (3 : Nat) (I (↑b.length : Int)) (I 1) = some (I (↑(b.length - (1 : Nat)) : Int)) ∧ aIndexAddr Tryd.prog 22 (ls b (rq b)) (I (↑(b.length - (1 : Nat)) : Int)) = some (AV.cptr (ints (List.drop (b.length - (1 : Nat)) b))) ∧ aLoad Tryd.prog 3 (ints (List.drop (b.length - (1 : Nat)) b)) = some (I (b.getD (b.length - (1 : Nat)) i0)) ∧ aIndexAddr Tryd.prog 22 (ls t r) (I (b.getD (b.length - (1 : Nat)) i0)) = some (AV.cptr (ints (List.drop (b.getD (b.length - (1 : Nat)) i0).toNat t))) ∧ aLoad Tryd.prog 3 (ints (List.drop (b.getD (b.length - (1 : Nat)) i0).toNat t)) = some (I (t.getD (b.getD (b.length - (1 : Nat)) i0).toNat i0)) ∧ aBin Tryd.prog BinOp.shr (3 : Nat) (I (t.getD (b.getD (b.length - (1 : Nat)) i0).toNat i0)) (I (↑k : Int)) = some (I (↑((ia t (lastN b)).toNat >>> k) : Int)) ∧ aBin Tryd.prog BinOp.and (3 : Nat) (I (↑((ia t (lastN b)).toNat >>> k) : Int)) (I 1) = some (I 1) ∧ aSlice Tryd.prog 22 (ls b (rq b)) none (some (I (↑b.length : Int))) (some (I (↑b.length : Int))) (H.mk [] T []) = some (ls b (rs1 b)) ∧ aAppend Tryd.prog 22 (22 : Nat) (ls b (rs1 b)) (AV.sl [I (↑k : Int)] (1 : Nat) Room.full) (H.mk [] T []) = some (ls (b ++ [(↑k : Int)]) (Room.tok T.length (1 : Nat)), H.mk [] (T ++ [(b ++ [(↑k : Int)]).length]) []) ∧ aBin Tryd.prog BinOp.shl (3 : Nat) (I 1) (I (↑k : Int)) = some (I (↑((2 : Nat) ^ k) : Int)) ∧ aBin Tryd.prog BinOp.or (3 : Nat) (I (↑m : Int)) (I (↑((2 : Nat) ^ k) : Int)) = some (I (↑(m ||| (2 : Nat) ^ k) : Int)) ∧ aCall (Sof [(c68 f hok).to]) (AV.fn (Fn.func 68) [] []) [ls t r, I (↑kk : Int), ls (b ++ [(↑k : Int)]) (Room.tok T.length (1 : Nat)), I (↑(m ||| (2 : Nat) ^ k) : Int), AV.bool false] (H.mk [] (T ++ [(b ++ [(↑k : Int)]).length]) []) = some (AV.sl [] (0 : Nat) Room.nil, H.mk [] (T ++ [(b ++ [(↑k : Int)]).length]) []) ∧ aBin Tryd.prog BinOp.add (3 : Nat) (I (↑k : Int)) (I 1) = some (I (↑(k + (1 : Nat)) : Int)) ∧ (84 : Nat) = (84 : Nat) ∧ k < t.length ∧ Keep ((fRw (sn t) t.length false f b m (k + (1 : Nat)) = none ∧ ∃ T_1, H.mk [] (T ++ [(b ++ [(↑k : Int)]).length]) [] = H.mk [] T_1 []) ∧ [ls t r, I (↑kk : Int), ls b (rq b), I (↑m : Int), AV.bool false, I (↑b.length : Int), I (↑t.length : Int), I (↑(k + (1 : Nat)) : Int)] = [ls t r, I (↑kk : Int), ls b (rq b), I (↑m : Int), AV.bool false, I (↑b.length : Int), I (↑t.length : Int), I (↑(k + (1 : Nat)) : Int)])) (by kernel_rfl) ?_⟩
            refine ⟨by first | with_reducible assumption | omega | assumption, ?_⟩
            refine ⟨by first | exact told_shr (by first | exact Int.natCast_nonneg _ | omega) (by with_reducible assumption) | exact told_shr (by omega) rfl, ?_⟩
            refine ⟨told_and (by with_reducible assumption), ?_⟩
            refine ⟨by first | with_reducible assumption | omega | assumption, ?_⟩
            refine ⟨told_sub (by with_reducible assumption), ?_⟩
            refine ⟨by first | exact ix_ints (by kernel_rfl) hb1 hrq | exact ix_intsI (by kernel_rfl) d0 d1 hri, ?_⟩
            refine ⟨by first | exact ld_ints (by kernel_rfl) (by kernel_rfl) hb1 | exact ld_ints (by kernel_rfl) (by kernel_rfl) d2, ?_⟩
            refine ⟨by first | exact ix_ints (by kernel_rfl) hb1 hrq | exact ix_intsI (by kernel_rfl) d0 d1 hri, ?_⟩
            refine ⟨by first | exact ld_ints (by kernel_rfl) (by kernel_rfl) hb1 | exact ld_ints (by kernel_rfl) (by kernel_rfl) d2, ?_⟩
            refine ⟨by first | exact told_shr (by first | exact Int.natCast_nonneg _ | omega) (by with_reducible assumption) | exact told_shr (by omega) rfl, ?_⟩
            refine ⟨told_and (by with_reducible assumption), ?_⟩
            refine ⟨hS _, ?_⟩
            refine ⟨hA, ?_⟩
            refine ⟨by first | exact told_shl (by first | exact Int.natCast_nonneg _ | omega) (by with_reducible assumption) | exact told_shl (by omega) rfl, ?_⟩
            refine ⟨told_or (by with_reducible assumption), ?_⟩
            refine ⟨hc, ?_⟩
            refine ⟨told_add (by with_reducible assumption), ?_⟩
            refine ⟨by first | with_reducible assumption | omega | assumption, ?_⟩
            refine ⟨by first | with_reducible assumption | omega | assumption, ?_⟩
            exact ⟨⟨e1, _, rfl⟩, rfl⟩
          · rename_i l
            have hc := hc68s f hok (T := T) (H := ⟨[], T ++ [(b ++ [(k : Int)]).length], []⟩) p hz' hw
            have e1 := stop _ (stay _ hw)
            refine ⟨[Ans.o (Orc.b true), Ans.o (Orc.val 44 (I (↑((↑m : Int).toNat >>> k) : Int)) H.nil), Ans.o (Orc.val 45 (I 0) H.nil), Ans.o Orc.dflt, Ans.o (Orc.b true), Ans.o (Orc.val 54 (I (↑(b.length - (1 : Nat)) : Int)) H.nil), Ans.o (Orc.val 55 (AV.cptr (ints (List.drop (b.length - (1 : Nat)) b))) H.nil), Ans.o (Orc.val 56 (I (b.getD (b.length - (1 : Nat)) i0)) H.nil), Ans.o (Orc.val 57 (AV.cptr (ints (List.drop (b.getD (b.length - (1 : Nat)) i0).toNat t))) H.nil), Ans.o (Orc.val 58 (I (t.getD (b.getD (b.length - (1 : Nat)) i0).toNat i0)) H.nil), Ans.o (Orc.val 60 (I (↑((ia t (lastN b)).toNat >>> k) : Int)) H.nil), Ans.o (Orc.val 61 (I 1) H.nil), Ans.o Orc.dflt, Ans.o (Orc.val 70 (ls b (rs1 b)) H.nil), Ans.o (Orc.val 73 (ls (b ++ [(↑k : Int)]) (Room.tok T.length (1 : Nat))) (H.mk [] (T ++ [(b ++ [(↑k : Int)]).length]) [])), Ans.o (Orc.val 76 (I (↑((2 : Nat) ^ k) : Int)) H.nil), Ans.o (Orc.val 77 (I (↑(m ||| (2 : Nat) ^ k) : Int)) H.nil), Ans.o (Orc.val 79 (ls l Room.no) (H.mk [] (T ++ [(b ++ [(↑k : Int)]).length]) []))], fun u => of_eq ((↑k : Int) < (↑t.length : Int) ∧ aBin Tryd.prog BinOp.shr (3 : Nat) (I (↑m : Int)) (I (↑k : Int)) = some (I (↑((↑m : Int).toNat >>> k) : Int)) ∧ aBin Tryd.prog BinOp.and (3 : Nat) (I (↑((↑m : Int).toNat >>> k) : Int)) (I 1) = some (I 0) ∧ (0 : Int) < (↑b.length : Int) ∧ aBin Tryd.prog BinOp.sub (3 : Nat) (I (↑b.length : Int)) (I 1) = some (I (↑(b.length - (1 : Nat)) : Int)) ∧ aIndexAddr Tryd.prog 22 (ls b (rq b)) (I (↑(b.length - (1 : Nat)) : Int)) = some (AV.cptr (ints (List.drop (b.length - (1 : Nat)) b))) ∧ aLoad Tryd.prog 3 (ints (List.drop (b.length - (1 : Nat)) b)) = some (I (b.getD (b.length - (1 : Nat)) i0)) ∧ aIndexAddr Tryd.prog 22 (ls t r) (I (b.getD (b.length - (1 : Nat)) i0)) = some (AV.cptr (ints (List.drop (b.getD (b.length - (1 : Nat)) i0).toNat t))) ∧ aLoad Tryd.prog 3 (ints (List.drop (b.getD (b.length - (1 : Nat)) i0).toNat t)) = some (I (t.getD (b.getD (b.length - (1 : Nat)) i0).toNat i0)) ∧ aBin Tryd.prog BinOp.shr (3 : Nat) (I (t.getD (b.getD (b.length - (1 : Nat)) i0).toNat i0)) (I (↑k : Int)) = some (I (↑((ia t (lastN b)).toNat >>> k) : Int)) ∧ aBin Tryd.prog BinOp.and (3 : Nat) (I (↑((ia t (lastN b)).toNat >>> k) : Int)) (I 1) = some (I 1) ∧ aSlice Tryd.prog 22 (ls b (rq b)) none (some (I (↑b.length : Int))) (some (I (↑b.length : Int))) (H.mk [] T []) = some (ls b (rs1 b)) ∧ aAppend Tryd.prog 22 (22 : Nat) (ls b (rs1 b)) (AV.sl [I (↑k : Int)] (1 : Nat) Room.full) (H.mk [] T []) = some (ls (b ++ [(↑k : Int)]) (Room.tok T.length (1 : Nat)), H.mk [] (T ++ [(b ++ [(↑k : Int)]).length]) []) ∧ aBin Tryd.prog BinOp.shl (3 : Nat) (I 1) (I (↑k : Int)) = some (I (↑((2 : Nat) ^ k) : Int)) ∧ aBin Tryd.prog BinOp.or (3 : Nat) (I (↑m : Int)) (I (↑((2 : Nat) ^ k) : Int)) = some (I (↑(m ||| (2 : Nat) ^ k) : Int)) ∧ aCall (Sof [(c68 f hok).to]) (AV.fn (Fn.func 68) [] []) [ls t r, I (↑kk : Int), ls (b ++ [(↑k : Int)]) (Room.tok T.length (1 : Nat)), I (↑(m ||| (2 : Nat) ^ k) : Int), AV.bool false] (H.mk [] (T ++ [(b ++ [(↑k : Int)]).length]) []) = some (ls l Room.no, H.mk [] (T ++ [(b ++ [(↑k : Int)]).length]) []) ∧ (84 : Nat) = (84 : Nat) ∧ hits [Out.mk (List Int × List Nat) AX.ret [10] (fun y => fRw (sn t) t.length false f b m t.length = some y.fst) (fun y => [AV.sl (ints y.fst) y.fst.length Room.no]) (fun y => H.mk [] y.snd []) fun x => [], Out.mk (List Nat) (AX.exit 0) [] (fun x => fRw (sn t) t.length false f b m t.length = none) (fun x => []) (fun T => H.mk [] T []) fun x => []] AX.ret [ls t r, I (↑kk : Int), ls b (rq b), I (↑m : Int), AV.bool false, u (5 : Nat), u (6 : Nat), u (7 : Nat), u (8 : Nat), u (9 : Nat), ls l Room.no, I (↑b.length : Int), I (↑k : Int), ls l Room.no, u (14 : Nat), u (15 : Nat), u (16 : Nat), u (17 : Nat), u (18 : Nat), u (19 : Nat), u (20 : Nat), u (21 : Nat), u (22 : Nat), u (23 : Nat), u (24 : Nat), u (25 : Nat), u (26 : Nat), u (27 : Nat), u (28 : Nat), u (29 : Nat), u (30 : Nat), u (31 : Nat), u (32 : Nat), u (33 : Nat), u (34 : Nat), u (35 : Nat), u (36 : Nat), u (37 : Nat), I (↑t.length : Int), I (↑k : Int), AV.bool true, I (↑k : Int), I (↑m : Int), I (↑k : Int), I (↑((↑m : Int).toNat >>> k) : Int), I 0, AV.bool false, AV.bool false, I (↑b.length : Int), AV.bool true, AV.bool true, ls t r, ls b (rq b), I (↑b.length : Int), I (↑(b.length - (1 : Nat)) : Int), AV.cptr (ints (List.drop (b.length - (1 : Nat)) b)), I (b.getD (b.length - (1 : Nat)) i0), AV.cptr (ints (List.drop (b.getD (b.length - (1 : Nat)) i0).toNat t)), I (t.getD (b.getD (b.length - (1 : Nat)) i0).toNat i0), I (↑k : Int), I (↑((ia t (lastN b)).toNat >>> k) : Int), I 1, AV.bool false, AV.bool false, AV.bool false, ls t r, I (↑kk : Int), ls b (rq b), I (↑b.length : Int), I (↑b.length : Int), ls b (rs1 b), I (↑k : Int), AV.sl [I (↑k : Int)] (1 : Nat) Room.full, ls (b ++ [(↑k : Int)]) (Room.tok T.length (1 : Nat)), I (↑m : Int), I (↑k : Int), I (↑((2 : Nat) ^ k) : Int), I (↑(m ||| (2 : Nat) ^ k) : Int), AV.bool false, ls l Room.no, ls l Room.no, AV.bool true, ls l Room.no, u (83 : Nat)] (H.mk [] (T ++ [(b ++ [(↑k : Int)]).length]) [])) (by kernel_rfl) ?_⟩
            refine ⟨by first | with_reducible assumption | omega | assumption, ?_⟩
            refine ⟨by first | exact told_shr (by first | exact Int.natCast_nonneg _ | omega) (by with_reducible assumption) | exact told_shr (by omega) rfl, ?_⟩
            refine ⟨told_and (by with_reducible assumption), ?_⟩
            refine ⟨by first | with_reducible assumption | omega | assumption, ?_⟩
            refine ⟨told_sub (by with_reducible assumption), ?_⟩
            refine ⟨by first | exact ix_ints (by kernel_rfl) hb1 hrq | exact ix_intsI (by kernel_rfl) d0 d1 hri, ?_⟩
            refine ⟨by first | exact ld_ints (by kernel_rfl) (by kernel_rfl) hb1 | exact ld_ints (by kernel_rfl) (by kernel_rfl) d2, ?_⟩
            refine ⟨by first | exact ix_ints (by kernel_rfl) hb1 hrq | exact ix_intsI (by kernel_rfl) d0 d1 hri, ?_⟩
            refine ⟨by first | exact ld_ints (by kernel_rfl) (by kernel_rfl) hb1 | exact ld_ints (by kernel_rfl) (by kernel_rfl) d2, ?_⟩
            refine ⟨by first | exact told_shr (by first | exact Int.natCast_nonneg _ | omega) (by with_reducible assumption) | exact told_shr (by omega) rfl, ?_⟩
            refine ⟨told_and (by with_reducible assumption), ?_⟩
            refine ⟨hS _, ?_⟩
            refine ⟨hA, ?_⟩
            refine ⟨by first | exact told_shl (by first | exact Int.natCast_nonneg _ | omega) (by with_reducible assumption) | exact told_shl (by omega) rfl, ?_⟩
            refine ⟨told_or (by with_reducible assumption), ?_⟩
            refine ⟨hc, ?_⟩
            refine ⟨by first | with_reducible assumption | omega | assumption, ?_⟩
            exact .inl ⟨(l, _), e1, rfl, rfl, rfl⟩
    · have hnb : bi ((m : Nat) : Int) k = true := by simp only [bi, Int.toNat_natCast]; exact c
      obtain ⟨ev1, ev2⟩ := i_bit1 hs8 (show k ≤ 64 by omega) hnb
      have hfo : fol (sn t) b m k = false := by simp [fol, c]
      have e1 := stay none (by rw [hfo]; rfl)
      refine ⟨[Ans.o (Orc.b true), Ans.o (Orc.val 44 (I (↑((↑m : Int).toNat >>> k) : Int)) H.nil), Ans.o (Orc.val 45 (I 1) H.nil), Ans.o Orc.dflt, Ans.o (Orc.val 83 (I (↑(k + (1 : Nat)) : Int)) H.nil)], fun u => of_eq ((↑k : Int) < (↑t.length : Int) ∧ aBin Tryd.prog BinOp.shr (3 : Nat) (I (↑m : Int)) (I (↑k : Int)) = some (I (↑((↑m : Int).toNat >>> k) : Int)) ∧ aBin Tryd.prog BinOp.and (3 : Nat) (I (↑((↑m : Int).toNat >>> k) : Int)) (I 1) = some (I 1) ∧ aBin Tryd.prog BinOp.add (3 : Nat) (I (↑k : Int)) (I 1) = some (I (↑(k + (1 : Nat)) : Int)) ∧ (84 : Nat) = (84 : Nat) ∧ k < t.length ∧ Keep ((fRw (sn t) t.length false f b m (k + (1 : Nat)) = none ∧ ∃ T_1, H.mk [] T [] = H.mk [] T_1 []) ∧ [ls t r, I (↑kk : Int), ls b (rq b), I (↑m : Int), AV.bool false, I (↑b.length : Int), I (↑t.length : Int), I (↑(k + (1 : Nat)) : Int)] = [ls t r, I (↑kk : Int), ls b (rq b), I (↑m : Int), AV.bool false, I (↑b.length : Int), I (↑t.length : Int), I (↑(k + (1 : Nat)) : Int)])) (by kernel_rfl) ?_⟩
      refine ⟨by first | with_reducible assumption | omega | assumption, ?_⟩
      refine ⟨by first | exact told_shr (by first | exact Int.natCast_nonneg _ | omega) (by with_reducible assumption) | exact told_shr (by omega) rfl, ?_⟩
      refine ⟨told_and (by with_reducible assumption), ?_⟩
      refine ⟨told_add (by with_reducible assumption), ?_⟩
      refine ⟨by first | with_reducible assumption | omega | assumption, ?_⟩
      refine ⟨by first | with_reducible assumption | omega | assumption, ?_⟩
      exact ⟨⟨e1, T, rfl⟩, rfl⟩
  · have hz : (t.length : Int) ≤ k := by omega
    have e : k = t.length := by omega
    subst e
    refine ⟨[Ans.o (Orc.b false)], fun u => of_eq ((↑t.length : Int) ≤ (↑t.length : Int) ∧ (84 : Nat) = (84 : Nat) ∧ hits [Out.mk (List Int × List Nat) AX.ret [10] (fun y => fRw (sn t) t.length false f b m t.length = some y.fst) (fun y => [AV.sl (ints y.fst) y.fst.length Room.no]) (fun y => H.mk [] y.snd []) fun x => [], Out.mk (List Nat) (AX.exit 0) [] (fun x => fRw (sn t) t.length false f b m t.length = none) (fun x => []) (fun T => H.mk [] T []) fun x => []] (AX.exit 0) [ls t r, I (↑kk : Int), ls b (rq b), I (↑m : Int), AV.bool false, u (5 : Nat), u (6 : Nat), u (7 : Nat), u (8 : Nat), u (9 : Nat), u (10 : Nat), I (↑b.length : Int), u (12 : Nat), u (13 : Nat), u (14 : Nat), u (15 : Nat), u (16 : Nat), u (17 : Nat), u (18 : Nat), u (19 : Nat), u (20 : Nat), u (21 : Nat), u (22 : Nat), u (23 : Nat), u (24 : Nat), u (25 : Nat), u (26 : Nat), u (27 : Nat), u (28 : Nat), u (29 : Nat), u (30 : Nat), u (31 : Nat), u (32 : Nat), u (33 : Nat), u (34 : Nat), u (35 : Nat), u (36 : Nat), u (37 : Nat), I (↑t.length : Int), I (↑t.length : Int), AV.bool false, u (41 : Nat), u (42 : Nat), u (43 : Nat), u (44 : Nat), u (45 : Nat), u (46 : Nat), u (47 : Nat), u (48 : Nat), u (49 : Nat), u (50 : Nat), u (51 : Nat), u (52 : Nat), u (53 : Nat), u (54 : Nat), u (55 : Nat), u (56 : Nat), u (57 : Nat), u (58 : Nat), u (59 : Nat), u (60 : Nat), u (61 : Nat), u (62 : Nat), u (63 : Nat), u (64 : Nat), u (65 : Nat), u (66 : Nat), u (67 : Nat), u (68 : Nat), u (69 : Nat), u (70 : Nat), u (71 : Nat), u (72 : Nat), u (73 : Nat), u (74 : Nat), u (75 : Nat), u (76 : Nat), u (77 : Nat), u (78 : Nat), u (79 : Nat), u (80 : Nat), u (81 : Nat), u (82 : Nat), u (83 : Nat)] (H.mk [] T [])) (by kernel_rfl) ?_⟩
    refine ⟨by first | with_reducible assumption | omega | assumption, ?_⟩
    refine ⟨by first | with_reducible assumption | omega | assumption, ?_⟩
    exact .inr (.inl ⟨T, hf, rfl, rfl, rfl⟩)
end Go.Proofs.Rnk

