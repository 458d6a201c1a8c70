/- Layer 2: the most players without a cycle, by the program. -/
import Derived.Test.YtnnhomkkggkkfaaDoorRkL
import Derived.Test.YtnnhomkkggkkfaaDoorRkI
import Derived.Test.YtnnhomkkggkkfaaDoorVm8
import Derived.KernelRfl
set_option linter.unusedSimpArgs false
set_option linter.unusedVariables false
set_option linter.unnecessarySimpa false
set_option maxHeartbeats 4000000
set_option maxRecDepth 100000
namespace Go.Proofs.Rnk
open Go Go.VM
open Go.Proofs.Sur (andn andn_bit andn_le i_wrap i_and i_or i_andn i_shl i_shr bit_01)

abbrev d8 (x : Int) : Prop := 0 ≤ x ∧ x < 8
abbrev tr8 (x : Tri) : Prop := d8 x.1 ∧ d8 x.2.1 ∧ d8 x.2.2
theorem pw_shlI {x : Int} (h : d8 x) : IntKind.i64.wrap (1 * 2 ^ min x.toNat IntKind.i64.bits) = ((2 ^ x.toNat : Nat) : Int) := by
  obtain ⟨n, rfl⟩ : ∃ n : Nat, x = n := ⟨x.toNat, by omega⟩
  exact pw_shl (n := n) (by omega)
theorem pw_lt {x : Int} (h : d8 x) : 2 ^ x.toNat < 2 ^ 8 := Nat.pow_lt_pow_right (by decide) (by omega)
/-- the players of a cycle -/
abbrev memN (x : Tri) : Nat := 2 ^ x.1.toNat ||| 2 ^ x.2.1.toNat ||| 2 ^ x.2.2.toNat
theorem memN_lt {x : Tri} (h : tr8 x) : memN x < 256 := Nat.or_lt_two_pow (n := 8) (Nat.or_lt_two_pow (n := 8) (pw_lt h.1) (pw_lt h.2.1)) (pw_lt h.2.2)
theorem ok84 : FokM Tryd.prog none1 84 Tryd.f84 := ⟨mixed, by kernel_rfl, by kernel_rfl, by kernel_rfl, by kernel_rfl⟩
theorem r84 (a : Int) (b : Int) (c : Int) (hp : d8 a ∧ d8 b ∧ d8 c) : Body ⟨Tryd.prog, Sof (P := Tryd.prog) [], Pof (P := Tryd.prog) [], H.nil.base, 300⟩ none1 Tryd.f84 [.agg [I a, I b, I c]] .nil (I (memN (a, b, c) : Nat), .nil) := by
  have ev0 := pw_shlI hp.1
  have ev1 := pw_shlI hp.2.1
  have ev2 := pw_shlI hp.2.2
  have l0 := pw_lt hp.1
  have l1 := pw_lt hp.2.1
  have l2 := pw_lt hp.2.2
  have l3 : 2 ^ a.toNat ||| 2 ^ b.toNat < 2 ^ 8 := Nat.or_lt_two_pow l0 l1
  have ev3 := i_or (a := 2 ^ a.toNat) (b := 2 ^ b.toNat) (by omega) (by omega)
  have ev4 := i_or (a := 2 ^ a.toNat ||| 2 ^ b.toNat) (b := 2 ^ c.toNat) (by omega) (by omega)
  refine body_s ([Ans.o (Orc.val 5 (I (↑((2 : Nat) ^ a.toNat) : Int)) H.nil), Ans.o (Orc.val 8 (I (↑((2 : Nat) ^ b.toNat) : Int)) H.nil), Ans.o (Orc.val 9 (I (↑((2 : Nat) ^ a.toNat ||| (2 : Nat) ^ b.toNat) : Int)) H.nil), Ans.o (Orc.val 12 (I (↑((2 : Nat) ^ c.toNat) : Int)) H.nil), Ans.o (Orc.val 13 (I (↑((2 : Nat) ^ a.toNat ||| (2 : Nat) ^ b.toNat ||| (2 : Nat) ^ c.toNat) : Int)) H.nil)]) (aBin Tryd.prog BinOp.shl (3 : Nat) (I 1) (I a) = some (I (↑((2 : Nat) ^ a.toNat) : Int)) ∧ aBin Tryd.prog BinOp.shl (3 : Nat) (I 1) (I b) = some (I (↑((2 : Nat) ^ b.toNat) : Int)) ∧ aBin Tryd.prog BinOp.or (3 : Nat) (I (↑((2 : Nat) ^ a.toNat) : Int)) (I (↑((2 : Nat) ^ b.toNat) : Int)) = some (I (↑((2 : Nat) ^ a.toNat ||| (2 : Nat) ^ b.toNat) : Int)) ∧ aBin Tryd.prog BinOp.shl (3 : Nat) (I 1) (I c) = some (I (↑((2 : Nat) ^ c.toNat) : Int)) ∧ aBin Tryd.prog BinOp.or (3 : Nat) (I (↑((2 : Nat) ^ a.toNat ||| (2 : Nat) ^ b.toNat) : Int)) (I (↑((2 : Nat) ^ c.toNat) : Int)) = some (I (↑((2 : Nat) ^ a.toNat ||| (2 : Nat) ^ b.toNat ||| (2 : Nat) ^ c.toNat) : Int)) ∧ (I (↑((2 : Nat) ^ a.toNat ||| (2 : Nat) ^ b.toNat ||| (2 : Nat) ^ c.toNat) : Int), H.mk [] [] []) = (I (↑(memN (a, b, c)) : Int), H.mk [] [] [])) (by kernel_rfl) ?_
  refine ⟨by first | exact told_shl (by first | exact Int.natCast_nonneg _ | omega) (by with_reducible assumption) | exact told_shl (by omega) rfl, ?_⟩
  refine ⟨by first | exact told_shl (by first | exact Int.natCast_nonneg _ | omega) (by with_reducible assumption) | exact told_shl (by omega) rfl, ?_⟩
  refine ⟨told_or (by with_reducible assumption), ?_⟩
  refine ⟨by first | exact told_shl (by first | exact Int.natCast_nonneg _ | omega) (by with_reducible assumption) | exact told_shl (by omega) rfl, ?_⟩
  refine ⟨told_or (by with_reducible assumption), ?_⟩
  first | with_reducible rfl | (refine bleaf_t ?_; omega) | (refine bleaf_f ?_; omega) | (refine ileaf ?_; omega) | rfl | (exfalso; omega)
noncomputable def c84 : PCtr Tryd.prog := sctr ok84 (X := Int × Int × Int) (fun x => [.agg [I x.1, I x.2.1, I x.2.2]]) (fun x => d8 x.1 ∧ d8 x.2.1 ∧ d8 x.2.2) (fun x => I (memN (x.1, x.2.1, x.2.2) : Nat)) (by intro x y e _ _; simp [Int.natCast_inj] at e; simp [e]) (fun x => by simp [AV.bnds, AV.bnd, AV.wk, rm_wk_bnd]) (fun x => by first | rfl | (simp [AV.bnd, rm_wk_bnd]; done)  | (simp [AV.bnd, AV.bnds, rm_wk_bnd]; done) | simp [AV.bnd, AV.bnds, Room.bnd, rm_wk_bnd]) (fun x hx => ⟨_, _, _, .nil, r84 (x.1) (x.2.1) (x.2.2) hx⟩)
theorem acall_hit2 {P : Program} {c : Ctr P} {cs : List (Ctr P)} (x : c.X) {h : H} {us cap : List AV} (he : Ctr.first c.f cs = some c) (ha : us ++ cap = c.args x) (hp : c.pre x h) : aCall (Sof cs) (.fn (.func c.f) [] cap) us h = some (c.res x h) := by
  simp only [aCall, List.nil_append]
  rw [ha]
  exact sof_hit c cs he x h hp
/-- all players of a cycle are in a set -/
def ins (x : Tri) (s : Int) : Bool := decide (andn (memN x) s.toNat = 0)
abbrev hS (s : Int) : H := ⟨[[I s]], [], []⟩
theorem hS_closed (s : Int) : (hS s).closed := ⟨rfl, rfl, fun cs hcs => by simp only [List.mem_singleton] at hcs; subst hcs; rfl⟩
noncomputable abbrev EnS (cs : List (Ctr Tryd.prog)) (s : Int) : Env := ⟨Tryd.prog, Sof (P := Tryd.prog) cs, Pof (P := Tryd.prog) [], (hS s).base, 300⟩
theorem ok83 : FokM Tryd.prog none1 83 Tryd.f83 := ⟨mixed, by kernel_rfl, by kernel_rfl, by kernel_rfl, by kernel_rfl⟩
theorem r83 (x : Tri) (s : Int) (hx : tr8 x) (hs : s8 s) : Body (EnS [c84.to] s) none1 Tryd.f83 [.agg [I x.1, I x.2.1, I x.2.2], .ptr 0 0] (hS s) (.bool (ins x s), hS s) := by
  obtain ⟨a, rfl⟩ : ∃ a : Nat, s = a := ⟨s.toNat, by omega⟩
  have hm := memN_lt hx
  have ev0 := i_andn (a := memN x) (b := a) (by omega)
  by_cases h : andn (memN x) a = 0
  · have e : ins x (a : Int) = true := by simp only [ins, Int.toNat_natCast, h, decide_true]
    have h0 : ((andn (memN x) a : Nat) : Int) = 0 := by rw [h]; rfl
    rw [e]
    refine body_s ([Ans.o (Orc.val 5 (I (↑(memN (x.fst, x.snd.fst, x.snd.snd)) : Int)) (H.mk [[I (↑a : Int)], [I x.fst, I x.snd.fst, I x.snd.snd]] [] [])), Ans.o (Orc.val 7 (I (↑(andn (memN x) a) : Int)) H.nil), Ans.o (Orc.b true)]) (aCall (Sof [c84.to]) (AV.fn (Fn.func (84 : Nat)) [] []) [AV.agg [I x.fst, I x.snd.fst, I x.snd.snd]] (H.mk [[I (↑a : Int)], [I x.fst, I x.snd.fst, I x.snd.snd]] [] []) = some (I (↑(memN (x.fst, x.snd.fst, x.snd.snd)) : Int), H.mk [[I (↑a : Int)], [I x.fst, I x.snd.fst, I x.snd.snd]] [] []) ∧ aBin Tryd.prog BinOp.andNot (3 : Nat) (I (↑(memN (x.fst, x.snd.fst, x.snd.snd)) : Int)) (I (↑a : Int)) = some (I (↑(andn (memN x) a) : Int)) ∧ (↑(andn (memN x) a) : Int) = (0 : Int) ∧ (AV.bool true, H.mk [[I (↑a : Int)]] [] []) = (AV.bool true, H.mk [[I (↑a : Int)]] [] [])) (by kernel_rfl) ?_
    refine ⟨acall_hit (c := c84.to) (x.1, x.2.1, x.2.2) _ rfl hx, ?_⟩
    refine ⟨told_andn (by with_reducible assumption), ?_⟩
    refine ⟨by first | with_reducible assumption | omega | assumption, ?_⟩
    first | with_reducible rfl | (refine bleaf_t ?_; omega) | (refine bleaf_f ?_; omega) | (refine ileaf ?_; omega) | rfl | (exfalso; omega)
  · have e : ins x (a : Int) = false := by simp only [ins, Int.toNat_natCast, h, decide_false]
    have h0 : ((andn (memN x) a : Nat) : Int) ≠ 0 := fun q => h (by omega)
    rw [e]
    refine body_s ([Ans.o (Orc.val 5 (I (↑(memN (x.fst, x.snd.fst, x.snd.snd)) : Int)) (H.mk [[I (↑a : Int)], [I x.fst, I x.snd.fst, I x.snd.snd]] [] [])), Ans.o (Orc.val 7 (I (↑(andn (memN x) a) : Int)) H.nil), Ans.o (Orc.b false)]) (aCall (Sof [c84.to]) (AV.fn (Fn.func (84 : Nat)) [] []) [AV.agg [I x.fst, I x.snd.fst, I x.snd.snd]] (H.mk [[I (↑a : Int)], [I x.fst, I x.snd.fst, I x.snd.snd]] [] []) = some (I (↑(memN (x.fst, x.snd.fst, x.snd.snd)) : Int), H.mk [[I (↑a : Int)], [I x.fst, I x.snd.fst, I x.snd.snd]] [] []) ∧ aBin Tryd.prog BinOp.andNot (3 : Nat) (I (↑(memN (x.fst, x.snd.fst, x.snd.snd)) : Int)) (I (↑a : Int)) = some (I (↑(andn (memN x) a) : Int)) ∧ (↑(andn (memN x) a) : Int) ≠ (0 : Int) ∧ (AV.bool false, H.mk [[I (↑a : Int)]] [] []) = (AV.bool false, H.mk [[I (↑a : Int)]] [] [])) (by kernel_rfl) ?_
    refine ⟨acall_hit (c := c84.to) (x.1, x.2.1, x.2.2) _ rfl hx, ?_⟩
    refine ⟨told_andn (by with_reducible assumption), ?_⟩
    refine ⟨by first | with_reducible assumption | omega | assumption, ?_⟩
    first | with_reducible rfl | (refine bleaf_t ?_; omega) | (refine bleaf_f ?_; omega) | (refine ileaf ?_; omega) | rfl | (exfalso; omega)
noncomputable def c83s (s : Int) : Ctr Tryd.prog :=
  fctr ok83 (hS s) (X := Tri) (fun x => [.agg [I x.1, I x.2.1, I x.2.2], .ptr 0 0]) (fun x => tr8 x ∧ s8 s) (fun x => .bool (ins x s))
    (by rintro ⟨a, b, c⟩ ⟨a', b', c'⟩ e _ _; simp at e; obtain ⟨rfl, rfl, rfl⟩ := e; rfl) (hS_closed s) (fun _ _ => rfl) (fun _ _ => rfl) (fun x hx => ⟨_, _, _, .pure c84 .nil, r83 x s hx.1 hx.2⟩)
theorem c83_reads (s : Int) : (c83s s).Reads := fctr_reads ..
abbrev ts (l : List Tri) (r : Room) : AV := .sl (trisA l) l.length r
abbrev cl83 : AV := .fn (.func 83) [] [.ptr 0 0]
/-- the first cycle within a set -/
def ixV (l : List Tri) (s : Int) : Int :=
  match (List.range l.length).find? (fun i => ins (l.getD i tri0) s) with
  | some i => i
  | none => -1
theorem ixV_some {l : List Tri} {s : Int} {i : Nat} (hi : i < l.length) (h : ins (l.getD i tri0) s = true) (hn : ∀ k, k < i → ins (l.getD k tri0) s = false) : ixV l s = i := by
  have : (List.range l.length).find? (fun i => ins (l.getD i tri0) s) = some i := by
    rw [List.find?_range_eq_some]
    exact ⟨h, List.mem_range.2 hi, fun j hj => by rw [hn j hj]; rfl⟩
  simp only [ixV, this]
theorem ixV_none {l : List Tri} {s : Int} (hn : ∀ k, k < l.length → ins (l.getD k tri0) s = false) : ixV l s = -1 := by
  have : (List.range l.length).find? (fun i => ins (l.getD i tri0) s) = none := by
    rw [List.find?_eq_none]
    intro x hx
    rw [hn x (List.mem_range.1 hx)]; simp
  simp only [ixV, this]
abbrev al8 (l : List Tri) : Prop := ∀ i, i < l.length → tr8 (l.getD i tri0)
abbrev o102 (l : List Tri) (s : Int) : List Out := [.mk Nat .ret [4] (fun i => i < l.length ∧ ixV l s = i) (fun i => [I (i : Nat)]) (fun _ => hS s) (fun _ => []), .mk Unit (.exit 0) [] (fun _ => ixV l s = -1) (fun _ => []) (fun _ => hS s) (fun _ => [])]
theorem simp102 : allSimpleM none1 (loopAt Tryd.f102 0) = true := by kernel_rfl
theorem lp102 (l : List Tri) (r : Room) (s : Int) (hl : l.length ≤ 1000) (hr : rok l r) (ha : al8 l) (hs : s8 s) :
    LoopS (EnS [c83s s] s) (loopAt Tryd.f102 0) 19 [0, 1, 7, 8] [ts l r, cl83, I l.length, I 0] (hS s) (o102 l s) := by
  have hR : Rests (EnS [c83s s] s) none1 := rests mixed (.rd _ (c83_reads s) .nil)
  refine loop_s hR simp102 none (by intro _ h; cases h) (fun j vs h => h = hS s ∧ vs = [ts l r, cl83, I l.length, I j] ∧ ∀ k, k < j → ins (l.getD k tri0) s = false) l.length ⟨rfl, rfl, fun k hk => absurd hk (by omega)⟩ (by intro _ h; cases h) ?_
  rintro j vs h hj ⟨rfl, rfl, hn⟩
  by_cases hz : (j : Int) < l.length
  · have hz' : j < l.length := by omega
    have hri := rok_idx hr hz'
    have ev0 := wj1 (j := j) (by omega)
    have p83 : tr8 (l.getD j tri0) ∧ s8 s := ⟨ha j hz', hs⟩
    cases hb : ins (l.getD j tri0) s
    · have hk := all_succ (q := fun k => ins (l.getD k tri0) s = false) hn hb
      refine ⟨[Ans.o (Orc.b true), Ans.o (Orc.val 14 (AV.cptr (trisA (List.drop j l))) H.nil), Ans.o (Orc.val 15 (AV.agg [I (l.getD j tri0).fst, I (l.getD j tri0).snd.fst, I (l.getD j tri0).snd.snd]) H.nil), Ans.o (Orc.val 16 (AV.bool false) (H.mk [[I s]] [] [])), Ans.o (Orc.val 18 (I (↑(j + (1 : Nat)) : Int)) H.nil)], fun u => of_eq ((↑j : Int) < (↑l.length : Int) ∧ aIndexAddr Tryd.prog (38 : Nat) (AV.sl (trisA l) l.length r) (I (↑j : Int)) = some (AV.cptr (trisA (List.drop j l))) ∧ aLoad Tryd.prog (42 : Nat) (trisA (List.drop j l)) = some (AV.agg [I (l.getD j tri0).fst, I (l.getD j tri0).snd.fst, I (l.getD j tri0).snd.snd]) ∧ aCall (Sof [c83s s]) (AV.fn (Fn.func (83 : FuncId)) [] [AV.ptr 0 0]) [AV.agg [I (l.getD j tri0).fst, I (l.getD j tri0).snd.fst, I (l.getD j tri0).snd.snd]] (H.mk [[I s]] [] []) = some (AV.bool false, H.mk [[I s]] [] []) ∧ aBin Tryd.prog BinOp.add (3 : Nat) (I (↑j : Int)) (I 1) = some (I (↑(j + (1 : Nat)) : Int)) ∧ (19 : Nat) = (19 : Nat) ∧ j < l.length ∧ Keep (H.mk [[I s]] [] [] = H.mk [[I s]] [] [] ∧ [AV.sl (trisA l) l.length r, AV.fn (Fn.func (83 : FuncId)) [] [AV.ptr 0 0], I (↑l.length : Int), I (↑(j + (1 : Nat)) : Int)] = [AV.sl (trisA l) l.length r, AV.fn (Fn.func (83 : FuncId)) [] [AV.ptr 0 0], I (↑l.length : Int), I (↑(j + (1 : Nat)) : Int)] ∧ ∀ (k : Nat), k < j + (1 : Nat) → ins (l.getD k tri0) s = false)) (by kernel_rfl) ?_⟩
      refine ⟨by first | with_reducible assumption | omega | assumption, ?_⟩
      refine ⟨ix_tris (by kernel_rfl) hz' hri, ?_⟩
      refine ⟨by first | exact ld_tris (by kernel_rfl) (by kernel_rfl) (by kernel_rfl) (by omega), ?_⟩
      refine ⟨acall_b (acall_hit2 (c := c83s s) (l.getD j tri0) rfl rfl ⟨p83, [], rfl⟩) hb, ?_⟩
      refine ⟨told_add (by with_reducible assumption), ?_⟩
      refine ⟨by first | with_reducible assumption | omega | assumption, ?_⟩
      refine ⟨by first | with_reducible assumption | omega | assumption, ?_⟩
      exact ⟨rfl, rfl, hk⟩
    · have hx := ixV_some hz' hb hn
      refine ⟨[Ans.o (Orc.b true), Ans.o (Orc.val 14 (AV.cptr (trisA (List.drop j l))) H.nil), Ans.o (Orc.val 15 (AV.agg [I (l.getD j tri0).fst, I (l.getD j tri0).snd.fst, I (l.getD j tri0).snd.snd]) H.nil), Ans.o (Orc.val 16 (AV.bool true) (H.mk [[I s]] [] []))], fun u => of_eq ((↑j : Int) < (↑l.length : Int) ∧ aIndexAddr Tryd.prog (38 : Nat) (AV.sl (trisA l) l.length r) (I (↑j : Int)) = some (AV.cptr (trisA (List.drop j l))) ∧ aLoad Tryd.prog (42 : Nat) (trisA (List.drop j l)) = some (AV.agg [I (l.getD j tri0).fst, I (l.getD j tri0).snd.fst, I (l.getD j tri0).snd.snd]) ∧ aCall (Sof [c83s s]) (AV.fn (Fn.func (83 : FuncId)) [] [AV.ptr 0 0]) [AV.agg [I (l.getD j tri0).fst, I (l.getD j tri0).snd.fst, I (l.getD j tri0).snd.snd]] (H.mk [[I s]] [] []) = some (AV.bool true, H.mk [[I s]] [] []) ∧ (19 : Nat) = (19 : Nat) ∧ hits [Out.mk Nat AX.ret [(4 : Nat)] (fun i => i < l.length ∧ ixV l s = (↑i : Int)) (fun i => [I (↑i : Int)]) (fun x => hS s) fun x => [], Out.mk Unit (AX.exit (0 : Nat)) [] (fun x => ixV l s = (-1 : Int)) (fun x => []) (fun x => hS s) fun x => []] AX.ret [AV.sl (trisA l) l.length r, AV.fn (Fn.func (83 : FuncId)) [] [AV.ptr 0 0], u (2 : Nat), u (3 : Nat), I (↑j : Int), I (↑j : Int), u (6 : Nat), I (↑l.length : Int), I (↑j : Int), AV.bool true, I (↑j : Int), AV.fn (Fn.func (83 : FuncId)) [] [AV.ptr 0 0], AV.sl (trisA l) l.length r, I (↑j : Int), AV.cptr (trisA (List.drop j l)), AV.agg [I (l.getD j tri0).fst, I (l.getD j tri0).snd.fst, I (l.getD j tri0).snd.snd], AV.bool true, I (↑j : Int), u (18 : Nat)] (H.mk [[I s]] [] [])) (by kernel_rfl) ?_⟩
      refine ⟨by first | with_reducible assumption | omega | assumption, ?_⟩
      refine ⟨ix_tris (by kernel_rfl) hz' hri, ?_⟩
      refine ⟨by first | exact ld_tris (by kernel_rfl) (by kernel_rfl) (by kernel_rfl) (by omega), ?_⟩
      refine ⟨acall_b (acall_hit2 (c := c83s s) (l.getD j tri0) rfl rfl ⟨p83, [], rfl⟩) hb, ?_⟩
      refine ⟨by first | with_reducible assumption | omega | assumption, ?_⟩
      exact .inl ⟨j, ⟨hz', hx⟩, rfl, rfl, rfl⟩
  · have hz : (l.length : Int) ≤ j := by omega
    have e : j = l.length := by omega
    subst e
    have hx := ixV_none hn
    refine ⟨[Ans.o (Orc.b false)], fun u => of_eq ((↑l.length : Int) ≤ (↑l.length : Int) ∧ (19 : Nat) = (19 : Nat) ∧ hits [Out.mk Nat AX.ret [(4 : Nat)] (fun i => i < l.length ∧ ixV l s = (↑i : Int)) (fun i => [I (↑i : Int)]) (fun x => hS s) fun x => [], Out.mk Unit (AX.exit (0 : Nat)) [] (fun x => ixV l s = (-1 : Int)) (fun x => []) (fun x => hS s) fun x => []] (AX.exit (0 : Nat)) [AV.sl (trisA l) l.length r, AV.fn (Fn.func (83 : FuncId)) [] [AV.ptr 0 0], u (2 : Nat), u (3 : Nat), u (4 : Nat), u (5 : Nat), u (6 : Nat), I (↑l.length : Int), I (↑l.length : Int), AV.bool false, u (10 : Nat), u (11 : Nat), u (12 : Nat), u (13 : Nat), u (14 : Nat), u (15 : Nat), u (16 : Nat), u (17 : Nat), u (18 : Nat)] (H.mk [[I s]] [] [])) (by kernel_rfl) ?_⟩
    refine ⟨by first | with_reducible assumption | omega | assumption, ?_⟩
    refine ⟨by first | with_reducible assumption | omega | assumption, ?_⟩
    exact .inr (.inl ⟨(), hx, rfl, rfl, rfl⟩)
theorem ok102 : FokM Tryd.prog none1 102 Tryd.f102 := ⟨mixed, by kernel_rfl, by kernel_rfl, by kernel_rfl, by kernel_rfl⟩
abbrev pT (l : List Tri) (r : Room) (s : Int) : Prop := (l.length ≤ 1000 ∧ rok l r ∧ al8 l) ∧ s8 s ∧ r.bnd 0 = true
theorem r102 (l : List Tri) (r : Room) (s : Int) (hp : pT l r s) : Body (EnS [c83s s] s) none1 Tryd.f102 [ts l r, cl83] (hS s) (I (ixV l s), hS s) := by
  have lp := lp102 l r s hp.1.1 hp.1.2.1 hp.1.2.2 hp.2.1
  refine body_s ([Ans.loop [(0 : Nat), (1 : Nat), (7 : Nat), (8 : Nat)] [Out.mk Nat AX.ret [(4 : Nat)] (fun i => i < l.length ∧ ixV l s = (↑i : Int)) (fun i => [I (↑i : Int)]) (fun x => hS s) fun y => [], Out.mk Unit (AX.exit (0 : Nat)) [] (fun x => ixV l s = (-1 : Int)) (fun x => []) (fun x => hS s) fun y => []]]) (LoopS (Env.mk Tryd.prog (Sof [c83s s]) (Pof (P := Tryd.prog) []) (hS s).base (300 : Nat)) (loopAt Tryd.f102 (0 : Nat)) (19 : Nat) [(0 : Nat), (1 : Nat), (7 : Nat), (8 : Nat)] [AV.sl (trisA l) l.length r, AV.fn (Fn.func (83 : FuncId)) [] [AV.ptr 0 0], I (↑l.length : Int), I 0] (H.mk [[I s]] [] []) [Out.mk Nat AX.ret [(4 : Nat)] (fun i => i < l.length ∧ ixV l s = (↑i : Int)) (fun i => [I (↑i : Int)]) (fun x => hS s) fun y => [], Out.mk Unit (AX.exit (0 : Nat)) [] (fun x => ixV l s = (-1 : Int)) (fun x => []) (fun x => hS s) fun y => []] ∧ (∀ (y : Nat), y < l.length ∧ ixV l s = (↑y : Int) → ∀ (u : Nat → AV), (I (↑y : Int), H.mk [[I s]] [] []) = (I (ixV l s), H.mk [[I s]] [] [])) ∧ (∀ (y : Unit), ixV l s = (-1 : Int) → ∀ (u : Nat → AV), (I (-1 : Int), H.mk [[I s]] [] []) = (I (ixV l s), H.mk [[I s]] [] [])) ∧ True) (by kernel_rfl) ?_
  refine ⟨lp, ?_⟩
  refine And.intro ?_ ?_
  · skip
    intro y
    intro w1
    intro u
    first | rw [(by assumption : ixV l s = -1)] | rw [(by assumption : ixV l s = (y : Nat))] | rw [(by assumption : _ ∧ ixV l s = (y : Nat)).2]
  · skip
    refine And.intro ?_ ?_
    · skip
      intro y
      intro w1
      intro u
      first | rw [(by assumption : ixV l s = -1)] | rw [(by assumption : ixV l s = (y : Nat))] | rw [(by assumption : _ ∧ ixV l s = (y : Nat)).2]
    · skip
      trivial
noncomputable def c102s (s : Int) : Ctr Tryd.prog :=
  fctr ok102 (hS s) (X := List Tri × Room) (fun x => [ts x.1 x.2, cl83]) (fun x => pT x.1 x.2 s) (fun x => I (ixV x.1 s))
    (by rintro ⟨l, r⟩ ⟨m, q⟩ e _ _; simp at e; obtain ⟨⟨rfl, _⟩, _⟩ := e; rfl) (hS_closed s) (fun x hx => by simp [AV.bnds, AV.bnd, hx.2.2]) (fun _ _ => rfl) (fun x hx => ⟨_, _, _, .rd _ (c83_reads s) .nil, r102 x.1 x.2 s hx⟩)
theorem c102_reads (s : Int) : (c102s s).Reads := fctr_reads ..
/-- some cycle is within a set -/
def anyV (l : List Tri) (s : Int) : Bool := decide (0 ≤ ixV l s)
theorem ok85 : FokM Tryd.prog none1 85 Tryd.f85 := ⟨mixed, by kernel_rfl, by kernel_rfl, by kernel_rfl, by kernel_rfl⟩
theorem r85 (l : List Tri) (r : Room) (s : Int) (hp : pT l r s) : Body (EnS [c102s s] s) none1 Tryd.f85 [ts l r, cl83] (hS s) (.bool (anyV l s), hS s) := by
  refine body_s ([Ans.o (Orc.val 7 (I (ixV l s)) (H.mk [[I s]] [] [])), Ans.fork [] []]) (aCall (Sof [c102s s]) (AV.fn (Fn.func (102 : Nat)) [] []) [AV.sl (trisA l) l.length r, AV.fn (Fn.func (83 : FuncId)) [] [AV.ptr 0 0]] (H.mk [[I s]] [] []) = some (I (ixV l s), H.mk [[I s]] [] []) ∧ ((0 : Int) ≤ ixV l s → (AV.bool true, H.mk [[I s]] [] []) = (AV.bool (anyV l s), H.mk [[I s]] [] [])) ∧ (ixV l s < (0 : Int) → (AV.bool false, H.mk [[I s]] [] []) = (AV.bool (anyV l s), H.mk [[I s]] [] []))) (by kernel_rfl) ?_
  refine ⟨acall_hit (c := c102s s) (l, r) _ rfl ⟨hp, [], rfl⟩, ?_⟩
  refine And.intro ?_ ?_
  · skip
    intro w0
    first | (rw [show anyV l s = true from decide_eq_true (by assumption)]) | (rw [show anyV l s = false from decide_eq_false (by omega)])
  · skip
    intro w0
    first | (rw [show anyV l s = true from decide_eq_true (by assumption)]) | (rw [show anyV l s = false from decide_eq_false (by omega)])
noncomputable def c85s (s : Int) : Ctr Tryd.prog :=
  fctr ok85 (hS s) (X := List Tri × Room) (fun x => [ts x.1 x.2, cl83]) (fun x => pT x.1 x.2 s) (fun x => .bool (anyV x.1 s))
    (by rintro ⟨l, r⟩ ⟨m, q⟩ e _ _; simp at e; obtain ⟨⟨rfl, _⟩, _⟩ := e; rfl) (hS_closed s) (fun x hx => by simp [AV.bnds, AV.bnd, hx.2.2]) (fun _ _ => rfl) (fun x hx => ⟨_, _, _, .rd _ (c102_reads s) .nil, r85 x.1 x.2 s hx⟩)
/-- the same, whatever the set in the closure's cell is -/
noncomputable def c85 : Ctr Tryd.prog where
  f := 85
  X := (List Tri × Room) × Int
  args x := [ts x.1.1 x.1.2, cl83]
  pre x h := pT x.1.1 x.1.2 x.2 ∧ h.blk = [I x.2] :: h.blk.tail
  res x h := (.bool (anyV x.1.1 x.2), h)
  det := by
    rintro ⟨⟨l, r⟩, s⟩ ⟨⟨m, q⟩, u⟩ h e ⟨_, h1⟩ ⟨_, h2⟩
    simp at e
    obtain ⟨⟨rfl, _⟩, _⟩ := e
    rw [h1] at h2
    simp only [List.tail_cons, List.cons.injEq, AV.int.injEq, true_and, and_true] at h2
    rw [h2]
  ok x h hp := (c85s x.2).ok x.1 h ⟨hp.1, h.blk.tail, hp.2⟩
theorem c85_reads : c85.Reads := ⟨fun _ _ _ => rfl, fun x h zs hx => ⟨⟨hx.1, by
    have hz := hx.2
    show h.blk ++ zs = [I x.2] :: (h.blk ++ zs).tail
    rw [hz]; rfl⟩, rfl⟩⟩
/-- the most players of the first sets without a cycle -/
def mstV (t : List Int) : Nat → Nat
  | 0 => 0
  | j + 1 => if anyV (cyc t) (j : Nat) = true then mstV t j else max (mstV t j) (pc j)
theorem mst_pick {t : List Int} {j : Nat} (h : anyV (cyc t) (j : Nat) = false) : pick2 true ((mstV t j : Nat) : Int) ((pc j : Nat) : Int) = ((mstV t (j + 1) : Nat) : Int) := by
  have e : mstV t (j + 1) = max (mstV t j) (pc j) := by simp only [mstV]; rw [if_neg (by rw [h]; simp)]
  rw [e]
  simp only [pick2, if_true]
  split <;> omega
abbrev clr (t : List Int) : Nat := mstV t (2 ^ t.length)
theorem cyc_le (t : List Int) (h : t.length ≤ 8) : (cyc t).length ≤ 1000 := by have := cc1_len t t.length; show (cc1 t t.length).length ≤ 1000; omega
noncomputable abbrev cs49 : List (Ctr Tryd.prog) := [c56.to, c77.to, c70.to, c57.to, c85]
theorem ct49 : Ctrs Tryd.prog none1 cs49 := .pure _ (.pure _ (.pure _ (.pure _ (.rd _ c85_reads .nil))))
abbrev o49 (t : List Int) : List Out := [.mk Unit (.exit 0) [5] (fun _ => True) (fun _ => [I (clr t : Nat)]) (fun _ => .nil) (fun _ => [])]
theorem simp49 : allSimpleM none1 (loopAt Tryd.f49 0) = true := by kernel_rfl
theorem lp49 (t : List Int) (h : Tn t) (h3 : al8 (cyc t)) (h4 : rok (cyc t) (cR t)) :
    LoopS (En6 cs49) (loopAt Tryd.f49 0) 30 [4, 5, 15, 16] [ct t, I 0, I (2 ^ t.length : Nat), I 0] .nil (o49 t) := by
  have hR : Rests (En6 cs49) none1 := rests mixed ct49
  have h8 := h.s.2
  have p8 := pow8 h8
  refine loop_s hR simp49 (some 0) (by intro nb h; cases h; exact ⟨Nat.le_refl _, Nat.le_refl _⟩) (fun j vs h => h = .nil ∧ vs = [ct t, I (mstV t j : Nat), I (2 ^ t.length : Nat), I j]) (2 ^ t.length) ⟨rfl, rfl⟩ (by intro nb h j vs h' hI; cases h; rw [hI.1]; exact Nat.le_refl _) ?_
  rintro j vs h' hj ⟨rfl, rfl⟩
  have hbn : AV.bnds 0 0 0 [ct t, I (mstV t (j + 1) : Nat), I (2 ^ t.length : Nat), I ((j + 1 : Nat) : Int)] = true := by simp [AV.bnds, AV.bnd, rm_wk_bnd]
  have hcl : ∀ z, (H.mk [z] [] []).clean 0 := fun z cs hcs => by cases hcs
  by_cases hz : (j : Int) < ((2 ^ t.length : Nat) : Int)
  · have hz' : j < 2 ^ t.length := by omega
    have ev0 := wj1 (j := j) (by omega)
    have pT' : pT (cyc t) (cR t) (j : Int) := ⟨⟨cyc_le t h8, h4, h3⟩, ⟨by omega, by omega⟩, rm_wk_bnd _⟩
    have p57 : j < 256 := by omega
    cases hb : anyV (cyc t) (j : Nat)
    · have ev1 := mst_pick hb
      refine ⟨[Ans.o (Orc.b true), Ans.o (Orc.val 22 (AV.bool false) (H.mk [[I (↑j : Int)]] [] [])), Ans.o (Orc.val 26 (I (↑(pc j) : Int)) (H.mk [[I (↑j : Int)]] [] [])), Ans.o (Orc.val 27 (I (↑(mstV t (j + (1 : Nat))) : Int)) (H.mk [[I (↑j : Int)]] [] [])), Ans.o (Orc.val 28 (I (↑(j + (1 : Nat)) : Int)) H.nil)], fun u => of_eq ((↑j : Int) < (↑((2 : Nat) ^ t.length) : Int) ∧ aCall (Sof cs49) (AV.fn (Fn.func (85 : Nat)) [] []) [AV.sl (trisA (cyc t)) (cyc t).length (cR t), AV.fn (Fn.func (83 : Nat)) [] [AV.ptr 0 0]] (H.mk [[I (↑j : Int)]] [] []) = some (AV.bool false, H.mk [[I (↑j : Int)]] [] []) ∧ aCall (Sof cs49) (AV.fn (Fn.func (57 : Nat)) [] []) [I (↑j : Int)] (H.mk [[I (↑j : Int)]] [] []) = some (I (↑(pc j) : Int), H.mk [[I (↑j : Int)]] [] []) ∧ aMin true [I (↑(mstV t j) : Int), I (↑(pc j) : Int)] = some (I (↑(mstV t (j + (1 : Nat))) : Int)) ∧ aBin Tryd.prog BinOp.add (3 : Nat) (I (↑j : Int)) (I 1) = some (I (↑(j + (1 : Nat)) : Int)) ∧ (30 : Nat) = (30 : Nat) ∧ j < (2 : Nat) ^ t.length ∧ Keep (AV.bnds (0 : Nat) (0 : Nat) (0 : Nat) [AV.sl (trisA (cyc t)) (cyc t).length (cR t), I (↑(mstV t (j + (1 : Nat))) : Int), I (↑((2 : Nat) ^ t.length) : Int), I (↑(j + (1 : Nat)) : Int)] = true ∧ (H.mk [[I (↑j : Int)]] [] []).clean (0 : Nat) ∧ H.mk [] [] [] = H.mk [] [] [] ∧ [AV.sl (trisA (cyc t)) (cyc t).length (cR t), I (↑(mstV t (j + (1 : Nat))) : Int), I (↑((2 : Nat) ^ t.length) : Int), I (↑(j + (1 : Nat)) : Int)] = [AV.sl (trisA (cyc t)) (cyc t).length (cR t), I (↑(mstV t (j + (1 : Nat))) : Int), I (↑((2 : Nat) ^ t.length) : Int), I (↑(j + (1 : Nat)) : Int)])) (by kernel_rfl) ?_⟩
      refine ⟨by first | with_reducible assumption | omega | assumption, ?_⟩
      refine ⟨acall_b (acall_hit (c := c85) ((cyc t, cR t), (j : Int)) _ rfl ⟨pT', rfl⟩) hb, ?_⟩
      refine ⟨acall_hit (c := c57.to) j _ rfl p57, ?_⟩
      refine ⟨congrArg (fun z => some (I z)) ev1, ?_⟩
      refine ⟨told_add (by with_reducible assumption), ?_⟩
      refine ⟨by first | with_reducible assumption | omega | assumption, ?_⟩
      refine ⟨by first | with_reducible assumption | omega | assumption, ?_⟩
      exact ⟨hbn, hcl _, rfl, rfl⟩
    · have hk : mstV t (j + 1) = mstV t j := by simp only [mstV]; rw [if_pos hb]
      rw [hk] at hbn
      refine ⟨[Ans.o (Orc.b true), Ans.o (Orc.val 22 (AV.bool true) (H.mk [[I (↑j : Int)]] [] [])), Ans.o (Orc.val 28 (I (↑(j + (1 : Nat)) : Int)) H.nil)], fun u => of_eq ((↑j : Int) < (↑((2 : Nat) ^ t.length) : Int) ∧ aCall (Sof cs49) (AV.fn (Fn.func (85 : Nat)) [] []) [AV.sl (trisA (cyc t)) (cyc t).length (cR t), AV.fn (Fn.func (83 : Nat)) [] [AV.ptr 0 0]] (H.mk [[I (↑j : Int)]] [] []) = some (AV.bool true, H.mk [[I (↑j : Int)]] [] []) ∧ aBin Tryd.prog BinOp.add (3 : Nat) (I (↑j : Int)) (I 1) = some (I (↑(j + (1 : Nat)) : Int)) ∧ (30 : Nat) = (30 : Nat) ∧ j < (2 : Nat) ^ t.length ∧ Keep (AV.bnds (0 : Nat) (0 : Nat) (0 : Nat) [AV.sl (trisA (cyc t)) (cyc t).length (cR t), I (↑(mstV t j) : Int), I (↑((2 : Nat) ^ t.length) : Int), I (↑(j + (1 : Nat)) : Int)] = true ∧ (H.mk [[I (↑j : Int)]] [] []).clean (0 : Nat) ∧ H.mk [] [] [] = H.mk [] [] [] ∧ [AV.sl (trisA (cyc t)) (cyc t).length (cR t), I (↑(mstV t j) : Int), I (↑((2 : Nat) ^ t.length) : Int), I (↑(j + (1 : Nat)) : Int)] = [AV.sl (trisA (cyc t)) (cyc t).length (cR t), I (↑(mstV t (j + (1 : Nat))) : Int), I (↑((2 : Nat) ^ t.length) : Int), I (↑(j + (1 : Nat)) : Int)])) (by kernel_rfl) ?_⟩
      refine ⟨by first | with_reducible assumption | omega | assumption, ?_⟩
      refine ⟨acall_b (acall_hit (c := c85) ((cyc t, cR t), (j : Int)) _ rfl ⟨pT', rfl⟩) hb, ?_⟩
      refine ⟨told_add (by with_reducible assumption), ?_⟩
      refine ⟨by first | with_reducible assumption | omega | assumption, ?_⟩
      refine ⟨by first | with_reducible assumption | omega | assumption, ?_⟩
      (rw [hk]; exact ⟨hbn, hcl _, rfl, rfl⟩)
  · have hz : ((2 ^ t.length : Nat) : Int) ≤ j := by omega
    have e : j = 2 ^ t.length := by omega
    subst e
    refine ⟨[Ans.o (Orc.b false)], fun u => of_eq ((↑((2 : Nat) ^ t.length) : Int) ≤ (↑((2 : Nat) ^ t.length) : Int) ∧ (30 : Nat) = (30 : Nat) ∧ hits [Out.mk Unit (AX.exit (0 : Nat)) [(5 : Nat)] (fun x => True) (fun x => [I (↑(clr t) : Int)]) (fun x => H.nil) fun x => []] (AX.exit (0 : Nat)) [u (0 : Nat), u (1 : Nat), u (2 : Nat), u (3 : Nat), AV.sl (trisA (cyc t)) (cyc t).length (cR t), I (↑(mstV t ((2 : Nat) ^ t.length)) : Int), u (6 : Nat), u (7 : Nat), u (8 : Nat), u (9 : Nat), u (10 : Nat), u (11 : Nat), u (12 : Nat), u (13 : Nat), u (14 : Nat), I (↑((2 : Nat) ^ t.length) : Int), I (↑((2 : Nat) ^ t.length) : Int), AV.bool false, u (18 : Nat), u (19 : Nat), u (20 : Nat), u (21 : Nat), u (22 : Nat), u (23 : Nat), u (24 : Nat), u (25 : Nat), u (26 : Nat), u (27 : Nat), u (28 : Nat), u (29 : Nat)] (H.mk [] [] [])) (by kernel_rfl) ?_⟩
    refine ⟨by first | with_reducible assumption | omega | assumption, ?_⟩
    refine ⟨by first | with_reducible assumption | omega | assumption, ?_⟩
    exact .inl ⟨(), trivial, rfl, rfl, rfl⟩
end Go.Proofs.Rnk

