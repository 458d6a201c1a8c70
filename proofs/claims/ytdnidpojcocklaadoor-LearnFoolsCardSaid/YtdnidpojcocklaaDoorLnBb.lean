/- Layer 4: the deepest tree, written by the program. -/
import Derived.Test.YtdnidpojcocklaaDoorLnBa
import Derived.KernelRfl
set_option linter.unusedSimpArgs false
set_option linter.unusedVariables false
set_option linter.unnecessarySimpa false
set_option maxHeartbeats 4000000
set_option maxRecDepth 100000
namespace Go.Proofs.Lrn
open Go Go.VM
theorem k75g (p : Int) (b : BitVec 32) (x y : Int) (h : is5 x ∧ (y = 0 ∨ y = 1)) : callable Tryd.prog 75 = true ∧ ∀ H, CallOk Tryd.prog 75 [cA p b, I x, I y] H (cA p (pt b x y)) H := c75.ok (p, b, x, y) h
theorem k78g (p : Int) (b : BitVec 32) (x : Int) (h : p5 p ∧ is5 x) : callable Tryd.prog 78 = true ∧ ∀ H, CallOk Tryd.prog 78 [cA p b, I x] H (I (les p b x)) H := c78g.ok (p, b, x) h
section
attribute [local instance] wrN
noncomputable def d75 : PCtr Tryd.prog where
  f := 75
  X := Int × BitVec 32 × Int × Int
  args q := [cA q.1 q.2.1, I q.2.2.1, I q.2.2.2]
  pre q := is5 q.2.2.1 ∧ (q.2.2.2 = 0 ∨ q.2.2.2 = 1)
  v q := cA q.1 (pt q.2.1 q.2.2.1 q.2.2.2)
  det := by
    rintro ⟨p, b, x, y⟩ ⟨p', b', x', y'⟩ e _ _
    simp at e
    simp [e]
  ok q hq := ⟨(k75g q.1 q.2.1 q.2.2.1 q.2.2.2 hq).1, fun H => CallOk.up (fun _ => rfl) ((k75g q.1 q.2.1 q.2.2.1 q.2.2.2 hq).2 H)⟩
noncomputable def d78 : PCtr Tryd.prog where
  f := 78
  X := Int × BitVec 32 × Int
  args q := [cA q.1 q.2.1, I q.2.2]
  pre q := p5 q.1 ∧ is5 q.2.2
  v q := I (les q.1 q.2.1 q.2.2)
  det := by
    rintro ⟨p, b, x⟩ ⟨p', b', x'⟩ e _ _
    simp at e
    simp [e]
  ok q hq := ⟨(k78g q.1 q.2.1 q.2.2 hq).1, fun H => CallOk.up (fun _ => rfl) ((k78g q.1 q.2.1 q.2.2 hq).2 H)⟩
abbrev opnN : Base := ⟨0, 0, 987654321⟩
abbrev M59 : FuncId → Bool := (· == 59)
noncomputable abbrev EnN (b : CtrB Tryd.prog 0) : Env := ⟨Tryd.prog, SofO b [d75.to, d78.to], Pof (P := Tryd.prog) [], opnN, 300⟩
theorem ct59 : Ctrs Tryd.prog M59 [d75.to, d78.to] := .pure _ (.pure _ .nil)
theorem restN {b : CtrB Tryd.prog 0} (hb : b.f = 59) : Rests (EnN b) M59 := restsO mixed (by rw [hb]; rfl) ct59
abbrev bx (p : Int) (b : BitVec 32) : List AV := [I p, U b]
/-- what a call gets -/
structure WrP (p : Int) (b : BitVec 32) (l : List Tri) (d : Nat) : Prop where
  hp : p5 p
  d1 : 1 ≤ d
  hd : (d : Int) ≤ dimV p b
  n : l.length + 2 ^ d ≤ 1000
def Okw (d : Nat) : Prop := ∀ (p : Int) (b : BitVec 32) (l : List Tri), WrP p b l d → l ≠ [] →
  CallOkB Tryd.prog 0 59 [cA p b, rN 0 l.length, I d] ⟨[trisA l], [], []⟩ (rN 1 (l.length + tn d)) ⟨[[], trisA (l ++ tre p d b l.length)], [], []⟩
theorem trisA_ne {l : List Tri} (h : l ≠ []) : trisA l ≠ [] := fun e => by
  have := trisA_len l
  rw [e] at this
  have h2 : 0 < l.length := List.length_pos_iff.2 h
  simp at this; omega
theorem ren_N {G : List (List AV)} {l l' : List Tri} (h : l' ≠ []) : RenOk (fun _ => G.length) [trisA l] [[], trisA l'] (G ++ [trisA l]) (G ++ [[], trisA l']) where
  inj i j hi hj _ := by
    have hi : i < 1 := hi
    have hj : j < 1 := hj
    omega
  lt i hi := by simp
  cells i cs q := by
    match i, q with
    | 0, q => cases q; exact ⟨trisA l, by simp, .same (trisA_bnds 0 0 0 l), rfl⟩
    | i + 1, q => simp at q
  grow := by simp
  len := by simp
  old b hb hn := by
    have h1 : b ≠ G.length := fun e => hn 0 (by simp) e.symm
    have h2 : b < G.length := by simp at hb; omega
    rw [List.getElem?_append_left h2, List.getElem?_append_left h2]
  new i cs q := by
    match i, q with
    | 0, q => cases q; exact ⟨[], by simp [rhoN], .nil, rfl⟩
    | 1, q => cases q; exact ⟨trisA l', by simp [rhoN], .same (trisA_bnds 0 0 0 l'), rfl⟩
    | i + 2, q => simp at q
  dead i hi _ := by
    have hi : i < 1 := hi
    have : i = 0 := by omega
    subst this; rfl
  live i hi := by
    have hi : 1 ≤ i := hi
    match i, hi with
    | 1, _ => simp [trisA_ne h]
    | i + 2, _ => simp
structure X59 where
  p : Int
  b : BitVec 32
  l : List Tri
  G : List (List AV)
theorem ok59 : FokM Tryd.prog M59 59 Tryd.f59 := ⟨mixed, by kernel_rfl, by kernel_rfl, by kernel_rfl, by kernel_rfl⟩
noncomputable def c59 (d : Nat) (hok : Okw d) : CtrB Tryd.prog 0 where
  f := 59
  X := X59
  args x := [cA x.p x.b, rN x.G.length x.l.length, I d]
  pre x h := h = ⟨x.G ++ [trisA x.l], [], []⟩ ∧ WrP x.p x.b x.l d ∧ x.l ≠ []
  res x _ := (rN (x.G.length + 1) (x.l.length + tn d), ⟨x.G ++ [[], trisA (x.l ++ tre x.p d x.b x.l.length)], [], []⟩)
  det := by
    rintro ⟨p, b, l, G⟩ ⟨p', b', l', G'⟩ h e q q'
    have h1 := q.1.symm.trans q'.1
    simp only [H.mk.injEq, and_true] at h1
    have h2 := List.append_inj' h1 rfl
    have h3 : l = l' := by simpa using h2.2
    have h4 : G = G' := h2.1
    subst h3 h4
    simp at e
    obtain ⟨e1, e2⟩ := e
    subst e1 e2; rfl
  ok := by
    rintro ⟨p, b, l, G⟩ h ⟨h1, h2, h3⟩
    have h1 : h = ⟨G ++ [trisA l], [], []⟩ := h1
    subst h1
    refine ⟨ok59.call, CallOkB.ren (ren_N (by intro e; exact h3 (List.append_eq_nil_iff.1 e).1)) ?_ ?_ (hok p b l h2 h3) [] []⟩
    · exact .cons (.same rfl) (.cons (RV.rN (by simp)) (.cons (.same rfl) .nil))
    · have := RV.rN (ρ := rhoN (fun _ => G.length) [trisA l].length (G ++ [trisA l]).length) (n := 2) (R := 1) (m := l.length + tn d) (by omega)
      have e : rhoN (fun _ => G.length) [trisA l].length (G ++ [trisA l]).length 1 = G.length + 1 := by simp [rhoN]
      rw [e] at this
      exact this
theorem simp59 : allSimpleM M59 (loopAt Tryd.f59 0) = true := by kernel_rfl
abbrev o59 (p : Int) (b : BitVec 32) (d : Nat) (T : AV) (g : List AV) (x : Nat) : List Out := [.mk Unit (.exit 0) [1, 2, 3, 7] (fun _ => True) (fun _ => [T, I d, .ptr 1 0, I x]) (fun _ => ⟨[g, bx p b], [], []⟩) (fun _ => [])]
theorem hit78 {b0 : CtrB Tryd.prog 0} (hb : b0.f = 59) {p : Int} {b : BitVec 32} {x : Int} {H : H} (h : p5 p ∧ is5 x) : aCall (SofO b0 [d75.to, d78.to]) (.fn (.func 78) [] []) [cA p b, I x] H = some (I (les p b x), H) := acallO_skip (by rw [hb]; decide) (acall_hit (c := d78.to) (cs := [d75.to, d78.to]) (p, b, x) H rfl h)
theorem hit75 {b0 : CtrB Tryd.prog 0} (hb : b0.f = 59) {p : Int} {b : BitVec 32} {x y : Int} {H : H} (h : is5 x ∧ (y = 0 ∨ y = 1)) : aCall (SofO b0 [d75.to, d78.to]) (.fn (.func 75) [] []) [cA p b, I x, I y] H = some (cA p (pt b x y), H) := acallO_skip (by rw [hb]; decide) (acall_hit (c := d75.to) (cs := [d75.to, d78.to]) (p, b, x, y) H rfl h)
theorem lp59 (b0 : CtrB Tryd.prog 0) (hb : b0.f = 59) (p : Int) (b : BitVec 32) (d : Nat) (hp : p5 p) (h1 : 1 ≤ d) (hd : (d : Int) ≤ dimV p b) (h5 : d ≤ 32) (T : AV) (g : List AV) :
    LoopS (EnN b0) (loopAt Tryd.f59 0) 56 [1, 2, 3, 7] [T, I d, .ptr 1 0, I 0] ⟨[g, bx p b], [], []⟩ (o59 p b d T g (fx p b d)) := by
  obtain ⟨f1, f2, f3⟩ := fx_spec h1 hd
  obtain ⟨q1, q2⟩ := hp
  refine loop_s (restN hb) simp59 none (by intro _ h; cases h) (fun j vs H => H = ⟨[g, bx p b], [], []⟩ ∧ vs = [T, I d, .ptr 1 0, I j] ∧ j ≤ fx p b d) (fx p b d) ⟨rfl, rfl, Nat.zero_le _⟩ (by intro _ h; cases h) ?_
  rintro j vs H hj ⟨rfl, rfl, hle⟩
  have hx : p5 p ∧ is5 (j : Int) := ⟨⟨q1, q2⟩, by omega, by omega⟩
  have hc := hit78 (b := b) (H := ⟨[g, bx p b], [], []⟩) hb hx
  have ev0 : IntKind.i64.wrap ((d : Int) - 1) = ((d - 1 : Nat) : Int) := by rw [wr _ (by omega) (by omega)]; omega
  have ev1 : IntKind.i64.wrap ((j : Int) + 1) = ((j + 1 : Nat) : Int) := by rw [wr _ (by omega) (by omega)]; omega
  by_cases hz : j < fx p b d
  · have hlt := f3 j hz
    have hlt : les p b (j : Int) < ((d - 1 : Nat) : Int) := by omega
    have hle2 : j + 1 ≤ fx p b d := by omega
    refine ⟨[Ans.o (Orc.val 14 (I (les p b (↑j : Int))) (H.mk [g, [I p, AV.int IntKind.u32 (↑b.toNat : Int)]] [] [])), Ans.o (Orc.val 16 (I (↑(d - (1 : Nat)) : Int)) H.nil), Ans.o (Orc.b true), Ans.o (Orc.val 19 (I (↑(j + (1 : Nat)) : Int)) H.nil)], fun u => of_eq (aCall (SofO b0 [d75.to, d78.to]) (AV.fn (Fn.func (78 : Nat)) [] []) [AV.agg [I p, AV.int IntKind.u32 (↑b.toNat : Int)], I (↑j : Int)] (H.mk [g, [I p, AV.int IntKind.u32 (↑b.toNat : Int)]] [] []) = some (I (les p b (↑j : Int)), H.mk [g, [I p, AV.int IntKind.u32 (↑b.toNat : Int)]] [] []) ∧ aBin Tryd.prog BinOp.sub (3 : Nat) (I (↑d : Int)) (I 1) = some (I (↑(d - (1 : Nat)) : Int)) ∧ les p b (↑j : Int) < (↑(d - (1 : Nat)) : Int) ∧ aBin Tryd.prog BinOp.add (3 : Nat) (I (↑j : Int)) (I 1) = some (I (↑(j + (1 : Nat)) : Int)) ∧ (56 : Nat) = (56 : Nat) ∧ j < fx p b d ∧ Keep (H.mk [g, [I p, AV.int IntKind.u32 (↑b.toNat : Int)]] [] [] = H.mk [g, [I p, AV.int IntKind.u32 (↑b.toNat : Int)]] [] [] ∧ [T, I (↑d : Int), AV.ptr 1 0, I (↑(j + (1 : Nat)) : Int)] = [T, I (↑d : Int), AV.ptr 1 0, I (↑(j + (1 : Nat)) : Int)] ∧ j + (1 : Nat) ≤ fx p b d)) (by kernel_rfl) ?_⟩
    refine ⟨hc, ?_⟩
    refine ⟨told_sub (by with_reducible assumption), ?_⟩
    refine ⟨by first | with_reducible assumption | omega | assumption, ?_⟩
    refine ⟨told_add (by with_reducible assumption), ?_⟩
    refine ⟨by first | with_reducible assumption | omega | assumption, ?_⟩
    refine ⟨by first | with_reducible assumption | omega | assumption, ?_⟩
    exact ⟨rfl, rfl, hle2⟩
  · have e : j = fx p b d := by omega
    subst e
    have hge : ((d - 1 : Nat) : Int) ≤ les p b ((fx p b d : Nat) : Int) := by omega
    refine ⟨[Ans.o (Orc.val 14 (I (les p b (↑(fx p b d) : Int))) (H.mk [g, [I p, AV.int IntKind.u32 (↑b.toNat : Int)]] [] [])), Ans.o (Orc.val 16 (I (↑(d - (1 : Nat)) : Int)) H.nil), Ans.o (Orc.b false)], fun u => of_eq (aCall (SofO b0 [d75.to, d78.to]) (AV.fn (Fn.func (78 : Nat)) [] []) [AV.agg [I p, AV.int IntKind.u32 (↑b.toNat : Int)], I (↑(fx p b d) : Int)] (H.mk [g, [I p, AV.int IntKind.u32 (↑b.toNat : Int)]] [] []) = some (I (les p b (↑(fx p b d) : Int)), H.mk [g, [I p, AV.int IntKind.u32 (↑b.toNat : Int)]] [] []) ∧ aBin Tryd.prog BinOp.sub (3 : Nat) (I (↑d : Int)) (I 1) = some (I (↑(d - (1 : Nat)) : Int)) ∧ (↑(d - (1 : Nat)) : Int) ≤ les p b (↑(fx p b d) : Int) ∧ (56 : Nat) = (56 : Nat) ∧ hits [Out.mk Unit (AX.exit (0 : Nat)) [(1 : Nat), (2 : Nat), (3 : Nat), (7 : Nat)] (fun x => True) (fun x => [T, I (↑d : Int), AV.ptr 1 0, I (↑(fx p b d) : Int)]) (fun x => H.mk [g, bx p b] [] []) fun x => []] (AX.exit (0 : Nat)) [u (0 : Nat), T, I (↑d : Int), AV.ptr 1 0, u (4 : Nat), u (5 : Nat), u (6 : Nat), I (↑(fx p b d) : Int), u (8 : Nat), u (9 : Nat), u (10 : Nat), u (11 : Nat), AV.agg [I p, AV.int IntKind.u32 (↑b.toNat : Int)], I (↑(fx p b d) : Int), I (les p b (↑(fx p b d) : Int)), I (↑d : Int), I (↑(d - (1 : Nat)) : Int), AV.bool false, u (18 : Nat), u (19 : Nat), u (20 : Nat), u (21 : Nat), u (22 : Nat), u (23 : Nat), u (24 : Nat), u (25 : Nat), u (26 : Nat), u (27 : Nat), u (28 : Nat), u (29 : Nat), u (30 : Nat), u (31 : Nat), u (32 : Nat), u (33 : Nat), u (34 : Nat), u (35 : Nat), u (36 : Nat), u (37 : Nat), u (38 : Nat), u (39 : Nat), u (40 : Nat), u (41 : Nat), u (42 : Nat), u (43 : Nat), u (44 : Nat), u (45 : Nat), u (46 : Nat), u (47 : Nat), u (48 : Nat), u (49 : Nat), u (50 : Nat), u (51 : Nat), u (52 : Nat), u (53 : Nat), u (54 : Nat), u (55 : Nat)] (H.mk [g, [I p, AV.int IntKind.u32 (↑b.toNat : Int)]] [] [])) (by kernel_rfl) ?_⟩
    refine ⟨hc, ?_⟩
    refine ⟨told_sub (by with_reducible assumption), ?_⟩
    refine ⟨by first | with_reducible assumption | omega | assumption, ?_⟩
    refine ⟨by first | with_reducible assumption | omega | assumption, ?_⟩
    exact .inl ⟨(), trivial, rfl, rfl, rfl⟩
end
end Go.Proofs.Lrn

