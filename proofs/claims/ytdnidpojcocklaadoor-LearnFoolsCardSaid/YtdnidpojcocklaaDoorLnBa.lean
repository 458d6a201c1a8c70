/- Layer 4: the deepest tree that the program writes: its nodes. -/
import Derived.Test.YtdnidpojcocklaaDoorLnJ
import Derived.Test.YtdnidpojcocklaaDoorVm7
import Derived.Test.YtdnidpojcocklaaDoorVm8
import Derived.KernelRfl
set_option linter.unusedSimpArgs false
set_option linter.unusedVariables false
set_option linter.unnecessarySimpa false
set_option maxHeartbeats 4000000
set_option maxRecDepth 100000
namespace Go.Proofs.Lrn
open Go Go.VM
/-- the lesser dimension of both sides -/
abbrev les (p : Int) (b : BitVec 32) (x : Int) : Int := pick2 false (dimV p (pt b x 0)) (dimV p (pt b x 1))
theorem r78g (p : Int) (b : BitVec 32) (x : Int) (hp : p5 p ∧ is5 x) : Body (En4 [c75.to, c58.to]) none1 Tryd.f78 [cA p b, I x] .nil (I (les p b x), .nil) := by
  obtain ⟨h1, h2⟩ := hp
  have z0 : is5 x ∧ ((0 : Int) = 0 ∨ (0 : Int) = 1) := ⟨h2, .inl rfl⟩
  have z1 : is5 x ∧ ((1 : Int) = 0 ∨ (1 : Int) = 1) := ⟨h2, .inr rfl⟩
  refine body_s ([Ans.o (Orc.val 7 (AV.agg [I p, AV.int IntKind.u32 (↑(pt b x (0 : Int)).toNat : Int)]) (H.mk [[I p, AV.int IntKind.u32 (↑b.toNat : Int)]] [] [])), Ans.o (Orc.val 8 (I (dimV p (pt b x (0 : Int)))) (H.mk [[I p, AV.int IntKind.u32 (↑b.toNat : Int)]] [] [])), Ans.o (Orc.val 11 (AV.agg [I p, AV.int IntKind.u32 (↑(pt b x (1 : Int)).toNat : Int)]) (H.mk [[I p, AV.int IntKind.u32 (↑b.toNat : Int)]] [] [])), Ans.o (Orc.val 12 (I (dimV p (pt b x (1 : Int)))) (H.mk [[I p, AV.int IntKind.u32 (↑b.toNat : Int)]] [] []))]) (aCall (Sof [c75.to, c58.to]) (AV.fn (Fn.func (75 : Nat)) [] []) [AV.agg [I p, AV.int IntKind.u32 (↑b.toNat : Int)], I x, I 0] (H.mk [[I p, AV.int IntKind.u32 (↑b.toNat : Int)]] [] []) = some (AV.agg [I p, AV.int IntKind.u32 (↑(pt b x (0 : Int)).toNat : Int)], H.mk [[I p, AV.int IntKind.u32 (↑b.toNat : Int)]] [] []) ∧ aCall (Sof [c75.to, c58.to]) (AV.fn (Fn.func (58 : Nat)) [] []) [AV.agg [I p, AV.int IntKind.u32 (↑(pt b x (0 : Int)).toNat : Int)]] (H.mk [[I p, AV.int IntKind.u32 (↑b.toNat : Int)]] [] []) = some (I (dimV p (pt b x (0 : Int))), H.mk [[I p, AV.int IntKind.u32 (↑b.toNat : Int)]] [] []) ∧ aCall (Sof [c75.to, c58.to]) (AV.fn (Fn.func (75 : Nat)) [] []) [AV.agg [I p, AV.int IntKind.u32 (↑b.toNat : Int)], I x, I 1] (H.mk [[I p, AV.int IntKind.u32 (↑b.toNat : Int)]] [] []) = some (AV.agg [I p, AV.int IntKind.u32 (↑(pt b x (1 : Int)).toNat : Int)], H.mk [[I p, AV.int IntKind.u32 (↑b.toNat : Int)]] [] []) ∧ aCall (Sof [c75.to, c58.to]) (AV.fn (Fn.func (58 : Nat)) [] []) [AV.agg [I p, AV.int IntKind.u32 (↑(pt b x (1 : Int)).toNat : Int)]] (H.mk [[I p, AV.int IntKind.u32 (↑b.toNat : Int)]] [] []) = some (I (dimV p (pt b x (1 : Int))), H.mk [[I p, AV.int IntKind.u32 (↑b.toNat : Int)]] [] []) ∧ (I (pick2 false (dimV p (pt b x (0 : Int))) (dimV p (pt b x (1 : Int)))), H.mk [] [] []) = (I (les p b x), H.mk [] [] [])) (by kernel_rfl) ?_
  refine ⟨by first | exact acall_hit (c := c75.to) (p, b, x, 0) _ rfl z0 | exact acall_hit (c := c75.to) (p, b, x, 1) _ rfl z1, ?_⟩
  refine ⟨by first | exact acall_hit (c := c58.to) (p, pt b x 0) _ rfl h1 | exact acall_hit (c := c58.to) (p, pt b x 1) _ rfl h1, ?_⟩
  refine ⟨by first | exact acall_hit (c := c75.to) (p, b, x, 0) _ rfl z0 | exact acall_hit (c := c75.to) (p, b, x, 1) _ rfl z1, ?_⟩
  refine ⟨by first | exact acall_hit (c := c58.to) (p, pt b x 0) _ rfl h1 | exact acall_hit (c := c58.to) (p, pt b x 1) _ rfl h1, ?_⟩
  first | with_reducible rfl | (refine bleaf_t ?_; omega) | (refine bleaf_f ?_; omega) | (refine ileaf ?_; omega) | rfl | (exfalso; omega)
noncomputable def c78g : PCtr Tryd.prog where
  f := 78
  X := Int × BitVec 32 × Int
  args q := [cA q.1 q.2.1, I q.2.2]
  pre q := p5 q.1 ∧ is5 q.2.2
  v q := I (les q.1 q.2.1 q.2.2)
  det := by
    rintro ⟨p, b, x⟩ ⟨p', b', x'⟩ e _ _
    simp at e
    simp [e]
  ok := by
    rintro ⟨p, b, x⟩ h
    exact ⟨ok78.call, fun H => pure_call ((r78g p b x h).run ok78 (.pure _ (.pure _ .nil)) rfl) rfl rfl H⟩
theorem dmL_att0 {f : BitVec 32 → Int} {b : BitVec 32} : ∀ j, dmL f b j = 0 ∨ ∃ x, x < j ∧ dfb b (x : Int) = true ∧ dmL f b j = 1 + pick2 false (f (pt b (x : Int) 0)) (f (pt b (x : Int) 1))
  | 0 => .inl rfl
  | j + 1 => by
    have ih := dmL_att0 (f := f) (b := b) j
    have lift : dmL f b (j + 1) = dmL f b j → dmL f b (j + 1) = 0 ∨ ∃ x, x < j + 1 ∧ dfb b (x : Int) = true ∧ dmL f b (j + 1) = 1 + pick2 false (f (pt b (x : Int) 0)) (f (pt b (x : Int) 1)) := by
      intro e
      rw [e]
      rcases ih with h | ⟨x, h1, h2, h3⟩
      · exact .inl h
      · exact .inr ⟨x, by omega, h2, h3⟩
    by_cases hd : dfb b (j : Int) = true
    · have e : dmL f b (j + 1) = pick2 true (dmL f b j) (1 + pick2 false (f (pt b (j : Int) 0)) (f (pt b (j : Int) 1))) := by simp only [dmL, hd, if_true]
      by_cases hl : dmL f b j < 1 + pick2 false (f (pt b (j : Int) 0)) (f (pt b (j : Int) 1))
      · refine .inr ⟨j, by omega, hd, ?_⟩
        rw [e]
        show (if _ > _ then _ else _) = _
        rw [if_pos hl]
      · apply lift
        rw [e]
        show (if _ > _ then _ else _) = _
        rw [if_neg hl]
    · exact lift (by simp only [dmL, hd, if_false]; rfl)
theorem leastN {p : Nat → Prop} : ∀ n, p n → ∃ m, m ≤ n ∧ p m ∧ ∀ j, j < m → ¬ p j := by
  intro n
  induction n using Nat.strongRecOn with
  | _ n ih =>
    intro hn
    by_cases q : ∃ j, j < n ∧ p j
    · obtain ⟨j, hj, hp⟩ := q
      obtain ⟨m, h1, h2, h3⟩ := ih j hj hp
      exact ⟨m, by omega, h2, h3⟩
    · exact ⟨n, Nat.le_refl n, hn, fun j hj hp => q ⟨j, hj, hp⟩⟩
/-- the point that is asked first -/
def isF (p : Int) (b : BitVec 32) (d x : Nat) : Prop := (x : Int) < p ∧ (d : Int) - 1 ≤ les p b x ∧ ∀ i : Nat, i < x → les p b i < (d : Int) - 1
theorem ex_fx {p : Int} {b : BitVec 32} {d : Nat} (h1 : 1 ≤ d) (hd : (d : Int) ≤ dimV p b) : ∃ x, isF p b d x := by
  have hb : b ≠ 0#32 := fun e => by rw [e, dimV_0] at hd; omega
  have e := dimV_eq (p := p) hb
  rcases dmL_att0 (f := dimV p) (b := b) p.toNat with q | ⟨x, h2, _, h3⟩
  · rw [q] at e; omega
  · rw [h3] at e
    obtain ⟨m, g1, g2, g3⟩ := leastN (p := fun y : Nat => (d : Int) - 1 ≤ les p b y) x (by simp only [les]; omega)
    exact ⟨m, by omega, g2, fun i hi => by have := g3 i hi; omega⟩
open Classical in
noncomputable def fx (p : Int) (b : BitVec 32) (d : Nat) : Nat := if h : ∃ x, isF p b d x then Classical.choose h else 0
theorem fx_spec {p : Int} {b : BitVec 32} {d : Nat} (h1 : 1 ≤ d) (hd : (d : Int) ≤ dimV p b) : isF p b d (fx p b d) := by
  have h := ex_fx h1 hd
  unfold fx
  rw [dif_pos h]
  exact Classical.choose_spec h
theorem les_l (p : Int) (b : BitVec 32) (x : Int) : les p b x ≤ dimV p (pt b x 0) := by simp only [les, pick2, Bool.false_eq_true, if_false]; split <;> omega
theorem les_r (p : Int) (b : BitVec 32) (x : Int) : les p b x ≤ dimV p (pt b x 1) := by simp only [les, pick2, Bool.false_eq_true, if_false]; split <;> omega
/-- how many nodes -/
abbrev tn (d : Nat) : Nat := 2 ^ d - 1
theorem tn_succ (d : Nat) : tn (d + 1) = 1 + tn d + tn d := by have := Nat.two_pow_pos d; simp only [tn, Nat.pow_succ]; omega
/-- the tree's nodes, the first of which is the n-th -/
noncomputable def tre (p : Int) : Nat → BitVec 32 → Nat → List Tri
  | 0, _, _ => []
  | d + 1, b, n => if d = 0 then [((fx p b 1 : Int), -1, -1)] else
    ((fx p b (d + 1) : Int), ((n + 1 : Nat) : Int), ((n + 1 + tn d : Nat) : Int)) :: (tre p d (pt b (fx p b (d + 1)) 0) (n + 1) ++ tre p d (pt b (fx p b (d + 1)) 1) (n + 1 + tn d))
theorem tre_len (p : Int) : ∀ (d : Nat) (b : BitVec 32) (n : Nat), (tre p d b n).length = tn d
  | 0, _, _ => rfl
  | d + 1, b, n => by
    rw [tn_succ]
    simp only [tre]
    split
    · rename_i e; subst e; rfl
    · rw [List.length_cons, List.length_append, tre_len p d, tre_len p d]; omega
/-! ### slices of nodes that are written -/
section
variable {P : Program} {t : TypeId}
theorem trisA_app (l m : List Tri) : trisA (l ++ m) = trisA l ++ trisA m := triR.cells_append l m
theorem set_tris {l : List Tri} {i : Nat} (h : i < l.length) (x : Tri) : l.set i x = l.take i ++ x :: l.drop (i + 1) := List.set_eq_take_append_cons_drop .. |>.trans (by rw [if_pos h])
theorem put_mid1 (A B : List AV) (x y z a : AV) : putAt (A ++ ([x, y, z] ++ B)) (A.length + 1) [a] = A ++ ([x, a, z] ++ B) := by
  unfold putAt
  simp [List.take_append, List.drop_append]
  rw [List.take_of_length_le (by omega), List.drop_of_length_le (by omega), show A.length + 1 + 1 - A.length = 2 by omega]; rfl
theorem put_mid2 (A B : List AV) (x y z a : AV) : putAt (A ++ ([x, y, z] ++ B)) (A.length + 2) [a] = A ++ ([x, y, a] ++ B) := by
  unfold putAt
  simp [List.take_append, List.drop_append]
  rw [List.take_of_length_le (by omega), List.drop_of_length_le (by omega), show A.length + 2 + 1 - A.length = 3 by omega]; rfl
theorem tris_split {l : List Tri} {i : Nat} (h : i < l.length) : trisA l = trisA (l.take i) ++ ([I (l.getD i tri0).1, I (l.getD i tri0).2.1, I (l.getD i tri0).2.2] ++ trisA (l.drop (i + 1))) := by
  have e : l.drop i = l.getD i tri0 :: l.drop (i + 1) := triR.getD_at h
  have e0 : trisA l = trisA (l.take i) ++ trisA (l.drop i) := by rw [← trisA_app, List.take_append_drop]
  rw [e0, e]; rfl
theorem tris_set {l : List Tri} {i : Nat} (h : i < l.length) (x : Tri) : trisA (l.set i x) = trisA (l.take i) ++ ([I x.1, I x.2.1, I x.2.2] ++ trisA (l.drop (i + 1))) := by
  rw [set_tris h, trisA_app]; rfl
theorem put1_tri {l : List Tri} {i : Nat} (h : i < l.length) (a : Int) : putAt (trisA l) (i * 3 + 1) [I a] = trisA (l.set i ((l.getD i tri0).1, a, (l.getD i tri0).2.2)) := by
  have hl : (trisA (l.take i)).length = i * 3 := by rw [trisA_len, List.length_take]; omega
  rw [tris_set h, tris_split h, ← hl]
  exact put_mid1 _ _ _ _ _ _
theorem put2_tri {l : List Tri} {i : Nat} (h : i < l.length) (a : Int) : putAt (trisA l) (i * 3 + 2) [I a] = trisA (l.set i ((l.getD i tri0).1, (l.getD i tri0).2.1, a)) := by
  have hl : (trisA (l.take i)).length = i * 3 := by rw [trisA_len, List.length_take]; omega
  rw [tris_set h, tris_split h, ← hl]
  exact put_mid2 _ _ _ _ _ _
theorem ixm_tris (hu : (elemT P t).bind (sizeT P) = some 3) {b n c z : Nat} {k : IntKind} {i : Nat} (h : i < n) :
    aIndexAddr P t (.msl b 0 n c z) (.int k i) = some (.ptr b (0 + i * 3)) := by
  obtain ⟨e, hu, hs, _⟩ := triR.el_of (P := P) hu
  have hs : sizeT P e = some 3 := hs
  simp [aIndexAddr, h, hu, hs]
theorem st1_tri {β : Base} (hs : sizeT P t = some 1) {bs : List (List AV)} {ts : List Nat} {ms : List (List (AV × AV))} {b i : Nat} {l : List Tri} {x : Int}
    (hb : bs[b]? = some (trisA l)) (h : i < l.length) :
    aStore P β t (.ptr b (0 + i * 3 + 1)) (I x) ⟨bs, ts, ms⟩ = some ⟨bs.set b (trisA (l.set i ((l.getD i tri0).1, x, (l.getD i tri0).2.2))), ts, ms⟩ := by
  rw [Nat.zero_add]
  have hc : (I x).cells? = some [I x] := rfl
  simp only [aStore, hc, hs, hb]
  rw [if_pos (by simp [AV.one, AV.bnds, AV.bnd]; omega), put1_tri h]
theorem st2_tri {β : Base} (hs : sizeT P t = some 1) {bs : List (List AV)} {ts : List Nat} {ms : List (List (AV × AV))} {b i : Nat} {l : List Tri} {x : Int}
    (hb : bs[b]? = some (trisA l)) (h : i < l.length) :
    aStore P β t (.ptr b (0 + i * 3 + 2)) (I x) ⟨bs, ts, ms⟩ = some ⟨bs.set b (trisA (l.set i ((l.getD i tri0).1, (l.getD i tri0).2.1, x))), ts, ms⟩ := by
  rw [Nat.zero_add]
  have hc : (I x).cells? = some [I x] := rfl
  simp only [aStore, hc, hs, hb]
  rw [if_pos (by simp [AV.one, AV.bnds, AV.bnd]; omega), put2_tri h]
end
section
local instance wrN : Inhabited Globs := ⟨⟨fun g => match g with | 0 => havs | _ => [], fun t => t == 38⟩⟩
def appT3 (P : Program) (t : TypeId) : Bool :=
  match elemT P t with
  | some e => match P.info? e, zeroCs P e with
    | some i, some z => i.size == 3 && decide (i.bytes ≤ 64) && z.length == 3 && appW t
    | _, _ => false
  | none => false
abbrev rN (R n : Nat) : AV := .msl R 0 n noCap 3
theorem ap_tri {P : Program} {t : TypeId} (hT : appT3 P t = true) {R : Nat} {l : List Tri} {x y z : Int} {h : H} (hR : h.blk[R]? = some (trisA l)) (h0 : 0 < l.length) (h8 : l.length ≤ 1000) :
    aAppend P t t (rN R l.length) (.sl [I x, I y, I z] 1 .full) h = some (rN h.blk.length (l.length + 1), { h with blk := h.blk.set R [] ++ [trisA (l ++ [(x, y, z)])] }) := by
  have e : trisA (l ++ [(x, y, z)]) = trisA l ++ [I x, I y, I z] := trisA_app l _
  rw [e]
  unfold appT3 at hT
  split at hT
  · rename_i e he
    split at hT
    · rename_i i zz hi hz
      simp only [Bool.and_eq_true, beq_iff_eq, decide_eq_true_eq] at hT
      obtain ⟨⟨⟨h1, h2⟩, h3⟩, h4⟩ := hT
      have hb : (l.length + 1) * i.bytes ≤ 2 ^ 47 := Nat.le_trans (Nat.mul_le_mul (Nat.succ_le_succ h8) h2) (by decide)
      have hm : l.length + 1 ≤ maxLen := Nat.le_trans (Nat.succ_le_succ h8) (by decide)
      have ho : ∀ x : Int, (I x).one = true := fun _ => rfl
      simp [aAppend, he, hi, hz, h1, h3, slCells, hR, hb, hm, ho, h0]
    · cases hT
  · cases hT
theorem ap_tri0 {P : Program} {t : TypeId} (hT : appT3 P t = true) {x y z : Int} {h : H} :
    aAppend P t t (.sl [] 0 .nil) (.sl [I x, I y, I z] 1 .full) h = some (rN h.blk.length 1, { h with blk := h.blk ++ [trisA [(x, y, z)]] }) := by
  unfold appT3 at hT
  split at hT
  · rename_i e he
    split at hT
    · rename_i i zz hi hz
      simp only [Bool.and_eq_true, beq_iff_eq, decide_eq_true_eq] at hT
      obtain ⟨⟨⟨h1, h2⟩, h3⟩, h4⟩ := hT
      have hb : i.bytes ≤ 140737488355328 := Nat.le_trans h2 (by decide)
      have ho : ∀ x : Int, (I x).one = true := fun _ => rfl
      have e : trisA [(x, y, z)] = [I x, I y, I z] := rfl
      simp [aAppend, he, hi, hz, h1, h3, h4, slCells, hb, ho]
      exact ⟨by decide, e.symm⟩
    · cases hT
  · cases hT
theorem RV.rN {ρ : Nat → Nat} {n R m : Nat} (h : R < n) : RV ρ n (rN R m) (rN (ρ R) m) := fun Gc G v a => by
  simp only [Lrn.rN, VRel, a.φ R h]
end
end Go.Proofs.Lrn

