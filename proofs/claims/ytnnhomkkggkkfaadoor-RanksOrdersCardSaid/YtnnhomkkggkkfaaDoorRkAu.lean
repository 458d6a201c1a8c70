/- Layer 2: how many pairs an order goes against, by the program. -/
import Derived.Test.YtnnhomkkggkkfaaDoorRkAt
import Derived.KernelRfl
set_option linter.unusedSimpArgs false
set_option linter.unusedVariables false
set_option linter.unnecessarySimpa false
set_option maxHeartbeats 4000000
set_option maxRecDepth 100000
namespace Go.Proofs.Rnk
open Go Go.VM
open Go.Proofs.Sur (andn andn_bit andn_le i_wrap i_and i_or i_andn i_shl i_shr bit_01)

/-- an order's players -/
abbrev ofn (o : List Int) (k : Nat) : Nat := (o.getD k i0).toNat
theorem OB.way {n : Nat} {o : List Int} (h : OB n o) (h8 : n ≤ 8) : way (alls n) (ofn o) n := fun k hk => by
  rw [rs_bit (alls_lt h8) k, alls_bit]
  have hl := h.le
  have hd := h.h.h k (by omega)
  have h1 := hd.a
  have h2 := hd.b
  refine ⟨by simp only [ofn, decide_eq_true_eq]; omega, fun j hj e => hd.d ?_⟩
  have h3 := (h.h.h j (by omega)).a
  have e' : o.getD j i0 = o.getD k i0 := by simp only [ofn] at e; omega
  rw [← e']
  have hjl : j < o.length := by omega
  have : (o.take k)[j]? = some (o.getD j i0) := by
    rw [List.getElem?_take, if_pos hj, List.getD_eq_getElem?_getD, List.getElem?_eq_getElem hjl]; rfl
  exact List.mem_of_getElem? this
/-- how many pairs an order goes against -/
abbrev agV (t o : List Int) : Nat := gs (sn t) (alls t.length) (ofn o) t.length
theorem gs_le8 {A : Nat → Nat} {S : Nat} {o : Nat → Nat} : ∀ k, gs A S o k ≤ 8 * k
  | 0 => by simp [gs]
  | k + 1 => by
    have := gs_le8 (A := A) (S := S) (o := o) k
    have h2 := pc_le (andn (rem (rs S o k) (o k)) (A (o k)))
    simp only [gs, co]; omega
theorem ix_intsI {P : Program} {t : TypeId} (hu : (elemT P t).bind (sizeT P) = some 1) {l : List Int} {n : Nat} {r : Room} {k : IntKind} {i : Int} (h0 : 0 ≤ i) (h : i < n) (hr : r ≠ .nil) :
    aIndexAddr P t (.sl (ints l) n r) (.int k i) = some (.cptr (ints (l.drop i.toNat))) := by
  obtain ⟨m, rfl⟩ : ∃ m : Nat, i = m := ⟨i.toNat, by omega⟩
  exact ix_ints hu (by omega) hr
theorem sl_ints_from {P : Program} {t : TypeId} (hu : (elemT P t).bind (sizeT P) = some 1) {l : List Int} {k : Int} {h : H} (h0 : 0 ≤ k) (hk : k ≤ l.length) :
    aSlice P t (.sl (ints l) l.length .no) (some (.int .i64 k)) none none h = some (.sl (ints (l.drop k.toNat)) (l.drop k.toNat).length .no) := by
  cases he : elemT P t with
  | none => rw [he] at hu; cases hu
  | some e =>
    rw [he] at hu
    have hs : sizeT P e = some 1 := hu
    simp [aSlice, intOf?, aBounds, he, hs, h0, hk, ints, List.map_drop]
    rw [List.take_of_length_le (by simp)]
theorem drop_get {o : List Int} {k : Nat} : (o.drop k).getD 0 i0 = o.getD k i0 := by simp [List.getD_eq_getElem?_getD]
theorem em_wk {l : List Int} {r : Room} (h : em l r) : em l r.wk := fun e => by
  cases r <;> first | (cases e; done) | exact h rfl
noncomputable abbrev cs36 : List (Ctr Tryd.prog) := [c56.to, c74.to, c70.to, c57.to]
theorem ct36 : Ctrs Tryd.prog none1 cs36 := .pure _ (.pure _ (.pure _ (.pure _ .nil)))
abbrev o36 (t o : List Int) : List Out := [.mk Unit (.exit 0) [6] (fun _ => True) (fun _ => [I (agV t o : Nat)]) (fun _ => .nil) (fun _ => [])]
theorem simp36 : allSimpleM none1 (loopAt Tryd.f36 0) = true := by kernel_rfl
theorem lp36 (t : List Int) (r : Room) (h : Tn t) (hr : rok t r) (o : List Int) (ho : OB t.length o) :
    LoopS (En6 cs36) (loopAt Tryd.f36 0) 43 [0, 1, 6, 7] [ls t r, ls o .no, I 0, I (alls t.length : Nat)] .nil (o36 t o) := by
  have hR : Rests (En6 cs36) none1 := rests mixed ct36
  have h8 := h.s.2
  have hA := alls_lt h8
  have hlen := ho.le
  refine loop_s hR simp36 none (by intro _ h; cases h) (fun k vs H => H = .nil ∧ vs = [ls t r, ls (o.drop k) .no, I (gs (sn t) (alls t.length) (ofn o) k : Nat), I (rs (alls t.length) (ofn o) k : Nat)]) t.length ⟨rfl, rfl⟩ (by intro _ h; cases h) ?_
  rintro k vs h' hk ⟨rfl, rfl⟩
  by_cases hz : k < t.length
  · have hd := ho.h.h k (by omega)
    have d0 : 0 ≤ (o.drop k).getD 0 i0 := by rw [drop_get]; exact hd.a
    have d1 : (o.drop k).getD 0 i0 < (t.length : Int) := by rw [drop_get]; exact hd.b
    have d2 : ((o.drop k).getD 0 i0).toNat < t.length := by omega
    have hri := rok_idx hr d2
    have hdl : (o.drop k).length = o.length - k := List.length_drop
    have c0 : (0 : Int) < ((o.drop k).length : Int) := by omega
    have c1 : 0 < (o.drop k).length := by omega
    have c2 : (1 : Int) ≤ ((o.drop k).length : Int) := by omega
    have hsn := h.sn ((o.drop k).getD 0 i0).toNat
    have hb1 := rs_lt (o := ofn o) hA k
    have hb2 := rs_lt (o := ofn o) hA (k + 1)
    have hw := ho.way h8 k hz
    have e0 : ((o.drop k).getD 0 i0).toNat = ofn o k := by rw [drop_get]
    have h2 : 2 ^ ofn o k < 2 ^ 8 := Nat.pow_lt_pow_right (by decide) (by omega)
    have ev1 : IntKind.i64.wrap (1 * 2 ^ min ((o.drop k).getD 0 i0).toNat IntKind.i64.bits) = ((2 ^ ofn o k : Nat) : Int) := by
      rw [e0]
      exact pw_shl (n := ofn o k) (by omega)
    have ev2 : IntKind.i64.wrap ((BitVec.ofInt IntKind.i64.bits ((rs (alls t.length) (ofn o) k : Nat) : Int) &&& ~~~BitVec.ofInt IntKind.i64.bits ((2 ^ ofn o k : Nat) : Int)).toNat : Int) = ((rs (alls t.length) (ofn o) (k + 1) : Nat) : Int) := i_andn (by omega)
    have ev3 : IntKind.i64.wrap ((BitVec.ofInt IntKind.i64.bits ((rs (alls t.length) (ofn o) (k + 1) : Nat) : Int) &&& ~~~BitVec.ofInt IntKind.i64.bits (t.getD ((o.drop k).getD 0 i0).toNat i0)).toNat : Int) = ((andn (rs (alls t.length) (ofn o) (k + 1)) (sn t (ofn o k)) : Nat) : Int) := by
      have := i_andn (a := rs (alls t.length) (ofn o) (k + 1)) (b := sn t ((o.drop k).getD 0 i0).toNat) (by omega)
      rw [hsn.2] at this
      rw [← e0]; exact this
    have p57 : andn (rs (alls t.length) (ofn o) (k + 1)) (sn t (ofn o k)) < 256 := Nat.lt_of_le_of_lt (andn_le (by omega)) hb2
    have hgs := gs_le8 (A := sn t) (S := alls t.length) (o := ofn o) k
    have hpc := pc_le (andn (rs (alls t.length) (ofn o) (k + 1)) (sn t (ofn o k)))
    have ev4 : IntKind.i64.wrap (((gs (sn t) (alls t.length) (ofn o) k : Nat) : Int) + ((pc (andn (rs (alls t.length) (ofn o) (k + 1)) (sn t (ofn o k))) : Nat) : Int)) = ((gs (sn t) (alls t.length) (ofn o) (k + 1) : Nat) : Int) := by
      rw [wr _ (by omega) (by omega)]
      have : gs (sn t) (alls t.length) (ofn o) (k + 1) = gs (sn t) (alls t.length) (ofn o) k + pc (andn (rs (alls t.length) (ofn o) (k + 1)) (sn t (ofn o k))) := rfl
      omega
    have hdd : (o.drop k).drop 1 = o.drop (k + 1) := by rw [List.drop_drop]
    refine ⟨[Ans.o (Orc.b true), Ans.o (Orc.val 27 (AV.cptr (ints (List.drop (0 : Nat) (List.drop k o)))) H.nil), Ans.o (Orc.val 28 (I ((List.drop k o).getD (0 : Nat) i0)) H.nil), Ans.o (Orc.val 29 (I (↑((2 : Nat) ^ ofn o k) : Int)) H.nil), Ans.o (Orc.val 30 (I (↑(rs (alls t.length) (ofn o) (k + (1 : Nat))) : Int)) H.nil), Ans.o (Orc.val 35 (AV.cptr (ints (List.drop (0 : Nat) (List.drop k o)))) H.nil), Ans.o (Orc.val 36 (I ((List.drop k o).getD (0 : Nat) i0)) H.nil), Ans.o (Orc.val 37 (AV.cptr (ints (List.drop ((List.drop k o).getD (0 : Nat) i0).toNat t))) H.nil), Ans.o (Orc.val 38 (I (t.getD ((List.drop k o).getD (0 : Nat) i0).toNat i0)) H.nil), Ans.o (Orc.val 39 (I (↑(andn (rs (alls t.length) (ofn o) (k + (1 : Nat))) (sn t (ofn o k))) : Int)) H.nil), Ans.o (Orc.val 40 (I (↑(pc (andn (rs (alls t.length) (ofn o) (k + (1 : Nat))) (sn t (ofn o k)))) : Int)) (H.mk [] [] [])), Ans.o (Orc.val 41 (I (↑(gs (sn t) (alls t.length) (ofn o) (k + (1 : Nat))) : Int)) H.nil), Ans.o (Orc.val 24 (AV.sl (ints (List.drop (1 : Nat) (List.drop k o))) (List.drop (1 : Nat) (List.drop k o)).length Room.no) H.nil)], fun u => of_eq ((0 : Int) < (↑(List.drop k o).length : Int) ∧ aIndexAddr Tryd.prog (22 : Nat) (AV.sl (ints (List.drop k o)) (List.drop k o).length Room.no) (I 0) = some (AV.cptr (ints (List.drop (0 : Nat) (List.drop k o)))) ∧ aLoad Tryd.prog (3 : Nat) (ints (List.drop (0 : Nat) (List.drop k o))) = some (I ((List.drop k o).getD (0 : Nat) i0)) ∧ aBin Tryd.prog BinOp.shl (3 : Nat) (I 1) (I ((List.drop k o).getD (0 : Nat) i0)) = some (I (↑((2 : Nat) ^ ofn o k) : Int)) ∧ aBin Tryd.prog BinOp.andNot (3 : Nat) (I (↑(rs (alls t.length) (ofn o) k) : Int)) (I (↑((2 : Nat) ^ ofn o k) : Int)) = some (I (↑(rs (alls t.length) (ofn o) (k + (1 : Nat))) : Int)) ∧ aIndexAddr Tryd.prog (22 : Nat) (AV.sl (ints (List.drop k o)) (List.drop k o).length Room.no) (I 0) = some (AV.cptr (ints (List.drop (0 : Nat) (List.drop k o)))) ∧ aLoad Tryd.prog (3 : Nat) (ints (List.drop (0 : Nat) (List.drop k o))) = some (I ((List.drop k o).getD (0 : Nat) i0)) ∧ aIndexAddr Tryd.prog (22 : Nat) (AV.sl (ints t) t.length r) (I ((List.drop k o).getD (0 : Nat) i0)) = some (AV.cptr (ints (List.drop ((List.drop k o).getD (0 : Nat) i0).toNat t))) ∧ aLoad Tryd.prog (3 : Nat) (ints (List.drop ((List.drop k o).getD (0 : Nat) i0).toNat t)) = some (I (t.getD ((List.drop k o).getD (0 : Nat) i0).toNat i0)) ∧ aBin Tryd.prog BinOp.andNot (3 : Nat) (I (↑(rs (alls t.length) (ofn o) (k + (1 : Nat))) : Int)) (I (t.getD ((List.drop k o).getD (0 : Nat) i0).toNat i0)) = some (I (↑(andn (rs (alls t.length) (ofn o) (k + (1 : Nat))) (sn t (ofn o k))) : Int)) ∧ aCall (Sof cs36) (AV.fn (Fn.func (57 : Nat)) [] []) [I (↑(andn (rs (alls t.length) (ofn o) (k + (1 : Nat))) (sn t (ofn o k))) : Int)] (H.mk [] [] []) = some (I (↑(pc (andn (rs (alls t.length) (ofn o) (k + (1 : Nat))) (sn t (ofn o k)))) : Int), H.mk [] [] []) ∧ aBin Tryd.prog BinOp.add (3 : Nat) (I (↑(gs (sn t) (alls t.length) (ofn o) k) : Int)) (I (↑(pc (andn (rs (alls t.length) (ofn o) (k + (1 : Nat))) (sn t (ofn o k)))) : Int)) = some (I (↑(gs (sn t) (alls t.length) (ofn o) (k + (1 : Nat))) : Int)) ∧ aSlice Tryd.prog (22 : Nat) (AV.sl (ints (List.drop k o)) (List.drop k o).length Room.no) (some (I 1)) none none (H.mk [] [] []) = some (AV.sl (ints (List.drop (1 : Nat) (List.drop k o))) (List.drop (1 : Nat) (List.drop k o)).length Room.no) ∧ (43 : Nat) = (43 : Nat) ∧ k < t.length ∧ Keep (H.mk [] [] [] = H.mk [] [] [] ∧ [AV.sl (ints t) t.length r, AV.sl (ints (List.drop (1 : Nat) (List.drop k o))) (List.drop (1 : Nat) (List.drop k o)).length Room.no, I (↑(gs (sn t) (alls t.length) (ofn o) (k + (1 : Nat))) : Int), I (↑(rs (alls t.length) (ofn o) (k + (1 : Nat))) : Int)] = [AV.sl (ints t) t.length r, AV.sl (ints (List.drop (k + (1 : Nat)) o)) (List.drop (k + (1 : Nat)) o).length Room.no, I (↑(gs (sn t) (alls t.length) (ofn o) (k + (1 : Nat))) : Int), I (↑(rs (alls t.length) (ofn o) (k + (1 : Nat))) : Int)])) (by kernel_rfl) ?_⟩
    refine ⟨by first | with_reducible assumption | omega | assumption, ?_⟩
    refine ⟨by first | exact ix_ints (by kernel_rfl) c1 no_ne | exact ix_intsI (by kernel_rfl) d0 d1 hri, ?_⟩
    refine ⟨by first | exact ld_ints (by kernel_rfl) (by kernel_rfl) c1 | exact ld_ints (by kernel_rfl) (by kernel_rfl) d2, ?_⟩
    refine ⟨by first | exact told_shl (by first | exact Int.natCast_nonneg _ | omega) (by with_reducible assumption) | exact told_shl (by omega) rfl, ?_⟩
    refine ⟨told_andn (by with_reducible assumption), ?_⟩
    refine ⟨by first | exact ix_ints (by kernel_rfl) c1 no_ne | exact ix_intsI (by kernel_rfl) d0 d1 hri, ?_⟩
    refine ⟨by first | exact ld_ints (by kernel_rfl) (by kernel_rfl) c1 | exact ld_ints (by kernel_rfl) (by kernel_rfl) d2, ?_⟩
    refine ⟨by first | exact ix_ints (by kernel_rfl) c1 no_ne | exact ix_intsI (by kernel_rfl) d0 d1 hri, ?_⟩
    refine ⟨by first | exact ld_ints (by kernel_rfl) (by kernel_rfl) c1 | exact ld_ints (by kernel_rfl) (by kernel_rfl) d2, ?_⟩
    refine ⟨told_andn (by with_reducible assumption), ?_⟩
    refine ⟨acall_hit (c := c57.to) (andn (rs (alls t.length) (ofn o) (k + 1)) (sn t (ofn o k))) _ rfl p57, ?_⟩
    refine ⟨told_add (by with_reducible assumption), ?_⟩
    refine ⟨sl_ints_from (by kernel_rfl) (by decide) c2, ?_⟩
    refine ⟨by first | with_reducible assumption | omega | assumption, ?_⟩
    refine ⟨by first | with_reducible assumption | omega | assumption, ?_⟩
    exact ⟨rfl, by rw [hdd]⟩
  · have e : k = t.length := by omega
    subst e
    have hdl : (o.drop t.length).length = o.length - t.length := List.length_drop
    have c0 : ((o.drop t.length).length : Int) ≤ 0 := by omega
    refine ⟨[Ans.o (Orc.b false)], fun u => of_eq ((↑(List.drop t.length o).length : Int) ≤ (0 : Int) ∧ (43 : Nat) = (43 : Nat) ∧ hits [Out.mk Unit (AX.exit (0 : Nat)) [(6 : Nat)] (fun x => True) (fun x => [I (↑(agV t o) : Int)]) (fun x => H.nil) fun x => []] (AX.exit (0 : Nat)) [AV.sl (ints t) t.length r, AV.sl (ints (List.drop t.length o)) (List.drop t.length o).length Room.no, u (2 : Nat), u (3 : Nat), u (4 : Nat), u (5 : Nat), I (↑(gs (sn t) (alls t.length) (ofn o) t.length) : Int), I (↑(rs (alls t.length) (ofn o) t.length) : Int), u (8 : Nat), u (9 : Nat), u (10 : Nat), u (11 : Nat), u (12 : Nat), u (13 : Nat), u (14 : Nat), u (15 : Nat), u (16 : Nat), u (17 : Nat), u (18 : Nat), u (19 : Nat), AV.sl (ints (List.drop t.length o)) (List.drop t.length o).length Room.no, I (↑(List.drop t.length o).length : Int), AV.bool false, u (23 : Nat), u (24 : Nat), u (25 : Nat), u (26 : Nat), u (27 : Nat), u (28 : Nat), u (29 : Nat), u (30 : Nat), u (31 : Nat), u (32 : Nat), u (33 : Nat), u (34 : Nat), u (35 : Nat), u (36 : Nat), u (37 : Nat), u (38 : Nat), u (39 : Nat), u (40 : Nat), u (41 : Nat), u (42 : Nat)] (H.mk [] [] [])) (by kernel_rfl) ?_⟩
    refine ⟨by first | with_reducible assumption | omega | assumption, ?_⟩
    refine ⟨by first | with_reducible assumption | omega | assumption, ?_⟩
    exact .inl ⟨(), trivial, rfl, rfl, rfl⟩
theorem ok36 : FokM Tryd.prog none1 36 Tryd.f36 := ⟨mixed, by kernel_rfl, by kernel_rfl, by kernel_rfl, by kernel_rfl⟩
theorem r36t (t : List Int) (r : Room) (h : Tn t) (hr : rok t r) (o : List Int) (ho : OB t.length o) : Body (En6 cs36) none1 Tryd.f36 [ls t r, ls o .no] .nil (.tup [I (agV t o : Nat), I 0], .nil) := by
  have h8 := h.s.2
  have h1 := h.s.1
  have hb := tn_t h
  have hob := odB_t ho
  have hlen := ho.le
  have p56 : (lim t.length ∧ rok t r) ∧ inI t := ⟨⟨by simp only [lim]; omega, hr⟩, fun i _ => by have := h.s8 i; simp only [s8] at this; simp only [i64]; omega⟩
  have p74 : (lim o.length ∧ rok o .no ∧ em o .no) ∧ 1 ≤ t.length := ⟨⟨by simp only [lim]; omega, fun _ => no_ne, fun q => by cases q⟩, h1⟩
  have p70 : t.length ≤ 8 ∧ rok t r := ⟨h8, hr⟩
  have lp := lp36 t r h hr o ho
  refine body_s ([Ans.o (Orc.val 9 (AV.bool true) (H.mk [] [] [])), Ans.o (Orc.val 15 (AV.bool true) (H.mk [] [] [])), Ans.o (Orc.val 19 (I (↑(alls t.length) : Int)) (H.mk [] [] [])), Ans.loop [(0 : Nat), (1 : Nat), (6 : Nat), (7 : Nat)] [Out.mk Unit (AX.exit (0 : Nat)) [(6 : Nat)] (fun x => True) (fun x => [I (↑(agV t o) : Int)]) (fun x => H.nil) fun y => []]]) (aCall (Sof cs36) (AV.fn (Fn.func (56 : Nat)) [] []) [AV.sl (ints t) t.length r] (H.mk [] [] []) = some (AV.bool true, H.mk [] [] []) ∧ aCall (Sof cs36) (AV.fn (Fn.func (74 : Nat)) [] []) [AV.sl (ints o) o.length Room.no, I (↑t.length : Int)] (H.mk [] [] []) = some (AV.bool true, H.mk [] [] []) ∧ aCall (Sof cs36) (AV.fn (Fn.func (70 : Nat)) [] []) [AV.sl (ints t) t.length r] (H.mk [] [] []) = some (I (↑(alls t.length) : Int), H.mk [] [] []) ∧ LoopS (Env.mk Tryd.prog (Sof cs36) (Pof (P := Tryd.prog) []) H.nil.base (300 : Nat)) (loopAt Tryd.f36 (0 : Nat)) (43 : Nat) [(0 : Nat), (1 : Nat), (6 : Nat), (7 : Nat)] [AV.sl (ints t) t.length r, AV.sl (ints o) o.length Room.no, I 0, I (↑(alls t.length) : Int)] (H.mk [] [] []) [Out.mk Unit (AX.exit (0 : Nat)) [(6 : Nat)] (fun x => True) (fun x => [I (↑(agV t o) : Int)]) (fun x => H.nil) fun y => []] ∧ (∀ (y : Unit), True → ∀ (u : Nat → AV), (AV.tup [I (↑(agV t o) : Int), I 0], H.mk [] [] []) = (AV.tup [I (↑(agV t o) : Int), I 0], H.mk [] [] [])) ∧ True) (by kernel_rfl) ?_
  refine ⟨acall_b (acall_hit (c := c56.to) (t, r) _ rfl p56) hb, ?_⟩
  refine ⟨acall_b (acall_hit (c := c74.to) ((o, .no), t.length) _ rfl p74) hob, ?_⟩
  refine ⟨acall_hit (c := c70.to) (t, r) _ rfl p70, ?_⟩
  refine ⟨lp, ?_⟩
  refine And.intro ?_ ?_
  · skip
    intro y
    intro w1
    intro u
    first | with_reducible rfl | (refine bleaf_t ?_; omega) | (refine bleaf_f ?_; omega) | (refine ileaf ?_; omega) | rfl | (exfalso; omega)
  · skip
    trivial
theorem r36n (t : List Int) (r : Room) (h : Tn t) (hr : rok t r) (o : List Int) (q : Room) (hq : lim o.length ∧ rok o q ∧ em o q) (ho : ¬ OB t.length o) : Body (En6 [c56.to, c74.to]) none1 Tryd.f36 [ls t r, ls o q] .nil (.tup [I 0, I 2], .nil) := by
  have h8 := h.s.2
  have h1 := h.s.1
  have hb := tn_t h
  have hob := odB_f ho
  have p56 : (lim t.length ∧ rok t r) ∧ inI t := ⟨⟨by simp only [lim]; omega, hr⟩, fun i _ => by have := h.s8 i; simp only [s8] at this; simp only [i64]; omega⟩
  have p74 : (lim o.length ∧ rok o q ∧ em o q) ∧ 1 ≤ t.length := ⟨hq, h1⟩
  refine body_s ([Ans.o (Orc.val 9 (AV.bool true) (H.mk [] [] [])), Ans.o (Orc.val 15 (AV.bool false) (H.mk [] [] []))]) (aCall (Sof [c56.to, c74.to]) (AV.fn (Fn.func (56 : Nat)) [] []) [AV.sl (ints t) t.length r] (H.mk [] [] []) = some (AV.bool true, H.mk [] [] []) ∧ aCall (Sof [c56.to, c74.to]) (AV.fn (Fn.func (74 : Nat)) [] []) [AV.sl (ints o) o.length q, I (↑t.length : Int)] (H.mk [] [] []) = some (AV.bool false, H.mk [] [] []) ∧ (AV.tup [I 0, I 2], H.mk [] [] []) = (AV.tup [I 0, I 2], H.mk [] [] [])) (by kernel_rfl) ?_
  refine ⟨acall_b (acall_hit (c := c56.to) (t, r) _ rfl p56) hb, ?_⟩
  refine ⟨acall_b (acall_hit (c := c74.to) ((o, q), t.length) _ rfl p74) hob, ?_⟩
  first | with_reducible rfl | (refine bleaf_t ?_; omega) | (refine bleaf_f ?_; omega) | (refine ileaf ?_; omega) | rfl | (exfalso; omega)
theorem r36f (t : List Int) (r : Room) (o : List Int) (q : Room) (hp : (lim t.length ∧ rok t r ∧ inI t) ∧ ¬ Tn t) : Body (En6 [c56.to]) none1 Tryd.f36 [ls t r, ls o q] .nil (.tup [I 0, I 2], .nil) := by
  obtain ⟨⟨h1, hr, h3⟩, hn⟩ := hp
  have hb := tn_f hn
  have p56 : (lim t.length ∧ rok t r) ∧ inI t := ⟨⟨h1, hr⟩, h3⟩
  refine body_s ([Ans.o (Orc.val 9 (AV.bool false) (H.mk [] [] []))]) (aCall (Sof [c56.to]) (AV.fn (Fn.func (56 : Nat)) [] []) [AV.sl (ints t) t.length r] (H.mk [] [] []) = some (AV.bool false, H.mk [] [] []) ∧ (AV.tup [I 0, I 2], H.mk [] [] []) = (AV.tup [I 0, I 2], H.mk [] [] [])) (by kernel_rfl) ?_
  refine ⟨acall_b (acall_hit (c := c56.to) (t, r) _ rfl p56) hb, ?_⟩
  first | with_reducible rfl | (refine bleaf_t ?_; omega) | (refine bleaf_f ?_; omega) | (refine ileaf ?_; omega) | rfl | (exfalso; omega)
/-- 'Against' of a tournament and an order -/
noncomputable def c36t : PCtr Tryd.prog where
  f := 36
  X := (List Int × Room) × List Int × Room
  args x := [ls x.1.1 x.1.2, ls x.2.1 x.2.2]
  pre x := (Tn x.1.1 ∧ rok x.1.1 x.1.2) ∧ OB x.1.1.length x.2.1 ∧ rok x.2.1 x.2.2 ∧ em x.2.1 x.2.2
  v x := .tup [I (agV x.1.1 x.2.1 : Nat), I 0]
  det := by
    rintro ⟨⟨t, r⟩, o, q⟩ ⟨⟨t', r'⟩, o', q'⟩ e _ _
    simp only [List.cons.injEq, AV.sl.injEq, and_true] at e
    obtain ⟨⟨e1, _, _⟩, e2, _, _⟩ := e
    rw [ints_inj e1, ints_inj e2]
  ok := by
    rintro ⟨⟨t, r⟩, o, q⟩ ⟨⟨h, hr⟩, ho, hq, hem⟩
    refine ⟨ok36.call, fun H => ?_⟩
    have hne : o ≠ [] := fun e => by have := ho.le; have := h.s.1; rw [e] at *; simp at *; omega
    have k1 := (r36t t r.wk h (by simpa using hr) o ho).run ok36 ct36 rfl
    have k2 := pure_call k1 (by simp [AV.bnds, AV.bnd, rm_wk_bnd]; rfl) (by simp [AV.bnd, AV.bnds]) H
    have : AV.wk (ls o q) = ls o .no := by
      have hq' := hq hne
      cases q with
      | nil => exact absurd rfl hq'
      | e => exact absurd (hem rfl) hne
      | _ => rfl
    have k3 : CallOk Tryd.prog 36 [AV.wk (ls t r), AV.wk (ls o q)] H (.tup [I (agV t o : Nat), I 0]) H := by rw [this]; exact k2
    exact k3.wk
noncomputable def c36n : PCtr Tryd.prog := sctr ok36 (X := (List Int × Room) × List Int × Room) (fun x => [ls x.1.1 x.1.2, ls x.2.1 x.2.2]) (fun x => ((Tn x.1.1 ∧ rok x.1.1 x.1.2) ∧ ¬ OB x.1.1.length x.2.1) ∧ lim x.2.1.length ∧ rok x.2.1 x.2.2 ∧ em x.2.1 x.2.2) (fun _ => .tup [I 0, I 2])
  (by intro x y e _ _; rfl) (fun x => by simp [AV.bnds, AV.bnd, AV.wk, rm_wk_bnd]) (fun x => by simp [AV.bnd, AV.bnds]) (fun x hx => ⟨_, _, _, .pure _ (.pure _ .nil), r36n x.1.1 x.1.2.wk hx.1.1.1 (by simpa using hx.1.1.2) x.2.1 x.2.2.wk ⟨hx.2.1, by simpa using hx.2.2.1, em_wk hx.2.2.2⟩ hx.1.2⟩)
noncomputable def c36f : PCtr Tryd.prog := sctr ok36 (X := (List Int × Room) × List Int × Room) (fun x => [ls x.1.1 x.1.2, ls x.2.1 x.2.2]) (fun x => (lim x.1.1.length ∧ rok x.1.1 x.1.2 ∧ inI x.1.1) ∧ ¬ Tn x.1.1) (fun _ => .tup [I 0, I 2])
  (by intro x y e _ _; rfl) (fun x => by simp [AV.bnds, AV.bnd, AV.wk, rm_wk_bnd]) (fun x => by simp [AV.bnd, AV.bnds]) (fun x hx => ⟨_, _, _, .pure _ .nil, r36f x.1.1 x.1.2.wk x.2.1 x.2.2.wk (by simp only [rok_wk]; exact hx)⟩)
end Go.Proofs.Rnk

