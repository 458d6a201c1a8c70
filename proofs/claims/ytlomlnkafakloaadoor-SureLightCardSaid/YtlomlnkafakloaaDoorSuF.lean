/- Layer 5: the words of a length. -/
import Derived.Test.YtlomlnkafakloaaDoorSuE
import Derived.KernelRfl
set_option linter.unusedSimpArgs false
set_option linter.unusedVariables false
set_option linter.unnecessarySimpa false
set_option maxHeartbeats 4000000
set_option maxRecDepth 100000
namespace Go.Proofs.Sur
open Go Go.VM

theorem leave_bs (bs : List (List AV)) {v : AV} (hb : v.bnd 0 0 0 = true) : leave ⟨0, 0, 0⟩ v ⟨bs, [], []⟩ = (v, .nil) := by
  simp [leave, hb, H.nil]
abbrev rn {α : Type} (l : List α) : Room := (rm 0 l).wk
theorem rn_rok {α : Type} (l : List α) : rok l (rn l) := by cases l <;> simp [rok, rn, rm, Room.wk]
theorem rn_no {α : Type} {l : List α} (h : l.length ≠ 0) : rn l = .no := by
  cases l with
  | nil => simp at h
  | cons x l => rfl
theorem fold_bit (f : Nat → W) (k : Nat) : ∀ (l : List Nat) (s : W), (l.foldl (fun s t => s ||| f t) s).getLsbD k = true ↔ s.getLsbD k = true ∨ ∃ t, t ∈ l ∧ (f t).getLsbD k = true
  | [], s => by simp
  | t :: l, s => by
    rw [List.foldl_cons, fold_bit f k l, BitVec.getLsbD_or, Bool.or_eq_true]
    constructor
    · rintro ((h | h) | ⟨u, h1, h2⟩)
      · exact .inl h
      · exact .inr ⟨t, by simp, h⟩
      · exact .inr ⟨u, by simp [h1], h2⟩
    · rintro (h | ⟨u, h1, h2⟩)
      · exact .inl (.inl h)
      · rcases List.mem_cons.1 h1 with rfl | h1
        · exact .inl (.inr h2)
        · exact .inr ⟨u, h1, h2⟩
theorem prW_bit {x y : W} {n k : Nat} : (prW x y n).getLsbD k = true ↔ ∃ t, x.getLsbD t = true ∧ (y <<< (t * n)).getLsbD k = true := by
  rw [prW, fold_bit (fun t => y <<< (t * n))]
  constructor
  · rintro (h | ⟨t, h1, h2⟩)
    · simp at h
    · exact ⟨t, mem_bits.1 h1, h2⟩
  · rintro ⟨t, h1, h2⟩
    exact .inr ⟨t, mem_bits.2 h1, h2⟩
theorem prW_iff {x y : W} {m n k : Nat} (hx : sub x m) (hy : sub y n) (hmn : m * n ≤ 64) (hk : k < m * n) : (prW x y n).getLsbD k = (x.getLsbD (k / n) && y.getLsbD (k % n)) := by
  have hn : 0 < n := by
    refine Nat.pos_of_ne_zero fun h => ?_
    subst h; simp at hk
  rw [Bool.eq_iff_iff, prW_bit, Bool.and_eq_true]
  constructor
  · rintro ⟨t, h1, h2⟩
    rw [BitVec.getLsbD_shiftLeft] at h2
    simp only [Bool.and_eq_true, Bool.not_eq_true', decide_eq_false_iff_not, decide_eq_true_eq] at h2
    obtain ⟨⟨_, h3⟩, h4⟩ := h2
    have h5 := hy _ h4
    have e1 : k = (k - t * n) + n * t := by rw [Nat.mul_comm n t]; omega
    have e2 : k / n = t := by rw [e1, Nat.add_mul_div_left _ _ hn, Nat.div_eq_of_lt h5]; omega
    have e3 : k % n = k - t * n := by conv => lhs; rw [e1, Nat.add_mul_mod_self_left, Nat.mod_eq_of_lt h5]
    rw [e2, e3]; exact ⟨h1, h4⟩
  · rintro ⟨h1, h2⟩
    refine ⟨k / n, h1, ?_⟩
    have e := Nat.div_add_mod k n
    rw [BitVec.getLsbD_shiftLeft]
    have e2 : k - k / n * n = k % n := by rw [Nat.mul_comm]; omega
    have e3 : ¬ k < k / n * n := by rw [Nat.mul_comm]; omega
    rw [e2, h2]
    simp [e3]; omega
theorem prW_sub {x y : W} {m n : Nat} (hx : sub x m) (hy : sub y n) : sub (prW x y n) (m * n) := fun k hk => by
  obtain ⟨t, h1, h2⟩ := prW_bit.1 hk
  rw [BitVec.getLsbD_shiftLeft] at h2
  simp only [Bool.and_eq_true, Bool.not_eq_true', decide_eq_false_iff_not, decide_eq_true_eq] at h2
  have h5 := hy _ h2.2
  have h6 := hx _ h1
  have : (t + 1) * n ≤ m * n := Nat.mul_le_mul_right n h6
  rw [Nat.succ_mul] at this
  omega
theorem prV_get (b : List W) (hb : b.length ≠ 0) : ∀ (a : List W) (i : Nat), i < a.length * b.length → wt_ (prV a b) i = prW (wt_ a (i / b.length)) (wt_ b (i % b.length)) b.length
  | [], i, h => by simp at h
  | x :: a, i, h => by
    have hb' : 0 < b.length := Nat.pos_of_ne_zero hb
    have e : prV (x :: a) b = (b.map fun y => prW x y b.length) ++ prV a b := by simp [prV]
    rw [List.length_cons, Nat.succ_mul] at h
    by_cases hi : i < b.length
    · have e1 : i / b.length = 0 := Nat.div_eq_of_lt hi
      have e2 : i % b.length = i := Nat.mod_eq_of_lt hi
      simp only [wt_]
      rw [e, e1, e2]
      simp [List.getD_eq_getElem?_getD, List.getElem?_append_left, hi]
    · have e1 : i / b.length = (i - b.length) / b.length + 1 := by
        have : i = (i - b.length) + b.length := by omega
        conv => lhs; rw [this]
        rw [Nat.add_div_right _ hb']
      have e2 : i % b.length = (i - b.length) % b.length := by
        have : i = (i - b.length) + b.length := by omega
        conv => lhs; rw [this]
        rw [Nat.add_mod_right]
      have ih := prV_get b hb a (i - b.length) (by omega)
      simp only [wt_] at *
      rw [e, e1, e2]
      rw [List.getD_eq_getElem?_getD, List.getElem?_append_right (by simpa using Nat.le_of_not_lt hi)]
      simp only [List.length_map]
      rw [← List.getD_eq_getElem?_getD, ih]
      simp
abbrev gdW (w : List W) : Prop := (w.length ≠ 0 ∧ w.length ≤ 64) ∧ inW w w.length ∧ rfx w
theorem nrV_get {g : List Int} {i : Nat} (h : i < g.length) : wt_ (nrV g) i = nrB g i := by
  simp [wt_, nrV, List.getD_eq_getElem?_getD, h]
theorem bi_lt {g : List Int} (h : sz g) (k : rg g) {i e : Nat} (hi : i < g.length) (hb : bi (at_ g i) e = true) : e < g.length := by
  refine Classical.byContradiction fun hc => ?_
  obtain ⟨h0, h1⟩ := k i hi
  have : (at_ g i).toNat < 2 ^ e := Nat.lt_of_lt_of_le (by omega : (at_ g i).toNat < 2 ^ g.length) (Nat.pow_le_pow_right (by decide) (by omega))
  rw [bi, Nat.testBit_lt_two_pow this] at hb; cases hb
theorem nrB_bit {g : List Int} (h : sz g) {i e : Nat} (hi : i < g.length) (he : e < 64) : (nrB g i).getLsbD e = (bi (at_ g i) e || decide (e = i)) := by
  have := h.2
  rw [nrB, BitVec.getLsbD_or, one_bit (by omega), BitVec.getLsbD_ofNat]
  simp [he]
theorem nrV_gd {g : List Int} (h : Gr g) : gdW (nrV g) := by
  have h6 := h.1.2
  have h1 := h.1.1
  refine ⟨⟨by rw [nrV_len]; omega, by rw [nrV_len]; omega⟩, ?_, by rw [nrV_len]; omega, ?_⟩
  · intro i hi k hk
    have h64 := bit_lt hk
    rw [nrV_len] at *
    rw [nrV_get hi, nrB_bit h.1 hi h64, Bool.or_eq_true, decide_eq_true_eq] at hk
    rcases hk with hk | rfl
    · exact bi_lt h.1 h.2.1 hi hk
    · exact hi
  · intro i hi
    rw [nrV_len] at *
    rw [nrV_get hi, nrB_bit h.1 hi (by omega)]; simp
theorem prV_gd {a b : List W} (ha : gdW a) (hb : gdW b) (h : a.length * b.length ≤ 64) : gdW (prV a b) := by
  have hn : 0 < b.length := Nat.pos_of_ne_zero hb.1.1
  have key : ∀ i, i < a.length * b.length → i / b.length < a.length ∧ i % b.length < b.length := fun i hi => ⟨by rw [Nat.div_lt_iff_lt_mul hn]; exact hi, Nat.mod_lt _ hn⟩
  refine ⟨⟨?_, by rw [prV_len]; exact h⟩, ?_, by rw [prV_len]; exact h, ?_⟩
  · rw [prV_len]; exact Nat.ne_of_gt (Nat.mul_pos (Nat.pos_of_ne_zero ha.1.1) hn)
  · intro i hi k hk
    rw [prV_len] at *
    obtain ⟨k1, k2⟩ := key i hi
    rw [prV_get b hb.1.1 a i hi] at hk
    exact prW_sub (ha.2.1 _ k1) (hb.2.1 _ k2) k hk
  · intro i hi
    rw [prV_len] at hi
    obtain ⟨k1, k2⟩ := key i hi
    rw [prV_get b hb.1.1 a i hi, prW_iff (ha.2.1 _ k1) (hb.2.1 _ k2) h hi, ha.2.2.2 _ k1, hb.2.2.2 _ k2]; rfl
def rdF (g : List Int) : Nat → List W → Option (List W)
  | 0, w => some w
  | n + 1, w => if 64 < w.length * g.length then none else rdF g n (prV w (nrV g))
theorem rdF_gd {g : List Int} (h : Gr g) : ∀ (n : Nat) (w u : List W), gdW w → rdF g n w = some u → gdW u
  | 0, w, u, hw, e => by cases e; exact hw
  | n + 1, w, u, hw, e => by
    simp only [rdF] at e
    split at e
    · cases e
    · exact rdF_gd h n _ u (prV_gd hw (nrV_gd h) (by rw [nrV_len]; omega)) e
noncomputable def rdE (g : List Int) (k : Int) : Int := if grB g = true ∧ 1 ≤ k ∧ k ≤ 3 then (match rdF g (k - 1).toNat (nrV g) with | none => 6 | some _ => 0) else 2
noncomputable def rdW (g : List Int) (k : Int) : List W := if grB g = true ∧ 1 ≤ k ∧ k ≤ 3 then (rdF g (k - 1).toNat (nrV g)).getD [] else []
theorem grB_iff {g : List Int} : grB g = true ↔ Gr g := by
  constructor
  · intro h; exact Classical.byContradiction fun hc => by rw [grB_f hc] at h; cases h
  · exact grB_t
theorem i_mul2 {a b : Nat} (h : a ≤ 64) (k : b ≤ 64) : IntKind.i64.wrap ((a : Int) * (b : Int)) = ((a * b : Nat) : Int) := by
  have : (a : Int) * (b : Int) = ((a * b : Nat) : Int) := by simp
  have h2 := Nat.mul_le_mul h k
  rw [this]; exact i_wrap (by omega)
abbrev o62 (g : List Int) (k : Int) : List Out :=
  [.mk Unit .ret [4, 5] (fun _ => rdF g (k - 1).toNat (nrV g) = none) (fun _ => [.sl [] 0 .nil, I 6]) (fun _ => .nil) (fun _ => []), .mk (List W) (.exit 0) [6] (fun w => rdF g (k - 1).toNat (nrV g) = some w) (fun w => [ws w .no]) (fun _ => .nil) (fun _ => [])]
theorem simp62 : allSimpleM none1 (loopAt Tryd.f62 0) = true := by kernel_rfl
theorem no_ne : Room.no ≠ Room.nil := by decide
theorem lp62 (g : List Int) (r : Room) (k : Int) (hg : Gr g) (hr : rok g r) (hk : 1 ≤ k ∧ k ≤ 3) :
    LoopS (En6 [c67.to, c78.to, c77.to]) (loopAt Tryd.f62 0) 36 [0, 6, 21, 22] [ls g r, ws (nrV g) .no, I (k - 1), I 0] .nil (o62 g k) := by
  have hR : Rests (En6 [c67.to, c78.to, c77.to]) none1 := rests mixed (.pure _ (.pure _ (.pure _ .nil)))
  have hnr := nrV_gd hg
  have h6 := hg.1.2
  refine loop_s hR simp62 none (by intro _ h; cases h) (fun j vs h => ∃ w : List W, h = .nil ∧ vs = [ls g r, ws w .no, I (k - 1), I j] ∧ rdF g (k - 1).toNat (nrV g) = rdF g ((k - 1).toNat - j) w ∧ gdW w) (k - 1).toNat ⟨nrV g, rfl, rfl, rfl, nrV_gd hg⟩ (by intro _ h; cases h) ?_
  rintro j vs h hj ⟨w, rfl, rfl, ha, hw⟩
  by_cases hz : (j : Int) < k - 1
  · have e : (k - 1).toNat - j = ((k - 1).toNat - (j + 1)) + 1 := by omega
    have hw64 := hw.1.2
    have ev0 := i_mul2 hw64 (show g.length ≤ 64 by omega)
    rw [e] at ha
    simp only [rdF] at ha
    by_cases hs : 64 < w.length * g.length
    · rw [if_pos hs] at ha
      have hs' : (64 : Int) < ((w.length * g.length : Nat) : Int) := by omega
      refine ⟨[Ans.o (Orc.b true), Ans.o (Orc.val 28 (I (↑(w.length * g.length) : Int)) H.nil), Ans.o (Orc.b true)], fun u => of_eq ((↑j : Int) < k - (1 : Int) ∧ aBin Tryd.prog BinOp.mul (3 : Nat) (I (↑w.length : Int)) (I (↑g.length : Int)) = some (I (↑(w.length * g.length) : Int)) ∧ (64 : Int) < (↑(w.length * g.length) : Int) ∧ (36 : Nat) = (36 : Nat) ∧ hits [Out.mk Unit AX.ret [4, 5] (fun x => rdF g (k - (1 : Int)).toNat (nrV g) = none) (fun x => [AV.sl [] (0 : Nat) Room.nil, I 6]) (fun x => H.nil) fun x => [], Out.mk (List W) (AX.exit 0) [6] (fun w => rdF g (k - (1 : Int)).toNat (nrV g) = some w) (fun w => [ws w Room.no]) (fun x => H.nil) fun x => []] AX.ret [ls g r, u (1 : Nat), u (2 : Nat), u (3 : Nat), AV.sl [] (0 : Nat) Room.nil, I 6, AV.sl (u64s w) w.length Room.no, u (7 : Nat), u (8 : Nat), u (9 : Nat), u (10 : Nat), u (11 : Nat), u (12 : Nat), u (13 : Nat), u (14 : Nat), u (15 : Nat), u (16 : Nat), u (17 : Nat), u (18 : Nat), u (19 : Nat), u (20 : Nat), I (k - (1 : Int)), I (↑j : Int), AV.bool true, AV.sl (u64s w) w.length Room.no, I (↑w.length : Int), ls g r, I (↑g.length : Int), I (↑(w.length * g.length) : Int), AV.bool true, u (30 : Nat), u (31 : Nat), u (32 : Nat), u (33 : Nat), u (34 : Nat), u (35 : Nat)] (H.mk [] [] [])) (by kernel_rfl) ?_⟩
      refine ⟨by first | with_reducible assumption | omega | assumption, ?_⟩
      refine ⟨told_mul (by with_reducible assumption), ?_⟩
      refine ⟨by first | with_reducible assumption | omega | assumption, ?_⟩
      refine ⟨by first | with_reducible assumption | omega | assumption, ?_⟩
      exact .inl ⟨(), ha, rfl, rfl, rfl⟩
    · rw [if_neg hs] at ha
      have hs' : ((w.length * g.length : Nat) : Int) ≤ 64 := by omega
      have p78 : Gr g ∧ rok g r := ⟨hg, hr⟩
      have p77 : (pok w (nrV g) ∧ rok w .no ∧ rok (nrV g) .no) ∧ w.length ≠ 0 ∧ (nrV g).length ≠ 0 := ⟨⟨⟨hw.2.1, by rw [nrV_len]; omega, hw64, hnr.1.2⟩, fun _ => no_ne, fun _ => no_ne⟩, hw.1.1, hnr.1.1⟩
      have hk2 := prV_gd hw hnr (by rw [nrV_len]; omega)
      refine ⟨[Ans.o (Orc.b true), Ans.o (Orc.val 28 (I (↑(w.length * g.length) : Int)) H.nil), Ans.o (Orc.b false), Ans.o (Orc.val 32 (AV.sl (u64s (nrV g)) (nrV g).length Room.no) (H.mk [] [] [])), Ans.o (Orc.val 33 (AV.sl (u64s (prV w (nrV g))) (prV w (nrV g)).length Room.no) (H.mk [] [] []))], fun u => of_eq ((↑j : Int) < k - (1 : Int) ∧ aBin Tryd.prog BinOp.mul (3 : Nat) (I (↑w.length : Int)) (I (↑g.length : Int)) = some (I (↑(w.length * g.length) : Int)) ∧ (↑(w.length * g.length) : Int) ≤ (64 : Int) ∧ aCall (Sof [c67.to, c78.to, c77.to]) (AV.fn (Fn.func 78) [] []) [ls g r] (H.mk [] [] []) = some (AV.sl (u64s (nrV g)) (nrV g).length Room.no, H.mk [] [] []) ∧ aCall (Sof [c67.to, c78.to, c77.to]) (AV.fn (Fn.func 77) [] []) [AV.sl (u64s w) w.length Room.no, AV.sl (u64s (nrV g)) (nrV g).length Room.no] (H.mk [] [] []) = some (AV.sl (u64s (prV w (nrV g))) (prV w (nrV g)).length Room.no, H.mk [] [] []) ∧ IntKind.i64.wrap ((↑j : Int) + (1 : Int)) = (↑j : Int) + (1 : Int) ∧ (36 : Nat) = (36 : Nat) ∧ j < (k - (1 : Int)).toNat ∧ Keep (∃ w_1, H.mk [] [] [] = H.mk [] [] [] ∧ [ls g r, AV.sl (u64s (prV w (nrV g))) (prV w (nrV g)).length Room.no, I (k - (1 : Int)), I ((↑j : Int) + (1 : Int))] = [ls g r, AV.sl (u64s w_1) w_1.length Room.no, I (k - (1 : Int)), I (↑(j + (1 : Nat)) : Int)] ∧ rdF g (k - (1 : Int)).toNat (nrV g) = rdF g ((k - (1 : Int)).toNat - (j + (1 : Nat))) w_1 ∧ gdW w_1)) (by kernel_rfl) ?_⟩
      refine ⟨by first | with_reducible assumption | omega | assumption, ?_⟩
      refine ⟨told_mul (by with_reducible assumption), ?_⟩
      refine ⟨by first | with_reducible assumption | omega | assumption, ?_⟩
      refine ⟨acall_hit (c := c78.to) (g, r) _ rfl p78, ?_⟩
      refine ⟨acall_hit (c := c77.to) (w, .no, nrV g, .no) _ rfl p77, ?_⟩
      refine ⟨wr _ (by omega) (by omega), ?_⟩
      refine ⟨by first | with_reducible assumption | omega | assumption, ?_⟩
      refine ⟨by first | with_reducible assumption | omega | assumption, ?_⟩
      exact ⟨_, rfl, rfl, ha, hk2⟩
  · have hz : k - 1 ≤ (j : Int) := by omega
    have e : (k - 1).toNat - j = 0 := by omega
    rw [e] at ha
    have ha : rdF g (k - 1).toNat (nrV g) = some w := ha
    refine ⟨[Ans.o (Orc.b false)], fun u => of_eq (k - (1 : Int) ≤ (↑j : Int) ∧ (36 : Nat) = (36 : Nat) ∧ hits [Out.mk Unit AX.ret [4, 5] (fun x => rdF g (k - (1 : Int)).toNat (nrV g) = none) (fun x => [AV.sl [] (0 : Nat) Room.nil, I 6]) (fun x => H.nil) fun x => [], Out.mk (List W) (AX.exit 0) [6] (fun w => rdF g (k - (1 : Int)).toNat (nrV g) = some w) (fun w => [ws w Room.no]) (fun x => H.nil) fun x => []] (AX.exit 0) [ls g r, u (1 : Nat), u (2 : Nat), u (3 : Nat), u (4 : Nat), u (5 : Nat), AV.sl (u64s w) w.length Room.no, u (7 : Nat), u (8 : Nat), u (9 : Nat), u (10 : Nat), u (11 : Nat), u (12 : Nat), u (13 : Nat), u (14 : Nat), u (15 : Nat), u (16 : Nat), u (17 : Nat), u (18 : Nat), u (19 : Nat), u (20 : Nat), I (k - (1 : Int)), I (↑j : Int), AV.bool false, u (24 : Nat), u (25 : Nat), u (26 : Nat), u (27 : Nat), u (28 : Nat), u (29 : Nat), u (30 : Nat), u (31 : Nat), u (32 : Nat), u (33 : Nat), u (34 : Nat), u (35 : Nat)] (H.mk [] [] [])) (by kernel_rfl) ?_⟩
    refine ⟨by first | with_reducible assumption | omega | assumption, ?_⟩
    refine ⟨by first | with_reducible assumption | omega | assumption, ?_⟩
    exact .inr (.inl ⟨w, ha, rfl, rfl, rfl⟩)
theorem rd_bad {g : List Int} {k : Int} (h : ¬ (grB g = true ∧ 1 ≤ k ∧ k ≤ 3)) : rdE g k = 2 ∧ rdW g k = [] := by simp only [rdE, rdW]; rw [if_neg h, if_neg h]; exact ⟨rfl, rfl⟩
theorem rd_none {g : List Int} {k : Int} (h : grB g = true ∧ 1 ≤ k ∧ k ≤ 3) (e : rdF g (k - 1).toNat (nrV g) = none) : rdE g k = 6 ∧ rdW g k = [] := by simp only [rdE, rdW]; rw [if_pos h, if_pos h, e]; exact ⟨rfl, rfl⟩
theorem rd_some {g : List Int} {k : Int} {w : List W} (h : grB g = true ∧ 1 ≤ k ∧ k ≤ 3) (e : rdF g (k - 1).toNat (nrV g) = some w) : rdE g k = 0 ∧ rdW g k = w := by simp only [rdE, rdW]; rw [if_pos h, if_pos h, e]; exact ⟨rfl, rfl⟩
theorem ok62 : FokM Tryd.prog none1 62 Tryd.f62 := ⟨mixed, by kernel_rfl, by kernel_rfl, by kernel_rfl, by kernel_rfl⟩
theorem r62 (g : List Int) (r : Room) (k : Int) (hp : lim g.length ∧ rok g r) : Body ⟨Tryd.prog, Sof (P := Tryd.prog) [c67.to, c78.to, c77.to], Pof (P := Tryd.prog) [], H.nil.base, 300⟩ none1 Tryd.f62 [ls g r, I k] .nil (.tup [ws (rdW g k) (rn (rdW g k)), I (rdE g k)], .nil) := by
  have p67 := hp
  cases hb : grB g
  · obtain ⟨e1, e2⟩ := rd_bad (g := g) (k := k) (fun h => by rw [hb] at h; cases h.1)
    rw [e1, e2]
    refine body_s ([Ans.o (Orc.val 8 (AV.bool false) (H.mk [] [] []))]) (aCall (Sof [c67.to, c78.to, c77.to]) (AV.fn (Fn.func 67) [] []) [ls g r] (H.mk [] [] []) = some (AV.bool false, H.mk [] [] []) ∧ (AV.tup [AV.sl [] (0 : Nat) Room.nil, I 2], H.mk [] [] []) = (AV.tup [AV.sl (u64s []) (0 : Nat) Room.nil, I 2], H.mk [] [] [])) (by kernel_rfl) ?_
    refine ⟨acall_b (acall_hit (c := c67.to) (g, r) _ rfl p67) hb, ?_⟩
    rfl
  · have hg := grB_iff.1 hb
    by_cases k1 : k < 1
    · obtain ⟨e1, e2⟩ := rd_bad (g := g) (k := k) (fun h => by omega)
      rw [e1, e2]
      refine body_s ([Ans.o (Orc.val 8 (AV.bool true) (H.mk [] [] [])), Ans.o (Orc.b true)]) (aCall (Sof [c67.to, c78.to, c77.to]) (AV.fn (Fn.func 67) [] []) [ls g r] (H.mk [] [] []) = some (AV.bool true, H.mk [] [] []) ∧ k < (1 : Int) ∧ (AV.tup [AV.sl [] (0 : Nat) Room.nil, I 2], H.mk [] [] []) = (AV.tup [AV.sl (u64s []) (0 : Nat) Room.nil, I 2], H.mk [] [] [])) (by kernel_rfl) ?_
      refine ⟨acall_b (acall_hit (c := c67.to) (g, r) _ rfl p67) hb, ?_⟩
      refine ⟨by first | with_reducible assumption | omega | assumption, ?_⟩
      rfl
    · have k1 : 1 ≤ k := by omega
      by_cases k3 : 3 < k
      · obtain ⟨e1, e2⟩ := rd_bad (g := g) (k := k) (fun h => by omega)
        rw [e1, e2]
        refine body_s ([Ans.o (Orc.val 8 (AV.bool true) (H.mk [] [] [])), Ans.o (Orc.b false), Ans.o (Orc.b true)]) (aCall (Sof [c67.to, c78.to, c77.to]) (AV.fn (Fn.func 67) [] []) [ls g r] (H.mk [] [] []) = some (AV.bool true, H.mk [] [] []) ∧ (1 : Int) ≤ k ∧ (3 : Int) < k ∧ (AV.tup [AV.sl [] (0 : Nat) Room.nil, I 2], H.mk [] [] []) = (AV.tup [AV.sl (u64s []) (0 : Nat) Room.nil, I 2], H.mk [] [] [])) (by kernel_rfl) ?_
        refine ⟨acall_b (acall_hit (c := c67.to) (g, r) _ rfl p67) hb, ?_⟩
        refine ⟨by first | with_reducible assumption | omega | assumption, ?_⟩
        refine ⟨by first | with_reducible assumption | omega | assumption, ?_⟩
        rfl
      · have k3 : k ≤ 3 := by omega
        have p78 : Gr g ∧ rok g r := ⟨hg, hp.2⟩
        cases hF : rdF g (k - 1).toNat (nrV g) with
        | none =>
          obtain ⟨e1, e2⟩ := rd_none ⟨hb, k1, k3⟩ hF
          rw [e1, e2]
          refine body_s ([Ans.o (Orc.val 8 (AV.bool true) (H.mk [] [] [])), Ans.o (Orc.b false), Ans.o (Orc.b false), Ans.o (Orc.val 19 (AV.sl (u64s (nrV g)) (nrV g).length Room.no) (H.mk [] [] [])), Ans.loop [0, 6, 21, 22] [Out.mk Unit AX.ret [4, 5] (fun x => rdF g (k - (1 : Int)).toNat (nrV g) = none) (fun x => [AV.sl [] (0 : Nat) Room.nil, I 6]) (fun x => H.nil) fun y => [], Out.mk (List W) (AX.exit 0) [6] (fun w => rdF g (k - (1 : Int)).toNat (nrV g) = some w) (fun w => [ws w Room.no]) (fun x => H.nil) fun y => []]]) (aCall (Sof [c67.to, c78.to, c77.to]) (AV.fn (Fn.func 67) [] []) [ls g r] (H.mk [] [] []) = some (AV.bool true, H.mk [] [] []) ∧ (1 : Int) ≤ k ∧ k ≤ (3 : Int) ∧ aCall (Sof [c67.to, c78.to, c77.to]) (AV.fn (Fn.func 78) [] []) [ls g r] (H.mk [] [] []) = some (AV.sl (u64s (nrV g)) (nrV g).length Room.no, H.mk [] [] []) ∧ IntKind.i64.wrap (k - (1 : Int)) = k - (1 : Int) ∧ LoopS (En6 [c67.to, c78.to, c77.to]) (loopAt Tryd.f62 0) 36 [0, 6, 21, 22] [ls g r, AV.sl (u64s (nrV g)) (nrV g).length Room.no, I (k - (1 : Int)), I 0] (H.mk [] [] []) [Out.mk Unit AX.ret [4, 5] (fun x => rdF g (k - (1 : Int)).toNat (nrV g) = none) (fun x => [AV.sl [] (0 : Nat) Room.nil, I 6]) (fun x => H.nil) fun y => [], Out.mk (List W) (AX.exit 0) [6] (fun w => rdF g (k - (1 : Int)).toNat (nrV g) = some w) (fun w => [ws w Room.no]) (fun x => H.nil) fun y => []] ∧ (∀ (y : Unit), rdF g (k - (1 : Int)).toNat (nrV g) = none → ∀ (u : Nat → AV), (AV.tup [AV.sl [] (0 : Nat) Room.nil, I 6], H.mk [] [] []) = (AV.tup [AV.sl (u64s []) (0 : Nat) Room.nil, I 6], H.mk [] [] [])) ∧ (∀ (y : List W), rdF g (k - (1 : Int)).toNat (nrV g) = some y → ∀ (u : Nat → AV), leave (Base.mk H.nil.blk.length H.nil.toks.length H.nil.maps.length) (AV.tup [AV.sl (u64s y) y.length Room.no, I 0]) (H.mk [] [] []) = (AV.tup [AV.sl (u64s []) (0 : Nat) Room.nil, I 6], H.mk [] [] [])) ∧ True) (by kernel_rfl) ?_
          refine ⟨acall_b (acall_hit (c := c67.to) (g, r) _ rfl p67) hb, ?_⟩
          refine ⟨by first | with_reducible assumption | omega | assumption, ?_⟩
          refine ⟨by first | with_reducible assumption | omega | assumption, ?_⟩
          refine ⟨acall_hit (c := c78.to) (g, r) _ rfl p78, ?_⟩
          refine ⟨wr _ (by omega) (by omega), ?_⟩
          refine ⟨lp62 g r k hg hp.2 ⟨k1, k3⟩, ?_⟩
          refine And.intro ?_ ?_
          · skip
            intro y
            intro w1
            intro u
            first | rfl | (have q := hF.symm.trans (by with_reducible assumption : rdF g (k - 1).toNat (nrV g) = some _); cases q)
          · skip
            refine And.intro ?_ ?_
            · skip
              intro y
              intro w1
              intro u
              first | rfl | (have q := hF.symm.trans (by with_reducible assumption : rdF g (k - 1).toNat (nrV g) = some _); cases q)
            · skip
              trivial
        | some w =>
          obtain ⟨e1, e2⟩ := rd_some ⟨hb, k1, k3⟩ hF
          have hgd := rdF_gd hg _ _ _ (nrV_gd hg) hF
          rw [e1, e2, rn_no hgd.1.1]
          refine body_s ([Ans.o (Orc.val 8 (AV.bool true) (H.mk [] [] [])), Ans.o (Orc.b false), Ans.o (Orc.b false), Ans.o (Orc.val 19 (AV.sl (u64s (nrV g)) (nrV g).length Room.no) (H.mk [] [] [])), Ans.loop [0, 6, 21, 22] [Out.mk Unit AX.ret [4, 5] (fun x => rdF g (k - (1 : Int)).toNat (nrV g) = none) (fun x => [AV.sl [] (0 : Nat) Room.nil, I 6]) (fun x => H.nil) fun y => [], Out.mk (List W) (AX.exit 0) [6] (fun w => rdF g (k - (1 : Int)).toNat (nrV g) = some w) (fun w => [ws w Room.no]) (fun x => H.nil) fun y => []]]) (aCall (Sof [c67.to, c78.to, c77.to]) (AV.fn (Fn.func 67) [] []) [ls g r] (H.mk [] [] []) = some (AV.bool true, H.mk [] [] []) ∧ (1 : Int) ≤ k ∧ k ≤ (3 : Int) ∧ aCall (Sof [c67.to, c78.to, c77.to]) (AV.fn (Fn.func 78) [] []) [ls g r] (H.mk [] [] []) = some (AV.sl (u64s (nrV g)) (nrV g).length Room.no, H.mk [] [] []) ∧ IntKind.i64.wrap (k - (1 : Int)) = k - (1 : Int) ∧ LoopS (En6 [c67.to, c78.to, c77.to]) (loopAt Tryd.f62 0) 36 [0, 6, 21, 22] [ls g r, AV.sl (u64s (nrV g)) (nrV g).length Room.no, I (k - (1 : Int)), I 0] (H.mk [] [] []) [Out.mk Unit AX.ret [4, 5] (fun x => rdF g (k - (1 : Int)).toNat (nrV g) = none) (fun x => [AV.sl [] (0 : Nat) Room.nil, I 6]) (fun x => H.nil) fun y => [], Out.mk (List W) (AX.exit 0) [6] (fun w => rdF g (k - (1 : Int)).toNat (nrV g) = some w) (fun w => [ws w Room.no]) (fun x => H.nil) fun y => []] ∧ (∀ (y : Unit), rdF g (k - (1 : Int)).toNat (nrV g) = none → ∀ (u : Nat → AV), (AV.tup [AV.sl [] (0 : Nat) Room.nil, I 6], H.mk [] [] []) = (AV.tup [AV.sl (u64s w) w.length Room.no, I 0], H.mk [] [] [])) ∧ (∀ (y : List W), rdF g (k - (1 : Int)).toNat (nrV g) = some y → ∀ (u : Nat → AV), leave (Base.mk H.nil.blk.length H.nil.toks.length H.nil.maps.length) (AV.tup [AV.sl (u64s y) y.length Room.no, I 0]) (H.mk [] [] []) = (AV.tup [AV.sl (u64s w) w.length Room.no, I 0], H.mk [] [] [])) ∧ True) (by kernel_rfl) ?_
          refine ⟨acall_b (acall_hit (c := c67.to) (g, r) _ rfl p67) hb, ?_⟩
          refine ⟨by first | with_reducible assumption | omega | assumption, ?_⟩
          refine ⟨by first | with_reducible assumption | omega | assumption, ?_⟩
          refine ⟨acall_hit (c := c78.to) (g, r) _ rfl p78, ?_⟩
          refine ⟨wr _ (by omega) (by omega), ?_⟩
          refine ⟨lp62 g r k hg hp.2 ⟨k1, k3⟩, ?_⟩
          refine And.intro ?_ ?_
          · skip
            intro y
            intro w1
            intro u
            first | (have q := hF.symm.trans (by with_reducible assumption : rdF g (k - 1).toNat (nrV g) = none); cases q; done) | (have q := hF.symm.trans (by with_reducible assumption : rdF g (k - 1).toNat (nrV g) = some _); cases q; exact leave_bs [] (by simp [AV.bnd, AV.bnds, Room.bnd]))
          · skip
            refine And.intro ?_ ?_
            · skip
              intro y
              intro w1
              intro u
              first | (have q := hF.symm.trans (by with_reducible assumption : rdF g (k - 1).toNat (nrV g) = none); cases q; done) | (have q := hF.symm.trans (by with_reducible assumption : rdF g (k - 1).toNat (nrV g) = some _); cases q; exact leave_bs [] (by simp [AV.bnd, AV.bnds, Room.bnd]))
            · skip
              trivial
noncomputable def c62 : PCtr Tryd.prog := sctr ok62 (X := List Int × Room × Int) (fun x => [ls x.1 x.2.1, I x.2.2]) (fun x => lim x.1.length ∧ rok x.1 x.2.1) (fun x => .tup [ws (rdW x.1 x.2.2) (rn (rdW x.1 x.2.2)), I (rdE x.1 x.2.2)]) (by intro x y e _ _; simp at e; simp [e]) (fun x => by simp [AV.bnds, AV.bnd, AV.wk, rm_wk_bnd]) (fun x => by first | rfl | (simp [AV.bnd, rm_wk_bnd]; done)  | (simp [AV.bnd, AV.bnds, rm_wk_bnd]; done) | simp [AV.bnd, AV.bnds, Room.bnd, rm_wk_bnd]) (fun x hx => ⟨_, _, _, .pure c67 (.pure c78 (.pure c77 (.nil))), r62 (x.1) (x.2.1).wk (x.2.2) (by first | exact hx | (simp only [rok_wk]; exact hx) | (simp only [rok_wk, lst_wk]; exact hx) | (simp only [rok_wk, lst_wk, lsn_wk]; exact hx))⟩)
end Go.Proofs.Sur

