/- Layer 5: the most words, no two of which are confused. -/
import Derived.Test.YtlomlnkafakloaaDoorSuC
import Derived.KernelRfl
set_option linter.unusedSimpArgs false
set_option linter.unusedVariables false
set_option linter.unnecessarySimpa false
set_option maxHeartbeats 4000000
set_option maxRecDepth 100000
namespace Go.Proofs.Sur
open Go Go.VM

def enB (w : List W) (s : W) (i : Nat) : Bool := (bits (wt_ w i &&& s)).all fun k => (wt_ w i &&& s) &&& ~~~wt_ w k == 0#64
def msF (w : List W) : Nat → W → Nat
  | 0, _ => 0
  | n + 1, s => if s = 0#64 then 0 else match (bits s).find? (enB w s) with
    | some i => 1 + msF w n (s &&& ~~~wt_ w i)
    | none => max (1 + msF w n (s &&& ~~~wt_ w (tz s))) (msF w n (s &&& ~~~(1#64 <<< tz s)))
theorem msF_succ (w : List W) (n : Nat) (s : W) : msF w (n + 1) s = if s = 0#64 then 0 else match (bits s).find? (enB w s) with
    | some i => 1 + msF w n (s &&& ~~~wt_ w i)
    | none => max (1 + msF w n (s &&& ~~~wt_ w (tz s))) (msF w n (s &&& ~~~(1#64 <<< tz s))) := rfl
abbrev rfx (w : List W) : Prop := w.length ≤ 64 ∧ ∀ i, i < w.length → (wt_ w i).getLsbD i = true
abbrev sub (s : W) (n : Nat) : Prop := ∀ k, s.getLsbD k = true → k < n
theorem bit_lt {b : W} {k : Nat} (h : b.getLsbD k = true) : k < 64 := by
  refine Classical.byContradiction fun hc => ?_
  rw [BitVec.getLsbD_of_ge _ k (by omega)] at h; cases h
theorem lsU_le {f g : Nat → Bool} (h : ∀ i, f i = true → g i = true) : ∀ n st, (lsU f st n).length ≤ (lsU g st n).length
  | 0, _ => Nat.le_refl 0
  | n + 1, st => by
    have := lsU_le h n (st + 1)
    have hh := h st
    simp only [lsU]
    cases hf : f st <;> cases hg : g st <;> simp_all <;> omega
theorem lsU_lt {f g : Nat → Bool} (h : ∀ i, f i = true → g i = true) : ∀ n st, (∃ k, st ≤ k ∧ k < st + n ∧ g k = true ∧ f k = false) → (lsU f st n).length < (lsU g st n).length
  | 0, st, ⟨k, h1, h2, _⟩ => by omega
  | n + 1, st, ⟨k, h1, h2, h3, h4⟩ => by
    simp only [lsU]
    by_cases e : k = st
    · subst e
      have := lsU_le h n (k + 1)
      rw [h3, h4]
      simp only [Bool.false_eq_true, if_false, if_true, List.length_cons]
      omega
    · have := lsU_lt h n (st + 1) ⟨k, by omega, by omega, h3, h4⟩
      have hh := h st
      cases hf : f st <;> cases hg : g st <;> simp_all <;> omega
theorem andn_lt {s a : W} {k : Nat} (h1 : s.getLsbD k = true) (h2 : a.getLsbD k = true) : (bits (s &&& ~~~a)).length < (bits s).length := by
  have hk := bit_lt h1
  refine lsU_lt (fun i hi => ?_) 64 0 ⟨k, by omega, by omega, h1, ?_⟩
  · rw [BitVec.getLsbD_and, Bool.and_eq_true] at hi; exact hi.1
  · rw [BitVec.getLsbD_and, BitVec.getLsbD_not, h1, h2]; simp
theorem one_bit {n k : Nat} (h : n < 64) : (1#64 <<< n).getLsbD k = decide (k = n) := by
  rw [BitVec.getLsbD_shiftLeft]
  by_cases e : k = n
  · subst e; simp [h]
  · by_cases e2 : k < n
    · simp [e2, e]
    · have : k - n ≠ 0 := by omega
      simp [e, this]
theorem msF_more {w : List W} (hw : rfx w) : ∀ (n m : Nat) (s : W), sub s w.length → (bits s).length ≤ n → (bits s).length ≤ m → msF w n s = msF w m s
  | 0, 0, _, _, _, _ => rfl
  | 0, m + 1, s, _, h1, h2 => by
    have : s = 0#64 := Classical.byContradiction fun hc => by
      rw [bits_cons hc] at h1; simp at h1
    simp [msF, this]
  | n + 1, 0, s, _, h1, h2 => by
    have : s = 0#64 := Classical.byContradiction fun hc => by
      rw [bits_cons hc] at h2; simp at h2
    simp [msF, this]
  | n + 1, m + 1, s, hs, h1, h2 => by
    simp only [msF]
    by_cases hz : s = 0#64
    · rw [if_pos hz, if_pos hz]
    · rw [if_neg hz, if_neg hz]
      have step : ∀ i a, s.getLsbD i = true → a.getLsbD i = true → msF w n (s &&& ~~~a) = msF w m (s &&& ~~~a) := by
        intro i a hi ha
        have := andn_lt hi ha
        refine msF_more hw n m _ (fun k hk => hs k ?_) (by omega) (by omega)
        rw [BitVec.getLsbD_and, Bool.and_eq_true] at hk; exact hk.1
      cases hf : (bits s).find? (enB w s) with
      | some i =>
        have hi := mem_bits.1 (List.mem_of_find?_eq_some hf)
        simp only
        rw [step i _ hi (hw.2 i (hs i hi))]
      | none =>
        obtain ⟨t1, t2, _⟩ := tz_ok hz
        simp only
        rw [step _ _ t1 (hw.2 _ (hs _ t1)), step _ (1#64 <<< tz s) t1 (by rw [one_bit t2]; simp)]
def msV (w : List W) (s : W) : Nat := msF w 64 s
theorem sub_andn {s a : W} {n : Nat} (h : sub s n) : sub (s &&& ~~~a) n := fun k hk => by
  rw [BitVec.getLsbD_and, Bool.and_eq_true] at hk; exact h k hk.1
theorem msV_eq {w : List W} (hw : rfx w) {s : W} (hs : sub s w.length) (hz : s ≠ 0#64) : msV w s = match (bits s).find? (enB w s) with
    | some i => 1 + msV w (s &&& ~~~wt_ w i)
    | none => max (1 + msV w (s &&& ~~~wt_ w (tz s))) (msV w (s &&& ~~~(1#64 <<< tz s))) := by
  have h64 := bits_len s
  have e : msV w s = msF w 65 s := msF_more hw 64 65 s hs h64 (by omega)
  rw [e, show (65 : Nat) = 64 + 1 from rfl, msF_succ, if_neg hz]
  rfl
theorem msV_0 (w : List W) : msV w 0#64 = 0 := by
  show msF w (63 + 1) 0#64 = 0
  rw [msF_succ, if_pos rfl]
theorem msF_le (w : List W) : ∀ n s, msF w n s ≤ n
  | 0, _ => Nat.le_refl 0
  | n + 1, s => by
    simp only [msF]
    split
    · omega
    · split
      · have := msF_le w n (s &&& ~~~wt_ w (by assumption)); omega
      · have h1 := msF_le w n (s &&& ~~~wt_ w (tz s))
        have h2 := msF_le w n (s &&& ~~~(1#64 <<< tz s))
        omega
theorem msV_le (w : List W) (s : W) : msV w s ≤ 64 := msF_le w 64 s

abbrev o108 (w : List W) (s : W) (i : Nat) : List Out :=
  [.mk Unit .ret [6] (fun _ => enB w s i = false) (fun _ => [.bool false]) (fun _ => .nil) (fun _ => []), .mk Unit (.exit 0) [] (fun _ => enB w s i = true) (fun _ => []) (fun _ => .nil) (fun _ => [])]
theorem simp108 : allSimpleM none1 (loopAt Tryd.f108 0) = true := by kernel_rfl
theorem lp108 (w : List W) (r : Room) (hr : rok w r) (s : W) (i : Nat) (hw : w.length ≤ 64) (hs : sub (wt_ w i &&& s) w.length) :
    LoopS (En6 [c97.to]) (loopAt Tryd.f108 0) 30 [0, 7, 8] [ws w r, u64A (wt_ w i &&& s), u64A (wt_ w i &&& s)] .nil (o108 w s i) := by
  have hR : Rests (En6 [c97.to]) none1 := rests mixed (.pure _ .nil)
  have hd : enB w s i = (bits (wt_ w i &&& s)).all fun k => (wt_ w i &&& s) &&& ~~~wt_ w k == 0#64 := rfl
  generalize wt_ w i &&& s = a at hs hd
  refine loop_s hR simp108 none (by intro _ h; cases h) (fun j vs h => ∃ t : W, h = .nil ∧ vs = [ws w r, u64A a, u64A t] ∧ enB w s i = ((bits t).all fun k => a &&& ~~~wt_ w k == 0#64) ∧ sub t w.length ∧ (bits t).length + j ≤ 64) 64 ⟨a, rfl, rfl, hd, hs, by have := bits_len a; omega⟩ (by intro _ h; cases h) ?_
  rintro j vs h hj ⟨t, rfl, rfl, ha, hb, hc⟩
  by_cases hz : t = 0#64
  · have hu : (t.toNat : Int) = 0 := (w_eq0 t).2 hz
    have he : enB w s i = true := by rw [ha, hz, bits_0]; rfl
    refine ⟨[Ans.o (Orc.b false)], fun u => of_eq ((↑(BitVec.toNat t) : Int) = (0 : Int) ∧ (30 : Nat) = (30 : Nat) ∧ hits [Out.mk Unit AX.ret [6] (fun x => enB w s i = false) (fun x => [AV.bool false]) (fun x => H.nil) fun x => [], Out.mk Unit (AX.exit 0) [] (fun x => enB w s i = true) (fun x => []) (fun x => H.nil) fun x => []] (AX.exit 0) [AV.sl (u64s w) w.length r, u (1 : Nat), u (2 : Nat), u (3 : Nat), u (4 : Nat), u (5 : Nat), u (6 : Nat), u64A a, u64A t, u (9 : Nat), u (10 : Nat), u (11 : Nat), u (12 : Nat), u (13 : Nat), u (14 : Nat), u (15 : Nat), u64A t, AV.bool false, u (18 : Nat), u (19 : Nat), u (20 : Nat), u (21 : Nat), u (22 : Nat), u (23 : Nat), u (24 : Nat), u (25 : Nat), u (26 : Nat), u (27 : Nat), u (28 : Nat), u (29 : Nat)] (H.mk [] [] [])) (by kernel_rfl) ?_⟩
    refine ⟨by first | with_reducible assumption | omega | assumption, ?_⟩
    refine ⟨by first | with_reducible assumption | omega | assumption, ?_⟩
    exact .inr (.inl ⟨(), he, rfl, rfl, rfl⟩)
  · have hu : (t.toNat : Int) ≠ 0 := fun h => hz ((w_eq0 t).1 h)
    obtain ⟨t1, t2, _⟩ := tz_ok hz
    have htn := hb _ t1
    have hr' := rok_idx hr htn
    have ev0 := w_andn a (wt_ w (tz t))
    have ev1 := sub_nat t
    have ev2 := w_and t (t - 1#64)
    have hq := bits_cons hz
    rw [hq] at ha hc
    rw [List.all_cons] at ha
    have hc : (bits (cl t)).length + (j + 1) ≤ 64 := by rw [List.length_cons] at hc; omega
    have hj2 : j < 64 := by omega
    have hb' : sub (cl t) w.length := fun k hk => hb k (cl_0 t k hk)
    clear hq hb
    by_cases hx : a &&& ~~~wt_ w (tz t) = 0#64
    · have hx0 : ((a &&& ~~~wt_ w (tz t)).toNat : Int) = 0 := (w_eq0 _).2 hx
      have ha : enB w s i = ((bits (cl t)).all fun k => a &&& ~~~wt_ w k == 0#64) := by rw [ha, hx]; simp
      refine ⟨[Ans.o (Orc.b true), Ans.o (Orc.val 25 (I (↑(tz t) : Int)) (H.mk [] [] [])), Ans.o (Orc.val 26 (AV.cptr (u64s (List.drop (tz t) w))) H.nil), Ans.o (Orc.val 27 (AV.int IntKind.u64 (↑(BitVec.toNat (w.getD (tz t) w0)) : Int)) H.nil), Ans.o (Orc.val 28 (AV.int IntKind.u64 (↑(BitVec.toNat (a &&& ~~~wt_ w (tz t))) : Int)) H.nil), Ans.o (Orc.b false), Ans.o (Orc.val 20 (AV.int IntKind.u64 (↑(BitVec.toNat (t - BitVec.ofNat (64 : Nat) (1 : Nat))) : Int)) H.nil), Ans.o (Orc.val 21 (AV.int IntKind.u64 (↑(BitVec.toNat (t &&& t - BitVec.ofNat (64 : Nat) (1 : Nat))) : Int)) H.nil)], fun u => of_eq ((↑(BitVec.toNat t) : Int) ≠ (0 : Int) ∧ aCall (Sof [c97.to]) (AV.fn (Fn.func 97) [] []) [u64A t] (H.mk [] [] []) = some (I (↑(tz t) : Int), H.mk [] [] []) ∧ aIndexAddr Tryd.prog 67 (AV.sl (u64s w) w.length r) (I (↑(tz t) : Int)) = some (AV.cptr (u64s (List.drop (tz t) w))) ∧ aLoad Tryd.prog 71 (u64s (List.drop (tz t) w)) = some (AV.int IntKind.u64 (↑(BitVec.toNat (w.getD (tz t) w0)) : Int)) ∧ aBin Tryd.prog BinOp.andNot (71 : Nat) (u64A a) (AV.int IntKind.u64 (↑(BitVec.toNat (w.getD (tz t) w0)) : Int)) = some (AV.int IntKind.u64 (↑(BitVec.toNat (a &&& ~~~wt_ w (tz t))) : Int)) ∧ (↑(BitVec.toNat (a &&& ~~~wt_ w (tz t))) : Int) = (0 : Int) ∧ aBin Tryd.prog BinOp.sub (71 : Nat) (u64A t) (AV.int IntKind.u64 (1 : Int)) = some (AV.int IntKind.u64 (↑(BitVec.toNat (t - BitVec.ofNat (64 : Nat) (1 : Nat))) : Int)) ∧ aBin Tryd.prog BinOp.and (71 : Nat) (u64A t) (AV.int IntKind.u64 (↑(BitVec.toNat (t - BitVec.ofNat (64 : Nat) (1 : Nat))) : Int)) = some (AV.int IntKind.u64 (↑(BitVec.toNat (t &&& t - BitVec.ofNat (64 : Nat) (1 : Nat))) : Int)) ∧ (30 : Nat) = (30 : Nat) ∧ j < (64 : Nat) ∧ Keep (∃ t_1, H.mk [] [] [] = H.mk [] [] [] ∧ [AV.sl (u64s w) w.length r, u64A a, AV.int IntKind.u64 (↑(BitVec.toNat (t &&& t - BitVec.ofNat (64 : Nat) (1 : Nat))) : Int)] = [AV.sl (u64s w) w.length r, u64A a, u64A t_1] ∧ (enB w s i = (bits t_1).all fun k => a &&& ~~~wt_ w k == BitVec.ofNat (64 : Nat) (0 : Nat)) ∧ sub t_1 w.length ∧ (bits t_1).length + (j + (1 : Nat)) ≤ (64 : Nat))) (by kernel_rfl) ?_⟩
      refine ⟨by first | with_reducible assumption | omega | assumption, ?_⟩
      refine ⟨acall_hit (c := c97.to) t _ rfl hz, ?_⟩
      refine ⟨by first | exact ix_u64s (by kernel_rfl) (by omega) (by assumption) | exact ix_u64s (by kernel_rfl) (by omega) (rok_idx (by assumption) (by omega)), ?_⟩
      refine ⟨by first | exact ld_u64s (by kernel_rfl) (by kernel_rfl) (by omega) | exact ldm_u64s (by kernel_rfl) (by kernel_rfl) (by first | omega | (simp; omega)), ?_⟩
      refine ⟨told_andn (by with_reducible assumption), ?_⟩
      refine ⟨by first | with_reducible assumption | omega | assumption, ?_⟩
      refine ⟨told_sub (by with_reducible assumption), ?_⟩
      refine ⟨told_and (by with_reducible assumption), ?_⟩
      refine ⟨by first | with_reducible assumption | omega | assumption, ?_⟩
      refine ⟨by first | with_reducible assumption | omega | assumption, ?_⟩
      exact ⟨cl t, rfl, rfl, ha, hb', hc⟩
    · have hx0 : ((a &&& ~~~wt_ w (tz t)).toNat : Int) ≠ 0 := fun h => hx ((w_eq0 _).1 h)
      have hxf : (a &&& ~~~wt_ w (tz t) == 0#64) = false := by simpa using hx
      have ha : enB w s i = false := by rw [ha, hxf, Bool.false_and]
      refine ⟨[Ans.o (Orc.b true), Ans.o (Orc.val 25 (I (↑(tz t) : Int)) (H.mk [] [] [])), Ans.o (Orc.val 26 (AV.cptr (u64s (List.drop (tz t) w))) H.nil), Ans.o (Orc.val 27 (AV.int IntKind.u64 (↑(BitVec.toNat (w.getD (tz t) w0)) : Int)) H.nil), Ans.o (Orc.val 28 (AV.int IntKind.u64 (↑(BitVec.toNat (a &&& ~~~wt_ w (tz t))) : Int)) H.nil), Ans.o (Orc.b true)], fun u => of_eq ((↑(BitVec.toNat t) : Int) ≠ (0 : Int) ∧ aCall (Sof [c97.to]) (AV.fn (Fn.func 97) [] []) [u64A t] (H.mk [] [] []) = some (I (↑(tz t) : Int), H.mk [] [] []) ∧ aIndexAddr Tryd.prog 67 (AV.sl (u64s w) w.length r) (I (↑(tz t) : Int)) = some (AV.cptr (u64s (List.drop (tz t) w))) ∧ aLoad Tryd.prog 71 (u64s (List.drop (tz t) w)) = some (AV.int IntKind.u64 (↑(BitVec.toNat (w.getD (tz t) w0)) : Int)) ∧ aBin Tryd.prog BinOp.andNot (71 : Nat) (u64A a) (AV.int IntKind.u64 (↑(BitVec.toNat (w.getD (tz t) w0)) : Int)) = some (AV.int IntKind.u64 (↑(BitVec.toNat (a &&& ~~~wt_ w (tz t))) : Int)) ∧ (↑(BitVec.toNat (a &&& ~~~wt_ w (tz t))) : Int) ≠ (0 : Int) ∧ (30 : Nat) = (30 : Nat) ∧ hits [Out.mk Unit AX.ret [6] (fun x => enB w s i = false) (fun x => [AV.bool false]) (fun x => H.nil) fun x => [], Out.mk Unit (AX.exit 0) [] (fun x => enB w s i = true) (fun x => []) (fun x => H.nil) fun x => []] AX.ret [AV.sl (u64s w) w.length r, u (1 : Nat), u (2 : Nat), u (3 : Nat), u (4 : Nat), u (5 : Nat), AV.bool false, u64A a, u64A t, u (9 : Nat), u (10 : Nat), u (11 : Nat), u (12 : Nat), u (13 : Nat), u (14 : Nat), u (15 : Nat), u64A t, AV.bool true, u (18 : Nat), u (19 : Nat), u (20 : Nat), u (21 : Nat), u64A a, AV.sl (u64s w) w.length r, u64A t, I (↑(tz t) : Int), AV.cptr (u64s (List.drop (tz t) w)), AV.int IntKind.u64 (↑(BitVec.toNat (w.getD (tz t) w0)) : Int), AV.int IntKind.u64 (↑(BitVec.toNat (a &&& ~~~wt_ w (tz t))) : Int), AV.bool true] (H.mk [] [] [])) (by kernel_rfl) ?_⟩
      refine ⟨by first | with_reducible assumption | omega | assumption, ?_⟩
      refine ⟨acall_hit (c := c97.to) t _ rfl hz, ?_⟩
      refine ⟨by first | exact ix_u64s (by kernel_rfl) (by omega) (by assumption) | exact ix_u64s (by kernel_rfl) (by omega) (rok_idx (by assumption) (by omega)), ?_⟩
      refine ⟨by first | exact ld_u64s (by kernel_rfl) (by kernel_rfl) (by omega) | exact ldm_u64s (by kernel_rfl) (by kernel_rfl) (by first | omega | (simp; omega)), ?_⟩
      refine ⟨told_andn (by with_reducible assumption), ?_⟩
      refine ⟨by first | with_reducible assumption | omega | assumption, ?_⟩
      refine ⟨by first | with_reducible assumption | omega | assumption, ?_⟩
      exact .inl ⟨(), ha, rfl, rfl, rfl⟩
theorem ok108 : FokM Tryd.prog none1 108 Tryd.f108 := ⟨mixed, by kernel_rfl, by kernel_rfl, by kernel_rfl, by kernel_rfl⟩
theorem r108 (w : List W) (r : Room) (i : Int) (s : W) (hp : rok w r ∧ w.length ≤ 64 ∧ (0 ≤ i ∧ i.toNat < w.length) ∧ sub s w.length) : Body ⟨Tryd.prog, Sof (P := Tryd.prog) [c97.to], Pof (P := Tryd.prog) [], H.nil.base, 300⟩ none1 Tryd.f108 [ws w r, I i, u64A s] .nil (.bool (enB w s i.toNat), .nil) := by
  obtain ⟨hr, hw, ⟨hi0, hi⟩, hs⟩ := hp
  obtain ⟨n, rfl⟩ : ∃ n : Nat, i = n := ⟨i.toNat, by omega⟩
  rw [Int.toNat_natCast] at *
  have hr' := rok_idx hr hi
  have ev0 := w_and (wt_ w n) s
  have hs' : sub (wt_ w n &&& s) w.length := fun k hk => by
    rw [BitVec.getLsbD_and, Bool.and_eq_true] at hk; exact hs k hk.2
  refine body_s ([Ans.o (Orc.val 11 (AV.cptr (u64s (List.drop n w))) H.nil), Ans.o (Orc.val 12 (u64A (w.getD n w0)) H.nil), Ans.o (Orc.val 14 (u64A (wt_ w n &&& s)) H.nil), Ans.loop [0, 7, 8] [Out.mk Unit AX.ret [6] (fun x => enB w s n = false) (fun x => [AV.bool false]) (fun x => H.nil) fun y => [], Out.mk Unit (AX.exit 0) [] (fun x => enB w s n = true) (fun x => []) (fun x => H.nil) fun y => []]]) (aIndexAddr Tryd.prog 67 (AV.sl (u64s w) w.length r) (I (↑n : Int)) = some (AV.cptr (u64s (List.drop n w))) ∧ aLoad Tryd.prog 71 (u64s (List.drop n w)) = some (u64A (w.getD n w0)) ∧ aBin Tryd.prog BinOp.and (71 : Nat) (u64A (w.getD n w0)) (u64A s) = some (u64A (wt_ w n &&& s)) ∧ LoopS (En6 [c97.to]) (loopAt Tryd.f108 0) 30 [0, 7, 8] [AV.sl (u64s w) w.length r, u64A (wt_ w n &&& s), u64A (wt_ w n &&& s)] (H.mk [] [] []) [Out.mk Unit AX.ret [6] (fun x => enB w s n = false) (fun x => [AV.bool false]) (fun x => H.nil) fun y => [], Out.mk Unit (AX.exit 0) [] (fun x => enB w s n = true) (fun x => []) (fun x => H.nil) fun y => []] ∧ (∀ (y : Unit), enB w s n = false → ∀ (u : Nat → AV), (AV.bool false, H.mk [] [] []) = (AV.bool (enB w s n), H.mk [] [] [])) ∧ (∀ (y : Unit), enB w s n = true → ∀ (u : Nat → AV), (AV.bool true, H.mk [] [] []) = (AV.bool (enB w s n), H.mk [] [] [])) ∧ True) (by kernel_rfl) ?_
  refine ⟨by first | exact ix_u64s (by kernel_rfl) (by omega) (by assumption) | exact ix_u64s (by kernel_rfl) (by omega) (rok_idx (by assumption) (by omega)), ?_⟩
  refine ⟨by first | exact ld_u64s (by kernel_rfl) (by kernel_rfl) (by omega) | exact ldm_u64s (by kernel_rfl) (by kernel_rfl) (by first | omega | (simp; omega)), ?_⟩
  refine ⟨told_and (by with_reducible assumption), ?_⟩
  refine ⟨lp108 w r hr s n hw hs', ?_⟩
  refine And.intro ?_ ?_
  · skip
    intro y
    intro w1
    intro u
    first | exact congrArg (fun b => (AV.bool b, H.nil)) (by with_reducible assumption : enB w s n = false).symm | exact congrArg (fun b => (AV.bool b, H.nil)) (by with_reducible assumption : enB w s n = true).symm
  · skip
    refine And.intro ?_ ?_
    · skip
      intro y
      intro w1
      intro u
      first | exact congrArg (fun b => (AV.bool b, H.nil)) (by with_reducible assumption : enB w s n = false).symm | exact congrArg (fun b => (AV.bool b, H.nil)) (by with_reducible assumption : enB w s n = true).symm
    · skip
      trivial
noncomputable def c108 : PCtr Tryd.prog := sctr ok108 (X := List W × Room × Int × W) (fun x => [ws x.1 x.2.1, I x.2.2.1, u64A x.2.2.2]) (fun x => rok x.1 x.2.1 ∧ x.1.length ≤ 64 ∧ (0 ≤ x.2.2.1 ∧ x.2.2.1.toNat < x.1.length) ∧ sub x.2.2.2 x.1.length) (fun x => .bool (enB x.1 x.2.2.2 x.2.2.1.toNat)) (by intro x y e _ _; simp at e; simp [e]) (fun x => by simp [AV.bnds, AV.bnd, AV.wk, rm_wk_bnd]) (fun x => by first | rfl | (simp [AV.bnd, rm_wk_bnd]; done)  | (simp [AV.bnd, AV.bnds, rm_wk_bnd]; done) | simp [AV.bnd, AV.bnds, Room.bnd, rm_wk_bnd]) (fun x hx => ⟨_, _, _, .pure c97 (.nil), r108 (x.1) (x.2.1).wk (x.2.2.1) (x.2.2.2) (by first | exact hx | (simp only [rok_wk]; exact hx) | (simp only [rok_wk, lst_wk]; exact hx) | (simp only [rok_wk, lst_wk, lsn_wk]; exact hx))⟩)
end Go.Proofs.Sur

