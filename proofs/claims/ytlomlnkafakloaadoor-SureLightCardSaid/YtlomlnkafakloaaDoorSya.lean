/- Layer 5: linear programs: one equation. -/
import Derived.Test.YtlomlnkafakloaaDoorSuI
import Derived.Test.YtlomlnkafakloaaDoorSxG
import Derived.Test.YtlomlnkafakloaaDoorVm6
import Derived.KernelRfl
set_option linter.unusedSimpArgs false
set_option linter.unusedVariables false
set_option linter.unnecessarySimpa false
set_option maxHeartbeats 4000000
set_option maxRecDepth 100000
namespace Go.Proofs.Sur
open Go Go.VM

abbrev wdt (n m : Nat) : Nat := n + m + 1
abbrev qS (b n m : Nat) (bas : AV) (s : Int) : List AV := [.msl b 0 ((m + 1) * wdt n m) ((m + 1) * wdt n m) 1, I (wdt n m : Nat), bas, I s]
abbrev nm (n m : Nat) : Prop := 1 ≤ n ∧ n ≤ 6 ∧ m ≤ 64
theorem wd_lt {n m : Nat} (h : nm n m) : wdt n m ≤ 71 := by obtain ⟨h1, h2, h3⟩ := h; simp only [wdt]; omega
theorem mul_lt {a b : Nat} (ha : a ≤ 65) (hb : b ≤ 71) : a * b ≤ 4615 := Nat.mul_le_mul ha hb
theorem w_mul {n m i : Nat} (h : nm n m) (hi : i ≤ m + 1) : IntKind.i64.wrap ((i : Int) * (wdt n m : Nat)) = ((i * wdt n m : Nat) : Int) := by
  have h1 := wd_lt h
  have h2 := mul_lt (a := i) (b := wdt n m) (by have := h.2.2; omega) h1
  have e : (i : Int) * (wdt n m : Nat) = ((i * wdt n m : Nat) : Int) := by simp
  rw [e]; exact i_wrap (by omega)
theorem w_suc {i : Nat} (hi : i ≤ 5000) : IntKind.i64.wrap ((i : Int) + 1) = ((i + 1 : Nat) : Int) := by
  have : (i : Int) + 1 = ((i + 1 : Nat) : Int) := by omega
  rw [this]; exact i_wrap (by omega)
theorem el3_of {P : Program} {t : TypeId} (hu : (elemT P t).bind (sizeT P) = some 1) : ∃ e, sizeT P e = some 1 ∧ elemT P t = some e := by
  obtain ⟨e, _, h1, h2⟩ := el1_of hu
  exact ⟨e, h1, h2⟩
theorem sl3 {P : Program} {t : TypeId} (hu : (elemT P t).bind (sizeT P) = some 1) {b L lo w : Nat} (hL : lo + w ≤ L) (hLm : L < maxLen) (hw : 0 < w) (h : H) {x y : Int} (hx : x = (lo : Nat)) (hy : y = ((lo + w : Nat) : Int)) :
    aSlice P t (.msl b 0 L L 1) (some (I x)) (some (I y)) (some (I y)) h = some (.msl b lo w w 1) := by
  obtain ⟨e, hs, he⟩ := el3_of hu
  subst hx hy
  have h1 : ((lo + w : Nat) : Int).toNat = lo + w := Int.toNat_natCast _
  have h2 : ¬ lo + w = lo := by omega
  have h3 : ¬ L = noCap := by simp only [noCap]; omega
  have h4 : lo + w - lo = w := by omega
  have h5 : ((lo : Int) ≤ ((lo + w : Nat) : Int)) := by omega
  have e1 : ((lo : Int) + (w : Int)).toNat = lo + w := by omega
  simp [aSlice, intOf?, aBounds, he, hs]
  rw [if_pos (by omega)]
  simp only [e1]
  rw [if_pos (by omega), if_neg h2, h4]
theorem sl2 {P : Program} {t : TypeId} (hu : (elemT P t).bind (sizeT P) = some 1) {b o w k : Nat} (hk : k ≤ w) (hw : w < maxLen) (h0 : 0 < w) (h : H) {y : Int} (hy : y = (k : Nat)) :
    aSlice P t (.msl b o w w 1) none (some (I y)) none h = some (.msl b o k w 1) := by
  obtain ⟨e, hs, he⟩ := el3_of hu
  subst hy
  have h3 : ¬ w = noCap := by simp only [noCap]; omega
  simp [aSlice, intOf?, aBounds, he, hs, h3]
  rw [if_pos hk]
  simp
theorem leave_in {β : Base} {v : AV} {h : H} (hβ : β = h.base) (hv : v.bnd h.blk.length h.toks.length h.maps.length = true) : leave β v h = (v, h) := by
  subst hβ
  unfold leave
  have e : v.bnd h.base.nb h.base.nt h.base.nm = true := hv
  rw [if_pos e]
  obtain ⟨x, y, z⟩ := h
  simp [H.base]
theorem ok89 : FokM Tryd.prog none1 89 Tryd.f89 := ⟨mixed, by kernel_rfl, by kernel_rfl, by kernel_rfl, by kernel_rfl⟩
theorem r89g (n m i b : Nat) (x0 x1 : List AV) (zs : List (List AV)) (ts : List Nat) (ms : List (List (AV × AV))) (bas : AV) (s : Int) (hn : nm n m) (hi : i ≤ m) (hb : b < 2) :
    Body ⟨Tryd.prog, Sof (P := Tryd.prog) [], Pof (P := Tryd.prog) [], H.base ⟨x0 :: x1 :: qS b n m bas s :: zs, ts, ms⟩, 300⟩ none1 Tryd.f89 [.ptr 2 0, I (i : Nat)] ⟨x0 :: x1 :: qS b n m bas s :: zs, ts, ms⟩ (.msl b (i * wdt n m) (wdt n m) (wdt n m) 1, ⟨x0 :: x1 :: qS b n m bas s :: zs, ts, ms⟩) := by
  have ev0 := w_mul hn (i := i) (by omega)
  have ev1 := w_suc (i := i) (by have := hn.2.2; omega)
  have ev2 := w_mul hn (i := i + 1) (by omega)
  have hlt : i * wdt n m + wdt n m ≤ (m + 1) * wdt n m := by
    have := Nat.mul_le_mul_right (wdt n m) (show i + 1 ≤ m + 1 by omega)
    rw [Nat.add_mul, Nat.one_mul] at this; exact this
  have hmx := mul_lt (a := m + 1) (b := wdt n m) (by have := hn.2.2; omega) (wd_lt hn)
  have hsl : aSlice Tryd.prog 22 (.msl b 0 ((m + 1) * wdt n m) ((m + 1) * wdt n m) 1) (some (I (i * wdt n m : Nat))) (some (I ((i + 1) * wdt n m : Nat))) (some (I ((i + 1) * wdt n m : Nat))) ⟨x0 :: x1 :: qS b n m bas s :: zs, ts, ms⟩ = some (.msl b (i * wdt n m) (wdt n m) (wdt n m) 1) :=
    sl3 (by kernel_rfl) hlt (by simp only [maxLen]; omega) (by simp [wdt]) _ rfl (by rw [Nat.add_mul, Nat.one_mul])
  refine body_s ([Ans.o (Orc.val 12 (I (↑(i * wdt n m) : Int)) H.nil), Ans.o (Orc.val 14 (I (↑(i + (1 : Nat)) : Int)) H.nil), Ans.o (Orc.val 19 (I (↑((i + (1 : Nat)) * wdt n m) : Int)) H.nil), Ans.o (Orc.val 27 (AV.msl b (i * wdt n m) (wdt n m) (wdt n m) (1 : Nat)) H.nil)]) (aBin Tryd.prog BinOp.mul (3 : Nat) (I (↑i : Int)) (I (↑(wdt n m) : Int)) = some (I (↑(i * wdt n m) : Int)) ∧ aBin Tryd.prog BinOp.add (3 : Nat) (I (↑i : Int)) (I 1) = some (I (↑(i + (1 : Nat)) : Int)) ∧ aBin Tryd.prog BinOp.mul (3 : Nat) (I (↑(i + (1 : Nat)) : Int)) (I (↑(wdt n m) : Int)) = some (I (↑((i + (1 : Nat)) * wdt n m) : Int)) ∧ aSlice Tryd.prog 22 (AV.msl b (0 : Nat) ((m + (1 : Nat)) * wdt n m) ((m + (1 : Nat)) * wdt n m) (1 : Nat)) (some (I (↑(i * wdt n m) : Int))) (some (I (↑((i + (1 : Nat)) * wdt n m) : Int))) (some (I (↑((i + (1 : Nat)) * wdt n m) : Int))) (H.mk (x0 :: x1 :: [AV.msl b (0 : Nat) ((m + (1 : Nat)) * wdt n m) ((m + (1 : Nat)) * wdt n m) (1 : Nat), I (↑(wdt n m) : Int), bas, I s] :: zs) ts ms) = some (AV.msl b (i * wdt n m) (wdt n m) (wdt n m) (1 : Nat)) ∧ leave (Base.mk (H.mk (x0 :: x1 :: qS b n m bas s :: zs) ts ms).blk.length (H.mk (x0 :: x1 :: qS b n m bas s :: zs) ts ms).toks.length (H.mk (x0 :: x1 :: qS b n m bas s :: zs) ts ms).maps.length) (AV.msl b (i * wdt n m) (wdt n m) (wdt n m) (1 : Nat)) (H.mk (x0 :: x1 :: [AV.msl b (0 : Nat) ((m + (1 : Nat)) * wdt n m) ((m + (1 : Nat)) * wdt n m) (1 : Nat), I (↑(wdt n m) : Int), bas, I s] :: zs) ts ms) = (AV.msl b (i * wdt n m) (wdt n m) (wdt n m) (1 : Nat), H.mk (x0 :: x1 :: [AV.msl b (0 : Nat) ((m + (1 : Nat)) * wdt n m) ((m + (1 : Nat)) * wdt n m) (1 : Nat), I (↑(wdt n m) : Int), bas, I s] :: zs) ts ms)) (by kernel_rfl) ?_
  refine ⟨told_mul (by with_reducible assumption), ?_⟩
  refine ⟨told_add (by with_reducible assumption), ?_⟩
  refine ⟨told_mul (by with_reducible assumption), ?_⟩
  refine ⟨hsl, ?_⟩
  exact leave_in rfl (by simp [AV.bnd]; omega)
theorem r89e (n m i b : Nat) (x0 : List AV) (zs : List (List AV)) (ts : List Nat) (ms : List (List (AV × AV))) (bas : AV) (s : Int) (hn : nm n m) (hi : i ≤ m) (hb : b < 1) :
    Body ⟨Tryd.prog, Sof (P := Tryd.prog) [], Pof (P := Tryd.prog) [], H.base ⟨x0 :: qS b n m bas s :: zs, ts, ms⟩, 300⟩ none1 Tryd.f89 [.ptr 1 0, I (i : Nat)] ⟨x0 :: qS b n m bas s :: zs, ts, ms⟩ (.msl b (i * wdt n m) (wdt n m) (wdt n m) 1, ⟨x0 :: qS b n m bas s :: zs, ts, ms⟩) := by
  have ev0 := w_mul hn (i := i) (by omega)
  have ev1 := w_suc (i := i) (by have := hn.2.2; omega)
  have ev2 := w_mul hn (i := i + 1) (by omega)
  have hlt : i * wdt n m + wdt n m ≤ (m + 1) * wdt n m := by
    have := Nat.mul_le_mul_right (wdt n m) (show i + 1 ≤ m + 1 by omega)
    rw [Nat.add_mul, Nat.one_mul] at this; exact this
  have hmx := mul_lt (a := m + 1) (b := wdt n m) (by have := hn.2.2; omega) (wd_lt hn)
  have hsl : aSlice Tryd.prog 22 (.msl b 0 ((m + 1) * wdt n m) ((m + 1) * wdt n m) 1) (some (I (i * wdt n m : Nat))) (some (I ((i + 1) * wdt n m : Nat))) (some (I ((i + 1) * wdt n m : Nat))) ⟨x0 :: qS b n m bas s :: zs, ts, ms⟩ = some (.msl b (i * wdt n m) (wdt n m) (wdt n m) 1) :=
    sl3 (by kernel_rfl) hlt (by simp only [maxLen]; omega) (by simp [wdt]) _ rfl (by rw [Nat.add_mul, Nat.one_mul])
  refine body_s ([Ans.o (Orc.val 12 (I (↑(i * wdt n m) : Int)) H.nil), Ans.o (Orc.val 14 (I (↑(i + (1 : Nat)) : Int)) H.nil), Ans.o (Orc.val 19 (I (↑((i + (1 : Nat)) * wdt n m) : Int)) H.nil), Ans.o (Orc.val 27 (AV.msl b (i * wdt n m) (wdt n m) (wdt n m) (1 : Nat)) H.nil)]) (aBin Tryd.prog BinOp.mul (3 : Nat) (I (↑i : Int)) (I (↑(wdt n m) : Int)) = some (I (↑(i * wdt n m) : Int)) ∧ aBin Tryd.prog BinOp.add (3 : Nat) (I (↑i : Int)) (I 1) = some (I (↑(i + (1 : Nat)) : Int)) ∧ aBin Tryd.prog BinOp.mul (3 : Nat) (I (↑(i + (1 : Nat)) : Int)) (I (↑(wdt n m) : Int)) = some (I (↑((i + (1 : Nat)) * wdt n m) : Int)) ∧ aSlice Tryd.prog 22 (AV.msl b (0 : Nat) ((m + (1 : Nat)) * wdt n m) ((m + (1 : Nat)) * wdt n m) (1 : Nat)) (some (I (↑(i * wdt n m) : Int))) (some (I (↑((i + (1 : Nat)) * wdt n m) : Int))) (some (I (↑((i + (1 : Nat)) * wdt n m) : Int))) (H.mk (x0 :: [AV.msl b (0 : Nat) ((m + (1 : Nat)) * wdt n m) ((m + (1 : Nat)) * wdt n m) (1 : Nat), I (↑(wdt n m) : Int), bas, I s] :: zs) ts ms) = some (AV.msl b (i * wdt n m) (wdt n m) (wdt n m) (1 : Nat)) ∧ leave (Base.mk (H.mk (x0 :: qS b n m bas s :: zs) ts ms).blk.length (H.mk (x0 :: qS b n m bas s :: zs) ts ms).toks.length (H.mk (x0 :: qS b n m bas s :: zs) ts ms).maps.length) (AV.msl b (i * wdt n m) (wdt n m) (wdt n m) (1 : Nat)) (H.mk (x0 :: [AV.msl b (0 : Nat) ((m + (1 : Nat)) * wdt n m) ((m + (1 : Nat)) * wdt n m) (1 : Nat), I (↑(wdt n m) : Int), bas, I s] :: zs) ts ms) = (AV.msl b (i * wdt n m) (wdt n m) (wdt n m) (1 : Nat), H.mk (x0 :: [AV.msl b (0 : Nat) ((m + (1 : Nat)) * wdt n m) ((m + (1 : Nat)) * wdt n m) (1 : Nat), I (↑(wdt n m) : Int), bas, I s] :: zs) ts ms)) (by kernel_rfl) ?_
  refine ⟨told_mul (by with_reducible assumption), ?_⟩
  refine ⟨told_add (by with_reducible assumption), ?_⟩
  refine ⟨told_mul (by with_reducible assumption), ?_⟩
  refine ⟨hsl, ?_⟩
  exact leave_in rfl (by simp [AV.bnd]; omega)
noncomputable def c89 (k b n m : Nat) (hk : k = 1 ∨ k = 2) (hb : b < k) (hn : nm n m) : Ctr Tryd.prog where
  f := 89
  X := Nat
  args i := [.ptr k 0, I (i : Nat)]
  pre i h := (∃ bas s, h.blk[k]? = some (qS b n m bas s)) ∧ i ≤ m
  res i h := (.msl b (i * wdt n m) (wdt n m) (wdt n m) 1, h)
  det := by
    intro x y h e _ _
    simp at e
    have e : x = y := by omega
    rw [e]
  ok i h hp := by
    obtain ⟨⟨bas, s, hs⟩, hi⟩ := hp
    obtain ⟨blk, ts, ms⟩ := h
    simp only at hs
    refine ⟨ok89.call, ?_⟩
    rcases hk with rfl | rfl
    · match blk, hs with
      | x0 :: x1 :: zs, hs =>
        simp only [List.getElem?_cons_succ, List.getElem?_cons_zero, Option.some.injEq] at hs
        subst hs
        exact (r89e n m i b x0 zs ts ms bas s hn hi hb).run ok89 .nil rfl
    · match blk, hs with
      | x0 :: x1 :: x2 :: zs, hs =>
        simp only [List.getElem?_cons_succ, List.getElem?_cons_zero, Option.some.injEq] at hs
        subst hs
        exact (r89g n m i b x0 x1 zs ts ms bas s hn hi hb).run ok89 .nil rfl
theorem c89_reads (k b n m : Nat) (hk : k = 1 ∨ k = 2) (hb : b < k) (hn : nm n m) : (c89 k b n m hk hb hn).Reads := ⟨fun _ _ _ => rfl, fun i h zs hp => by
  obtain ⟨⟨bas, s, hs⟩, hi⟩ := hp
  refine ⟨⟨⟨bas, s, ?_⟩, hi⟩, rfl⟩
  have hlt := (List.getElem?_eq_some_iff.1 hs).1
  show (h.blk ++ zs)[k]? = _
  rw [List.getElem?_append_left hlt]; exact hs⟩
end Go.Proofs.Sur

