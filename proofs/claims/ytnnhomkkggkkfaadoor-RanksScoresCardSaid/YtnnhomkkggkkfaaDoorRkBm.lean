/- Layer 2: rising lists by the reference. -/
import Derived.Test.YtnnhomkkggkkfaaDoorRkBl
import Derived.Test.YtnnhomkkggkkfaaDoorRkAs
import Derived.Test.YtnnhomkkggkkfaaDoorVm8
import Derived.KernelRfl
set_option linter.unusedSimpArgs false
set_option linter.unusedVariables false
set_option linter.unnecessarySimpa false
set_option maxHeartbeats 4000000
set_option maxRecDepth 100000
namespace Go.Proofs.Rnk
open Go Go.VM
open Go.Proofs.Sur (andn andn_bit andn_le i_wrap i_and i_or i_andn i_shl i_shr bit_01)

section
variable {P : Program} {t : TypeId}
theorem ap_l (hT : appT P t = true) {l1 l2 : List Int} {n m : Nat} {r : Room} {T : List Nat} (h1 : l1.length = n) (h2 : l2.length = m) (hm : m ≠ 0) (hn : n + m ≤ 1000000000) :
    aAppend P t t (.sl (ints l1) n (.tok T.length 1)) (.sl (ints l2) m r) ⟨[], T ++ [n], []⟩ = some (.sl (ints (l1 ++ l2)) (n + m) (.tok T.length 1), ⟨[], T ++ [n + m], []⟩) := by
  obtain ⟨e, i, z, he, hi, hz, g1, g2, g3⟩ := appT_of hT
  have hb : (n + m) * i.bytes ≤ 2 ^ 47 := Nat.le_trans (Nat.mul_le_mul hn g2) (by decide)
  have hm' : n + m ≤ maxLen := Nat.le_trans hn (by decide)
  have ho : ∀ x ∈ ints l2, x.one = true := List.all_eq_true.1 (ints_one l2)
  have hi2 : ints (l1 ++ l2) = ints l1 ++ ints l2 := by simp [ints]
  rw [hi2]
  simp [aAppend, he, hi, hz, g1, g3, slCells, h1, h2, hb, hm', hm]
theorem ap_0 (hT : appT P t = true) {l1 : List Int} {n : Nat} {r0 r : Room} {H : H} (h1 : l1.length = n) (hn : n ≤ 1000000000) :
    aAppend P t t (.sl (ints l1) n r0) (.sl [] 0 r) H = some (.sl (ints l1) n r0, H) := by
  obtain ⟨e, i, z, he, hi, hz, g1, g2, g3⟩ := appT_of hT
  have hb : n * i.bytes ≤ 2 ^ 47 := Nat.le_trans (Nat.mul_le_mul hn g2) (by decide)
  have hm' : n ≤ maxLen := Nat.le_trans hn (by decide)
  simp [aAppend, he, hi, hz, g1, g3, slCells, h1, hb, hm']
theorem slT (hu : (elemT P t).bind (sizeT P) = some 1) {l : List Int} {n : Nat} {r : Room} {lo hi : Option AV} {a k : Nat} {H : H} (hl : l.length = n) (hr : r ≠ .nil) (hlo : intOf? lo = some (some (a : Int)) ∨ (intOf? lo = some none ∧ a = 0)) (hhi : intOf? hi = some (some (k : Int)) ∨ (intOf? hi = some none ∧ k = n)) (hak : a ≤ k) (hkn : k ≤ n) :
    aSlice P t (.sl (ints l) n r) lo hi none H = some (.sl (ints ((l.drop a).take (k - a))) (k - a) (if a = 0 ∧ k = n then r else if r = .full ∧ k = n then .full else .no)) := by
  cases he : elemT P t with
  | none => rw [he] at hu; cases hu
  | some e =>
    rw [he] at hu
    have hs : sizeT P e = some 1 := hu
    have hb : ∀ lo' hi', intOf? lo = some lo' → intOf? hi = some hi' → aBounds n lo' hi' = some (a, k) := by
      intro lo' hi' g1 g2
      rcases hlo with q | ⟨q, rfl⟩ <;> rcases hhi with p | ⟨p, rfl⟩ <;> (rw [q] at g1; rw [p] at g2; cases g1; cases g2; simp [aBounds]; try omega)
    have hnone : intOf? (none : Option AV) = some none := rfl
    rcases hlo with q | ⟨q, rfl⟩ <;> rcases hhi with p | ⟨p, rfl⟩ <;> (simp only [aSlice, q, p, hnone, he, hs, hb _ _ q p]; rw [if_neg hr]; simp [ints, List.map_take, List.map_drop])
end
def rT (k : Nat) : Room := if k = 0 then .nil else .tok (k - 1) 1
def tkL (k : Nat) : List Nat := (List.range k).map (· + 1)
@[simp] theorem tkL_len (k : Nat) : (tkL k).length = k := by simp [tkL]
theorem tkL_succ (k : Nat) : tkL (k + 1) = tkL k ++ [k + 1] := by simp [tkL, List.range_succ]
abbrev hTk (k : Nat) : H := ⟨[], tkL k, []⟩
abbrev oV (l : List Int) (k : Nat) : AV := .sl (ints (ris l k)) k (rT k)
theorem fin63 {l M : List Int} {k N : Nat} (hM : M = ris l (k + 1)) (hN : N = k + 1) : some (AV.sl (ints M) N (.tok (tkL k).length 1), H.mk [] (tkL k ++ [N]) []) = some (oV l (k + 1), hTk (k + 1)) := by
  subst hM; subst hN
  rw [tkL_len, ← tkL_succ]; simp [rT]
abbrev o63b (l : List Int) (r : Room) (k : Nat) (x : Int) : List Out := [.mk Unit (.exit 2) [3, 5, 6, 7, 8, 9] (fun _ => True) (fun _ => [oV l k, I x, I (atI x (ris l k) : Nat), ls l r, I l.length, I k]) (fun _ => hTk k) (fun _ => [])]
theorem simp63b : allSimpleM none1 (loopAt Tryd.f63 1) = true := by kernel_rfl
theorem lp63b (l : List Int) (r : Room) (k : Nat) (x : Int) (hk : k < 1000) :
    LoopS (En6 []) (loopAt Tryd.f63 1) 41 [3, 5, 6, 7, 8, 9] [oV l k, I x, I 0, ls l r, I l.length, I k] (hTk k) (o63b l r k x) := by
  have hR : Rests (En6 []) none1 := rests mixed .nil
  have hlen := ris_len l k
  have hle := atI_le x (ris l k)
  rw [hlen] at hle
  refine loop_s hR simp63b none (by intro _ h; cases h) (fun j vs H => (H = hTk k ∧ vs = [oV l k, I x, I j, ls l r, I l.length, I k]) ∧ j ≤ atI x (ris l k)) (atI x (ris l k)) ⟨⟨rfl, rfl⟩, Nat.zero_le _⟩ (by intro _ h; cases h) ?_
  rintro j vs H hj ⟨⟨rfl, rfl⟩, hja⟩
  have hrt : ∀ j, j < k → rT k ≠ .nil := fun j hj => by cases k with
    | zero => omega
    | succ m => simp [rT]
  by_cases c : j < atI x (ris l k)
  · have hjk : j < k := by omega
    have hjl : j < (ris l k).length := by omega
    have c0 : (j : Int) < (k : Int) := by omega
    have c1 : (ris l k).getD j i0 ≤ x := atI_lt c
    have ev0 := wj1 (j := j) (by omega)
    have hri := hrt j hjk
    have hk2 : j + 1 ≤ atI x (ris l k) := c
    refine ⟨[Ans.o (Orc.b true), Ans.o (Orc.val 20 (AV.cptr (ints (List.drop j (ris l k)))) H.nil), Ans.o (Orc.val 21 (I ((ris l k).getD j i0)) H.nil), Ans.o (Orc.b true), Ans.o (Orc.val 26 (I (↑(j + (1 : Nat)) : Int)) H.nil)], fun u => of_eq ((↑j : Int) < (↑k : Int) ∧ aIndexAddr Tryd.prog (22 : Nat) (AV.sl (ints (ris l k)) k (rT k)) (I (↑j : Int)) = some (AV.cptr (ints (List.drop j (ris l k)))) ∧ aLoad Tryd.prog (3 : Nat) (ints (List.drop j (ris l k))) = some (I ((ris l k).getD j i0)) ∧ (ris l k).getD j i0 ≤ x ∧ aBin Tryd.prog BinOp.add (3 : Nat) (I (↑j : Int)) (I 1) = some (I (↑(j + (1 : Nat)) : Int)) ∧ (41 : Nat) = (41 : Nat) ∧ j < atI x (ris l k) ∧ Keep ((H.mk [] (tkL k) [] = H.mk [] (tkL k) [] ∧ [AV.sl (ints (ris l k)) k (rT k), I x, I (↑(j + (1 : Nat)) : Int), AV.sl (ints l) l.length r, I (↑l.length : Int), I (↑k : Int)] = [AV.sl (ints (ris l k)) k (rT k), I x, I (↑(j + (1 : Nat)) : Int), AV.sl (ints l) l.length r, I (↑l.length : Int), I (↑k : Int)]) ∧ j + (1 : Nat) ≤ atI x (ris l k))) (by kernel_rfl) ?_⟩
    refine ⟨by first | with_reducible assumption | omega | assumption, ?_⟩
    refine ⟨ix_ints (by kernel_rfl) hjk hri, ?_⟩
    refine ⟨ld_ints (by kernel_rfl) (by kernel_rfl) hjl, ?_⟩
    refine ⟨by first | with_reducible assumption | omega | assumption, ?_⟩
    refine ⟨told_add (by with_reducible assumption), ?_⟩
    refine ⟨by first | with_reducible assumption | omega | assumption, ?_⟩
    refine ⟨by first | with_reducible assumption | omega | assumption, ?_⟩
    exact ⟨⟨rfl, rfl⟩, hk2⟩
  · have e : j = atI x (ris l k) := by omega
    by_cases c2 : j < k
    · have hjl : j < (ris l k).length := by omega
      have c0 : (j : Int) < (k : Int) := by omega
      have c1 : x < (ris l k).getD j i0 := by rw [e] at hjl ⊢; exact atI_at hjl
      have hri := hrt j c2
      refine ⟨[Ans.o (Orc.b true), Ans.o (Orc.val 20 (AV.cptr (ints (List.drop j (ris l k)))) H.nil), Ans.o (Orc.val 21 (I ((ris l k).getD j i0)) H.nil), Ans.o (Orc.b false)], fun u => of_eq ((↑j : Int) < (↑k : Int) ∧ aIndexAddr Tryd.prog (22 : Nat) (AV.sl (ints (ris l k)) k (rT k)) (I (↑j : Int)) = some (AV.cptr (ints (List.drop j (ris l k)))) ∧ aLoad Tryd.prog (3 : Nat) (ints (List.drop j (ris l k))) = some (I ((ris l k).getD j i0)) ∧ x < (ris l k).getD j i0 ∧ (41 : Nat) = (41 : Nat) ∧ hits [Out.mk Unit (AX.exit (2 : Nat)) [(3 : Nat), (5 : Nat), (6 : Nat), (7 : Nat), (8 : Nat), (9 : Nat)] (fun x => True) (fun x_1 => [oV l k, I x, I (↑(atI x (ris l k)) : Int), ls l r, I (↑l.length : Int), I (↑k : Int)]) (fun x => hTk k) fun x => []] (AX.exit (2 : Nat)) [u (0 : Nat), u (1 : Nat), u (2 : Nat), AV.sl (ints (ris l k)) k (rT k), u (4 : Nat), I x, I (↑j : Int), AV.sl (ints l) l.length r, I (↑l.length : Int), I (↑k : Int), u (10 : Nat), u (11 : Nat), u (12 : Nat), I (↑j : Int), AV.sl (ints (ris l k)) k (rT k), I (↑k : Int), AV.bool true, AV.bool true, AV.sl (ints (ris l k)) k (rT k), I (↑j : Int), AV.cptr (ints (List.drop j (ris l k))), I ((ris l k).getD j i0), I x, AV.bool false, AV.bool false, u (25 : Nat), u (26 : Nat), u (27 : Nat), u (28 : Nat), u (29 : Nat), u (30 : Nat), u (31 : Nat), u (32 : Nat), u (33 : Nat), u (34 : Nat), u (35 : Nat), u (36 : Nat), u (37 : Nat), u (38 : Nat), u (39 : Nat), u (40 : Nat)] (H.mk [] (tkL k) [])) (by kernel_rfl) ?_⟩
      refine ⟨by first | with_reducible assumption | omega | assumption, ?_⟩
      refine ⟨ix_ints (by kernel_rfl) c2 hri, ?_⟩
      refine ⟨ld_ints (by kernel_rfl) (by kernel_rfl) hjl, ?_⟩
      refine ⟨by first | with_reducible assumption | omega | assumption, ?_⟩
      refine ⟨by first | with_reducible assumption | omega | assumption, ?_⟩
      exact .inl ⟨(), trivial, rfl, by rw [e]; rfl, rfl⟩
    · have c0 : (k : Int) ≤ (j : Int) := by omega
      refine ⟨[Ans.o (Orc.b false)], fun u => of_eq ((↑k : Int) ≤ (↑j : Int) ∧ (41 : Nat) = (41 : Nat) ∧ hits [Out.mk Unit (AX.exit (2 : Nat)) [(3 : Nat), (5 : Nat), (6 : Nat), (7 : Nat), (8 : Nat), (9 : Nat)] (fun x => True) (fun x_1 => [oV l k, I x, I (↑(atI x (ris l k)) : Int), ls l r, I (↑l.length : Int), I (↑k : Int)]) (fun x => hTk k) fun x => []] (AX.exit (2 : Nat)) [u (0 : Nat), u (1 : Nat), u (2 : Nat), AV.sl (ints (ris l k)) k (rT k), u (4 : Nat), I x, I (↑j : Int), AV.sl (ints l) l.length r, I (↑l.length : Int), I (↑k : Int), u (10 : Nat), u (11 : Nat), u (12 : Nat), I (↑j : Int), AV.sl (ints (ris l k)) k (rT k), I (↑k : Int), AV.bool false, AV.bool false, AV.tup [], AV.tup [], AV.tup [], AV.tup [], AV.tup [], AV.tup [], AV.bool false, u (25 : Nat), u (26 : Nat), u (27 : Nat), u (28 : Nat), u (29 : Nat), u (30 : Nat), u (31 : Nat), u (32 : Nat), u (33 : Nat), u (34 : Nat), u (35 : Nat), u (36 : Nat), u (37 : Nat), u (38 : Nat), u (39 : Nat), u (40 : Nat)] (H.mk [] (tkL k) [])) (by kernel_rfl) ?_⟩
      refine ⟨by first | with_reducible assumption | omega | assumption, ?_⟩
      refine ⟨by first | with_reducible assumption | omega | assumption, ?_⟩
      exact .inl ⟨(), trivial, rfl, by rw [e]; rfl, rfl⟩
abbrev o63 (l : List Int) : List Out := [.mk Unit (.exit 0) [3] (fun _ => True) (fun _ => [oV l l.length]) (fun _ => hTk l.length) (fun _ => [])]
theorem simp63 : allSimpleM none1 (loopAt Tryd.f63 0) = true := by kernel_rfl
theorem lp63 (l : List Int) (r : Room) (hr : rok l r) (hn : l.length < 1000) :
    LoopS (En6 []) (loopAt Tryd.f63 0) 41 [3, 7, 8, 9] [.sl [] 0 .nil, ls l r, I l.length, I 0] .nil (o63 l) := by
  have hR : Rests (En6 []) none1 := rests mixed .nil
  refine loop_s hR simp63 none (by intro _ h; cases h) (fun k vs H => H = hTk k ∧ vs = [oV l k, ls l r, I l.length, I k]) l.length ⟨rfl, rfl⟩ (by intro _ h; cases h) ?_
  rintro k vs H hk ⟨rfl, rfl⟩
  by_cases hz : (k : Int) < l.length
  · have hz' : k < l.length := by omega
    have hri := rok_idx hr hz'
    have ev0 := wj1 (j := k) (by omega)
    have lp := lp63b l r k (l.getD k i0) (by omega)
    have hlen := ris_len l k
    have hle := atI_le (l.getD k i0) (ris l k)
    rw [hlen] at hle
    obtain ⟨a, ha⟩ : ∃ a, atI (l.getD k i0) (ris l k) = a := ⟨_, rfl⟩
    rw [ha] at hle
    simp only [o63b, ha] at lp
    have hins : ris l (k + 1) = (ris l k).take a ++ (l.getD k i0 :: (ris l k).drop a) := by rw [ris, insI_eq, ha]
    have hl1 : ((ris l k).take a).length = a := by rw [List.length_take]; omega
    have hl2 : ((ris l k).drop a).length = k - a := by rw [List.length_drop]; omega
    match k, hz, hz', hri, ev0, lp, hlen, hle, ha, hins, hl1, hl2 with
    | 0, hz, hz', hri, ev0, lp, hlen, hle, ha, hins, hl1, hl2 =>
      have hz0 : (0 : Int) < (l.length : Int) := hz
      have ca : a = 0 := by omega
      subst ca
      have hx0 : aAppend Tryd.prog 22 22 (.sl [] 0 .full) (.sl [I (l.getD 0 i0)] 1 .full) (hTk 0) = some (.sl (ints [l.getD 0 i0]) 1 (.tok (tkL 0).length 1), ⟨[], tkL 0 ++ [1], []⟩) := app_new (P := Tryd.prog) (t := 22) (by kernel_rfl) (cs := [I (l.getD 0 i0)]) (n := 1) (r := .full) (h := hTk 0) (by omega) rfl rfl (by omega)
      have hy : aAppend Tryd.prog 22 22 (.sl (ints [l.getD 0 i0]) 1 (.tok (tkL 0).length 1)) (.sl [] 0 .nil) ⟨[], tkL 0 ++ [1], []⟩ = some (.sl (ints [l.getD 0 i0]) 1 (.tok (tkL 0).length 1), ⟨[], tkL 0 ++ [1], []⟩) := ap_0 (by kernel_rfl) rfl (by omega)
      refine ⟨[Ans.o (Orc.b true), Ans.o (Orc.val 11 (AV.cptr (ints (List.drop (0 : Nat) l))) H.nil), Ans.o (Orc.val 12 (I (l.getD (0 : Nat) i0)) H.nil), Ans.loop [(3 : Nat), (5 : Nat), (6 : Nat), (7 : Nat), (8 : Nat), (9 : Nat)] [Out.mk Unit (AX.exit (2 : Nat)) [(3 : Nat), (5 : Nat), (6 : Nat), (7 : Nat), (8 : Nat), (9 : Nat)] (fun x => True) (fun x => [oV l (0 : Nat), I (l.getD (0 : Nat) i0), I 0, ls l r, I (↑l.length : Int), I (↑(0 : Nat) : Int)]) (fun x => hTk (0 : Nat)) fun y => []]], fun u => of_eq ((0 : Int) < (↑l.length : Int) ∧ aIndexAddr Tryd.prog (22 : Nat) (AV.sl (ints l) l.length r) (I 0) = some (AV.cptr (ints (List.drop (0 : Nat) l))) ∧ aLoad Tryd.prog (3 : Nat) (ints (List.drop (0 : Nat) l)) = some (I (l.getD (0 : Nat) i0)) ∧ LoopS (Env.mk Tryd.prog (Sof (P := Tryd.prog) []) (Pof (P := Tryd.prog) []) H.nil.base (300 : Nat)) (loopAt Tryd.f63 (1 : Nat)) (41 : Nat) [(3 : Nat), (5 : Nat), (6 : Nat), (7 : Nat), (8 : Nat), (9 : Nat)] [AV.sl (ints (ris l (0 : Nat))) (0 : Nat) Room.nil, I (l.getD (0 : Nat) i0), I 0, AV.sl (ints l) l.length r, I (↑l.length : Int), I 0] (H.mk [] [] []) [Out.mk Unit (AX.exit (2 : Nat)) [(3 : Nat), (5 : Nat), (6 : Nat), (7 : Nat), (8 : Nat), (9 : Nat)] (fun x => True) (fun x => [oV l (0 : Nat), I (l.getD (0 : Nat) i0), I 0, ls l r, I (↑l.length : Int), I (↑(0 : Nat) : Int)]) (fun x => hTk (0 : Nat)) fun y => []] ∧ (∀ (y : Unit), True → ∀ (u : Nat → AV), IntKind.i64.wrap (1 : Int) = (1 : Int) ∧ (41 : Nat) = (41 : Nat) ∧ (0 : Nat) < l.length ∧ Keep (H.mk [] [(1 : Nat)] [] = H.mk [] [(1 : Nat)] [] ∧ [AV.sl [I (l.getD (0 : Nat) i0)] (1 : Nat) (Room.tok 0 1), AV.sl (ints l) l.length r, I (↑l.length : Int), I 1] = [AV.sl (ints (ris l (1 : Nat))) (1 : Nat) (Room.tok 0 1), AV.sl (ints l) l.length r, I (↑l.length : Int), I 1])) ∧ True) (by kernel_rfl) ?_⟩
      refine ⟨by first | with_reducible assumption | omega | assumption, ?_⟩
      refine ⟨ix_ints (by kernel_rfl) hz' hri, ?_⟩
      refine ⟨ld_ints (by kernel_rfl) (by kernel_rfl) hz', ?_⟩
      refine ⟨lp, ?_⟩
      refine And.intro ?_ ?_
      · skip
        intro y
        intro w1
        intro u
        refine ⟨wr _ (by omega) (by omega), ?_⟩
        refine ⟨by first | with_reducible assumption | omega | assumption, ?_⟩
        refine ⟨by first | with_reducible assumption | omega | assumption, ?_⟩
        exact ⟨rfl, rfl⟩
      · skip
        trivial
    | m + 1, hz, hz', hri, ev0, lp, hlen, hle, ha, hins, hl1, hl2 =>
      have hm : m + 1 ≤ 1000 := by omega
      by_cases ca : a = 0
      · subst ca
        have hS1 : ∀ H, aSlice Tryd.prog 22 (oV l (m + 1)) none (some (I 0)) none H = some (.sl [] 0 .no) := fun H => by
          have := slT (P := Tryd.prog) (t := 22) (by kernel_rfl) (l := ris l (m + 1)) (n := m + 1) (r := rT (m + 1)) (lo := none) (hi := some (I 0)) (a := 0) (k := 0) (H := H) hlen (by simp [rT]) (.inr ⟨rfl, rfl⟩) (.inl rfl) (by omega) (by omega)
          rw [this]; simp [rT, ints]
        have hS2 : ∀ H, aSlice Tryd.prog 22 (oV l (m + 1)) (some (I 0)) none none H = some (oV l (m + 1)) := fun H => by
          have := slT (P := Tryd.prog) (t := 22) (by kernel_rfl) (l := ris l (m + 1)) (n := m + 1) (r := rT (m + 1)) (lo := some (I 0)) (hi := none) (a := 0) (k := m + 1) (H := H) hlen (by simp [rT]) (.inl rfl) (.inr ⟨rfl, rfl⟩) (by omega) (by omega)
          rw [this]
          have e : ((ris l (m + 1)).drop 0).take (m + 1 - 0) = ris l (m + 1) := by rw [List.drop_zero, List.take_of_length_le (by rw [hlen]; omega)]
          rw [e]; simp
        have hx0 : aAppend Tryd.prog 22 22 (.sl [] 0 .full) (.sl [I (l.getD (m + 1) i0)] 1 .full) (hTk (m + 1)) = some (.sl (ints [l.getD (m + 1) i0]) 1 (.tok (tkL (m + 1)).length 1), ⟨[], tkL (m + 1) ++ [1], []⟩) := app_new (P := Tryd.prog) (t := 22) (by kernel_rfl) (cs := [I (l.getD (m + 1) i0)]) (n := 1) (r := .full) (h := hTk (m + 1)) (by omega) rfl rfl (by omega)
        have hy : aAppend Tryd.prog 22 22 (.sl (ints [l.getD (m + 1) i0]) 1 (.tok (tkL (m + 1)).length 1)) (oV l (m + 1)) ⟨[], tkL (m + 1) ++ [1], []⟩ = some (oV l (m + 1 + 1), hTk (m + 1 + 1)) :=
          (ap_l (P := Tryd.prog) (t := 22) (by kernel_rfl) (l1 := [l.getD (m + 1) i0]) (l2 := ris l (m + 1)) (n := 1) (m := m + 1) (r := rT (m + 1)) (T := tkL (m + 1)) rfl hlen (by omega) (by omega)).trans (fin63 (by rw [hins]; simp) (by omega))
        have hS1' := hS1 (hTk (m + 1))
        have hS2' := hS2 (hTk (m + 1))
        refine ⟨[Ans.o (Orc.b true), Ans.o (Orc.val 11 (AV.cptr (ints (List.drop (m + (1 : Nat)) l))) H.nil), Ans.o (Orc.val 12 (I (l.getD (m + (1 : Nat)) i0)) H.nil), Ans.loop [(3 : Nat), (5 : Nat), (6 : Nat), (7 : Nat), (8 : Nat), (9 : Nat)] [Out.mk Unit (AX.exit (2 : Nat)) [(3 : Nat), (5 : Nat), (6 : Nat), (7 : Nat), (8 : Nat), (9 : Nat)] (fun x => True) (fun x => [oV l (m + (1 : Nat)), I (l.getD (m + (1 : Nat)) i0), I 0, ls l r, I (↑l.length : Int), I (↑(m + (1 : Nat)) : Int)]) (fun x => hTk (m + (1 : Nat))) fun y => [Ans.o (Orc.val 37 (oV l (m + (1 : Nat))) H.nil), Ans.o (Orc.val 38 (oV l (m + (1 : Nat) + (1 : Nat))) (hTk (m + (1 : Nat) + (1 : Nat)))), Ans.o (Orc.val 39 (I (↑(m + (1 : Nat) + (1 : Nat)) : Int)) H.nil)]]], fun u => of_eq ((↑(m + (1 : Nat)) : Int) < (↑l.length : Int) ∧ aIndexAddr Tryd.prog (22 : Nat) (AV.sl (ints l) l.length r) (I (↑(m + (1 : Nat)) : Int)) = some (AV.cptr (ints (List.drop (m + (1 : Nat)) l))) ∧ aLoad Tryd.prog (3 : Nat) (ints (List.drop (m + (1 : Nat)) l)) = some (I (l.getD (m + (1 : Nat)) i0)) ∧ LoopS (Env.mk Tryd.prog (Sof (P := Tryd.prog) []) (Pof (P := Tryd.prog) []) H.nil.base (300 : Nat)) (loopAt Tryd.f63 (1 : Nat)) (41 : Nat) [(3 : Nat), (5 : Nat), (6 : Nat), (7 : Nat), (8 : Nat), (9 : Nat)] [AV.sl (ints (ris l (m + (1 : Nat)))) (m + (1 : Nat)) (Room.tok (m + (1 : Nat) - (1 : Nat)) (1 : Nat)), I (l.getD (m + (1 : Nat)) i0), I 0, AV.sl (ints l) l.length r, I (↑l.length : Int), I (↑(m + (1 : Nat)) : Int)] (H.mk [] (tkL (m + (1 : Nat))) []) [Out.mk Unit (AX.exit (2 : Nat)) [(3 : Nat), (5 : Nat), (6 : Nat), (7 : Nat), (8 : Nat), (9 : Nat)] (fun x => True) (fun x => [oV l (m + (1 : Nat)), I (l.getD (m + (1 : Nat)) i0), I 0, ls l r, I (↑l.length : Int), I (↑(m + (1 : Nat)) : Int)]) (fun x => hTk (m + (1 : Nat))) fun y => [Ans.o (Orc.val 37 (oV l (m + (1 : Nat))) H.nil), Ans.o (Orc.val 38 (oV l (m + (1 : Nat) + (1 : Nat))) (hTk (m + (1 : Nat) + (1 : Nat)))), Ans.o (Orc.val 39 (I (↑(m + (1 : Nat) + (1 : Nat)) : Int)) H.nil)]] ∧ (∀ (y : Unit), True → ∀ (u : Nat → AV), aSlice Tryd.prog (22 : Nat) (AV.sl (ints (ris l (m + (1 : Nat)))) (m + (1 : Nat)) (Room.tok (m + (1 : Nat) - (1 : Nat)) (1 : Nat))) (some (I 0)) none none (H.mk [] (((fun x => hTk (m + (1 : Nat))) y).toks ++ [(0 : Nat) + (1 : Nat)]) []) = some (AV.sl (ints (ris l (m + (1 : Nat)))) (m + (1 : Nat)) (Room.tok (m + (1 : Nat) - (1 : Nat)) (1 : Nat))) ∧ aAppend Tryd.prog (22 : Nat) (22 : Nat) (AV.sl [I (l.getD (m + (1 : Nat)) i0)] (1 : Nat) (Room.tok ((fun x => hTk (m + (1 : Nat))) y).toks.length (1 : Nat))) (AV.sl (ints (ris l (m + (1 : Nat)))) (m + (1 : Nat)) (Room.tok (m + (1 : Nat) - (1 : Nat)) (1 : Nat))) (H.mk [] (((fun x => hTk (m + (1 : Nat))) y).toks ++ [(0 : Nat) + (1 : Nat)]) []) = some (AV.sl (ints (ris l (m + (1 : Nat) + (1 : Nat)))) (m + (1 : Nat) + (1 : Nat)) (Room.tok (m + (1 : Nat) + (1 : Nat) - (1 : Nat)) (1 : Nat)), H.mk [] (tkL (m + (1 : Nat) + (1 : Nat))) []) ∧ aBin Tryd.prog BinOp.add (3 : Nat) (I (↑(m + (1 : Nat)) : Int)) (I 1) = some (I (↑(m + (1 : Nat) + (1 : Nat)) : Int)) ∧ (41 : Nat) = (41 : Nat) ∧ m + (1 : Nat) < l.length ∧ Keep (H.mk [] (tkL (m + (1 : Nat) + (1 : Nat))) [] = H.mk [] (tkL (m + (1 : Nat) + (1 : Nat))) [] ∧ [AV.sl (ints (ris l (m + (1 : Nat) + (1 : Nat)))) (m + (1 : Nat) + (1 : Nat)) (Room.tok (m + (1 : Nat) + (1 : Nat) - (1 : Nat)) (1 : Nat)), AV.sl (ints l) l.length r, I (↑l.length : Int), I (↑(m + (1 : Nat) + (1 : Nat)) : Int)] = [AV.sl (ints (ris l (m + (1 : Nat) + (1 : Nat)))) (m + (1 : Nat) + (1 : Nat)) (Room.tok (m + (1 : Nat) + (1 : Nat) - (1 : Nat)) (1 : Nat)), AV.sl (ints l) l.length r, I (↑l.length : Int), I (↑(m + (1 : Nat) + (1 : Nat)) : Int)])) ∧ True) (by kernel_rfl) ?_⟩
        refine ⟨by first | with_reducible assumption | omega | assumption, ?_⟩
        refine ⟨ix_ints (by kernel_rfl) hz' hri, ?_⟩
        refine ⟨ld_ints (by kernel_rfl) (by kernel_rfl) hz', ?_⟩
        refine ⟨lp, ?_⟩
        refine And.intro ?_ ?_
        · skip
          intro y
          intro w1
          intro u
          refine ⟨by first | exact hS1 _ | exact hS2 _, ?_⟩
          refine ⟨by first | exact hx0 | exact hy, ?_⟩
          refine ⟨told_add (by with_reducible assumption), ?_⟩
          refine ⟨by first | with_reducible assumption | omega | assumption, ?_⟩
          refine ⟨by first | with_reducible assumption | omega | assumption, ?_⟩
          exact ⟨rfl, rfl⟩
        · skip
          trivial
      · have hS1 : ∀ H, aSlice Tryd.prog 22 (oV l (m + 1)) none (some (I (a : Nat))) none H = some (.sl (ints ((ris l (m + 1)).take a)) a (if a = m + 1 then .tok m 1 else .no)) := fun H => by
          have := slT (P := Tryd.prog) (t := 22) (by kernel_rfl) (l := ris l (m + 1)) (n := m + 1) (r := rT (m + 1)) (lo := none) (hi := some (I (a : Nat))) (a := 0) (k := a) (H := H) hlen (by simp [rT]) (.inr ⟨rfl, rfl⟩) (.inl rfl) (by omega) (by omega)
          rw [this]; simp [rT]
        have h1 : ∀ q : Room, aAppend Tryd.prog 22 22 (.sl [] 0 .full) (.sl (ints ((ris l (m + 1)).take a)) a q) (hTk (m + 1)) = some (.sl (ints ((ris l (m + 1)).take a)) a (.tok (tkL (m + 1)).length 1), ⟨[], tkL (m + 1) ++ [a], []⟩) := fun q => app_new (P := Tryd.prog) (t := 22) (by kernel_rfl) (cs := ints ((ris l (m + 1)).take a)) (n := a) (r := q) (h := hTk (m + 1)) ca (by rw [ints_len]; exact hl1) (ints_one _) (by omega)
        have h1' := h1 (if a = m + 1 then .tok m 1 else .no)
        have hx : aAppend Tryd.prog 22 22 (.sl (ints ((ris l (m + 1)).take a)) a (.tok (tkL (m + 1)).length 1)) (.sl [I (l.getD (m + 1) i0)] 1 .full) ⟨[], tkL (m + 1) ++ [a], []⟩ = some (.sl (ints ((ris l (m + 1)).take a ++ [l.getD (m + 1) i0])) (a + 1) (.tok (tkL (m + 1)).length 1), ⟨[], tkL (m + 1) ++ [a + 1], []⟩) :=
          ap_l (P := Tryd.prog) (t := 22) (by kernel_rfl) (l2 := [l.getD (m + 1) i0]) hl1 rfl (by omega) (by omega)
        have hS1' := hS1 (hTk (m + 1))
        by_cases cb : a = m + 1
        · subst cb
          have hS2 : ∀ H, aSlice Tryd.prog 22 (oV l (m + 1)) (some (I (m + 1 : Nat))) none none H = some (.sl [] 0 .no) := fun H => by
            have := slT (P := Tryd.prog) (t := 22) (by kernel_rfl) (l := ris l (m + 1)) (n := m + 1) (r := rT (m + 1)) (lo := some (I (m + 1 : Nat))) (hi := none) (a := m + 1) (k := m + 1) (H := H) hlen (by simp [rT]) (.inl rfl) (.inr ⟨rfl, rfl⟩) (by omega) (by omega)
            rw [this]; simp [rT, ints]
          have hy : aAppend Tryd.prog 22 22 (.sl (ints ((ris l (m + 1)).take (m + 1) ++ [l.getD (m + 1) i0])) (m + 1 + 1) (.tok (tkL (m + 1)).length 1)) (.sl [] 0 .no) ⟨[], tkL (m + 1) ++ [m + 1 + 1], []⟩ = some (oV l (m + 1 + 1), hTk (m + 1 + 1)) :=
            (ap_0 (P := Tryd.prog) (t := 22) (by kernel_rfl) (l1 := (ris l (m + 1)).take (m + 1) ++ [l.getD (m + 1) i0]) (n := m + 1 + 1) (by rw [List.length_append, hl1]; rfl) (by omega)).trans (fin63 (by rw [hins, List.drop_of_length_le (by rw [hlen]; exact Nat.le_refl _)]) rfl)
          have hS2' := hS2 (hTk (m + 1))
          refine ⟨[Ans.o (Orc.b true), Ans.o (Orc.val 11 (AV.cptr (ints (List.drop (m + (1 : Nat)) l))) H.nil), Ans.o (Orc.val 12 (I (l.getD (m + (1 : Nat)) i0)) H.nil), Ans.loop [(3 : Nat), (5 : Nat), (6 : Nat), (7 : Nat), (8 : Nat), (9 : Nat)] [Out.mk Unit (AX.exit (2 : Nat)) [(3 : Nat), (5 : Nat), (6 : Nat), (7 : Nat), (8 : Nat), (9 : Nat)] (fun x => True) (fun x => [oV l (m + (1 : Nat)), I (l.getD (m + (1 : Nat)) i0), I (↑(m + (1 : Nat)) : Int), ls l r, I (↑l.length : Int), I (↑(m + (1 : Nat)) : Int)]) (fun x => hTk (m + (1 : Nat))) fun y => [Ans.o (Orc.val 30 (AV.sl (ints (List.take (m + (1 : Nat)) (ris l (m + (1 : Nat))))) (m + (1 : Nat)) (if m + (1 : Nat) = m + (1 : Nat) then Room.tok m (1 : Nat) else Room.no)) H.nil), Ans.o (Orc.val 31 (AV.sl (ints (List.take (m + (1 : Nat)) (ris l (m + (1 : Nat))))) (m + (1 : Nat)) (Room.tok (tkL (m + (1 : Nat))).length (1 : Nat))) (H.mk [] (tkL (m + (1 : Nat)) ++ [m + (1 : Nat)]) [])), Ans.o (Orc.val 34 (AV.sl (ints (List.take (m + (1 : Nat)) (ris l (m + (1 : Nat))) ++ [l.getD (m + (1 : Nat)) i0])) (m + (1 : Nat) + (1 : Nat)) (Room.tok (tkL (m + (1 : Nat))).length (1 : Nat))) (H.mk [] (tkL (m + (1 : Nat)) ++ [m + (1 : Nat) + (1 : Nat)]) [])), Ans.o (Orc.val 37 (AV.sl [] (0 : Nat) Room.no) H.nil), Ans.o (Orc.val 38 (oV l (m + (1 : Nat) + (1 : Nat))) (hTk (m + (1 : Nat) + (1 : Nat)))), Ans.o (Orc.val 39 (I (↑(m + (1 : Nat) + (1 : Nat)) : Int)) H.nil)]]], fun u => of_eq ((↑(m + (1 : Nat)) : Int) < (↑l.length : Int) ∧ aIndexAddr Tryd.prog (22 : Nat) (AV.sl (ints l) l.length r) (I (↑(m + (1 : Nat)) : Int)) = some (AV.cptr (ints (List.drop (m + (1 : Nat)) l))) ∧ aLoad Tryd.prog (3 : Nat) (ints (List.drop (m + (1 : Nat)) l)) = some (I (l.getD (m + (1 : Nat)) i0)) ∧ LoopS (Env.mk Tryd.prog (Sof (P := Tryd.prog) []) (Pof (P := Tryd.prog) []) H.nil.base (300 : Nat)) (loopAt Tryd.f63 (1 : Nat)) (41 : Nat) [(3 : Nat), (5 : Nat), (6 : Nat), (7 : Nat), (8 : Nat), (9 : Nat)] [AV.sl (ints (ris l (m + (1 : Nat)))) (m + (1 : Nat)) (Room.tok (m + (1 : Nat) - (1 : Nat)) (1 : Nat)), I (l.getD (m + (1 : Nat)) i0), I 0, AV.sl (ints l) l.length r, I (↑l.length : Int), I (↑(m + (1 : Nat)) : Int)] (H.mk [] (tkL (m + (1 : Nat))) []) [Out.mk Unit (AX.exit (2 : Nat)) [(3 : Nat), (5 : Nat), (6 : Nat), (7 : Nat), (8 : Nat), (9 : Nat)] (fun x => True) (fun x => [oV l (m + (1 : Nat)), I (l.getD (m + (1 : Nat)) i0), I (↑(m + (1 : Nat)) : Int), ls l r, I (↑l.length : Int), I (↑(m + (1 : Nat)) : Int)]) (fun x => hTk (m + (1 : Nat))) fun y => [Ans.o (Orc.val 30 (AV.sl (ints (List.take (m + (1 : Nat)) (ris l (m + (1 : Nat))))) (m + (1 : Nat)) (if m + (1 : Nat) = m + (1 : Nat) then Room.tok m (1 : Nat) else Room.no)) H.nil), Ans.o (Orc.val 31 (AV.sl (ints (List.take (m + (1 : Nat)) (ris l (m + (1 : Nat))))) (m + (1 : Nat)) (Room.tok (tkL (m + (1 : Nat))).length (1 : Nat))) (H.mk [] (tkL (m + (1 : Nat)) ++ [m + (1 : Nat)]) [])), Ans.o (Orc.val 34 (AV.sl (ints (List.take (m + (1 : Nat)) (ris l (m + (1 : Nat))) ++ [l.getD (m + (1 : Nat)) i0])) (m + (1 : Nat) + (1 : Nat)) (Room.tok (tkL (m + (1 : Nat))).length (1 : Nat))) (H.mk [] (tkL (m + (1 : Nat)) ++ [m + (1 : Nat) + (1 : Nat)]) [])), Ans.o (Orc.val 37 (AV.sl [] (0 : Nat) Room.no) H.nil), Ans.o (Orc.val 38 (oV l (m + (1 : Nat) + (1 : Nat))) (hTk (m + (1 : Nat) + (1 : Nat)))), Ans.o (Orc.val 39 (I (↑(m + (1 : Nat) + (1 : Nat)) : Int)) H.nil)]] ∧ (∀ (y : Unit), True → ∀ (u : Nat → AV), aSlice Tryd.prog (22 : Nat) (AV.sl (ints (ris l (m + (1 : Nat)))) (m + (1 : Nat)) (Room.tok (m + (1 : Nat) - (1 : Nat)) (1 : Nat))) none (some (I (↑(m + (1 : Nat)) : Int))) none (H.mk [] (tkL (m + (1 : Nat))) []) = some (AV.sl (ints (List.take (m + (1 : Nat)) (ris l (m + (1 : Nat))))) (m + (1 : Nat)) (if m + (1 : Nat) = m + (1 : Nat) then Room.tok m (1 : Nat) else Room.no)) ∧ aAppend Tryd.prog (22 : Nat) (22 : Nat) (AV.sl [] (0 : Nat) Room.full) (AV.sl (ints (List.take (m + (1 : Nat)) (ris l (m + (1 : Nat))))) (m + (1 : Nat)) (if m + (1 : Nat) = m + (1 : Nat) then Room.tok m (1 : Nat) else Room.no)) (H.mk [] (tkL (m + (1 : Nat))) []) = some (AV.sl (ints (List.take (m + (1 : Nat)) (ris l (m + (1 : Nat))))) (m + (1 : Nat)) (Room.tok (tkL (m + (1 : Nat))).length (1 : Nat)), H.mk [] (tkL (m + (1 : Nat)) ++ [m + (1 : Nat)]) []) ∧ aAppend Tryd.prog (22 : Nat) (22 : Nat) (AV.sl (ints (List.take (m + (1 : Nat)) (ris l (m + (1 : Nat))))) (m + (1 : Nat)) (Room.tok (tkL (m + (1 : Nat))).length (1 : Nat))) (AV.sl [I (l.getD (m + (1 : Nat)) i0)] (1 : Nat) Room.full) (H.mk [] (tkL (m + (1 : Nat)) ++ [m + (1 : Nat)]) []) = some (AV.sl (ints (List.take (m + (1 : Nat)) (ris l (m + (1 : Nat))) ++ [l.getD (m + (1 : Nat)) i0])) (m + (1 : Nat) + (1 : Nat)) (Room.tok (tkL (m + (1 : Nat))).length (1 : Nat)), H.mk [] (tkL (m + (1 : Nat)) ++ [m + (1 : Nat) + (1 : Nat)]) []) ∧ aSlice Tryd.prog (22 : Nat) (AV.sl (ints (ris l (m + (1 : Nat)))) (m + (1 : Nat)) (Room.tok (m + (1 : Nat) - (1 : Nat)) (1 : Nat))) (some (I (↑(m + (1 : Nat)) : Int))) none none (H.mk [] (tkL (m + (1 : Nat)) ++ [m + (1 : Nat) + (1 : Nat)]) []) = some (AV.sl [] (0 : Nat) Room.no) ∧ aAppend Tryd.prog (22 : Nat) (22 : Nat) (AV.sl (ints (List.take (m + (1 : Nat)) (ris l (m + (1 : Nat))) ++ [l.getD (m + (1 : Nat)) i0])) (m + (1 : Nat) + (1 : Nat)) (Room.tok (tkL (m + (1 : Nat))).length (1 : Nat))) (AV.sl [] (0 : Nat) Room.no) (H.mk [] (tkL (m + (1 : Nat)) ++ [m + (1 : Nat) + (1 : Nat)]) []) = some (AV.sl (ints (ris l (m + (1 : Nat) + (1 : Nat)))) (m + (1 : Nat) + (1 : Nat)) (Room.tok (m + (1 : Nat) + (1 : Nat) - (1 : Nat)) (1 : Nat)), H.mk [] (tkL (m + (1 : Nat) + (1 : Nat))) []) ∧ aBin Tryd.prog BinOp.add (3 : Nat) (I (↑(m + (1 : Nat)) : Int)) (I 1) = some (I (↑(m + (1 : Nat) + (1 : Nat)) : Int)) ∧ (41 : Nat) = (41 : Nat) ∧ m + (1 : Nat) < l.length ∧ Keep (H.mk [] (tkL (m + (1 : Nat) + (1 : Nat))) [] = H.mk [] (tkL (m + (1 : Nat) + (1 : Nat))) [] ∧ [AV.sl (ints (ris l (m + (1 : Nat) + (1 : Nat)))) (m + (1 : Nat) + (1 : Nat)) (Room.tok (m + (1 : Nat) + (1 : Nat) - (1 : Nat)) (1 : Nat)), AV.sl (ints l) l.length r, I (↑l.length : Int), I (↑(m + (1 : Nat) + (1 : Nat)) : Int)] = [AV.sl (ints (ris l (m + (1 : Nat) + (1 : Nat)))) (m + (1 : Nat) + (1 : Nat)) (Room.tok (m + (1 : Nat) + (1 : Nat) - (1 : Nat)) (1 : Nat)), AV.sl (ints l) l.length r, I (↑l.length : Int), I (↑(m + (1 : Nat) + (1 : Nat)) : Int)])) ∧ True) (by kernel_rfl) ?_⟩
          refine ⟨by first | with_reducible assumption | omega | assumption, ?_⟩
          refine ⟨ix_ints (by kernel_rfl) hz' hri, ?_⟩
          refine ⟨ld_ints (by kernel_rfl) (by kernel_rfl) hz', ?_⟩
          refine ⟨lp, ?_⟩
          refine And.intro ?_ ?_
          · skip
            intro y
            intro w1
            intro u
            refine ⟨by first | exact hS1 _ | exact hS2 _, ?_⟩
            refine ⟨by first | exact h1 _ | exact hx | exact hy, ?_⟩
            refine ⟨by first | exact h1 _ | exact hx | exact hy, ?_⟩
            refine ⟨by first | exact hS1 _ | exact hS2 _, ?_⟩
            refine ⟨by first | exact h1 _ | exact hx | exact hy, ?_⟩
            refine ⟨told_add (by with_reducible assumption), ?_⟩
            refine ⟨by first | with_reducible assumption | omega | assumption, ?_⟩
            refine ⟨by first | with_reducible assumption | omega | assumption, ?_⟩
            exact ⟨rfl, rfl⟩
          · skip
            trivial
        · have hS2 : ∀ H, aSlice Tryd.prog 22 (oV l (m + 1)) (some (I (a : Nat))) none none H = some (.sl (ints ((ris l (m + 1)).drop a)) (m + 1 - a) .no) := fun H => by
            have := slT (P := Tryd.prog) (t := 22) (by kernel_rfl) (l := ris l (m + 1)) (n := m + 1) (r := rT (m + 1)) (lo := some (I (a : Nat))) (hi := none) (a := a) (k := m + 1) (H := H) hlen (by simp [rT]) (.inl rfl) (.inr ⟨rfl, rfl⟩) (by omega) (by omega)
            rw [this, List.take_of_length_le (by rw [hl2]; exact Nat.le_refl _)]; simp [rT, ca]
          have hy : aAppend Tryd.prog 22 22 (.sl (ints ((ris l (m + 1)).take a ++ [l.getD (m + 1) i0])) (a + 1) (.tok (tkL (m + 1)).length 1)) (.sl (ints ((ris l (m + 1)).drop a)) (m + 1 - a) .no) ⟨[], tkL (m + 1) ++ [a + 1], []⟩ = some (oV l (m + 1 + 1), hTk (m + 1 + 1)) :=
            (ap_l (P := Tryd.prog) (t := 22) (by kernel_rfl) (l1 := (ris l (m + 1)).take a ++ [l.getD (m + 1) i0]) (l2 := (ris l (m + 1)).drop a) (n := a + 1) (m := m + 1 - a) (r := .no) (T := tkL (m + 1)) (by rw [List.length_append, hl1]; rfl) hl2 (by omega) (by omega)).trans (fin63 (by rw [hins]; simp) (by omega))
          have hS2' := hS2 (hTk (m + 1))
          refine ⟨[Ans.o (Orc.b true), Ans.o (Orc.val 11 (AV.cptr (ints (List.drop (m + (1 : Nat)) l))) H.nil), Ans.o (Orc.val 12 (I (l.getD (m + (1 : Nat)) i0)) H.nil), Ans.loop [(3 : Nat), (5 : Nat), (6 : Nat), (7 : Nat), (8 : Nat), (9 : Nat)] [Out.mk Unit (AX.exit (2 : Nat)) [(3 : Nat), (5 : Nat), (6 : Nat), (7 : Nat), (8 : Nat), (9 : Nat)] (fun x => True) (fun x => [oV l (m + (1 : Nat)), I (l.getD (m + (1 : Nat)) i0), I (↑a : Int), ls l r, I (↑l.length : Int), I (↑(m + (1 : Nat)) : Int)]) (fun x => hTk (m + (1 : Nat))) fun y => [Ans.o (Orc.val 30 (AV.sl (ints (List.take a (ris l (m + (1 : Nat))))) a (if a = m + (1 : Nat) then Room.tok m (1 : Nat) else Room.no)) H.nil), Ans.o (Orc.val 31 (AV.sl (ints (List.take a (ris l (m + (1 : Nat))))) a (Room.tok (tkL (m + (1 : Nat))).length (1 : Nat))) (H.mk [] (tkL (m + (1 : Nat)) ++ [a]) [])), Ans.o (Orc.val 34 (AV.sl (ints (List.take a (ris l (m + (1 : Nat))) ++ [l.getD (m + (1 : Nat)) i0])) (a + (1 : Nat)) (Room.tok (tkL (m + (1 : Nat))).length (1 : Nat))) (H.mk [] (tkL (m + (1 : Nat)) ++ [a + (1 : Nat)]) [])), Ans.o (Orc.val 37 (AV.sl (ints (List.drop a (ris l (m + (1 : Nat))))) (m + (1 : Nat) - a) Room.no) H.nil), Ans.o (Orc.val 38 (oV l (m + (1 : Nat) + (1 : Nat))) (hTk (m + (1 : Nat) + (1 : Nat)))), Ans.o (Orc.val 39 (I (↑(m + (1 : Nat) + (1 : Nat)) : Int)) H.nil)]]], fun u => of_eq ((↑(m + (1 : Nat)) : Int) < (↑l.length : Int) ∧ aIndexAddr Tryd.prog (22 : Nat) (AV.sl (ints l) l.length r) (I (↑(m + (1 : Nat)) : Int)) = some (AV.cptr (ints (List.drop (m + (1 : Nat)) l))) ∧ aLoad Tryd.prog (3 : Nat) (ints (List.drop (m + (1 : Nat)) l)) = some (I (l.getD (m + (1 : Nat)) i0)) ∧ LoopS (Env.mk Tryd.prog (Sof (P := Tryd.prog) []) (Pof (P := Tryd.prog) []) H.nil.base (300 : Nat)) (loopAt Tryd.f63 (1 : Nat)) (41 : Nat) [(3 : Nat), (5 : Nat), (6 : Nat), (7 : Nat), (8 : Nat), (9 : Nat)] [AV.sl (ints (ris l (m + (1 : Nat)))) (m + (1 : Nat)) (Room.tok (m + (1 : Nat) - (1 : Nat)) (1 : Nat)), I (l.getD (m + (1 : Nat)) i0), I 0, AV.sl (ints l) l.length r, I (↑l.length : Int), I (↑(m + (1 : Nat)) : Int)] (H.mk [] (tkL (m + (1 : Nat))) []) [Out.mk Unit (AX.exit (2 : Nat)) [(3 : Nat), (5 : Nat), (6 : Nat), (7 : Nat), (8 : Nat), (9 : Nat)] (fun x => True) (fun x => [oV l (m + (1 : Nat)), I (l.getD (m + (1 : Nat)) i0), I (↑a : Int), ls l r, I (↑l.length : Int), I (↑(m + (1 : Nat)) : Int)]) (fun x => hTk (m + (1 : Nat))) fun y => [Ans.o (Orc.val 30 (AV.sl (ints (List.take a (ris l (m + (1 : Nat))))) a (if a = m + (1 : Nat) then Room.tok m (1 : Nat) else Room.no)) H.nil), Ans.o (Orc.val 31 (AV.sl (ints (List.take a (ris l (m + (1 : Nat))))) a (Room.tok (tkL (m + (1 : Nat))).length (1 : Nat))) (H.mk [] (tkL (m + (1 : Nat)) ++ [a]) [])), Ans.o (Orc.val 34 (AV.sl (ints (List.take a (ris l (m + (1 : Nat))) ++ [l.getD (m + (1 : Nat)) i0])) (a + (1 : Nat)) (Room.tok (tkL (m + (1 : Nat))).length (1 : Nat))) (H.mk [] (tkL (m + (1 : Nat)) ++ [a + (1 : Nat)]) [])), Ans.o (Orc.val 37 (AV.sl (ints (List.drop a (ris l (m + (1 : Nat))))) (m + (1 : Nat) - a) Room.no) H.nil), Ans.o (Orc.val 38 (oV l (m + (1 : Nat) + (1 : Nat))) (hTk (m + (1 : Nat) + (1 : Nat)))), Ans.o (Orc.val 39 (I (↑(m + (1 : Nat) + (1 : Nat)) : Int)) H.nil)]] ∧ (∀ (y : Unit), True → ∀ (u : Nat → AV), aSlice Tryd.prog (22 : Nat) (AV.sl (ints (ris l (m + (1 : Nat)))) (m + (1 : Nat)) (Room.tok (m + (1 : Nat) - (1 : Nat)) (1 : Nat))) none (some (I (↑a : Int))) none (H.mk [] (tkL (m + (1 : Nat))) []) = some (AV.sl (ints (List.take a (ris l (m + (1 : Nat))))) a (if a = m + (1 : Nat) then Room.tok m (1 : Nat) else Room.no)) ∧ aAppend Tryd.prog (22 : Nat) (22 : Nat) (AV.sl [] (0 : Nat) Room.full) (AV.sl (ints (List.take a (ris l (m + (1 : Nat))))) a (if a = m + (1 : Nat) then Room.tok m (1 : Nat) else Room.no)) (H.mk [] (tkL (m + (1 : Nat))) []) = some (AV.sl (ints (List.take a (ris l (m + (1 : Nat))))) a (Room.tok (tkL (m + (1 : Nat))).length (1 : Nat)), H.mk [] (tkL (m + (1 : Nat)) ++ [a]) []) ∧ aAppend Tryd.prog (22 : Nat) (22 : Nat) (AV.sl (ints (List.take a (ris l (m + (1 : Nat))))) a (Room.tok (tkL (m + (1 : Nat))).length (1 : Nat))) (AV.sl [I (l.getD (m + (1 : Nat)) i0)] (1 : Nat) Room.full) (H.mk [] (tkL (m + (1 : Nat)) ++ [a]) []) = some (AV.sl (ints (List.take a (ris l (m + (1 : Nat))) ++ [l.getD (m + (1 : Nat)) i0])) (a + (1 : Nat)) (Room.tok (tkL (m + (1 : Nat))).length (1 : Nat)), H.mk [] (tkL (m + (1 : Nat)) ++ [a + (1 : Nat)]) []) ∧ aSlice Tryd.prog (22 : Nat) (AV.sl (ints (ris l (m + (1 : Nat)))) (m + (1 : Nat)) (Room.tok (m + (1 : Nat) - (1 : Nat)) (1 : Nat))) (some (I (↑a : Int))) none none (H.mk [] (tkL (m + (1 : Nat)) ++ [a + (1 : Nat)]) []) = some (AV.sl (ints (List.drop a (ris l (m + (1 : Nat))))) (m + (1 : Nat) - a) Room.no) ∧ aAppend Tryd.prog (22 : Nat) (22 : Nat) (AV.sl (ints (List.take a (ris l (m + (1 : Nat))) ++ [l.getD (m + (1 : Nat)) i0])) (a + (1 : Nat)) (Room.tok (tkL (m + (1 : Nat))).length (1 : Nat))) (AV.sl (ints (List.drop a (ris l (m + (1 : Nat))))) (m + (1 : Nat) - a) Room.no) (H.mk [] (tkL (m + (1 : Nat)) ++ [a + (1 : Nat)]) []) = some (AV.sl (ints (ris l (m + (1 : Nat) + (1 : Nat)))) (m + (1 : Nat) + (1 : Nat)) (Room.tok (m + (1 : Nat) + (1 : Nat) - (1 : Nat)) (1 : Nat)), H.mk [] (tkL (m + (1 : Nat) + (1 : Nat))) []) ∧ aBin Tryd.prog BinOp.add (3 : Nat) (I (↑(m + (1 : Nat)) : Int)) (I 1) = some (I (↑(m + (1 : Nat) + (1 : Nat)) : Int)) ∧ (41 : Nat) = (41 : Nat) ∧ m + (1 : Nat) < l.length ∧ Keep (H.mk [] (tkL (m + (1 : Nat) + (1 : Nat))) [] = H.mk [] (tkL (m + (1 : Nat) + (1 : Nat))) [] ∧ [AV.sl (ints (ris l (m + (1 : Nat) + (1 : Nat)))) (m + (1 : Nat) + (1 : Nat)) (Room.tok (m + (1 : Nat) + (1 : Nat) - (1 : Nat)) (1 : Nat)), AV.sl (ints l) l.length r, I (↑l.length : Int), I (↑(m + (1 : Nat) + (1 : Nat)) : Int)] = [AV.sl (ints (ris l (m + (1 : Nat) + (1 : Nat)))) (m + (1 : Nat) + (1 : Nat)) (Room.tok (m + (1 : Nat) + (1 : Nat) - (1 : Nat)) (1 : Nat)), AV.sl (ints l) l.length r, I (↑l.length : Int), I (↑(m + (1 : Nat) + (1 : Nat)) : Int)])) ∧ True) (by kernel_rfl) ?_⟩
          refine ⟨by first | with_reducible assumption | omega | assumption, ?_⟩
          refine ⟨ix_ints (by kernel_rfl) hz' hri, ?_⟩
          refine ⟨ld_ints (by kernel_rfl) (by kernel_rfl) hz', ?_⟩
          refine ⟨lp, ?_⟩
          refine And.intro ?_ ?_
          · skip
            intro y
            intro w1
            intro u
            refine ⟨by first | exact hS1 _ | exact hS2 _, ?_⟩
            refine ⟨by first | exact h1 _ | exact hx | exact hy, ?_⟩
            refine ⟨by first | exact h1 _ | exact hx | exact hy, ?_⟩
            refine ⟨by first | exact hS1 _ | exact hS2 _, ?_⟩
            refine ⟨by first | exact h1 _ | exact hx | exact hy, ?_⟩
            refine ⟨told_add (by with_reducible assumption), ?_⟩
            refine ⟨by first | with_reducible assumption | omega | assumption, ?_⟩
            refine ⟨by first | with_reducible assumption | omega | assumption, ?_⟩
            exact ⟨rfl, rfl⟩
          · skip
            trivial
  · have hz : (l.length : Int) ≤ k := by omega
    have e : k = l.length := by omega
    subst e
    refine ⟨[Ans.o (Orc.b false)], fun u => of_eq ((↑l.length : Int) ≤ (↑l.length : Int) ∧ (41 : Nat) = (41 : Nat) ∧ hits [Out.mk Unit (AX.exit (0 : Nat)) [(3 : Nat)] (fun x => True) (fun x => [oV l l.length]) (fun x => hTk l.length) fun x => []] (AX.exit (0 : Nat)) [u (0 : Nat), u (1 : Nat), u (2 : Nat), AV.sl (ints (ris l l.length)) l.length (rT l.length), u (4 : Nat), u (5 : Nat), u (6 : Nat), AV.sl (ints l) l.length r, I (↑l.length : Int), I (↑l.length : Int), AV.bool false, u (11 : Nat), u (12 : Nat), u (13 : Nat), u (14 : Nat), u (15 : Nat), u (16 : Nat), u (17 : Nat), u (18 : Nat), u (19 : Nat), u (20 : Nat), u (21 : Nat), u (22 : Nat), u (23 : Nat), u (24 : Nat), u (25 : Nat), u (26 : Nat), u (27 : Nat), u (28 : Nat), u (29 : Nat), u (30 : Nat), u (31 : Nat), u (32 : Nat), u (33 : Nat), u (34 : Nat), u (35 : Nat), u (36 : Nat), u (37 : Nat), u (38 : Nat), u (39 : Nat), u (40 : Nat)] (H.mk [] (tkL l.length) [])) (by kernel_rfl) ?_⟩
    refine ⟨by first | with_reducible assumption | omega | assumption, ?_⟩
    refine ⟨by first | with_reducible assumption | omega | assumption, ?_⟩
    exact .inl ⟨(), trivial, rfl, rfl, rfl⟩
end Go.Proofs.Rnk

