/- Layer 5: linear programs: the equations at first. -/
import Derived.Test.YtlomlnkafakloaaDoorSyd
import Derived.Test.YtlomlnkafakloaaDoorSuK
import Derived.KernelRfl
set_option linter.unusedSimpArgs false
set_option linter.unusedVariables false
set_option linter.unnecessarySimpa false
set_option maxHeartbeats 4000000
set_option maxRecDepth 100000
namespace Go.Proofs.Sur
open Go Go.VM

theorem app_intsB {P : Program} {t : TypeId} (hT : appT P t = true) {l : List Int} {x : Int} {bs : List (List AV)} (hn : l.length ≤ 1000000000) :
    aAppend P t t (.sl (ints l) l.length (rm 0 l)) (.sl [I x] 1 .full) ⟨bs, tk l, []⟩ = some (.sl (ints (l ++ [x])) (l ++ [x]).length (rm 0 (l ++ [x])), ⟨bs, tk (l ++ [x]), []⟩) := by
  obtain ⟨e, i, z, he, hi, hz, h1, h2, h3⟩ := appT_of hT
  have hb : (l.length + 1) * i.bytes ≤ 2 ^ 47 := Nat.le_trans (Nat.mul_le_mul (Nat.succ_le_succ hn) h2) (by decide)
  have hm : l.length + 1 ≤ maxLen := Nat.le_trans (Nat.succ_le_succ hn) (by decide)
  have ho : (I x).one = true := rfl
  cases l with
  | nil =>
    have hb' : i.bytes ≤ 2 ^ 47 := Nat.le_trans h2 (by decide)
    simp [aAppend, he, hi, hz, h1, h3, slCells, ho, hb', rm, tk]
    decide
  | cons y l =>
    have hb2 : (l.length + 1 + 1) * i.bytes ≤ 2 ^ 47 := hb
    have hm2 : l.length + 1 + 1 ≤ maxLen := hm
    simp [aAppend, he, hi, hz, h1, h3, slCells, ho, hb2, hm2, rm, tk, ints]
def ef (n m : Nat) (S : List Int) (k : Nat) : Int :=
  if k / wdt n m < m then (if k % wdt n m < n then ((bi (at_ S (k / wdt n m)) (k % wdt n m)).toNat : Int) else if k % wdt n m = n + k / wdt n m ∨ k % wdt n m = n + m then 1 else 0)
  else if k % wdt n m < n then 1 else 0
theorem ef_at {n m : Nat} {S : List Int} {i c : Nat} (hc : c < wdt n m) : ef n m S (i * wdt n m + c) =
    if i < m then (if c < n then ((bi (at_ S i) c).toNat : Int) else if c = n + i ∨ c = n + m then 1 else 0) else if c < n then 1 else 0 := by
  obtain ⟨d1, d2⟩ := dm (wdt n m) i c hc
  simp only [ef]; rw [d1, d2]
def bsl (n i : Nat) : List Int := (List.range i).map fun k => ((n + k : Nat) : Int)
theorem bsl_len (n i : Nat) : (bsl n i).length = i := by simp [bsl]
theorem bsl_suc (n i : Nat) : bsl n i ++ [((n + i : Nat) : Int)] = bsl n (i + 1) := by simp [bsl, List.range_succ]
theorem bsl_at {n m i : Nat} (h : i < m) : (bsl n m).getD i i0 = ((n + i : Nat) : Int) := by
  simp only [bsl]
  rw [List.getD_eq_getElem?_getD, List.getElem?_map, List.getElem?_range h]; rfl
theorem bsl_rm {n i : Nat} (h : 1 ≤ i) : rm 0 (bsl n i) = .tok 0 1 ∧ tk (bsl n i) = [i] := by
  have h1 := bsl_len n i
  cases hb : bsl n i with
  | nil => rw [hb] at h1; simp at h1; omega
  | cons x l => rw [hb] at h1; exact ⟨rfl, by simp only [tk, h1]⟩
abbrev Zc (n m : Nat) : List Int := List.replicate ((m + 1) * wdt n m) i0
abbrev hC (n m : Nat) (R l : List Int) : H := ⟨[[I 0, I 0], ints R, qS 1 n m (.sl (ints l) l.length (rm 0 l)) 1], tk l, []⟩
abbrev hT (n m : Nat) (R l : List Int) : H := ⟨[[I 0, I 0], ints R, qS 1 n m (.sl (ints l) m (.tok 0 1)) 1], [m], []⟩
abbrev me (n m : Nat) (S : List Int) (t : Nat) : List Int := mx (ef n m S) (Zc n m) t
noncomputable abbrev E1 (cs : List (Ctr Tryd.prog)) : Env := ⟨Tryd.prog, Sof (P := Tryd.prog) cs, Pof (P := Tryd.prog) [], ⟨1, 0, 0⟩, 300⟩
theorem me_len (n m : Nat) (S : List Int) (t : Nat) : (me n m S t).length = (m + 1) * wdt n m := by rw [mx_len]; simp
theorem zc_at (n m k : Nat) : (Zc n m).getD k i0 = 0 := by
  rw [List.getD_eq_getElem?_getD, List.getElem?_replicate]; split <;> rfl
abbrev setsOk (n m : Nat) (S : List Int) : Prop := S.length = m ∧ ∀ i, i < m → 0 ≤ at_ S i ∧ at_ S i < 64
theorem ok85 : FokM Tryd.prog none1 85 Tryd.f85 := ⟨mixed, by kernel_rfl, by kernel_rfl, by kernel_rfl, by kernel_rfl⟩
theorem simp85a : allSimpleM none1 (loopAt Tryd.f85 0) = true := by kernel_rfl
theorem simp85b : allSimpleM none1 (loopAt Tryd.f85 1) = true := by kernel_rfl
theorem simp85c : allSimpleM none1 (loopAt Tryd.f85 2) = true := by kernel_rfl
theorem hsC (n m i : Nat) (R l : List Int) (hi : i ≤ m) : (∃ bas s', (hC n m R l).blk[2]? = some (qS 1 n m bas s')) ∧ i ≤ m := ⟨⟨_, _, rfl⟩, hi⟩
theorem hsT (n m i : Nat) (R l : List Int) (hi : i ≤ m) : (∃ bas s', (hT n m R l).blk[2]? = some (qS 1 n m bas s')) ∧ i ≤ m := ⟨⟨_, _, rfl⟩, hi⟩
abbrev v85 (n m : Nat) (S : List Int) (r : Room) (i : Nat) : List AV := [I (n : Nat), .sl (ints S) m r, I (wdt n m : Nat), .ptr 2 0, .sl (ints S) m r, I (m : Nat), I (i : Nat)]
abbrev o85b (n m : Nat) (S : List Int) (r : Room) (i : Nat) (l : List Int) : List Out := [.mk Unit (.exit 2) [0, 1, 5, 6, 7, 9, 27, 28, 29] (fun _ => True) (fun _ => [I (n : Nat), .sl (ints S) m r, I (wdt n m : Nat), .ptr 2 0, I (i : Nat), .msl 1 (i * wdt n m) (wdt n m) (wdt n m) 1, .sl (ints S) m r, I (m : Nat), I (i : Nat)]) (fun _ => hC n m (me n m S (i * wdt n m + n)) l) (fun _ => [])]
theorem lp85b (n m : Nat) (S : List Int) (r : Room) (hn : nm n m) (hS : setsOk n m S) (i : Nat) (hi : i < m) (l : List Int) :
    LoopS (E1 [g89 n m hn]) (loopAt Tryd.f85 1) 84 [0, 1, 5, 6, 7, 8, 9, 27, 28, 29, 37, 38] [I (n : Nat), .sl (ints S) m r, I (wdt n m : Nat), .ptr 2 0, I (i : Nat), I (at_ S i), .msl 1 (i * wdt n m) (wdt n m) (wdt n m) 1, .sl (ints S) m r, I (m : Nat), I (i : Nat), I (n : Nat), I 0]
      (hC n m (me n m S (i * wdt n m)) l) (o85b n m S r i l) := by
  have hR : Rests (E1 [g89 n m hn]) none1 := rests mixed (ct86 n m hn)
  refine loop_s hR simp85b none (by intro _ h; cases h) (fun c vs H => H = hC n m (me n m S (i * wdt n m + c)) l ∧ vs = [I (n : Nat), .sl (ints S) m r, I (wdt n m : Nat), .ptr 2 0, I (i : Nat), I (at_ S i), .msl 1 (i * wdt n m) (wdt n m) (wdt n m) 1, .sl (ints S) m r, I (m : Nat), I (i : Nat), I (n : Nat), I (c : Nat)] ∧ c ≤ n) n ⟨rfl, rfl, Nat.zero_le _⟩ (by intro _ h; cases h) ?_
  rintro c vs H hc ⟨rfl, rfl, hle⟩
  by_cases hz : (c : Int) < (n : Int)
  · have hz' : c < n := by omega
    have hcw : c < wdt n m := by simp only [wdt]; omega
    have ht := ix_lt (m := m) (w := wdt n m) (j := i) (by omega) hcw
    have hb := hS.2 i hi
    have ev0 := i_bitv hb.1 hb.2 (show c ≤ 64 by have := hn.2.1; omega) _ rfl
    obtain ⟨ev0, ev1⟩ := ev0
    have ev2 := w_suc (i := c) (by have := hn.2.1; omega)
    have q : ef n m S (i * wdt n m + c) = ((bi (at_ S i) c).toNat : Int) := by rw [ef_at hcw, if_pos hi, if_pos hz']
    have q4 : (me n m S (i * wdt n m + c)).set (i * wdt n m + c) ((bi (at_ S i) c).toNat : Int) = me n m S (i * wdt n m + (c + 1)) := by
      rw [← q]; exact mx_set _ _ _ (by simpa using ht)
    have i3 : i * wdt n m + c < (me n m S (i * wdt n m + c)).length := by rw [me_len]; exact ht
    refine ⟨[Ans.o (Orc.b true), Ans.o (Orc.val 45 (I (↑((at_ S i).toNat >>> c) : Int)) H.nil), Ans.o (Orc.val 46 (I (↑(bi (at_ S i) c).toNat : Int)) H.nil), Ans.o (Orc.val 47 (AV.ptr 1 (i * wdt n m + c)) H.nil), Ans.o (Orc.val 9999 (AV.tup []) (H.mk [[I 0, I 0], ints ((me n m S (i * wdt n m + c)).set (i * wdt n m + c) (↑(bi (at_ S i) c).toNat : Int)), [AV.msl 1 0 ((m + (1 : Nat)) * wdt n m) ((m + (1 : Nat)) * wdt n m) (1 : Nat), I (↑(wdt n m) : Int), ls l (rm (0 : Nat) l), I 1]] (H.mk [[I 0, I 0], ints (me n m S (i * wdt n m + c)), [AV.msl 1 0 ((m + (1 : Nat)) * wdt n m) ((m + (1 : Nat)) * wdt n m) (1 : Nat), I (↑(wdt n m) : Int), ls l (rm (0 : Nat) l), I 1]] (tk l) []).toks [])), Ans.o (Orc.val 48 (I (↑(c + (1 : Nat)) : Int)) H.nil)], fun u => of_eq ((↑c : Int) < (↑n : Int) ∧ aBin Tryd.prog BinOp.shr (3 : Nat) (I (at_ S i)) (I (↑c : Int)) = some (I (↑((at_ S i).toNat >>> c) : Int)) ∧ aBin Tryd.prog BinOp.and (3 : Nat) (I (↑((at_ S i).toNat >>> c) : Int)) (I 1) = some (I (↑(bi (at_ S i) c).toNat : Int)) ∧ aIndexAddr Tryd.prog 22 (AV.msl 1 (i * wdt n m) (wdt n m) (wdt n m) (1 : Nat)) (I (↑c : Int)) = some (AV.ptr 1 (i * wdt n m + c)) ∧ aStore Tryd.prog (Base.mk (1 : Nat) (0 : Nat) (0 : Nat)) (3 : Nat) (AV.ptr 1 (i * wdt n m + c)) (I (↑(bi (at_ S i) c).toNat : Int)) (H.mk [[I 0, I 0], ints (me n m S (i * wdt n m + c)), [AV.msl 1 0 ((m + (1 : Nat)) * wdt n m) ((m + (1 : Nat)) * wdt n m) (1 : Nat), I (↑(wdt n m) : Int), ls l (rm (0 : Nat) l), I 1]] (tk l) []) = some (H.mk [[I 0, I 0], ints ((me n m S (i * wdt n m + c)).set (i * wdt n m + c) (↑(bi (at_ S i) c).toNat : Int)), [AV.msl 1 0 ((m + (1 : Nat)) * wdt n m) ((m + (1 : Nat)) * wdt n m) (1 : Nat), I (↑(wdt n m) : Int), ls l (rm (0 : Nat) l), I 1]] (H.mk [[I 0, I 0], ints (me n m S (i * wdt n m + c)), [AV.msl 1 0 ((m + (1 : Nat)) * wdt n m) ((m + (1 : Nat)) * wdt n m) (1 : Nat), I (↑(wdt n m) : Int), ls l (rm (0 : Nat) l), I 1]] (tk l) []).toks []) ∧ aBin Tryd.prog BinOp.add (3 : Nat) (I (↑c : Int)) (I 1) = some (I (↑(c + (1 : Nat)) : Int)) ∧ (84 : Nat) = (84 : Nat) ∧ c < n ∧ Keep (H.mk [[I 0, I 0], ints ((me n m S (i * wdt n m + c)).set (i * wdt n m + c) (↑(bi (at_ S i) c).toNat : Int)), [AV.msl 1 0 ((m + (1 : Nat)) * wdt n m) ((m + (1 : Nat)) * wdt n m) (1 : Nat), I (↑(wdt n m) : Int), ls l (rm (0 : Nat) l), I 1]] (H.mk [[I 0, I 0], ints (me n m S (i * wdt n m + c)), [AV.msl 1 0 ((m + (1 : Nat)) * wdt n m) ((m + (1 : Nat)) * wdt n m) (1 : Nat), I (↑(wdt n m) : Int), ls l (rm (0 : Nat) l), I 1]] (tk l) []).toks [] = H.mk [[I 0, I 0], ints (me n m S (i * wdt n m + (c + (1 : Nat)))), [AV.msl 1 0 ((m + (1 : Nat)) * wdt n m) ((m + (1 : Nat)) * wdt n m) (1 : Nat), I (↑(wdt n m) : Int), ls l (rm (0 : Nat) l), I 1]] (tk l) [] ∧ [I (↑n : Int), AV.sl (ints S) m r, I (↑(wdt n m) : Int), AV.ptr 2 0, I (↑i : Int), I (at_ S i), AV.msl 1 (i * wdt n m) (wdt n m) (wdt n m) (1 : Nat), AV.sl (ints S) m r, I (↑m : Int), I (↑i : Int), I (↑n : Int), I (↑(c + (1 : Nat)) : Int)] = [I (↑n : Int), AV.sl (ints S) m r, I (↑(wdt n m) : Int), AV.ptr 2 0, I (↑i : Int), I (at_ S i), AV.msl 1 (i * wdt n m) (wdt n m) (wdt n m) (1 : Nat), AV.sl (ints S) m r, I (↑m : Int), I (↑i : Int), I (↑n : Int), I (↑(c + (1 : Nat)) : Int)] ∧ c + (1 : Nat) ≤ n)) (by kernel_rfl) ?_⟩
    refine ⟨by first | with_reducible assumption | omega | assumption, ?_⟩
    refine ⟨by first | exact told_shr (by first | exact Int.natCast_nonneg _ | omega) (by with_reducible assumption) | exact told_shr (by omega) rfl, ?_⟩
    refine ⟨told_and (by with_reducible assumption), ?_⟩
    refine ⟨ixm_map (by kernel_rfl) hcw, ?_⟩
    refine ⟨st_ints (by kernel_rfl) rfl i3, ?_⟩
    refine ⟨told_add (by with_reducible assumption), ?_⟩
    refine ⟨by first | with_reducible assumption | omega | assumption, ?_⟩
    refine ⟨by first | with_reducible assumption | omega | assumption, ?_⟩
    exact ⟨by rw [q4], rfl, hz'⟩
  · have hz : (n : Int) ≤ c := by omega
    have e' : c = n := by omega
    subst e'
    refine ⟨[Ans.o (Orc.b false)], fun u => of_eq ((↑c : Int) ≤ (↑c : Int) ∧ (84 : Nat) = (84 : Nat) ∧ hits [Out.mk Unit (AX.exit 2) [0, 1, 5, 6, 7, 9, 27, 28, 29] (fun x => True) (fun x => [I (↑c : Int), AV.sl (ints S) m r, I (↑(wdt c m) : Int), AV.ptr 2 0, I (↑i : Int), AV.msl 1 (i * wdt c m) (wdt c m) (wdt c m) (1 : Nat), AV.sl (ints S) m r, I (↑m : Int), I (↑i : Int)]) (fun x => hC c m (me c m S (i * wdt c m + c)) l) fun x => []] (AX.exit 2) [I (↑c : Int), AV.sl (ints S) m r, u (2 : Nat), u (3 : Nat), u (4 : Nat), I (↑(wdt c m) : Int), AV.ptr 2 0, I (↑i : Int), I (at_ S i), AV.msl 1 (i * wdt c m) (wdt c m) (wdt c m) (1 : Nat), u (10 : Nat), u (11 : Nat), u (12 : Nat), u (13 : Nat), u (14 : Nat), u (15 : Nat), u (16 : Nat), u (17 : Nat), u (18 : Nat), u (19 : Nat), u (20 : Nat), u (21 : Nat), u (22 : Nat), u (23 : Nat), u (24 : Nat), u (25 : Nat), u (26 : Nat), AV.sl (ints S) m r, I (↑m : Int), I (↑i : Int), u (30 : Nat), u (31 : Nat), u (32 : Nat), u (33 : Nat), u (34 : Nat), u (35 : Nat), u (36 : Nat), I (↑c : Int), I (↑c : Int), AV.bool false, u (40 : Nat), u (41 : Nat), u (42 : Nat), u (43 : Nat), u (44 : Nat), u (45 : Nat), u (46 : Nat), u (47 : Nat), u (48 : Nat), u (49 : Nat), u (50 : Nat), u (51 : Nat), u (52 : Nat), u (53 : Nat), u (54 : Nat), u (55 : Nat), u (56 : Nat), u (57 : Nat), u (58 : Nat), u (59 : Nat), u (60 : Nat), u (61 : Nat), u (62 : Nat), u (63 : Nat), u (64 : Nat), u (65 : Nat), u (66 : Nat), u (67 : Nat), u (68 : Nat), u (69 : Nat), u (70 : Nat), u (71 : Nat), u (72 : Nat), u (73 : Nat), u (74 : Nat), u (75 : Nat), u (76 : Nat), u (77 : Nat), u (78 : Nat), u (79 : Nat), u (80 : Nat), u (81 : Nat), u (82 : Nat), u (83 : Nat)] (H.mk [[I 0, I 0], ints (me c m S (i * wdt c m + c)), [AV.msl 1 0 ((m + (1 : Nat)) * wdt c m) ((m + (1 : Nat)) * wdt c m) (1 : Nat), I (↑(wdt c m) : Int), ls l (rm (0 : Nat) l), I 1]] (tk l) [])) (by kernel_rfl) ?_⟩
    refine ⟨by first | with_reducible assumption | omega | assumption, ?_⟩
    refine ⟨by first | with_reducible assumption | omega | assumption, ?_⟩
    exact .inl ⟨(), trivial, rfl, rfl, rfl⟩
theorem me_end {n m : Nat} {S : List Int} {i : Nat} (hi : i < m) : ((me n m S (i * wdt n m + n)).set (i * wdt n m + (n + i)) 1).set (i * wdt n m + (n + m)) 1 = me n m S ((i + 1) * wdt n m) := by
  refine getD_ext (by simp [me_len]) fun k hk => ?_
  have hk : k < (Zc n m).length := by simpa [me_len] using hk
  have hkz : k < (m + 1) * wdt n m := by simpa using hk
  have h1 := ix_lt (m := m) (w := wdt n m) (j := i) (c := n + i) (by omega) (by simp only [wdt]; omega)
  have h2 := ix_lt (m := m) (w := wdt n m) (j := i) (c := n + m) (by omega) (by simp only [wdt]; omega)
  show gt (((me n m S (i * wdt n m + n)).set (i * wdt n m + (n + i)) 1).set (i * wdt n m + (n + m)) 1) k = _
  rw [gt_set (by simp [me_len]; exact h2), gt_set (by rw [me_len]; exact h1)]
  have e1 : gt (me n m S (i * wdt n m + n)) k = if k < i * wdt n m + n then ef n m S k else 0 := by rw [← zc_at n m k]; exact mx_at _ _ _ _ hk
  have e2 : (me n m S ((i + 1) * wdt n m)).getD k i0 = if k < (i + 1) * wdt n m then ef n m S k else 0 := by rw [← zc_at n m k]; exact mx_at _ _ _ _ hk
  rw [e1, e2, Nat.add_mul, Nat.one_mul]
  by_cases a1 : k < i * wdt n m + n
  · have : k < i * wdt n m + wdt n m := by simp only [wdt] at a1 ⊢; omega
    rw [if_pos a1, if_pos this, if_neg (by omega), if_neg (by omega)]
  · rw [if_neg a1]
    by_cases a2 : k < i * wdt n m + wdt n m
    · rw [if_pos a2]
      obtain ⟨c, rfl⟩ : ∃ c, k = i * wdt n m + c := ⟨k - i * wdt n m, by omega⟩
      have hc : c < wdt n m := by omega
      have hef : ef n m S (i * wdt n m + c) = if c = n + i ∨ c = n + m then 1 else 0 := by rw [ef_at hc, if_pos hi, if_neg (by omega)]
      rw [hef]
      by_cases a3 : c = n + m
      · rw [if_pos (by omega), if_pos (.inr a3)]
      · rw [if_neg (by omega)]
        by_cases a4 : c = n + i
        · rw [if_pos (by omega), if_pos (.inl a4)]
        · rw [if_neg (by omega), if_neg (by omega)]
    · rw [if_neg a2, if_neg (by simp only [wdt] at a2 ⊢; omega), if_neg (by simp only [wdt] at a2 ⊢; omega)]
abbrev o85a (n m : Nat) (S : List Int) (r : Room) : List Out := [.mk Unit (.exit 0) [0, 1, 5, 6] (fun _ => True) (fun _ => [I (n : Nat), .sl (ints S) m r, I (wdt n m : Nat), .ptr 2 0]) (fun _ => hT n m (me n m S (m * wdt n m)) (bsl n m)) (fun _ => [])]
theorem lp85a (n m : Nat) (S : List Int) (r : Room) (hr : rok S r) (hn : nm n m) (hS : setsOk n m S) (h1 : 1 ≤ m) :
    LoopS (E1 [g89 n m hn]) (loopAt Tryd.f85 0) 84 [0, 1, 5, 6, 27, 28, 29] (v85 n m S r 0) (hC n m (Zc n m) []) (o85a n m S r) := by
  have hR : Rests (E1 [g89 n m hn]) none1 := rests mixed (ct86 n m hn)
  refine loop_s hR simp85a none (by intro _ h; cases h) (fun i vs H => H = hC n m (me n m S (i * wdt n m)) (bsl n i) ∧ vs = v85 n m S r i ∧ i ≤ m) m ⟨by rw [Nat.zero_mul]; simp only [me, mx_zero]; rfl, rfl, Nat.zero_le _⟩ (by intro _ h; cases h) ?_
  rintro i vs H hi ⟨rfl, rfl, hle⟩
  by_cases hz : (i : Int) < (m : Int)
  · have hz' : i < m := by omega
    have lp := lp85b n m S r hn hS i hz' (bsl n i)
    have hi1 := hsC n m i (me n m S (i * wdt n m)) (bsl n i) (by omega)
    have x1 : n + i < wdt n m := by simp only [wdt]; omega
    have x2 : n + m < wdt n m := by simp only [wdt]; omega
    have ev0 := w_suc (i := i) (by have := hn.2.2; omega)
    have ev1 := w_pred hn
    have ev2 : IntKind.i64.wrap ((n : Int) + (i : Int)) = ((n + i : Nat) : Int) := by
      have : (n : Int) + (i : Int) = ((n + i : Nat) : Int) := by omega
      rw [this]; exact i_wrap (by obtain ⟨_, _, _⟩ := hn; omega)
    have b1 := ix_lt (m := m) (w := wdt n m) (j := i) (c := n + i) (by omega) x1
    have b2 := ix_lt (m := m) (w := wdt n m) (j := i) (c := n + m) (by omega) x2
    have i3 : i * wdt n m + (n + i) < (me n m S (i * wdt n m + n)).length := by rw [me_len]; exact b1
    have i4 : i * wdt n m + (n + m) < ((me n m S (i * wdt n m + n)).set (i * wdt n m + (n + i)) 1).length := by rw [List.length_set, me_len]; exact b2
    have hl : i < S.length := by rw [hS.1]; exact hz'
    have hrr := rok_idx hr hl
    have hend := me_end (n := n) (S := S) hz'
    have hsuc := bsl_suc n i
    have hlen := bsl_len n i
    have hap := app_intsB (P := Tryd.prog) (t := 22) (by kernel_rfl) (l := bsl n i) (x := ((n + i : Nat) : Int)) (bs := [[I 0, I 0], ints (((me n m S (i * wdt n m + n)).set (i * wdt n m + (n + i)) 1).set (i * wdt n m + (n + m)) 1), qS 1 n m (.sl (ints (bsl n i)) (bsl n i).length (rm 0 (bsl n i))) 1]) (by rw [hlen]; obtain ⟨_, _, _⟩ := hn; omega)
    refine ⟨[Ans.o (Orc.b true), Ans.o (Orc.val 32 (AV.cptr (ints (List.drop i S))) H.nil), Ans.o (Orc.val 33 (I (S.getD i i0)) H.nil), Ans.o (Orc.val 36 (AV.msl 1 (i * wdt n m) (wdt n m) (wdt n m) (1 : Nat)) (H.mk [[I 0, I 0], ints (me n m S (i * wdt n m)), [AV.msl 1 0 ((m + (1 : Nat)) * wdt n m) ((m + (1 : Nat)) * wdt n m) (1 : Nat), I (↑(wdt n m) : Int), ls (bsl n i) (rm (0 : Nat) (bsl n i)), I 1]] (tk (bsl n i)) [])), Ans.loop [0, 1, 5, 6, 7, 8, 9, 27, 28, 29, 37, 38] [Out.mk Unit (AX.exit 2) [0, 1, 5, 6, 7, 9, 27, 28, 29] (fun x => True) (fun x => [I (↑n : Int), AV.sl (ints S) m r, I (↑(wdt n m) : Int), AV.ptr 2 0, I (↑i : Int), AV.msl 1 (i * wdt n m) (wdt n m) (wdt n m) (1 : Nat), AV.sl (ints S) m r, I (↑m : Int), I (↑i : Int)]) (fun x => hC n m (me n m S (i * wdt n m + n)) (bsl n i)) fun y => [Ans.o (Orc.val 52 (I (↑(n + i) : Int)) H.nil), Ans.o (Orc.val 55 (I (↑(n + m) : Int)) H.nil), Ans.o (Orc.val 56 (AV.ptr 1 (i * wdt n m + (n + i))) H.nil), Ans.o (Orc.val 9999 (AV.tup []) (H.mk [[I 0, I 0], ints ((me n m S (i * wdt n m + n)).set (i * wdt n m + (n + i)) (1 : Int)), [AV.msl 1 0 ((m + (1 : Nat)) * wdt n m) ((m + (1 : Nat)) * wdt n m) (1 : Nat), I (↑(wdt n m) : Int), ls (bsl n i) (rm (0 : Nat) (bsl n i)), I 1]] (H.mk [[I 0, I 0], ints (me n m S (i * wdt n m + n)), [AV.msl 1 0 ((m + (1 : Nat)) * wdt n m) ((m + (1 : Nat)) * wdt n m) (1 : Nat), I (↑(wdt n m) : Int), ls (bsl n i) (rm (0 : Nat) (bsl n i)), I 1]] (tk (bsl n i)) []).toks [])), Ans.o (Orc.val 57 (AV.ptr 1 (i * wdt n m + (n + m))) H.nil), Ans.o (Orc.val 9999 (AV.tup []) (H.mk [[I 0, I 0], ints (((me n m S (i * wdt n m + n)).set (i * wdt n m + (n + i)) (1 : Int)).set (i * wdt n m + (n + m)) (1 : Int)), [AV.msl 1 0 ((m + (1 : Nat)) * wdt n m) ((m + (1 : Nat)) * wdt n m) (1 : Nat), I (↑(wdt n m) : Int), ls (bsl n i) (rm (0 : Nat) (bsl n i)), I 1]] (H.mk [[I 0, I 0], ints ((me n m S (i * wdt n m + n)).set (i * wdt n m + (n + i)) (1 : Int)), [AV.msl 1 0 ((m + (1 : Nat)) * wdt n m) ((m + (1 : Nat)) * wdt n m) (1 : Nat), I (↑(wdt n m) : Int), ls (bsl n i) (rm (0 : Nat) (bsl n i)), I 1]] (H.mk [[I 0, I 0], ints (me n m S (i * wdt n m + n)), [AV.msl 1 0 ((m + (1 : Nat)) * wdt n m) ((m + (1 : Nat)) * wdt n m) (1 : Nat), I (↑(wdt n m) : Int), ls (bsl n i) (rm (0 : Nat) (bsl n i)), I 1]] (tk (bsl n i)) []).toks []).toks [])), Ans.o (Orc.val 65 (I (↑(n + i) : Int)) H.nil), Ans.o (Orc.val 67 (ls (bsl n i ++ [(↑(n + i) : Int)]) (rm (0 : Nat) (bsl n i ++ [(↑(n + i) : Int)]))) (H.mk [[I 0, I 0], ints (((me n m S (i * wdt n m + n)).set (i * wdt n m + (n + i)) (1 : Int)).set (i * wdt n m + (n + m)) (1 : Int)), qS (1 : Nat) n m (ls (bsl n i) (rm (0 : Nat) (bsl n i))) (1 : Int)] (tk (bsl n i ++ [(↑(n + i) : Int)])) [])), Ans.o (Orc.val 70 (I (↑(i + (1 : Nat)) : Int)) H.nil)]]], fun u => of_eq ((↑i : Int) < (↑m : Int) ∧ aIndexAddr Tryd.prog 22 (AV.sl (ints S) m r) (I (↑i : Int)) = some (AV.cptr (ints (List.drop i S))) ∧ aLoad Tryd.prog 3 (ints (List.drop i S)) = some (I (S.getD i i0)) ∧ aCall (Sof [g89 n m hn]) (AV.fn (Fn.func 89) [] []) [AV.ptr 2 0, I (↑i : Int)] (H.mk [[I 0, I 0], ints (me n m S (i * wdt n m)), [AV.msl 1 0 ((m + (1 : Nat)) * wdt n m) ((m + (1 : Nat)) * wdt n m) (1 : Nat), I (↑(wdt n m) : Int), ls (bsl n i) (rm (0 : Nat) (bsl n i)), I 1]] (tk (bsl n i)) []) = some (AV.msl 1 (i * wdt n m) (wdt n m) (wdt n m) (1 : Nat), H.mk [[I 0, I 0], ints (me n m S (i * wdt n m)), [AV.msl 1 0 ((m + (1 : Nat)) * wdt n m) ((m + (1 : Nat)) * wdt n m) (1 : Nat), I (↑(wdt n m) : Int), ls (bsl n i) (rm (0 : Nat) (bsl n i)), I 1]] (tk (bsl n i)) []) ∧ LoopS (Env.mk Tryd.prog (Sof [g89 n m hn]) (Pof (P := Tryd.prog) []) (Base.mk (1 : Nat) (0 : Nat) (0 : Nat)) (300 : Nat)) (loopAt Tryd.f85 1) 84 [0, 1, 5, 6, 7, 8, 9, 27, 28, 29, 37, 38] [I (↑n : Int), AV.sl (ints S) m r, I (↑(wdt n m) : Int), AV.ptr 2 0, I (↑i : Int), I (S.getD i i0), AV.msl 1 (i * wdt n m) (wdt n m) (wdt n m) (1 : Nat), AV.sl (ints S) m r, I (↑m : Int), I (↑i : Int), I (↑n : Int), I 0] (H.mk [[I 0, I 0], ints (me n m S (i * wdt n m)), [AV.msl 1 0 ((m + (1 : Nat)) * wdt n m) ((m + (1 : Nat)) * wdt n m) (1 : Nat), I (↑(wdt n m) : Int), ls (bsl n i) (rm (0 : Nat) (bsl n i)), I 1]] (tk (bsl n i)) []) [Out.mk Unit (AX.exit 2) [0, 1, 5, 6, 7, 9, 27, 28, 29] (fun x => True) (fun x => [I (↑n : Int), AV.sl (ints S) m r, I (↑(wdt n m) : Int), AV.ptr 2 0, I (↑i : Int), AV.msl 1 (i * wdt n m) (wdt n m) (wdt n m) (1 : Nat), AV.sl (ints S) m r, I (↑m : Int), I (↑i : Int)]) (fun x => hC n m (me n m S (i * wdt n m + n)) (bsl n i)) fun y => [Ans.o (Orc.val 52 (I (↑(n + i) : Int)) H.nil), Ans.o (Orc.val 55 (I (↑(n + m) : Int)) H.nil), Ans.o (Orc.val 56 (AV.ptr 1 (i * wdt n m + (n + i))) H.nil), Ans.o (Orc.val 9999 (AV.tup []) (H.mk [[I 0, I 0], ints ((me n m S (i * wdt n m + n)).set (i * wdt n m + (n + i)) (1 : Int)), [AV.msl 1 0 ((m + (1 : Nat)) * wdt n m) ((m + (1 : Nat)) * wdt n m) (1 : Nat), I (↑(wdt n m) : Int), ls (bsl n i) (rm (0 : Nat) (bsl n i)), I 1]] (H.mk [[I 0, I 0], ints (me n m S (i * wdt n m + n)), [AV.msl 1 0 ((m + (1 : Nat)) * wdt n m) ((m + (1 : Nat)) * wdt n m) (1 : Nat), I (↑(wdt n m) : Int), ls (bsl n i) (rm (0 : Nat) (bsl n i)), I 1]] (tk (bsl n i)) []).toks [])), Ans.o (Orc.val 57 (AV.ptr 1 (i * wdt n m + (n + m))) H.nil), Ans.o (Orc.val 9999 (AV.tup []) (H.mk [[I 0, I 0], ints (((me n m S (i * wdt n m + n)).set (i * wdt n m + (n + i)) (1 : Int)).set (i * wdt n m + (n + m)) (1 : Int)), [AV.msl 1 0 ((m + (1 : Nat)) * wdt n m) ((m + (1 : Nat)) * wdt n m) (1 : Nat), I (↑(wdt n m) : Int), ls (bsl n i) (rm (0 : Nat) (bsl n i)), I 1]] (H.mk [[I 0, I 0], ints ((me n m S (i * wdt n m + n)).set (i * wdt n m + (n + i)) (1 : Int)), [AV.msl 1 0 ((m + (1 : Nat)) * wdt n m) ((m + (1 : Nat)) * wdt n m) (1 : Nat), I (↑(wdt n m) : Int), ls (bsl n i) (rm (0 : Nat) (bsl n i)), I 1]] (H.mk [[I 0, I 0], ints (me n m S (i * wdt n m + n)), [AV.msl 1 0 ((m + (1 : Nat)) * wdt n m) ((m + (1 : Nat)) * wdt n m) (1 : Nat), I (↑(wdt n m) : Int), ls (bsl n i) (rm (0 : Nat) (bsl n i)), I 1]] (tk (bsl n i)) []).toks []).toks [])), Ans.o (Orc.val 65 (I (↑(n + i) : Int)) H.nil), Ans.o (Orc.val 67 (ls (bsl n i ++ [(↑(n + i) : Int)]) (rm (0 : Nat) (bsl n i ++ [(↑(n + i) : Int)]))) (H.mk [[I 0, I 0], ints (((me n m S (i * wdt n m + n)).set (i * wdt n m + (n + i)) (1 : Int)).set (i * wdt n m + (n + m)) (1 : Int)), qS (1 : Nat) n m (ls (bsl n i) (rm (0 : Nat) (bsl n i))) (1 : Int)] (tk (bsl n i ++ [(↑(n + i) : Int)])) [])), Ans.o (Orc.val 70 (I (↑(i + (1 : Nat)) : Int)) H.nil)]] ∧ (∀ (y : Unit), True → ∀ (u : Nat → AV), aBin Tryd.prog BinOp.add (3 : Nat) (I (↑n : Int)) (I (↑i : Int)) = some (I (↑(n + i) : Int)) ∧ aBin Tryd.prog BinOp.sub (3 : Nat) (I (↑(wdt n m) : Int)) (I 1) = some (I (↑(n + m) : Int)) ∧ aIndexAddr Tryd.prog 22 (AV.msl 1 (i * wdt n m) (wdt n m) (wdt n m) (1 : Nat)) (I (↑(n + i) : Int)) = some (AV.ptr 1 (i * wdt n m + (n + i))) ∧ aStore Tryd.prog (Base.mk (1 : Nat) (0 : Nat) (0 : Nat)) (3 : Nat) (AV.ptr 1 (i * wdt n m + (n + i))) (I 1) (H.mk [[I 0, I 0], ints (me n m S (i * wdt n m + n)), [AV.msl 1 0 ((m + (1 : Nat)) * wdt n m) ((m + (1 : Nat)) * wdt n m) (1 : Nat), I (↑(wdt n m) : Int), ls (bsl n i) (rm (0 : Nat) (bsl n i)), I 1]] (tk (bsl n i)) []) = some (H.mk [[I 0, I 0], ints ((me n m S (i * wdt n m + n)).set (i * wdt n m + (n + i)) (1 : Int)), [AV.msl 1 0 ((m + (1 : Nat)) * wdt n m) ((m + (1 : Nat)) * wdt n m) (1 : Nat), I (↑(wdt n m) : Int), ls (bsl n i) (rm (0 : Nat) (bsl n i)), I 1]] (H.mk [[I 0, I 0], ints (me n m S (i * wdt n m + n)), [AV.msl 1 0 ((m + (1 : Nat)) * wdt n m) ((m + (1 : Nat)) * wdt n m) (1 : Nat), I (↑(wdt n m) : Int), ls (bsl n i) (rm (0 : Nat) (bsl n i)), I 1]] (tk (bsl n i)) []).toks []) ∧ aIndexAddr Tryd.prog 22 (AV.msl 1 (i * wdt n m) (wdt n m) (wdt n m) (1 : Nat)) (I (↑(n + m) : Int)) = some (AV.ptr 1 (i * wdt n m + (n + m))) ∧ aStore Tryd.prog (Base.mk (1 : Nat) (0 : Nat) (0 : Nat)) (3 : Nat) (AV.ptr 1 (i * wdt n m + (n + m))) (I 1) (H.mk [[I 0, I 0], ints ((me n m S (i * wdt n m + n)).set (i * wdt n m + (n + i)) (1 : Int)), [AV.msl 1 0 ((m + (1 : Nat)) * wdt n m) ((m + (1 : Nat)) * wdt n m) (1 : Nat), I (↑(wdt n m) : Int), ls (bsl n i) (rm (0 : Nat) (bsl n i)), I 1]] (H.mk [[I 0, I 0], ints (me n m S (i * wdt n m + n)), [AV.msl 1 0 ((m + (1 : Nat)) * wdt n m) ((m + (1 : Nat)) * wdt n m) (1 : Nat), I (↑(wdt n m) : Int), ls (bsl n i) (rm (0 : Nat) (bsl n i)), I 1]] (tk (bsl n i)) []).toks []) = some (H.mk [[I 0, I 0], ints (((me n m S (i * wdt n m + n)).set (i * wdt n m + (n + i)) (1 : Int)).set (i * wdt n m + (n + m)) (1 : Int)), [AV.msl 1 0 ((m + (1 : Nat)) * wdt n m) ((m + (1 : Nat)) * wdt n m) (1 : Nat), I (↑(wdt n m) : Int), ls (bsl n i) (rm (0 : Nat) (bsl n i)), I 1]] (H.mk [[I 0, I 0], ints ((me n m S (i * wdt n m + n)).set (i * wdt n m + (n + i)) (1 : Int)), [AV.msl 1 0 ((m + (1 : Nat)) * wdt n m) ((m + (1 : Nat)) * wdt n m) (1 : Nat), I (↑(wdt n m) : Int), ls (bsl n i) (rm (0 : Nat) (bsl n i)), I 1]] (H.mk [[I 0, I 0], ints (me n m S (i * wdt n m + n)), [AV.msl 1 0 ((m + (1 : Nat)) * wdt n m) ((m + (1 : Nat)) * wdt n m) (1 : Nat), I (↑(wdt n m) : Int), ls (bsl n i) (rm (0 : Nat) (bsl n i)), I 1]] (tk (bsl n i)) []).toks []).toks []) ∧ aBin Tryd.prog BinOp.add (3 : Nat) (I (↑n : Int)) (I (↑i : Int)) = some (I (↑(n + i) : Int)) ∧ aAppend Tryd.prog 22 (22 : Nat) (ls (bsl n i) (rm (0 : Nat) (bsl n i))) (AV.sl [I (↑(n + i) : Int)] (1 : Nat) Room.full) (H.mk [[I 0, I 0], ints (((me n m S (i * wdt n m + n)).set (i * wdt n m + (n + i)) (1 : Int)).set (i * wdt n m + (n + m)) (1 : Int)), [AV.msl 1 0 ((m + (1 : Nat)) * wdt n m) ((m + (1 : Nat)) * wdt n m) (1 : Nat), I (↑(wdt n m) : Int), ls (bsl n i) (rm (0 : Nat) (bsl n i)), I 1]] (H.mk [[I 0, I 0], ints ((me n m S (i * wdt n m + n)).set (i * wdt n m + (n + i)) (1 : Int)), [AV.msl 1 0 ((m + (1 : Nat)) * wdt n m) ((m + (1 : Nat)) * wdt n m) (1 : Nat), I (↑(wdt n m) : Int), ls (bsl n i) (rm (0 : Nat) (bsl n i)), I 1]] (H.mk [[I 0, I 0], ints (me n m S (i * wdt n m + n)), [AV.msl 1 0 ((m + (1 : Nat)) * wdt n m) ((m + (1 : Nat)) * wdt n m) (1 : Nat), I (↑(wdt n m) : Int), ls (bsl n i) (rm (0 : Nat) (bsl n i)), I 1]] (tk (bsl n i)) []).toks []).toks []) = some (ls (bsl n i ++ [(↑(n + i) : Int)]) (rm (0 : Nat) (bsl n i ++ [(↑(n + i) : Int)])), H.mk [[I 0, I 0], ints (((me n m S (i * wdt n m + n)).set (i * wdt n m + (n + i)) (1 : Int)).set (i * wdt n m + (n + m)) (1 : Int)), [AV.msl 1 0 ((m + (1 : Nat)) * wdt n m) ((m + (1 : Nat)) * wdt n m) (1 : Nat), I (↑(wdt n m) : Int), ls (bsl n i) (rm (0 : Nat) (bsl n i)), I 1]] (tk (bsl n i ++ [(↑(n + i) : Int)])) []) ∧ aBin Tryd.prog BinOp.add (3 : Nat) (I (↑i : Int)) (I 1) = some (I (↑(i + (1 : Nat)) : Int)) ∧ (84 : Nat) = (84 : Nat) ∧ i < m ∧ Keep (H.mk [[I 0, I 0], ints (((me n m S (i * wdt n m + n)).set (i * wdt n m + (n + i)) (1 : Int)).set (i * wdt n m + (n + m)) (1 : Int)), [AV.msl 1 0 ((m + (1 : Nat)) * wdt n m) ((m + (1 : Nat)) * wdt n m) (1 : Nat), I (↑(wdt n m) : Int), ls (bsl n i ++ [(↑(n + i) : Int)]) (rm (0 : Nat) (bsl n i ++ [(↑(n + i) : Int)])), I 1]] (valH (Oper.mk (some (67 : Nat)) (Op.call (Call.mk (Callee.builtin Builtin.append) #[Operand.tmp (62 : Nat), Operand.tmp (66 : Nat)] #[22, 22])) (22 : Nat) "equations.go:38" #[Edge.mk (4 : Nat) Ground.data, Edge.mk (8 : Nat) Ground.data] none) (valH (Oper.mk (some (65 : Nat)) (Op.binOp BinOp.add (3 : Nat) (Operand.tmp (63 : Nat)) (Operand.tmp (64 : Nat)) (3 : Nat)) (3 : Nat) "equations.go:38" #[Edge.mk (5 : Nat) Ground.data, Edge.mk (6 : Nat) Ground.data] none) (valH (Oper.mk none (Op.store (3 : Nat) (Operand.tmp (57 : Nat)) (Operand.const (Value.int IntKind.i64 (1 : Int)))) (0 : Nat) "equations.go:37" #[Edge.mk (9 : Nat) Ground.data, Edge.mk (8 : Nat) Ground.chain, Edge.mk (0 : Nat) Ground.phase, Edge.mk (1 : Nat) Ground.phase, Edge.mk (2 : Nat) Ground.phase, Edge.mk (3 : Nat) Ground.phase, Edge.mk (4 : Nat) Ground.phase, Edge.mk (5 : Nat) Ground.phase, Edge.mk (6 : Nat) Ground.phase, Edge.mk (7 : Nat) Ground.phase, Edge.mk (8 : Nat) Ground.phase] none) (valH (Oper.mk (some (57 : Nat)) (Op.indexAddr (22 : Nat) (Operand.tmp (53 : Nat)) (Operand.tmp (55 : Nat))) (0 : Nat) "equations.go:37" #[Edge.mk (4 : Nat) Ground.data, Edge.mk (6 : Nat) Ground.data, Edge.mk (0 : Nat) Ground.phase, Edge.mk (1 : Nat) Ground.phase, Edge.mk (2 : Nat) Ground.phase, Edge.mk (3 : Nat) Ground.phase, Edge.mk (4 : Nat) Ground.phase, Edge.mk (5 : Nat) Ground.phase, Edge.mk (6 : Nat) Ground.phase, Edge.mk (7 : Nat) Ground.phase, Edge.mk (8 : Nat) Ground.phase] none) (valH (Oper.mk none (Op.store (3 : Nat) (Operand.tmp (56 : Nat)) (Operand.const (Value.int IntKind.i64 (1 : Int)))) (0 : Nat) "equations.go:37" #[Edge.mk (7 : Nat) Ground.data, Edge.mk (0 : Nat) Ground.phase, Edge.mk (1 : Nat) Ground.phase, Edge.mk (2 : Nat) Ground.phase, Edge.mk (3 : Nat) Ground.phase, Edge.mk (4 : Nat) (Ground.textOnly Departure.lateStores), Edge.mk (5 : Nat) (Ground.textOnly Departure.lateStores), Edge.mk (6 : Nat) (Ground.textOnly Departure.lateStores)] none) (valH (Oper.mk (some (56 : Nat)) (Op.indexAddr (22 : Nat) (Operand.tmp (49 : Nat)) (Operand.tmp (52 : Nat))) (0 : Nat) "equations.go:37" #[Edge.mk (0 : Nat) Ground.data, Edge.mk (3 : Nat) Ground.data, Edge.mk (0 : Nat) Ground.phase, Edge.mk (1 : Nat) Ground.phase, Edge.mk (2 : Nat) Ground.phase, Edge.mk (3 : Nat) Ground.phase, Edge.mk (4 : Nat) (Ground.textOnly Departure.lateStores), Edge.mk (5 : Nat) (Ground.textOnly Departure.lateStores), Edge.mk (6 : Nat) (Ground.textOnly Departure.lateStores)] none) (valH (Oper.mk (some (55 : Nat)) (Op.binOp BinOp.sub (3 : Nat) (Operand.tmp (54 : Nat)) (Operand.const (Value.int IntKind.i64 (1 : Int))) (3 : Nat)) (3 : Nat) "equations.go:37" #[Edge.mk (5 : Nat) Ground.data, Edge.mk (8 : Nat) (Ground.gcOnly Departure.lateStores)] none) (valH (Oper.mk (some (52 : Nat)) (Op.binOp BinOp.add (3 : Nat) (Operand.tmp (50 : Nat)) (Operand.tmp (51 : Nat)) (3 : Nat)) (3 : Nat) "equations.go:37" #[Edge.mk (1 : Nat) Ground.data, Edge.mk (2 : Nat) Ground.data] none) ((fun x => hC n m (me n m S (i * wdt n m + n)) (bsl n i)) y) H.nil) H.nil) H.nil) (H.mk [[I 0, I 0], ints ((me n m S (i * wdt n m + n)).set (i * wdt n m + (n + i)) (1 : Int)), [AV.msl 1 0 ((m + (1 : Nat)) * wdt n m) ((m + (1 : Nat)) * wdt n m) (1 : Nat), I (↑(wdt n m) : Int), ls (bsl n i) (rm (0 : Nat) (bsl n i)), I 1]] (H.mk [[I 0, I 0], ints (me n m S (i * wdt n m + n)), [AV.msl 1 0 ((m + (1 : Nat)) * wdt n m) ((m + (1 : Nat)) * wdt n m) (1 : Nat), I (↑(wdt n m) : Int), ls (bsl n i) (rm (0 : Nat) (bsl n i)), I 1]] (tk (bsl n i)) []).toks [])) H.nil) (H.mk [[I 0, I 0], ints (((me n m S (i * wdt n m + n)).set (i * wdt n m + (n + i)) (1 : Int)).set (i * wdt n m + (n + m)) (1 : Int)), [AV.msl 1 0 ((m + (1 : Nat)) * wdt n m) ((m + (1 : Nat)) * wdt n m) (1 : Nat), I (↑(wdt n m) : Int), ls (bsl n i) (rm (0 : Nat) (bsl n i)), I 1]] (H.mk [[I 0, I 0], ints ((me n m S (i * wdt n m + n)).set (i * wdt n m + (n + i)) (1 : Int)), [AV.msl 1 0 ((m + (1 : Nat)) * wdt n m) ((m + (1 : Nat)) * wdt n m) (1 : Nat), I (↑(wdt n m) : Int), ls (bsl n i) (rm (0 : Nat) (bsl n i)), I 1]] (H.mk [[I 0, I 0], ints (me n m S (i * wdt n m + n)), [AV.msl 1 0 ((m + (1 : Nat)) * wdt n m) ((m + (1 : Nat)) * wdt n m) (1 : Nat), I (↑(wdt n m) : Int), ls (bsl n i) (rm (0 : Nat) (bsl n i)), I 1]] (tk (bsl n i)) []).toks []).toks [])) H.nil) (H.mk [[I 0, I 0], ints (((me n m S (i * wdt n m + n)).set (i * wdt n m + (n + i)) (1 : Int)).set (i * wdt n m + (n + m)) (1 : Int)), qS (1 : Nat) n m (ls (bsl n i) (rm (0 : Nat) (bsl n i))) (1 : Int)] (tk (bsl n i ++ [(↑(n + i) : Int)])) [])).toks [] = H.mk [[I 0, I 0], ints (me n m S ((i + (1 : Nat)) * wdt n m)), [AV.msl 1 0 ((m + (1 : Nat)) * wdt n m) ((m + (1 : Nat)) * wdt n m) (1 : Nat), I (↑(wdt n m) : Int), ls (bsl n (i + (1 : Nat))) (rm (0 : Nat) (bsl n (i + (1 : Nat)))), I 1]] (tk (bsl n (i + (1 : Nat)))) [] ∧ [I (↑n : Int), AV.sl (ints S) m r, I (↑(wdt n m) : Int), AV.ptr 2 0, AV.sl (ints S) m r, I (↑m : Int), I (↑(i + (1 : Nat)) : Int)] = [I (↑n : Int), AV.sl (ints S) m r, I (↑(wdt n m) : Int), AV.ptr 2 0, AV.sl (ints S) m r, I (↑m : Int), I (↑(i + (1 : Nat)) : Int)] ∧ i + (1 : Nat) ≤ m)) ∧ True) (by kernel_rfl) ?_⟩
    refine ⟨by first | with_reducible assumption | omega | assumption, ?_⟩
    refine ⟨ix_ints (by kernel_rfl) hz' hrr, ?_⟩
    refine ⟨ld_ints (by kernel_rfl) (by kernel_rfl) hl, ?_⟩
    refine ⟨acall_hit (c := g89 n m hn) (i : Nat) _ rfl hi1, ?_⟩
    refine ⟨lp, ?_⟩
    refine And.intro ?_ ?_
    · skip
      intro y
      intro w1
      intro u
      refine ⟨told_add (by with_reducible assumption), ?_⟩
      refine ⟨told_sub (by with_reducible assumption), ?_⟩
      refine ⟨by first | exact ixm_map (by kernel_rfl) x1 | exact ixm_map (by kernel_rfl) x2, ?_⟩
      refine ⟨by first | exact st_ints (by kernel_rfl) rfl i3 | exact st_ints (by kernel_rfl) rfl i4, ?_⟩
      refine ⟨by first | exact ixm_map (by kernel_rfl) x1 | exact ixm_map (by kernel_rfl) x2, ?_⟩
      refine ⟨by first | exact st_ints (by kernel_rfl) rfl i3 | exact st_ints (by kernel_rfl) rfl i4, ?_⟩
      refine ⟨told_add (by with_reducible assumption), ?_⟩
      refine ⟨hap, ?_⟩
      refine ⟨told_add (by with_reducible assumption), ?_⟩
      refine ⟨by first | with_reducible assumption | omega | assumption, ?_⟩
      refine ⟨by first | with_reducible assumption | omega | assumption, ?_⟩
      exact ⟨by rw [hend, hsuc]; rfl, rfl, hz'⟩
    · skip
      trivial
  · have hz : (m : Int) ≤ i := by omega
    have e' : i = m := by omega
    subst e'
    obtain ⟨g1, g2⟩ := bsl_rm (n := n) h1
    have g3 := bsl_len n i
    have e : hC n i (me n i S (i * wdt n i)) (bsl n i) = hT n i (me n i S (i * wdt n i)) (bsl n i) := by simp only [hC, hT, g1, g2, g3]
    rw [e]
    refine ⟨[Ans.o (Orc.b false)], fun u => of_eq ((↑i : Int) ≤ (↑i : Int) ∧ (84 : Nat) = (84 : Nat) ∧ hits [Out.mk Unit (AX.exit 0) [0, 1, 5, 6] (fun x => True) (fun x => [I (↑n : Int), AV.sl (ints S) i r, I (↑(wdt n i) : Int), AV.ptr 2 0]) (fun x => hT n i (me n i S (i * wdt n i)) (bsl n i)) fun x => []] (AX.exit 0) [I (↑n : Int), AV.sl (ints S) i r, u (2 : Nat), u (3 : Nat), u (4 : Nat), I (↑(wdt n i) : Int), AV.ptr 2 0, u (7 : Nat), u (8 : Nat), u (9 : Nat), u (10 : Nat), u (11 : Nat), u (12 : Nat), u (13 : Nat), u (14 : Nat), u (15 : Nat), u (16 : Nat), u (17 : Nat), u (18 : Nat), u (19 : Nat), u (20 : Nat), u (21 : Nat), u (22 : Nat), u (23 : Nat), u (24 : Nat), u (25 : Nat), u (26 : Nat), AV.sl (ints S) i r, I (↑i : Int), I (↑i : Int), AV.bool false, u (31 : Nat), u (32 : Nat), u (33 : Nat), u (34 : Nat), u (35 : Nat), u (36 : Nat), u (37 : Nat), u (38 : Nat), u (39 : Nat), u (40 : Nat), u (41 : Nat), u (42 : Nat), u (43 : Nat), u (44 : Nat), u (45 : Nat), u (46 : Nat), u (47 : Nat), u (48 : Nat), u (49 : Nat), u (50 : Nat), u (51 : Nat), u (52 : Nat), u (53 : Nat), u (54 : Nat), u (55 : Nat), u (56 : Nat), u (57 : Nat), u (58 : Nat), u (59 : Nat), u (60 : Nat), u (61 : Nat), u (62 : Nat), u (63 : Nat), u (64 : Nat), u (65 : Nat), u (66 : Nat), u (67 : Nat), u (68 : Nat), u (69 : Nat), u (70 : Nat), u (71 : Nat), u (72 : Nat), u (73 : Nat), u (74 : Nat), u (75 : Nat), u (76 : Nat), u (77 : Nat), u (78 : Nat), u (79 : Nat), u (80 : Nat), u (81 : Nat), u (82 : Nat), u (83 : Nat)] (H.mk [[I 0, I 0], ints (me n i S (i * wdt n i)), [AV.msl 1 0 ((i + (1 : Nat)) * wdt n i) ((i + (1 : Nat)) * wdt n i) (1 : Nat), I (↑(wdt n i) : Int), AV.sl (ints (bsl n i)) i (Room.tok 0 1), I 1]] [i] [])) (by kernel_rfl) ?_⟩
    refine ⟨by first | with_reducible assumption | omega | assumption, ?_⟩
    refine ⟨by first | with_reducible assumption | omega | assumption, ?_⟩
    exact .inl ⟨(), trivial, rfl, rfl, rfl⟩
abbrev o85c (n m : Nat) (S : List Int) (l : List Int) : List Out := [.mk Unit (.exit 4) [6] (fun _ => True) (fun _ => [.ptr 2 0]) (fun _ => hT n m (me n m S (m * wdt n m + n)) l) (fun _ => [])]
theorem lp85c (n m : Nat) (S : List Int) (hn : nm n m) (l : List Int) :
    LoopS (E1 [g89 n m hn]) (loopAt Tryd.f85 2) 84 [6, 11, 75, 76] [.ptr 2 0, .msl 1 (m * wdt n m) (wdt n m) (wdt n m) 1, I (n : Nat), I 0] (hT n m (me n m S (m * wdt n m)) l) (o85c n m S l) := by
  have hR : Rests (E1 [g89 n m hn]) none1 := rests mixed (ct86 n m hn)
  refine loop_s hR simp85c none (by intro _ h; cases h) (fun c vs H => H = hT n m (me n m S (m * wdt n m + c)) l ∧ vs = [.ptr 2 0, .msl 1 (m * wdt n m) (wdt n m) (wdt n m) 1, I (n : Nat), I (c : Nat)] ∧ c ≤ n) n ⟨rfl, rfl, Nat.zero_le _⟩ (by intro _ h; cases h) ?_
  rintro c vs H hc ⟨rfl, rfl, hle⟩
  by_cases hz : (c : Int) < (n : Int)
  · have hz' : c < n := by omega
    have hcw : c < wdt n m := by simp only [wdt]; omega
    have ht := ix_lt (m := m) (w := wdt n m) (j := m) (by omega) hcw
    have ev2 := w_suc (i := c) (by have := hn.2.1; omega)
    have q : ef n m S (m * wdt n m + c) = 1 := by rw [ef_at hcw, if_neg (by omega), if_pos hz']
    have q4 : (me n m S (m * wdt n m + c)).set (m * wdt n m + c) 1 = me n m S (m * wdt n m + (c + 1)) := by
      rw [← q]; exact mx_set _ _ _ (by simpa using ht)
    have i3 : m * wdt n m + c < (me n m S (m * wdt n m + c)).length := by rw [me_len]; exact ht
    refine ⟨[Ans.o (Orc.b true), Ans.o (Orc.val 81 (AV.ptr 1 (m * wdt n m + c)) H.nil), Ans.o (Orc.val 9999 (AV.tup []) (H.mk [[I 0, I 0], ints ((me n m S (m * wdt n m + c)).set (m * wdt n m + c) (1 : Int)), [AV.msl 1 0 ((m + (1 : Nat)) * wdt n m) ((m + (1 : Nat)) * wdt n m) (1 : Nat), I (↑(wdt n m) : Int), AV.sl (ints l) m (Room.tok 0 1), I 1]] [m] [])), Ans.o (Orc.val 82 (I (↑(c + (1 : Nat)) : Int)) H.nil)], fun u => of_eq ((↑c : Int) < (↑n : Int) ∧ aIndexAddr Tryd.prog 22 (AV.msl 1 (m * wdt n m) (wdt n m) (wdt n m) (1 : Nat)) (I (↑c : Int)) = some (AV.ptr 1 (m * wdt n m + c)) ∧ aStore Tryd.prog (Base.mk (1 : Nat) (0 : Nat) (0 : Nat)) (3 : Nat) (AV.ptr 1 (m * wdt n m + c)) (I 1) (H.mk [[I 0, I 0], ints (me n m S (m * wdt n m + c)), [AV.msl 1 0 ((m + (1 : Nat)) * wdt n m) ((m + (1 : Nat)) * wdt n m) (1 : Nat), I (↑(wdt n m) : Int), AV.sl (ints l) m (Room.tok 0 1), I 1]] [m] []) = some (H.mk [[I 0, I 0], ints ((me n m S (m * wdt n m + c)).set (m * wdt n m + c) (1 : Int)), [AV.msl 1 0 ((m + (1 : Nat)) * wdt n m) ((m + (1 : Nat)) * wdt n m) (1 : Nat), I (↑(wdt n m) : Int), AV.sl (ints l) m (Room.tok 0 1), I 1]] [m] []) ∧ aBin Tryd.prog BinOp.add (3 : Nat) (I (↑c : Int)) (I 1) = some (I (↑(c + (1 : Nat)) : Int)) ∧ (84 : Nat) = (84 : Nat) ∧ c < n ∧ Keep (H.mk [[I 0, I 0], ints ((me n m S (m * wdt n m + c)).set (m * wdt n m + c) (1 : Int)), [AV.msl 1 0 ((m + (1 : Nat)) * wdt n m) ((m + (1 : Nat)) * wdt n m) (1 : Nat), I (↑(wdt n m) : Int), AV.sl (ints l) m (Room.tok 0 1), I 1]] [m] [] = H.mk [[I 0, I 0], ints (me n m S (m * wdt n m + (c + (1 : Nat)))), [AV.msl 1 0 ((m + (1 : Nat)) * wdt n m) ((m + (1 : Nat)) * wdt n m) (1 : Nat), I (↑(wdt n m) : Int), AV.sl (ints l) m (Room.tok 0 1), I 1]] [m] [] ∧ [AV.ptr 2 0, AV.msl 1 (m * wdt n m) (wdt n m) (wdt n m) (1 : Nat), I (↑n : Int), I (↑(c + (1 : Nat)) : Int)] = [AV.ptr 2 0, AV.msl 1 (m * wdt n m) (wdt n m) (wdt n m) (1 : Nat), I (↑n : Int), I (↑(c + (1 : Nat)) : Int)] ∧ c + (1 : Nat) ≤ n)) (by kernel_rfl) ?_⟩
    refine ⟨by first | with_reducible assumption | omega | assumption, ?_⟩
    refine ⟨ixm_map (by kernel_rfl) hcw, ?_⟩
    refine ⟨st_ints (by kernel_rfl) rfl i3, ?_⟩
    refine ⟨told_add (by with_reducible assumption), ?_⟩
    refine ⟨by first | with_reducible assumption | omega | assumption, ?_⟩
    refine ⟨by first | with_reducible assumption | omega | assumption, ?_⟩
    exact ⟨by rw [q4], rfl, hz'⟩
  · have hz : (n : Int) ≤ c := by omega
    have e' : c = n := by omega
    subst e'
    refine ⟨[Ans.o (Orc.b false)], fun u => of_eq ((↑c : Int) ≤ (↑c : Int) ∧ (84 : Nat) = (84 : Nat) ∧ hits [Out.mk Unit (AX.exit 4) [6] (fun x => True) (fun x => [AV.ptr 2 0]) (fun x => hT c m (me c m S (m * wdt c m + c)) l) fun x => []] (AX.exit 4) [u (0 : Nat), u (1 : Nat), u (2 : Nat), u (3 : Nat), u (4 : Nat), u (5 : Nat), AV.ptr 2 0, u (7 : Nat), u (8 : Nat), u (9 : Nat), u (10 : Nat), AV.msl 1 (m * wdt c m) (wdt c m) (wdt c m) (1 : Nat), u (12 : Nat), u (13 : Nat), u (14 : Nat), u (15 : Nat), u (16 : Nat), u (17 : Nat), u (18 : Nat), u (19 : Nat), u (20 : Nat), u (21 : Nat), u (22 : Nat), u (23 : Nat), u (24 : Nat), u (25 : Nat), u (26 : Nat), u (27 : Nat), u (28 : Nat), u (29 : Nat), u (30 : Nat), u (31 : Nat), u (32 : Nat), u (33 : Nat), u (34 : Nat), u (35 : Nat), u (36 : Nat), u (37 : Nat), u (38 : Nat), u (39 : Nat), u (40 : Nat), u (41 : Nat), u (42 : Nat), u (43 : Nat), u (44 : Nat), u (45 : Nat), u (46 : Nat), u (47 : Nat), u (48 : Nat), u (49 : Nat), u (50 : Nat), u (51 : Nat), u (52 : Nat), u (53 : Nat), u (54 : Nat), u (55 : Nat), u (56 : Nat), u (57 : Nat), u (58 : Nat), u (59 : Nat), u (60 : Nat), u (61 : Nat), u (62 : Nat), u (63 : Nat), u (64 : Nat), u (65 : Nat), u (66 : Nat), u (67 : Nat), u (68 : Nat), u (69 : Nat), u (70 : Nat), u (71 : Nat), u (72 : Nat), u (73 : Nat), u (74 : Nat), I (↑c : Int), I (↑c : Int), AV.bool false, u (78 : Nat), u (79 : Nat), u (80 : Nat), u (81 : Nat), u (82 : Nat), u (83 : Nat)] (H.mk [[I 0, I 0], ints (me c m S (m * wdt c m + c)), [AV.msl 1 0 ((m + (1 : Nat)) * wdt c m) ((m + (1 : Nat)) * wdt c m) (1 : Nat), I (↑(wdt c m) : Int), AV.sl (ints l) m (Room.tok 0 1), I 1]] [m] [])) (by kernel_rfl) ?_⟩
    refine ⟨by first | with_reducible assumption | omega | assumption, ?_⟩
    refine ⟨by first | with_reducible assumption | omega | assumption, ?_⟩
    exact .inl ⟨(), trivial, rfl, rfl, rfl⟩
def eR (n m : Nat) (S : List Int) : List Int := (List.range ((m + 1) * wdt n m)).map (ef n m S)
theorem me_all (n m : Nat) (S : List Int) : me n m S (m * wdt n m + n) = eR n m S := by
  have e := mx_full (ef n m S) (Zc n m)
  have hl : (Zc n m).length = (m + 1) * wdt n m := by simp
  rw [hl] at e
  rw [eR, ← e]
  refine mx_same _ _ _ _ (by rw [Nat.add_mul, Nat.one_mul]; simp only [wdt]; omega) fun k h1 h2 => ?_
  rw [zc_at]
  rw [Nat.add_mul, Nat.one_mul] at h2
  obtain ⟨c, rfl⟩ : ∃ c, k = m * wdt n m + c := ⟨k - m * wdt n m, by omega⟩
  rw [ef_at (by omega), if_neg (by omega), if_neg (by omega)]
theorem r85 (n m : Nat) (S : List Int) (r : Room) (hr : rok S r) (hn : nm n m) (hS : setsOk n m S) (h1 : 1 ≤ m) :
    Body (E1 [g89 n m hn]) none1 Tryd.f85 [I (n : Nat), .sl (ints S) m r] ⟨[[I 0, I 0]], [], []⟩ (.ptr 2 0, hT n m (eR n m S) (bsl n m)) := by
  have lpa := lp85a n m S r hr hn hS h1
  have lpc := lp85c n m S hn (bsl n m)
  rw [← me_all]
  have hi1 := hsT n m m (me n m S (m * wdt n m)) (bsl n m) (Nat.le_refl m)
  have ev0 : IntKind.i64.wrap ((n : Int) + (m : Int)) = ((n + m : Nat) : Int) := by
    have : (n : Int) + (m : Int) = ((n + m : Nat) : Int) := by omega
    rw [this]; exact i_wrap (by obtain ⟨_, _, _⟩ := hn; omega)
  have ev1 : IntKind.i64.wrap (((n + m : Nat) : Int) + 1) = ((wdt n m : Nat) : Int) := w_suc (by obtain ⟨_, _, _⟩ := hn; omega)
  have ev2 := w_suc (i := m) (by have := hn.2.2; omega)
  have ev3 := w_mul hn (i := m + 1) (by omega)
  have hmx := mul_lt (a := m + 1) (b := wdt n m) (by have := hn.2.2; omega) (wd_lt hn)
  have hmk : (m + 1) * wdt n m ≤ 1000000000 := by omega
  refine body_s ([Ans.o (Orc.val 16 (I (↑(n + m) : Int)) H.nil), Ans.o (Orc.val 17 (I (↑(wdt n m) : Int)) H.nil), Ans.o (Orc.val 20 (I (↑(m + (1 : Nat)) : Int)) H.nil), Ans.o (Orc.val 22 (I (↑((m + (1 : Nat)) * wdt n m) : Int)) H.nil), Ans.o (Orc.val 23 (AV.msl 1 0 ((m + (1 : Nat)) * wdt n m) ((m + (1 : Nat)) * wdt n m) (1 : Nat)) (H.mk [[I 0, I 0], ints (List.replicate ((m + (1 : Nat)) * wdt n m) i0)] [] [])), Ans.loop [0, 1, 5, 6, 27, 28, 29] [Out.mk Unit (AX.exit 0) [0, 1, 5, 6] (fun x => True) (fun x => [I (↑n : Int), AV.sl (ints S) m r, I (↑(wdt n m) : Int), AV.ptr 2 0]) (fun x => hT n m (me n m S (m * wdt n m)) (bsl n m)) fun y => [Ans.o (Orc.val 74 (AV.msl 1 (m * wdt n m) (wdt n m) (wdt n m) (1 : Nat)) (H.mk [[I 0, I 0], ints (me n m S (m * wdt n m)), [AV.msl 1 0 ((m + (1 : Nat)) * wdt n m) ((m + (1 : Nat)) * wdt n m) (1 : Nat), I (↑(wdt n m) : Int), AV.sl (ints (bsl n m)) m (Room.tok 0 1), I 1]] [m] [])), Ans.loop [6, 11, 75, 76] [Out.mk Unit (AX.exit 4) [6] (fun x => True) (fun x => [AV.ptr 2 0]) (fun x => hT n m (me n m S (m * wdt n m + n)) (bsl n m)) fun y => []]]]]) (aBin Tryd.prog BinOp.add (3 : Nat) (I (↑n : Int)) (I (↑m : Int)) = some (I (↑(n + m) : Int)) ∧ aBin Tryd.prog BinOp.add (3 : Nat) (I (↑(n + m) : Int)) (I 1) = some (I (↑(wdt n m) : Int)) ∧ aBin Tryd.prog BinOp.add (3 : Nat) (I (↑m : Int)) (I 1) = some (I (↑(m + (1 : Nat)) : Int)) ∧ aBin Tryd.prog BinOp.mul (3 : Nat) (I (↑(m + (1 : Nat)) : Int)) (I (↑(wdt n m) : Int)) = some (I (↑((m + (1 : Nat)) * wdt n m) : Int)) ∧ aMake Tryd.prog 22 (↑((m + (1 : Nat)) * wdt n m) : Int) (↑((m + (1 : Nat)) * wdt n m) : Int) (H.mk [[I 0, I 0]] [] []) = some (AV.msl 1 0 ((m + (1 : Nat)) * wdt n m) ((m + (1 : Nat)) * wdt n m) (1 : Nat), H.mk [[I 0, I 0], ints (List.replicate ((m + (1 : Nat)) * wdt n m) i0)] [] []) ∧ LoopS (Env.mk Tryd.prog (Sof [g89 n m hn]) (Pof (P := Tryd.prog) []) (Base.mk (1 : Nat) (0 : Nat) (0 : Nat)) (300 : Nat)) (loopAt Tryd.f85 0) 84 [0, 1, 5, 6, 27, 28, 29] [I (↑n : Int), AV.sl (ints S) m r, I (↑(wdt n m) : Int), AV.ptr 2 0, AV.sl (ints S) m r, I (↑m : Int), I 0] (H.mk [[I 0, I 0], ints (List.replicate ((m + (1 : Nat)) * wdt n m) i0), [AV.msl 1 0 ((m + (1 : Nat)) * wdt n m) ((m + (1 : Nat)) * wdt n m) (1 : Nat), I (↑(wdt n m) : Int), AV.sl [] (0 : Nat) Room.nil, I 1]] [] []) [Out.mk Unit (AX.exit 0) [0, 1, 5, 6] (fun x => True) (fun x => [I (↑n : Int), AV.sl (ints S) m r, I (↑(wdt n m) : Int), AV.ptr 2 0]) (fun x => hT n m (me n m S (m * wdt n m)) (bsl n m)) fun y => [Ans.o (Orc.val 74 (AV.msl 1 (m * wdt n m) (wdt n m) (wdt n m) (1 : Nat)) (H.mk [[I 0, I 0], ints (me n m S (m * wdt n m)), [AV.msl 1 0 ((m + (1 : Nat)) * wdt n m) ((m + (1 : Nat)) * wdt n m) (1 : Nat), I (↑(wdt n m) : Int), AV.sl (ints (bsl n m)) m (Room.tok 0 1), I 1]] [m] [])), Ans.loop [6, 11, 75, 76] [Out.mk Unit (AX.exit 4) [6] (fun x => True) (fun x => [AV.ptr 2 0]) (fun x => hT n m (me n m S (m * wdt n m + n)) (bsl n m)) fun y => []]]] ∧ (∀ (y : Unit), True → ∀ (u : Nat → AV), aCall (Sof [g89 n m hn]) (AV.fn (Fn.func 89) [] []) [AV.ptr 2 0, I (↑m : Int)] (H.mk [[I 0, I 0], ints (me n m S (m * wdt n m)), [AV.msl 1 0 ((m + (1 : Nat)) * wdt n m) ((m + (1 : Nat)) * wdt n m) (1 : Nat), I (↑(wdt n m) : Int), AV.sl (ints (bsl n m)) m (Room.tok 0 1), I 1]] [m] []) = some (AV.msl 1 (m * wdt n m) (wdt n m) (wdt n m) (1 : Nat), H.mk [[I 0, I 0], ints (me n m S (m * wdt n m)), [AV.msl 1 0 ((m + (1 : Nat)) * wdt n m) ((m + (1 : Nat)) * wdt n m) (1 : Nat), I (↑(wdt n m) : Int), AV.sl (ints (bsl n m)) m (Room.tok 0 1), I 1]] [m] []) ∧ LoopS (Env.mk Tryd.prog (Sof [g89 n m hn]) (Pof (P := Tryd.prog) []) (Base.mk (1 : Nat) (0 : Nat) (0 : Nat)) (300 : Nat)) (loopAt Tryd.f85 2) 84 [6, 11, 75, 76] [AV.ptr 2 0, AV.msl 1 (m * wdt n m) (wdt n m) (wdt n m) (1 : Nat), I (↑n : Int), I 0] (H.mk [[I 0, I 0], ints (me n m S (m * wdt n m)), [AV.msl 1 0 ((m + (1 : Nat)) * wdt n m) ((m + (1 : Nat)) * wdt n m) (1 : Nat), I (↑(wdt n m) : Int), AV.sl (ints (bsl n m)) m (Room.tok 0 1), I 1]] [m] []) [Out.mk Unit (AX.exit 4) [6] (fun x => True) (fun x => [AV.ptr 2 0]) (fun x => hT n m (me n m S (m * wdt n m + n)) (bsl n m)) fun y => []] ∧ (∀ (y : Unit), True → ∀ (u : Nat → AV), (AV.ptr 2 0, H.mk [[I 0, I 0], ints (me n m S (m * wdt n m + n)), [AV.msl 1 0 ((m + (1 : Nat)) * wdt n m) ((m + (1 : Nat)) * wdt n m) (1 : Nat), I (↑(wdt n m) : Int), AV.sl (ints (bsl n m)) m (Room.tok 0 1), I 1]] [m] []) = (AV.ptr 2 0, H.mk [[I 0, I 0], ints (me n m S (m * wdt n m + n)), [AV.msl 1 0 ((m + (1 : Nat)) * wdt n m) ((m + (1 : Nat)) * wdt n m) (1 : Nat), I (↑(wdt n m) : Int), AV.sl (ints (bsl n m)) m (Room.tok 0 1), I 1]] [m] [])) ∧ True) ∧ True) (by kernel_rfl) ?_
  refine ⟨told_add (by with_reducible assumption), ?_⟩
  refine ⟨told_add (by with_reducible assumption), ?_⟩
  refine ⟨told_add (by with_reducible assumption), ?_⟩
  refine ⟨told_mul (by with_reducible assumption), ?_⟩
  refine ⟨mk_ints (by kernel_rfl) hmk, ?_⟩
  refine ⟨lpa, ?_⟩
  refine And.intro ?_ ?_
  · skip
    intro y
    intro w1
    intro u
    refine ⟨acall_hit (c := g89 n m hn) (m : Nat) _ rfl hi1, ?_⟩
    refine ⟨lpc, ?_⟩
    refine And.intro ?_ ?_
    · skip
      intro y
      intro w4
      intro u
      rfl
    · skip
      trivial
  · skip
    trivial
end Go.Proofs.Sur

