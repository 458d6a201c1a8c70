/- Layer 2: the law of rounds of every length, as a whole. -/
import Derived.Test.YtnnhomkkggkkfaaDoorRkDq
import Derived.KernelRfl
set_option linter.unusedSimpArgs false
set_option linter.unusedVariables false
set_option linter.unnecessarySimpa false
set_option maxHeartbeats 4000000
set_option maxRecDepth 100000
namespace Go.Proofs.Rnk
open Go Go.VM
open Go.Proofs.Sur (andn andn_bit andn_le i_wrap i_and i_or i_andn i_shl i_shr bit_01)
theorem ok12 : FokM Tryd.prog none1 12 Tryd.f12 := ⟨mixed, by kernel_rfl, by kernel_rfl, by kernel_rfl, by kernel_rfl⟩
theorem r12f (t : List Int) (r : Room) (k s : Int) (hp : pL t r) (h : ¬ Tn t) : Body (En6 [c19.to, c33f.to, c24.to]) none1 Tryd.f12 [ls t r, I k, I s] .nil (.bool true, .nil) := by
  obtain ⟨h1, h2⟩ := hp
  have p33 : (lim (cut t).length ∧ rok (cut t) (rcl r) ∧ inI (cut t)) ∧ ¬ Tn (cut t) := ⟨⟨cut_lim t, fun hne => rcl_rok h1.2.1 (fun e => hne (by rw [e]; rfl)), cut_in h2⟩, cut_tn h⟩
  refine body_s ([Ans.o (Orc.val 26 (ls (cut t) (rcl r)) (H.mk [] [] [])), Ans.o (Orc.val 27 (AV.tup [AV.sl [] (0 : Nat) Room.nil, I 2]) (H.mk [] [] [])), Ans.o Orc.dflt, Ans.o Orc.dflt, Ans.o (Orc.val 40 (AV.bool true) (H.mk [] [] []))]) (aCall (Sof [c19.to, c33f.to, c24.to]) (AV.fn (Fn.func 19) [] []) [ls t r] (H.mk [] [] []) = some (ls (cut t) (rcl r), H.mk [] [] []) ∧ aCall (Sof [c19.to, c33f.to, c24.to]) (AV.fn (Fn.func 33) [] []) [ls (cut t) (rcl r)] (H.mk [] [] []) = some (AV.tup [AV.sl [] (0 : Nat) Room.nil, I 2], H.mk [] [] []) ∧ aCall (Sof [c19.to, c33f.to, c24.to]) (AV.fn (Fn.func 24) [] []) [] (H.mk [] [] []) = some (AV.bool true, H.mk [] [] []) ∧ (AV.bool true, H.mk [] [] []) = (AV.bool true, H.mk [] [] [])) (by kernel_rfl) ?_
  refine ⟨acall_hit (c := c19.to) (t, r) _ rfl h1, ?_⟩
  refine ⟨acall_hit (c := c33f.to) (cut t, rcl r) _ rfl p33, ?_⟩
  refine ⟨acall_hit (c := c24.to) () _ rfl trivial, ?_⟩
  first | with_reducible rfl | (refine bleaf_t ?_; omega) | (refine bleaf_f ?_; omega) | (refine ileaf ?_; omega) | rfl | (exfalso; omega)
structure KS (n : Nat) (k s : Int) (W V : Int) (m S : Nat) : Prop where
  e0 : IntKind.u64.wrap k = W
  e3 : Int.tmod W ((n - 2 : Nat) : Int) = (m : Int)
  e6 : IntKind.u64.wrap s = V
  e8 : Int.tmod V (n : Int) = (S : Int)
  hm : m < n - 2
  hS : S < n
theorem u64_small {n : Nat} (h : n ≤ 1000) : IntKind.u64.wrap (n : Int) = (n : Int) := by
  simp only [IntKind.wrap, IntKind.bits, IntKind.signed]
  simp
  omega
theorem u64_pos (x : Int) : 0 ≤ IntKind.u64.wrap x := by
  simp only [IntKind.wrap, IntKind.bits, IntKind.signed]
  simp
  omega
theorem ks_of {n : Nat} (h : 3 ≤ n) (k s : Int) : ∃ W V m S, KS n k s W V m S := by
  have hk := u64_pos k
  have hs := u64_pos s
  have g1 : 0 < ((n - 2 : Nat) : Int) := by omega
  have g2 : 0 < (n : Int) := by omega
  have a1 := Int.tmod_nonneg ((n - 2 : Nat) : Int) hk
  have a2 := Int.tmod_lt_of_pos (IntKind.u64.wrap k) g1
  have b1 := Int.tmod_nonneg (n : Int) hs
  have b2 := Int.tmod_lt_of_pos (IntKind.u64.wrap s) g2
  exact ⟨_, _, (Int.tmod (IntKind.u64.wrap k) ((n - 2 : Nat) : Int)).toNat, (Int.tmod (IntKind.u64.wrap s) (n : Int)).toNat, rfl, by omega, rfl, by omega, by omega, by omega⟩
theorem r12s (t : List Int) (r : Room) (k s : Int) (hp : pL t r) (h : Tn t) (h3 : ¬ 3 ≤ t.length) : Body (En6 cs12) none1 Tryd.f12 [ls t r, I k, I s] .nil (.bool true, .nil) := by
  obtain ⟨h1, h2⟩ := hp
  have h8 := h.s.2
  have h0 := h.s.1
  have hr := h1.2.1
  have hb := tn_t h
  have hn : rok t .no := fun _ => no_ne
  have hne : t ≠ [] := fun e => by rw [e] at h0; simp at h0
  have hlen : (pts t).length = mP t := pl_len t _
  have p19 : ((lim t.length ∧ rok t r ∧ em t r) ∧ t.length ≤ 11) ∧ t ≠ [] := ⟨⟨h1, by omega⟩, hne⟩
  have p21 : lim t.length ∧ rok t r := ⟨h1.1, hr⟩
  have hz : (t.length : Int) < 3 := by omega
  refine body_s ([Ans.o (Orc.val 26 (ls t Room.no) (H.mk [] [] [])), Ans.o (Orc.val 27 (AV.tup [ls (pts t) (pR t), I 0]) (H.mk [] [] [])), Ans.o Orc.dflt, Ans.o (Orc.val 34 (AV.bool true) (H.mk [] [] [])), Ans.o (Orc.b true), Ans.o (Orc.val 46 (AV.bool true) (H.mk [] [] []))]) (aCall (Sof cs12) (AV.fn (Fn.func 19) [] []) [ls t r] (H.mk [] [] []) = some (ls t Room.no, H.mk [] [] []) ∧ aCall (Sof cs12) (AV.fn (Fn.func 33) [] []) [ls t Room.no] (H.mk [] [] []) = some (AV.tup [ls (pts t) (pR t), I 0], H.mk [] [] []) ∧ aCall (Sof cs12) (AV.fn (Fn.func 21) [] []) [ls t r] (H.mk [] [] []) = some (AV.bool true, H.mk [] [] []) ∧ (↑t.length : Int) < (3 : Int) ∧ aCall (Sof cs12) (AV.fn (Fn.func 24) [] []) [] (H.mk [] [] []) = some (AV.bool true, H.mk [] [] []) ∧ (AV.bool true, H.mk [] [] []) = (AV.bool true, H.mk [] [] [])) (by kernel_rfl) ?_
  refine ⟨acall_hit (c := c19v.to) (t, r) _ rfl p19, ?_⟩
  refine ⟨acall_hit (c := c33t.to) t _ rfl h, ?_⟩
  refine ⟨acall_b (acall_hit (c := c21.to) (t, r) _ rfl p21) hb, ?_⟩
  refine ⟨by first | with_reducible assumption | omega | assumption, ?_⟩
  refine ⟨acall_hit (c := c24.to) () _ rfl trivial, ?_⟩
  first | with_reducible rfl | (refine bleaf_t ?_; omega) | (refine bleaf_f ?_; omega) | (refine ileaf ?_; omega) | rfl | (exfalso; omega)
theorem r12b (t : List Int) (r : Room) (k s W V : Int) (m S : Nat) (ks : KS t.length k s W V m S) (hp : pL t r) (h : Tn t) (h3 : 3 ≤ t.length) (hP : 1 < mP t) (x : List Int) (hx : rowR t (3 + m) true = some x) : Body (En6 cs12) none1 Tryd.f12 [ls t r, I k, I s] .nil (.bool true, .nil) := by
  obtain ⟨h1, h2⟩ := hp
  have h8 := h.s.2
  have h0 := h.s.1
  have hr := h1.2.1
  have hb := tn_t h
  have hn : rok t .no := fun _ => no_ne
  have hne : t ≠ [] := fun e => by rw [e] at h0; simp at h0
  have hlen : (pts t).length = mP t := pl_len t _
  have p19 : ((lim t.length ∧ rok t r ∧ em t r) ∧ t.length ≤ 11) ∧ t ≠ [] := ⟨⟨h1, by omega⟩, hne⟩
  have p21 : lim t.length ∧ rok t r := ⟨h1.1, hr⟩
  have hm := ks.hm
  have hS := ks.hS
  have hq : (3 : Int) ≤ (t.length : Int) := by omega
  have ev0 := ks.e0
  have ev1 : IntKind.i64.wrap ((t.length : Int) - 2) = ((t.length - 2 : Nat) : Int) := by rw [wr _ (by omega) (by omega)]; omega
  have ev2 : IntKind.u64.wrap ((t.length - 2 : Nat) : Int) = ((t.length - 2 : Nat) : Int) := u64_small (by omega)
  have ev3 := ks.e3
  have ev4 : IntKind.i64.wrap (m : Int) = (m : Int) := wr _ (by omega) (by omega)
  have ev5 : IntKind.i64.wrap (3 + (m : Int)) = ((3 + m : Nat) : Int) := by rw [wr _ (by omega) (by omega)]; omega
  have ev6 := ks.e6
  have ev7 : IntKind.u64.wrap (t.length : Int) = (t.length : Int) := u64_small (by omega)
  have ev8 := ks.e8
  have ev9 : IntKind.i64.wrap (S : Int) = (S : Int) := wr _ (by omega) (by omega)
  have hd1 : ((t.length - 2 : Nat) : Int) ≠ 0 := by omega
  have hd2 : (t.length : Int) ≠ 0 := by omega
  have p29 : (Tn t ∧ rok t .no ∧ em t .no) ∧ 3 ≤ 3 + m ∧ 3 + m ≤ t.length := ⟨⟨h, hn, fun e => by cases e⟩, by omega, by omega⟩
  have p29n : (Tn t ∧ rok t .no ∧ em t .no) ∧ 3 ≤ t.length ∧ t.length ≤ t.length := ⟨⟨h, hn, fun e => by cases e⟩, by omega, by omega⟩
  have hno := more_parts h hP
  have hcA : aCall (Sof cs12) (.fn (.func 29) [] []) [ls t .no, I (3 + m : Nat)] .nil = some (.tup [ls x .no, I 0], .nil) := hc29 p29 hx
  have hcB : aCall (Sof cs12) (.fn (.func 29) [] []) [ls t .no, I t.length] .nil = some (.tup [.sl [] 0 .nil, I 4], .nil) := hc29 p29n hno
  have hl : (1 : Int) < ((pts t).length : Int) := by rw [hlen]; omega
  refine body_s ([Ans.o (Orc.val 26 (ls t Room.no) (H.mk [] [] [])), Ans.o (Orc.val 27 (AV.tup [ls (pts t) (pR t), I 0]) (H.mk [] [] [])), Ans.o Orc.dflt, Ans.o (Orc.val 34 (AV.bool true) (H.mk [] [] [])), Ans.o (Orc.b false), Ans.o (Orc.val 48 (AV.int IntKind.u64 W) H.nil), Ans.o (Orc.val 50 (I (↑(t.length - (2 : Nat)) : Int)) H.nil), Ans.o (Orc.val 51 (AV.int IntKind.u64 (↑(t.length - (2 : Nat)) : Int)) H.nil), Ans.o (Orc.val 52 (AV.int IntKind.u64 (↑m : Int)) H.nil), Ans.o (Orc.val 53 (I (↑m : Int)) H.nil), Ans.o (Orc.val 54 (I (↑((3 : Nat) + m) : Int)) H.nil), Ans.o (Orc.val 56 (AV.int IntKind.u64 V) H.nil), Ans.o (Orc.val 58 (AV.int IntKind.u64 (↑t.length : Int)) H.nil), Ans.o (Orc.val 59 (AV.int IntKind.u64 (↑S : Int)) H.nil), Ans.o (Orc.val 60 (I (↑S : Int)) H.nil), Ans.o (Orc.val 63 (ls t Room.no) (H.mk [] [] [])), Ans.o (Orc.val 65 (AV.tup [ls x Room.no, I 0]) (H.mk [] [] [])), Ans.o (Orc.b true), Ans.o (Orc.val 73 (ls t Room.no) (H.mk [] [] [])), Ans.o (Orc.val 75 (AV.tup [AV.sl [] (0 : Nat) Room.nil, I 4]) (H.mk [] [] [])), Ans.o Orc.dflt, Ans.o Orc.dflt, Ans.o (Orc.val 89 (AV.bool true) (H.mk [] [] []))]) (aCall (Sof cs12) (AV.fn (Fn.func 19) [] []) [ls t r] (H.mk [] [] []) = some (ls t Room.no, H.mk [] [] []) ∧ aCall (Sof cs12) (AV.fn (Fn.func 33) [] []) [ls t Room.no] (H.mk [] [] []) = some (AV.tup [ls (pts t) (pR t), I 0], H.mk [] [] []) ∧ aCall (Sof cs12) (AV.fn (Fn.func 21) [] []) [ls t r] (H.mk [] [] []) = some (AV.bool true, H.mk [] [] []) ∧ (3 : Int) ≤ (↑t.length : Int) ∧ aConvert Tryd.prog 3 (52 : Nat) (I k) = some (AV.int IntKind.u64 W) ∧ aBin Tryd.prog BinOp.sub (3 : Nat) (I (↑t.length : Int)) (I 2) = some (I (↑(t.length - (2 : Nat)) : Int)) ∧ aConvert Tryd.prog 3 (52 : Nat) (I (↑(t.length - (2 : Nat)) : Int)) = some (AV.int IntKind.u64 (↑(t.length - (2 : Nat)) : Int)) ∧ aBin Tryd.prog BinOp.rem (52 : Nat) (AV.int IntKind.u64 W) (AV.int IntKind.u64 (↑(t.length - (2 : Nat)) : Int)) = some (AV.int IntKind.u64 (↑m : Int)) ∧ aConvert Tryd.prog 52 (3 : Nat) (AV.int IntKind.u64 (↑m : Int)) = some (I (↑m : Int)) ∧ aBin Tryd.prog BinOp.add (3 : Nat) (I 3) (I (↑m : Int)) = some (I (↑((3 : Nat) + m) : Int)) ∧ aConvert Tryd.prog 3 (52 : Nat) (I s) = some (AV.int IntKind.u64 V) ∧ aConvert Tryd.prog 3 (52 : Nat) (I (↑t.length : Int)) = some (AV.int IntKind.u64 (↑t.length : Int)) ∧ aBin Tryd.prog BinOp.rem (52 : Nat) (AV.int IntKind.u64 V) (AV.int IntKind.u64 (↑t.length : Int)) = some (AV.int IntKind.u64 (↑S : Int)) ∧ aConvert Tryd.prog 52 (3 : Nat) (AV.int IntKind.u64 (↑S : Int)) = some (I (↑S : Int)) ∧ aCall (Sof cs12) (AV.fn (Fn.func 19) [] []) [ls t r] (H.mk [] [] []) = some (ls t Room.no, H.mk [] [] []) ∧ aCall (Sof cs12) (AV.fn (Fn.func 29) [] []) [ls t Room.no, I (↑((3 : Nat) + m) : Int)] (H.mk [] [] []) = some (AV.tup [ls x Room.no, I 0], H.mk [] [] []) ∧ (1 : Int) < (↑(pts t).length : Int) ∧ aCall (Sof cs12) (AV.fn (Fn.func 19) [] []) [ls t r] (H.mk [] [] []) = some (ls t Room.no, H.mk [] [] []) ∧ aCall (Sof cs12) (AV.fn (Fn.func 29) [] []) [ls t Room.no, I (↑t.length : Int)] (H.mk [] [] []) = some (AV.tup [AV.sl [] (0 : Nat) Room.nil, I 4], H.mk [] [] []) ∧ aCall (Sof cs12) (AV.fn (Fn.func 24) [] []) [] (H.mk [] [] []) = some (AV.bool true, H.mk [] [] []) ∧ (AV.bool true, H.mk [] [] []) = (AV.bool true, H.mk [] [] [])) (by kernel_rfl) ?_
  refine ⟨acall_hit (c := c19v.to) (t, r) _ rfl p19, ?_⟩
  refine ⟨acall_hit (c := c33t.to) t _ rfl h, ?_⟩
  refine ⟨acall_b (acall_hit (c := c21.to) (t, r) _ rfl p21) hb, ?_⟩
  refine ⟨by first | with_reducible assumption | omega | assumption, ?_⟩
  refine ⟨by first | exact told_conv (by kernel_rfl) (by kernel_rfl) (by with_reducible assumption) | exact told_conv (by kernel_rfl) (by kernel_rfl) ev0 | exact told_conv (by kernel_rfl) (by kernel_rfl) ev1 | exact told_conv (by kernel_rfl) (by kernel_rfl) ev2 | exact told_conv (by kernel_rfl) (by kernel_rfl) ev3 | exact told_conv (by kernel_rfl) (by kernel_rfl) ev4 | exact told_conv (by kernel_rfl) (by kernel_rfl) ev5 | exact told_conv (by kernel_rfl) (by kernel_rfl) ev6 | exact told_conv (by kernel_rfl) (by kernel_rfl) ev7 | exact told_conv (by kernel_rfl) (by kernel_rfl) ev8 | exact told_conv (by kernel_rfl) (by kernel_rfl) ev9 | exact told_conv (by kernel_rfl) (by kernel_rfl) ev10 | exact told_conv (by kernel_rfl) (by kernel_rfl) ev11, ?_⟩
  refine ⟨by first | exact told_rem (by assumption) (by assumption) | exact told_add (by assumption) | exact told_sub (by assumption), ?_⟩
  refine ⟨by first | exact told_conv (by kernel_rfl) (by kernel_rfl) (by with_reducible assumption) | exact told_conv (by kernel_rfl) (by kernel_rfl) ev0 | exact told_conv (by kernel_rfl) (by kernel_rfl) ev1 | exact told_conv (by kernel_rfl) (by kernel_rfl) ev2 | exact told_conv (by kernel_rfl) (by kernel_rfl) ev3 | exact told_conv (by kernel_rfl) (by kernel_rfl) ev4 | exact told_conv (by kernel_rfl) (by kernel_rfl) ev5 | exact told_conv (by kernel_rfl) (by kernel_rfl) ev6 | exact told_conv (by kernel_rfl) (by kernel_rfl) ev7 | exact told_conv (by kernel_rfl) (by kernel_rfl) ev8 | exact told_conv (by kernel_rfl) (by kernel_rfl) ev9 | exact told_conv (by kernel_rfl) (by kernel_rfl) ev10 | exact told_conv (by kernel_rfl) (by kernel_rfl) ev11, ?_⟩
  refine ⟨by first | exact told_rem (by assumption) (by assumption) | exact told_add (by assumption) | exact told_sub (by assumption), ?_⟩
  refine ⟨by first | exact told_conv (by kernel_rfl) (by kernel_rfl) (by with_reducible assumption) | exact told_conv (by kernel_rfl) (by kernel_rfl) ev0 | exact told_conv (by kernel_rfl) (by kernel_rfl) ev1 | exact told_conv (by kernel_rfl) (by kernel_rfl) ev2 | exact told_conv (by kernel_rfl) (by kernel_rfl) ev3 | exact told_conv (by kernel_rfl) (by kernel_rfl) ev4 | exact told_conv (by kernel_rfl) (by kernel_rfl) ev5 | exact told_conv (by kernel_rfl) (by kernel_rfl) ev6 | exact told_conv (by kernel_rfl) (by kernel_rfl) ev7 | exact told_conv (by kernel_rfl) (by kernel_rfl) ev8 | exact told_conv (by kernel_rfl) (by kernel_rfl) ev9 | exact told_conv (by kernel_rfl) (by kernel_rfl) ev10 | exact told_conv (by kernel_rfl) (by kernel_rfl) ev11, ?_⟩
  refine ⟨by first | exact told_rem (by assumption) (by assumption) | exact told_add (by assumption) | exact told_sub (by assumption), ?_⟩
  refine ⟨by first | exact told_conv (by kernel_rfl) (by kernel_rfl) (by with_reducible assumption) | exact told_conv (by kernel_rfl) (by kernel_rfl) ev0 | exact told_conv (by kernel_rfl) (by kernel_rfl) ev1 | exact told_conv (by kernel_rfl) (by kernel_rfl) ev2 | exact told_conv (by kernel_rfl) (by kernel_rfl) ev3 | exact told_conv (by kernel_rfl) (by kernel_rfl) ev4 | exact told_conv (by kernel_rfl) (by kernel_rfl) ev5 | exact told_conv (by kernel_rfl) (by kernel_rfl) ev6 | exact told_conv (by kernel_rfl) (by kernel_rfl) ev7 | exact told_conv (by kernel_rfl) (by kernel_rfl) ev8 | exact told_conv (by kernel_rfl) (by kernel_rfl) ev9 | exact told_conv (by kernel_rfl) (by kernel_rfl) ev10 | exact told_conv (by kernel_rfl) (by kernel_rfl) ev11, ?_⟩
  refine ⟨by first | exact told_conv (by kernel_rfl) (by kernel_rfl) (by with_reducible assumption) | exact told_conv (by kernel_rfl) (by kernel_rfl) ev0 | exact told_conv (by kernel_rfl) (by kernel_rfl) ev1 | exact told_conv (by kernel_rfl) (by kernel_rfl) ev2 | exact told_conv (by kernel_rfl) (by kernel_rfl) ev3 | exact told_conv (by kernel_rfl) (by kernel_rfl) ev4 | exact told_conv (by kernel_rfl) (by kernel_rfl) ev5 | exact told_conv (by kernel_rfl) (by kernel_rfl) ev6 | exact told_conv (by kernel_rfl) (by kernel_rfl) ev7 | exact told_conv (by kernel_rfl) (by kernel_rfl) ev8 | exact told_conv (by kernel_rfl) (by kernel_rfl) ev9 | exact told_conv (by kernel_rfl) (by kernel_rfl) ev10 | exact told_conv (by kernel_rfl) (by kernel_rfl) ev11, ?_⟩
  refine ⟨by first | exact told_rem (by assumption) (by assumption) | exact told_add (by assumption) | exact told_sub (by assumption), ?_⟩
  refine ⟨by first | exact told_conv (by kernel_rfl) (by kernel_rfl) (by with_reducible assumption) | exact told_conv (by kernel_rfl) (by kernel_rfl) ev0 | exact told_conv (by kernel_rfl) (by kernel_rfl) ev1 | exact told_conv (by kernel_rfl) (by kernel_rfl) ev2 | exact told_conv (by kernel_rfl) (by kernel_rfl) ev3 | exact told_conv (by kernel_rfl) (by kernel_rfl) ev4 | exact told_conv (by kernel_rfl) (by kernel_rfl) ev5 | exact told_conv (by kernel_rfl) (by kernel_rfl) ev6 | exact told_conv (by kernel_rfl) (by kernel_rfl) ev7 | exact told_conv (by kernel_rfl) (by kernel_rfl) ev8 | exact told_conv (by kernel_rfl) (by kernel_rfl) ev9 | exact told_conv (by kernel_rfl) (by kernel_rfl) ev10 | exact told_conv (by kernel_rfl) (by kernel_rfl) ev11, ?_⟩
  refine ⟨acall_hit (c := c19v.to) (t, r) _ rfl p19, ?_⟩
  refine ⟨by first | exact hcA | exact hcB, ?_⟩
  refine ⟨by first | with_reducible assumption | omega | assumption, ?_⟩
  refine ⟨acall_hit (c := c19v.to) (t, r) _ rfl p19, ?_⟩
  refine ⟨by first | exact hcA | exact hcB, ?_⟩
  refine ⟨acall_hit (c := c24.to) () _ rfl trivial, ?_⟩
  first | with_reducible rfl | (refine bleaf_t ?_; omega) | (refine bleaf_f ?_; omega) | (refine ileaf ?_; omega) | rfl | (exfalso; omega)
theorem r12c (t : List Int) (r : Room) (k s W V : Int) (m S : Nat) (ks : KS t.length k s W V m S) (hp : pL t r) (h : Tn t) (h3 : 3 ≤ t.length) (hP : 1 < mP t) (hx : rowR t (3 + m) true = none) : Body (En6 cs12) none1 Tryd.f12 [ls t r, I k, I s] .nil (.bool true, .nil) := by
  obtain ⟨h1, h2⟩ := hp
  have h8 := h.s.2
  have h0 := h.s.1
  have hr := h1.2.1
  have hb := tn_t h
  have hn : rok t .no := fun _ => no_ne
  have hne : t ≠ [] := fun e => by rw [e] at h0; simp at h0
  have hlen : (pts t).length = mP t := pl_len t _
  have p19 : ((lim t.length ∧ rok t r ∧ em t r) ∧ t.length ≤ 11) ∧ t ≠ [] := ⟨⟨h1, by omega⟩, hne⟩
  have p21 : lim t.length ∧ rok t r := ⟨h1.1, hr⟩
  have hm := ks.hm
  have hS := ks.hS
  have hq : (3 : Int) ≤ (t.length : Int) := by omega
  have ev0 := ks.e0
  have ev1 : IntKind.i64.wrap ((t.length : Int) - 2) = ((t.length - 2 : Nat) : Int) := by rw [wr _ (by omega) (by omega)]; omega
  have ev2 : IntKind.u64.wrap ((t.length - 2 : Nat) : Int) = ((t.length - 2 : Nat) : Int) := u64_small (by omega)
  have ev3 := ks.e3
  have ev4 : IntKind.i64.wrap (m : Int) = (m : Int) := wr _ (by omega) (by omega)
  have ev5 : IntKind.i64.wrap (3 + (m : Int)) = ((3 + m : Nat) : Int) := by rw [wr _ (by omega) (by omega)]; omega
  have ev6 := ks.e6
  have ev7 : IntKind.u64.wrap (t.length : Int) = (t.length : Int) := u64_small (by omega)
  have ev8 := ks.e8
  have ev9 : IntKind.i64.wrap (S : Int) = (S : Int) := wr _ (by omega) (by omega)
  have hd1 : ((t.length - 2 : Nat) : Int) ≠ 0 := by omega
  have hd2 : (t.length : Int) ≠ 0 := by omega
  have p29 : (Tn t ∧ rok t .no ∧ em t .no) ∧ 3 ≤ 3 + m ∧ 3 + m ≤ t.length := ⟨⟨h, hn, fun e => by cases e⟩, by omega, by omega⟩
  have p29n : (Tn t ∧ rok t .no ∧ em t .no) ∧ 3 ≤ t.length ∧ t.length ≤ t.length := ⟨⟨h, hn, fun e => by cases e⟩, by omega, by omega⟩
  have hno := more_parts h hP
  have hcA : aCall (Sof cs12) (.fn (.func 29) [] []) [ls t .no, I (3 + m : Nat)] .nil = some (.tup [.sl [] 0 .nil, I 4], .nil) := hc29 p29 hx
  have hcB : aCall (Sof cs12) (.fn (.func 29) [] []) [ls t .no, I t.length] .nil = some (.tup [.sl [] 0 .nil, I 4], .nil) := hc29 p29n hno
  have hl : (1 : Int) < ((pts t).length : Int) := by rw [hlen]; omega
  refine body_s ([Ans.o (Orc.val 26 (ls t Room.no) (H.mk [] [] [])), Ans.o (Orc.val 27 (AV.tup [ls (pts t) (pR t), I 0]) (H.mk [] [] [])), Ans.o Orc.dflt, Ans.o (Orc.val 34 (AV.bool true) (H.mk [] [] [])), Ans.o (Orc.b false), Ans.o (Orc.val 48 (AV.int IntKind.u64 W) H.nil), Ans.o (Orc.val 50 (I (↑(t.length - (2 : Nat)) : Int)) H.nil), Ans.o (Orc.val 51 (AV.int IntKind.u64 (↑(t.length - (2 : Nat)) : Int)) H.nil), Ans.o (Orc.val 52 (AV.int IntKind.u64 (↑m : Int)) H.nil), Ans.o (Orc.val 53 (I (↑m : Int)) H.nil), Ans.o (Orc.val 54 (I (↑((3 : Nat) + m) : Int)) H.nil), Ans.o (Orc.val 56 (AV.int IntKind.u64 V) H.nil), Ans.o (Orc.val 58 (AV.int IntKind.u64 (↑t.length : Int)) H.nil), Ans.o (Orc.val 59 (AV.int IntKind.u64 (↑S : Int)) H.nil), Ans.o (Orc.val 60 (I (↑S : Int)) H.nil), Ans.o (Orc.val 63 (ls t Room.no) (H.mk [] [] [])), Ans.o (Orc.val 65 (AV.tup [AV.sl [] (0 : Nat) Room.nil, I 4]) (H.mk [] [] [])), Ans.o (Orc.b true), Ans.o (Orc.val 73 (ls t Room.no) (H.mk [] [] [])), Ans.o (Orc.val 75 (AV.tup [AV.sl [] (0 : Nat) Room.nil, I 4]) (H.mk [] [] [])), Ans.o Orc.dflt, Ans.o Orc.dflt, Ans.o Orc.dflt, Ans.o (Orc.val 89 (AV.bool true) (H.mk [] [] []))]) (aCall (Sof cs12) (AV.fn (Fn.func 19) [] []) [ls t r] (H.mk [] [] []) = some (ls t Room.no, H.mk [] [] []) ∧ aCall (Sof cs12) (AV.fn (Fn.func 33) [] []) [ls t Room.no] (H.mk [] [] []) = some (AV.tup [ls (pts t) (pR t), I 0], H.mk [] [] []) ∧ aCall (Sof cs12) (AV.fn (Fn.func 21) [] []) [ls t r] (H.mk [] [] []) = some (AV.bool true, H.mk [] [] []) ∧ (3 : Int) ≤ (↑t.length : Int) ∧ aConvert Tryd.prog 3 (52 : Nat) (I k) = some (AV.int IntKind.u64 W) ∧ aBin Tryd.prog BinOp.sub (3 : Nat) (I (↑t.length : Int)) (I 2) = some (I (↑(t.length - (2 : Nat)) : Int)) ∧ aConvert Tryd.prog 3 (52 : Nat) (I (↑(t.length - (2 : Nat)) : Int)) = some (AV.int IntKind.u64 (↑(t.length - (2 : Nat)) : Int)) ∧ aBin Tryd.prog BinOp.rem (52 : Nat) (AV.int IntKind.u64 W) (AV.int IntKind.u64 (↑(t.length - (2 : Nat)) : Int)) = some (AV.int IntKind.u64 (↑m : Int)) ∧ aConvert Tryd.prog 52 (3 : Nat) (AV.int IntKind.u64 (↑m : Int)) = some (I (↑m : Int)) ∧ aBin Tryd.prog BinOp.add (3 : Nat) (I 3) (I (↑m : Int)) = some (I (↑((3 : Nat) + m) : Int)) ∧ aConvert Tryd.prog 3 (52 : Nat) (I s) = some (AV.int IntKind.u64 V) ∧ aConvert Tryd.prog 3 (52 : Nat) (I (↑t.length : Int)) = some (AV.int IntKind.u64 (↑t.length : Int)) ∧ aBin Tryd.prog BinOp.rem (52 : Nat) (AV.int IntKind.u64 V) (AV.int IntKind.u64 (↑t.length : Int)) = some (AV.int IntKind.u64 (↑S : Int)) ∧ aConvert Tryd.prog 52 (3 : Nat) (AV.int IntKind.u64 (↑S : Int)) = some (I (↑S : Int)) ∧ aCall (Sof cs12) (AV.fn (Fn.func 19) [] []) [ls t r] (H.mk [] [] []) = some (ls t Room.no, H.mk [] [] []) ∧ aCall (Sof cs12) (AV.fn (Fn.func 29) [] []) [ls t Room.no, I (↑((3 : Nat) + m) : Int)] (H.mk [] [] []) = some (AV.tup [AV.sl [] (0 : Nat) Room.nil, I 4], H.mk [] [] []) ∧ (1 : Int) < (↑(pts t).length : Int) ∧ aCall (Sof cs12) (AV.fn (Fn.func 19) [] []) [ls t r] (H.mk [] [] []) = some (ls t Room.no, H.mk [] [] []) ∧ aCall (Sof cs12) (AV.fn (Fn.func 29) [] []) [ls t Room.no, I (↑t.length : Int)] (H.mk [] [] []) = some (AV.tup [AV.sl [] (0 : Nat) Room.nil, I 4], H.mk [] [] []) ∧ aCall (Sof cs12) (AV.fn (Fn.func 24) [] []) [] (H.mk [] [] []) = some (AV.bool true, H.mk [] [] []) ∧ (AV.bool true, H.mk [] [] []) = (AV.bool true, H.mk [] [] [])) (by kernel_rfl) ?_
  refine ⟨acall_hit (c := c19v.to) (t, r) _ rfl p19, ?_⟩
  refine ⟨acall_hit (c := c33t.to) t _ rfl h, ?_⟩
  refine ⟨acall_b (acall_hit (c := c21.to) (t, r) _ rfl p21) hb, ?_⟩
  refine ⟨by first | with_reducible assumption | omega | assumption, ?_⟩
  refine ⟨by first | exact told_conv (by kernel_rfl) (by kernel_rfl) (by with_reducible assumption) | exact told_conv (by kernel_rfl) (by kernel_rfl) ev0 | exact told_conv (by kernel_rfl) (by kernel_rfl) ev1 | exact told_conv (by kernel_rfl) (by kernel_rfl) ev2 | exact told_conv (by kernel_rfl) (by kernel_rfl) ev3 | exact told_conv (by kernel_rfl) (by kernel_rfl) ev4 | exact told_conv (by kernel_rfl) (by kernel_rfl) ev5 | exact told_conv (by kernel_rfl) (by kernel_rfl) ev6 | exact told_conv (by kernel_rfl) (by kernel_rfl) ev7 | exact told_conv (by kernel_rfl) (by kernel_rfl) ev8 | exact told_conv (by kernel_rfl) (by kernel_rfl) ev9 | exact told_conv (by kernel_rfl) (by kernel_rfl) ev10 | exact told_conv (by kernel_rfl) (by kernel_rfl) ev11, ?_⟩
  refine ⟨by first | exact told_rem (by assumption) (by assumption) | exact told_add (by assumption) | exact told_sub (by assumption), ?_⟩
  refine ⟨by first | exact told_conv (by kernel_rfl) (by kernel_rfl) (by with_reducible assumption) | exact told_conv (by kernel_rfl) (by kernel_rfl) ev0 | exact told_conv (by kernel_rfl) (by kernel_rfl) ev1 | exact told_conv (by kernel_rfl) (by kernel_rfl) ev2 | exact told_conv (by kernel_rfl) (by kernel_rfl) ev3 | exact told_conv (by kernel_rfl) (by kernel_rfl) ev4 | exact told_conv (by kernel_rfl) (by kernel_rfl) ev5 | exact told_conv (by kernel_rfl) (by kernel_rfl) ev6 | exact told_conv (by kernel_rfl) (by kernel_rfl) ev7 | exact told_conv (by kernel_rfl) (by kernel_rfl) ev8 | exact told_conv (by kernel_rfl) (by kernel_rfl) ev9 | exact told_conv (by kernel_rfl) (by kernel_rfl) ev10 | exact told_conv (by kernel_rfl) (by kernel_rfl) ev11, ?_⟩
  refine ⟨by first | exact told_rem (by assumption) (by assumption) | exact told_add (by assumption) | exact told_sub (by assumption), ?_⟩
  refine ⟨by first | exact told_conv (by kernel_rfl) (by kernel_rfl) (by with_reducible assumption) | exact told_conv (by kernel_rfl) (by kernel_rfl) ev0 | exact told_conv (by kernel_rfl) (by kernel_rfl) ev1 | exact told_conv (by kernel_rfl) (by kernel_rfl) ev2 | exact told_conv (by kernel_rfl) (by kernel_rfl) ev3 | exact told_conv (by kernel_rfl) (by kernel_rfl) ev4 | exact told_conv (by kernel_rfl) (by kernel_rfl) ev5 | exact told_conv (by kernel_rfl) (by kernel_rfl) ev6 | exact told_conv (by kernel_rfl) (by kernel_rfl) ev7 | exact told_conv (by kernel_rfl) (by kernel_rfl) ev8 | exact told_conv (by kernel_rfl) (by kernel_rfl) ev9 | exact told_conv (by kernel_rfl) (by kernel_rfl) ev10 | exact told_conv (by kernel_rfl) (by kernel_rfl) ev11, ?_⟩
  refine ⟨by first | exact told_rem (by assumption) (by assumption) | exact told_add (by assumption) | exact told_sub (by assumption), ?_⟩
  refine ⟨by first | exact told_conv (by kernel_rfl) (by kernel_rfl) (by with_reducible assumption) | exact told_conv (by kernel_rfl) (by kernel_rfl) ev0 | exact told_conv (by kernel_rfl) (by kernel_rfl) ev1 | exact told_conv (by kernel_rfl) (by kernel_rfl) ev2 | exact told_conv (by kernel_rfl) (by kernel_rfl) ev3 | exact told_conv (by kernel_rfl) (by kernel_rfl) ev4 | exact told_conv (by kernel_rfl) (by kernel_rfl) ev5 | exact told_conv (by kernel_rfl) (by kernel_rfl) ev6 | exact told_conv (by kernel_rfl) (by kernel_rfl) ev7 | exact told_conv (by kernel_rfl) (by kernel_rfl) ev8 | exact told_conv (by kernel_rfl) (by kernel_rfl) ev9 | exact told_conv (by kernel_rfl) (by kernel_rfl) ev10 | exact told_conv (by kernel_rfl) (by kernel_rfl) ev11, ?_⟩
  refine ⟨by first | exact told_conv (by kernel_rfl) (by kernel_rfl) (by with_reducible assumption) | exact told_conv (by kernel_rfl) (by kernel_rfl) ev0 | exact told_conv (by kernel_rfl) (by kernel_rfl) ev1 | exact told_conv (by kernel_rfl) (by kernel_rfl) ev2 | exact told_conv (by kernel_rfl) (by kernel_rfl) ev3 | exact told_conv (by kernel_rfl) (by kernel_rfl) ev4 | exact told_conv (by kernel_rfl) (by kernel_rfl) ev5 | exact told_conv (by kernel_rfl) (by kernel_rfl) ev6 | exact told_conv (by kernel_rfl) (by kernel_rfl) ev7 | exact told_conv (by kernel_rfl) (by kernel_rfl) ev8 | exact told_conv (by kernel_rfl) (by kernel_rfl) ev9 | exact told_conv (by kernel_rfl) (by kernel_rfl) ev10 | exact told_conv (by kernel_rfl) (by kernel_rfl) ev11, ?_⟩
  refine ⟨by first | exact told_rem (by assumption) (by assumption) | exact told_add (by assumption) | exact told_sub (by assumption), ?_⟩
  refine ⟨by first | exact told_conv (by kernel_rfl) (by kernel_rfl) (by with_reducible assumption) | exact told_conv (by kernel_rfl) (by kernel_rfl) ev0 | exact told_conv (by kernel_rfl) (by kernel_rfl) ev1 | exact told_conv (by kernel_rfl) (by kernel_rfl) ev2 | exact told_conv (by kernel_rfl) (by kernel_rfl) ev3 | exact told_conv (by kernel_rfl) (by kernel_rfl) ev4 | exact told_conv (by kernel_rfl) (by kernel_rfl) ev5 | exact told_conv (by kernel_rfl) (by kernel_rfl) ev6 | exact told_conv (by kernel_rfl) (by kernel_rfl) ev7 | exact told_conv (by kernel_rfl) (by kernel_rfl) ev8 | exact told_conv (by kernel_rfl) (by kernel_rfl) ev9 | exact told_conv (by kernel_rfl) (by kernel_rfl) ev10 | exact told_conv (by kernel_rfl) (by kernel_rfl) ev11, ?_⟩
  refine ⟨acall_hit (c := c19v.to) (t, r) _ rfl p19, ?_⟩
  refine ⟨by first | exact hcA | exact hcB, ?_⟩
  refine ⟨by first | with_reducible assumption | omega | assumption, ?_⟩
  refine ⟨acall_hit (c := c19v.to) (t, r) _ rfl p19, ?_⟩
  refine ⟨by first | exact hcA | exact hcB, ?_⟩
  refine ⟨acall_hit (c := c24.to) () _ rfl trivial, ?_⟩
  first | with_reducible rfl | (refine bleaf_t ?_; omega) | (refine bleaf_f ?_; omega) | (refine ileaf ?_; omega) | rfl | (exfalso; omega)
theorem r12o (t : List Int) (r : Room) (k s W V : Int) (m S : Nat) (ks : KS t.length k s W V m S) (hp : pL t r) (h : Tn t) (h3 : 3 ≤ t.length) (hP : mP t = 1) (x y : List Int) (hx : rowR t (3 + m) true = some x) (hy : rowR (tu t S) (3 + m) true = some (0 :: y)) : Body (En6 cs12) none1 Tryd.f12 [ls t r, I k, I s] .nil (.bool true, .nil) := by
  obtain ⟨h1, h2⟩ := hp
  have h8 := h.s.2
  have h0 := h.s.1
  have hr := h1.2.1
  have hb := tn_t h
  have hn : rok t .no := fun _ => no_ne
  have hne : t ≠ [] := fun e => by rw [e] at h0; simp at h0
  have hlen : (pts t).length = mP t := pl_len t _
  have p19 : ((lim t.length ∧ rok t r ∧ em t r) ∧ t.length ≤ 11) ∧ t ≠ [] := ⟨⟨h1, by omega⟩, hne⟩
  have p21 : lim t.length ∧ rok t r := ⟨h1.1, hr⟩
  have hm := ks.hm
  have hS := ks.hS
  have hq : (3 : Int) ≤ (t.length : Int) := by omega
  have ev0 := ks.e0
  have ev1 : IntKind.i64.wrap ((t.length : Int) - 2) = ((t.length - 2 : Nat) : Int) := by rw [wr _ (by omega) (by omega)]; omega
  have ev2 : IntKind.u64.wrap ((t.length - 2 : Nat) : Int) = ((t.length - 2 : Nat) : Int) := u64_small (by omega)
  have ev3 := ks.e3
  have ev4 : IntKind.i64.wrap (m : Int) = (m : Int) := wr _ (by omega) (by omega)
  have ev5 : IntKind.i64.wrap (3 + (m : Int)) = ((3 + m : Nat) : Int) := by rw [wr _ (by omega) (by omega)]; omega
  have ev6 := ks.e6
  have ev7 : IntKind.u64.wrap (t.length : Int) = (t.length : Int) := u64_small (by omega)
  have ev8 := ks.e8
  have ev9 : IntKind.i64.wrap (S : Int) = (S : Int) := wr _ (by omega) (by omega)
  have hd1 : ((t.length - 2 : Nat) : Int) ≠ 0 := by omega
  have hd2 : (t.length : Int) ≠ 0 := by omega
  have p29 : (Tn t ∧ rok t .no ∧ em t .no) ∧ 3 ≤ 3 + m ∧ 3 + m ≤ t.length := ⟨⟨h, hn, fun e => by cases e⟩, by omega, by omega⟩
  have p29n : (Tn t ∧ rok t .no ∧ em t .no) ∧ 3 ≤ t.length ∧ t.length ≤ t.length := ⟨⟨h, hn, fun e => by cases e⟩, by omega, by omega⟩
  have hl : ((pts t).length : Int) ≤ 1 := by rw [hlen]; omega
  have hxl : x.length = 3 + m := by have := wyM_len _ _ _ _ hx; simpa using this
  have hyl : (0 :: y).length = 3 + m := by have := wyM_len _ _ _ _ hy; simpa using this
  have hxl' : (x.length : Int) = ((3 + m : Nat) : Int) := by omega
  have hyl' : ((0 :: y).length : Int) = ((3 + m : Nat) : Int) := by omega
  have hcA : aCall (Sof cs12) (.fn (.func 29) [] []) [ls t .no, I (3 + m : Nat)] .nil = some (.tup [ls x .no, I 0], .nil) := hc29 p29 hx
  have hut := tu_tn h S
  have hrm : rok (tu t S) (rm 0 (tu t S)) := by
    intro hne
    cases hq : tu t S with
    | nil => exact absurd hq hne
    | cons x l => simp [rm]
  have p29u : (Tn (tu t S) ∧ rok (tu t S) (rm 0 (tu t S)) ∧ em (tu t S) (rm 0 (tu t S))) ∧ 3 ≤ 3 + m ∧ 3 + m ≤ (tu t S).length := ⟨⟨hut, hrm, fun e => by
    cases hq : tu t S with
    | nil => rfl
    | cons x l => rw [hq] at e; simp [rm] at e⟩, by omega, by rw [tuL_len]; have := ks.hm; omega⟩
  have hcU : aCall (Sof cs12) (.fn (.func 29) [] []) [lA (tu t S), I (3 + m : Nat)] (lH (tu t S)) = some (.tup [ls (0 :: y) .no, I 0], lH (tu t S)) := hc29 p29u hy
  have lpa := lp12a t r (3 + m) S x h hr (by omega) (by have := ks.hm; omega) (rnd_of (by omega) hx)
  have lpb := lp12b t r (3 + m) S h hr ks.hS
  have k0 : 0 < (0 :: y).length := by simp
  have hyn : Room.no ≠ Room.nil := no_ne
  have hcU0 : (0 :: y).getD 0 i0 = (0 : Int) := rfl
  refine body_s ([Ans.o (Orc.val 26 (ls t Room.no) (H.mk [] [] [])), Ans.o (Orc.val 27 (AV.tup [ls (pts t) (pR t), I 0]) (H.mk [] [] [])), Ans.o Orc.dflt, Ans.o (Orc.val 34 (AV.bool true) (H.mk [] [] [])), Ans.o (Orc.b false), Ans.o (Orc.val 48 (AV.int IntKind.u64 W) H.nil), Ans.o (Orc.val 50 (I (↑(t.length - (2 : Nat)) : Int)) H.nil), Ans.o (Orc.val 51 (AV.int IntKind.u64 (↑(t.length - (2 : Nat)) : Int)) H.nil), Ans.o (Orc.val 52 (AV.int IntKind.u64 (↑m : Int)) H.nil), Ans.o (Orc.val 53 (I (↑m : Int)) H.nil), Ans.o (Orc.val 54 (I (↑((3 : Nat) + m) : Int)) H.nil), Ans.o (Orc.val 56 (AV.int IntKind.u64 V) H.nil), Ans.o (Orc.val 58 (AV.int IntKind.u64 (↑t.length : Int)) H.nil), Ans.o (Orc.val 59 (AV.int IntKind.u64 (↑S : Int)) H.nil), Ans.o (Orc.val 60 (I (↑S : Int)) H.nil), Ans.o (Orc.val 63 (ls t Room.no) (H.mk [] [] [])), Ans.o (Orc.val 65 (AV.tup [ls x Room.no, I 0]) (H.mk [] [] [])), Ans.o (Orc.b false), Ans.o Orc.dflt, Ans.o (Orc.b false), Ans.loop [0, 1, 2, 9, 10, 14, 99, 100, 101] [Out.mk Unit AX.ret [6] (fun x => False) (fun x => [AV.bool false]) (fun x => H.nil) fun y => [], Out.mk Unit (AX.exit 0) [0, 1, 2, 9] (fun x => True) (fun x => [ls t r, I (↑((3 : Nat) + m) : Int), I (↑S : Int), I (↑t.length : Int)]) (fun x => H.nil) fun y_1 => [Ans.loop [0, 1, 2, 9, 18, 151, 152] [Out.mk Unit (AX.exit 2) [1, 18] (fun x => True) (fun x => [I (↑((3 : Nat) + m) : Int), lA (tu t S)]) (fun x => lH (tu t S)) fun y_2 => [Ans.o (Orc.val 187 (AV.tup [ls ((0 : Int) :: y) Room.no, I 0]) (H.mk [] (tk (tu t S)) [])), Ans.o Orc.dflt, Ans.o (Orc.b true), Ans.o (Orc.val 200 (AV.cptr (ints (List.drop (0 : Nat) ((0 : Int) :: y)))) H.nil), Ans.o Orc.dflt, Ans.o (Orc.val 205 (AV.bool true) (H.mk [] (tk (tu t S)) []))]]]]]) (aCall (Sof cs12) (AV.fn (Fn.func 19) [] []) [ls t r] (H.mk [] [] []) = some (ls t Room.no, H.mk [] [] []) ∧ aCall (Sof cs12) (AV.fn (Fn.func 33) [] []) [ls t Room.no] (H.mk [] [] []) = some (AV.tup [ls (pts t) (pR t), I 0], H.mk [] [] []) ∧ aCall (Sof cs12) (AV.fn (Fn.func 21) [] []) [ls t r] (H.mk [] [] []) = some (AV.bool true, H.mk [] [] []) ∧ (3 : Int) ≤ (↑t.length : Int) ∧ aConvert Tryd.prog 3 (52 : Nat) (I k) = some (AV.int IntKind.u64 W) ∧ aBin Tryd.prog BinOp.sub (3 : Nat) (I (↑t.length : Int)) (I 2) = some (I (↑(t.length - (2 : Nat)) : Int)) ∧ aConvert Tryd.prog 3 (52 : Nat) (I (↑(t.length - (2 : Nat)) : Int)) = some (AV.int IntKind.u64 (↑(t.length - (2 : Nat)) : Int)) ∧ aBin Tryd.prog BinOp.rem (52 : Nat) (AV.int IntKind.u64 W) (AV.int IntKind.u64 (↑(t.length - (2 : Nat)) : Int)) = some (AV.int IntKind.u64 (↑m : Int)) ∧ aConvert Tryd.prog 52 (3 : Nat) (AV.int IntKind.u64 (↑m : Int)) = some (I (↑m : Int)) ∧ aBin Tryd.prog BinOp.add (3 : Nat) (I 3) (I (↑m : Int)) = some (I (↑((3 : Nat) + m) : Int)) ∧ aConvert Tryd.prog 3 (52 : Nat) (I s) = some (AV.int IntKind.u64 V) ∧ aConvert Tryd.prog 3 (52 : Nat) (I (↑t.length : Int)) = some (AV.int IntKind.u64 (↑t.length : Int)) ∧ aBin Tryd.prog BinOp.rem (52 : Nat) (AV.int IntKind.u64 V) (AV.int IntKind.u64 (↑t.length : Int)) = some (AV.int IntKind.u64 (↑S : Int)) ∧ aConvert Tryd.prog 52 (3 : Nat) (AV.int IntKind.u64 (↑S : Int)) = some (I (↑S : Int)) ∧ aCall (Sof cs12) (AV.fn (Fn.func 19) [] []) [ls t r] (H.mk [] [] []) = some (ls t Room.no, H.mk [] [] []) ∧ aCall (Sof cs12) (AV.fn (Fn.func 29) [] []) [ls t Room.no, I (↑((3 : Nat) + m) : Int)] (H.mk [] [] []) = some (AV.tup [ls x Room.no, I 0], H.mk [] [] []) ∧ (↑(pts t).length : Int) ≤ (1 : Int) ∧ (↑x.length : Int) = (↑((3 : Nat) + m) : Int) ∧ LoopS (Env.mk Tryd.prog (Sof cs12) (Pof (P := Tryd.prog) []) H.nil.base (300 : Nat)) (loopAt Tryd.f12 0) 207 [0, 1, 2, 9, 10, 14, 99, 100, 101] [ls t r, I (↑((3 : Nat) + m) : Int), I (↑S : Int), I (↑t.length : Int), ls x Room.no, I 0, ls x Room.no, I (↑x.length : Int), I 0] (H.mk [] [] []) [Out.mk Unit AX.ret [6] (fun x => False) (fun x => [AV.bool false]) (fun x => H.nil) fun y => [], Out.mk Unit (AX.exit 0) [0, 1, 2, 9] (fun x => True) (fun x => [ls t r, I (↑((3 : Nat) + m) : Int), I (↑S : Int), I (↑t.length : Int)]) (fun x => H.nil) fun y_1 => [Ans.loop [0, 1, 2, 9, 18, 151, 152] [Out.mk Unit (AX.exit 2) [1, 18] (fun x => True) (fun x => [I (↑((3 : Nat) + m) : Int), lA (tu t S)]) (fun x => lH (tu t S)) fun y_2 => [Ans.o (Orc.val 187 (AV.tup [ls ((0 : Int) :: y) Room.no, I 0]) (H.mk [] (tk (tu t S)) [])), Ans.o Orc.dflt, Ans.o (Orc.b true), Ans.o (Orc.val 200 (AV.cptr (ints (List.drop (0 : Nat) ((0 : Int) :: y)))) H.nil), Ans.o Orc.dflt, Ans.o (Orc.val 205 (AV.bool true) (H.mk [] (tk (tu t S)) []))]]]] ∧ (∀ (y : Unit), False → ∀ (u : Nat → AV), (AV.bool false, H.mk [] [] []) = (AV.bool true, H.mk [] [] [])) ∧ (∀ (y_1 : Unit), True → ∀ (u : Nat → AV), LoopS (Env.mk Tryd.prog (Sof cs12) (Pof (P := Tryd.prog) []) H.nil.base (300 : Nat)) (loopAt Tryd.f12 1) 207 [0, 1, 2, 9, 18, 151, 152] [ls t r, I (↑((3 : Nat) + m) : Int), I (↑S : Int), I (↑t.length : Int), AV.sl [] (0 : Nat) Room.nil, I (↑t.length : Int), I 0] (H.mk [] [] []) [Out.mk Unit (AX.exit 2) [1, 18] (fun x => True) (fun x => [I (↑((3 : Nat) + m) : Int), lA (tu t S)]) (fun x => lH (tu t S)) fun y_2 => [Ans.o (Orc.val 187 (AV.tup [ls ((0 : Int) :: y) Room.no, I 0]) (H.mk [] (tk (tu t S)) [])), Ans.o Orc.dflt, Ans.o (Orc.b true), Ans.o (Orc.val 200 (AV.cptr (ints (List.drop (0 : Nat) ((0 : Int) :: y)))) H.nil), Ans.o Orc.dflt, Ans.o (Orc.val 205 (AV.bool true) (H.mk [] (tk (tu t S)) []))]] ∧ (∀ (y_2 : Unit), True → ∀ (u : Nat → AV), aCall (Sof cs12) (AV.fn (Fn.func 29) [] []) [ls (tu t S) (rm (0 : Nat) (tu t S)), I (↑((3 : Nat) + m) : Int)] (H.mk [] (tk (tu t S)) []) = some (AV.tup [ls ((0 : Int) :: y) Room.no, I 0], H.mk [] (tk (tu t S)) []) ∧ (↑((0 : Int) :: y).length : Int) = (↑((3 : Nat) + m) : Int) ∧ aIndexAddr Tryd.prog 22 (ls ((0 : Int) :: y) Room.no) (I 0) = some (AV.cptr (ints (List.drop (0 : Nat) ((0 : Int) :: y)))) ∧ aCall (Sof cs12) (AV.fn (Fn.func 24) [] []) [] (H.mk [] (tk (tu t S)) []) = some (AV.bool true, H.mk [] (tk (tu t S)) []) ∧ (AV.bool true, H.mk [] [] []) = (AV.bool true, H.mk [] [] [])) ∧ True) ∧ True) (by kernel_rfl) ?_
  refine ⟨acall_hit (c := c19v.to) (t, r) _ rfl p19, ?_⟩
  refine ⟨acall_hit (c := c33t.to) t _ rfl h, ?_⟩
  refine ⟨acall_b (acall_hit (c := c21.to) (t, r) _ rfl p21) hb, ?_⟩
  refine ⟨by first | with_reducible assumption | omega | assumption, ?_⟩
  refine ⟨by first | exact told_conv (by kernel_rfl) (by kernel_rfl) (by with_reducible assumption) | exact told_conv (by kernel_rfl) (by kernel_rfl) ev0 | exact told_conv (by kernel_rfl) (by kernel_rfl) ev1 | exact told_conv (by kernel_rfl) (by kernel_rfl) ev2 | exact told_conv (by kernel_rfl) (by kernel_rfl) ev3 | exact told_conv (by kernel_rfl) (by kernel_rfl) ev4 | exact told_conv (by kernel_rfl) (by kernel_rfl) ev5 | exact told_conv (by kernel_rfl) (by kernel_rfl) ev6 | exact told_conv (by kernel_rfl) (by kernel_rfl) ev7 | exact told_conv (by kernel_rfl) (by kernel_rfl) ev8 | exact told_conv (by kernel_rfl) (by kernel_rfl) ev9 | exact told_conv (by kernel_rfl) (by kernel_rfl) ev10 | exact told_conv (by kernel_rfl) (by kernel_rfl) ev11, ?_⟩
  refine ⟨by first | exact told_rem (by assumption) (by assumption) | exact told_add (by assumption) | exact told_sub (by assumption), ?_⟩
  refine ⟨by first | exact told_conv (by kernel_rfl) (by kernel_rfl) (by with_reducible assumption) | exact told_conv (by kernel_rfl) (by kernel_rfl) ev0 | exact told_conv (by kernel_rfl) (by kernel_rfl) ev1 | exact told_conv (by kernel_rfl) (by kernel_rfl) ev2 | exact told_conv (by kernel_rfl) (by kernel_rfl) ev3 | exact told_conv (by kernel_rfl) (by kernel_rfl) ev4 | exact told_conv (by kernel_rfl) (by kernel_rfl) ev5 | exact told_conv (by kernel_rfl) (by kernel_rfl) ev6 | exact told_conv (by kernel_rfl) (by kernel_rfl) ev7 | exact told_conv (by kernel_rfl) (by kernel_rfl) ev8 | exact told_conv (by kernel_rfl) (by kernel_rfl) ev9 | exact told_conv (by kernel_rfl) (by kernel_rfl) ev10 | exact told_conv (by kernel_rfl) (by kernel_rfl) ev11, ?_⟩
  refine ⟨by first | exact told_rem (by assumption) (by assumption) | exact told_add (by assumption) | exact told_sub (by assumption), ?_⟩
  refine ⟨by first | exact told_conv (by kernel_rfl) (by kernel_rfl) (by with_reducible assumption) | exact told_conv (by kernel_rfl) (by kernel_rfl) ev0 | exact told_conv (by kernel_rfl) (by kernel_rfl) ev1 | exact told_conv (by kernel_rfl) (by kernel_rfl) ev2 | exact told_conv (by kernel_rfl) (by kernel_rfl) ev3 | exact told_conv (by kernel_rfl) (by kernel_rfl) ev4 | exact told_conv (by kernel_rfl) (by kernel_rfl) ev5 | exact told_conv (by kernel_rfl) (by kernel_rfl) ev6 | exact told_conv (by kernel_rfl) (by kernel_rfl) ev7 | exact told_conv (by kernel_rfl) (by kernel_rfl) ev8 | exact told_conv (by kernel_rfl) (by kernel_rfl) ev9 | exact told_conv (by kernel_rfl) (by kernel_rfl) ev10 | exact told_conv (by kernel_rfl) (by kernel_rfl) ev11, ?_⟩
  refine ⟨by first | exact told_rem (by assumption) (by assumption) | exact told_add (by assumption) | exact told_sub (by assumption), ?_⟩
  refine ⟨by first | exact told_conv (by kernel_rfl) (by kernel_rfl) (by with_reducible assumption) | exact told_conv (by kernel_rfl) (by kernel_rfl) ev0 | exact told_conv (by kernel_rfl) (by kernel_rfl) ev1 | exact told_conv (by kernel_rfl) (by kernel_rfl) ev2 | exact told_conv (by kernel_rfl) (by kernel_rfl) ev3 | exact told_conv (by kernel_rfl) (by kernel_rfl) ev4 | exact told_conv (by kernel_rfl) (by kernel_rfl) ev5 | exact told_conv (by kernel_rfl) (by kernel_rfl) ev6 | exact told_conv (by kernel_rfl) (by kernel_rfl) ev7 | exact told_conv (by kernel_rfl) (by kernel_rfl) ev8 | exact told_conv (by kernel_rfl) (by kernel_rfl) ev9 | exact told_conv (by kernel_rfl) (by kernel_rfl) ev10 | exact told_conv (by kernel_rfl) (by kernel_rfl) ev11, ?_⟩
  refine ⟨by first | exact told_conv (by kernel_rfl) (by kernel_rfl) (by with_reducible assumption) | exact told_conv (by kernel_rfl) (by kernel_rfl) ev0 | exact told_conv (by kernel_rfl) (by kernel_rfl) ev1 | exact told_conv (by kernel_rfl) (by kernel_rfl) ev2 | exact told_conv (by kernel_rfl) (by kernel_rfl) ev3 | exact told_conv (by kernel_rfl) (by kernel_rfl) ev4 | exact told_conv (by kernel_rfl) (by kernel_rfl) ev5 | exact told_conv (by kernel_rfl) (by kernel_rfl) ev6 | exact told_conv (by kernel_rfl) (by kernel_rfl) ev7 | exact told_conv (by kernel_rfl) (by kernel_rfl) ev8 | exact told_conv (by kernel_rfl) (by kernel_rfl) ev9 | exact told_conv (by kernel_rfl) (by kernel_rfl) ev10 | exact told_conv (by kernel_rfl) (by kernel_rfl) ev11, ?_⟩
  refine ⟨by first | exact told_rem (by assumption) (by assumption) | exact told_add (by assumption) | exact told_sub (by assumption), ?_⟩
  refine ⟨by first | exact told_conv (by kernel_rfl) (by kernel_rfl) (by with_reducible assumption) | exact told_conv (by kernel_rfl) (by kernel_rfl) ev0 | exact told_conv (by kernel_rfl) (by kernel_rfl) ev1 | exact told_conv (by kernel_rfl) (by kernel_rfl) ev2 | exact told_conv (by kernel_rfl) (by kernel_rfl) ev3 | exact told_conv (by kernel_rfl) (by kernel_rfl) ev4 | exact told_conv (by kernel_rfl) (by kernel_rfl) ev5 | exact told_conv (by kernel_rfl) (by kernel_rfl) ev6 | exact told_conv (by kernel_rfl) (by kernel_rfl) ev7 | exact told_conv (by kernel_rfl) (by kernel_rfl) ev8 | exact told_conv (by kernel_rfl) (by kernel_rfl) ev9 | exact told_conv (by kernel_rfl) (by kernel_rfl) ev10 | exact told_conv (by kernel_rfl) (by kernel_rfl) ev11, ?_⟩
  refine ⟨acall_hit (c := c19v.to) (t, r) _ rfl p19, ?_⟩
  refine ⟨by first | exact hcA | exact hcU, ?_⟩
  refine ⟨by first | with_reducible assumption | omega | assumption, ?_⟩
  refine ⟨by first | with_reducible assumption | omega | assumption, ?_⟩
  refine ⟨lpa, ?_⟩
  refine And.intro ?_ ?_
  · skip
    intro y
    intro w1
    intro u
    first | rfl | (exfalso; assumption)
  · skip
    refine And.intro ?_ ?_
    · skip
      intro y
      intro w1
      intro u
      refine ⟨lpb, ?_⟩
      refine And.intro ?_ ?_
      · skip
        intro y
        intro w4
        intro u
        refine ⟨by first | exact hcA | exact hcU, ?_⟩
        refine ⟨by first | with_reducible assumption | omega | assumption, ?_⟩
        refine ⟨ix_ints (by kernel_rfl) k0 hyn, ?_⟩
        refine ⟨acall_hit (c := c24.to) () _ rfl trivial, ?_⟩
        first | rfl | (exfalso; assumption)
      · skip
        trivial
    · skip
      trivial
theorem moon_ok (t : List Int) (q : RK) (k s : Int) (h1 : t.length ≤ Go.maxLen) (h2 : q.mt = true → t = []) (h3 : inI t) : CallOk Tryd.prog 12 [ls t (rr q), I k, I s] .nil (.bool true) .nil := by
  have hp := pL_rr h1 h2 h3
  by_cases h : Tn t
  · by_cases h3 : 3 ≤ t.length
    · obtain ⟨W, V, m, S, ks⟩ := ks_of h3 k s
      by_cases hP : 1 < mP t
      · cases hx : rowR t (3 + m) true with
        | some x => exact (r12b t _ k s W V m S ks hp h h3 hP x hx).run ok12 ct12 rfl
        | none => exact (r12c t _ k s W V m S ks hp h h3 hP hx).run ok12 ct12 rfl
      · have hP1 : mP t = 1 := by have := mP_pos h; omega
        have hL := one_left h hP1
        have hm := ks.hm
        obtain ⟨x, hx⟩ := moon_rowL h hL (k := 3 + m) (by omega) (by omega)
        obtain ⟨y, hy⟩ := moon_rowL (tu_tn h S) (tu_left hL S) (k := 3 + m) (by omega) (by rw [tuL_len]; omega)
        exact (r12o t _ k s W V m S ks hp h h3 hP1 _ y hx hy).run ok12 ct12 rfl
    · exact (r12s t _ k s hp h h3).run ok12 ct12 rfl
  · exact (r12f t _ k s hp h).run ok12 (.pure _ (.pure _ (.pure _ .nil))) rfl
end Go.Proofs.Rnk

