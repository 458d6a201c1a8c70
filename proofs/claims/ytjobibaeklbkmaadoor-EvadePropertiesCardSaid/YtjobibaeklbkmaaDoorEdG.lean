/- Layer 8: asking with a memory. -/
import Derived.Test.YtjobibaeklbkmaaDoorEdF
import Derived.KernelRfl
set_option linter.unusedSimpArgs false
set_option linter.unusedVariables false
set_option linter.unnecessarySimpa false
set_option maxHeartbeats 4000000
set_option maxRecDepth 100000
namespace Go.Proofs.Evd
open Go Go.VM
open Go.Proofs.Sur (W w_wrap w_nat w_inj w_eq0 w_and w_or w_andn w_shl w_shr neg_nat sub_nat tz tz_ok cl bits_cons bits_0 bits_len andn andn_bit andn_le i_wrap i_and i_or i_andn i_shl i_shr bit_01)

/-- the memory as a map -/
def enc (M : Mem) : List (AV × AV) := M.map fun e => (fA e.1.1 e.1.2, I e.2)
theorem fA_eq (r : Nat) (F : W) (r' : Nat) (F' : W) : aEq Tryd.prog 76 (fA r F) (fA r' F') = some (decide ((r, F) = (r', F'))) := by
  have hf : flat Tryd.prog 20 76 = some [.int, .int] := by kernel_rfl
  have ha : isAggT Tryd.prog 76 = true := by kernel_rfl
  simp only [aEq, hf, ha, AV.cells?, AV.isAgg, and_self, if_true, eqs, eq1, Bool.and_true, Option.some.injEq]
  rw [Bool.eq_iff_iff]
  simp [Int.natCast_inj]
theorem key_is (r : Nat) (F : W) (e : (Nat × W) × Nat) : keyIs Tryd.prog 76 (fA r F) (fA e.1.1 e.1.2, I e.2) = decide ((r, F) = e.1) := by
  obtain ⟨⟨a, b⟩, c⟩ := e
  simp only [keyIs, fA_eq]
  rw [Bool.eq_iff_iff]; simp
theorem key_ok (r : Nat) (F : W) (M : Mem) : keyOk Tryd.prog 76 (fA r F) (enc M) = true := by
  simp only [keyOk, fA_eq, Bool.and_eq_true, List.all_eq_true]
  refine ⟨⟨by simp, rfl⟩, fun kv h => ?_⟩
  simp only [enc, List.mem_map] at h
  obtain ⟨e, _, rfl⟩ := h
  simp only [fA_eq]; rfl
theorem mfind_ok (r : Nat) (F : W) (M : Mem) : mfind Tryd.prog 76 (fA r F) (enc M) = (look M (r, F)).map fun v => I (v : Nat) := by
  induction M with
  | nil => rfl
  | cons e M ih =>
    simp only [mfind, enc, look, List.map_cons, List.find?_cons, key_is] at ih ⊢
    cases decide ((r, F) = e.1)
    · exact ih
    · rfl
theorem look_ok {r : Nat} {F : W} {M : Mem} {bs : List (List AV)} {ts : List Nat} {v : Nat} (h : look M (r, F) = some v) : aLookup Tryd.prog 87 (.map 0) (fA r F) true ⟨bs, ts, [enc M]⟩ = some (.tup [I v, .bool true]) := by
  have h1 : mapT Tryd.prog 87 = some (76, 3) := by kernel_rfl
  have h2 : zeroA Tryd.prog 3 = some (I 0) := by kernel_rfl
  simp only [aLookup, h1, H.theMap, List.getElem?_cons_zero, h2, key_ok, if_true, mfind_ok, h, Option.map_some]
theorem look_no {r : Nat} {F : W} {M : Mem} {bs : List (List AV)} {ts : List Nat} (h : look M (r, F) = none) : aLookup Tryd.prog 87 (.map 0) (fA r F) true ⟨bs, ts, [enc M]⟩ = some (.tup [I 0, .bool false]) := by
  have h1 : mapT Tryd.prog 87 = some (76, 3) := by kernel_rfl
  have h2 : zeroA Tryd.prog 3 = some (I 0) := by kernel_rfl
  simp only [aLookup, h1, H.theMap, List.getElem?_cons_zero, h2, key_ok, if_true, mfind_ok, h, Option.map_none]
theorem mput_ok (r : Nat) (F : W) (v : Nat) (M : Mem) : mput Tryd.prog 76 (fA r F) (I v) (enc M) = enc (put M (r, F) v) := by
  have ha : (enc M).any (keyIs Tryd.prog 76 (fA r F)) = M.any fun e => decide ((r, F) = e.1) := by
    simp only [enc, List.any_map]
    congr 1; funext e; exact key_is r F e
  simp only [mput, put, ha]
  split
  · simp only [enc, List.map_map]
    apply List.map_congr_left; intro e _
    simp only [Function.comp_apply, key_is]
    split <;> rfl
  · simp [enc]
theorem upd_ok (r : Nat) (F : W) (v : Nat) (M : Mem) (bs : List (List AV)) (ts : List Nat) : aMapUpdate Tryd.prog 87 (.map 0) (fA r F) (I v) ⟨bs, ts, [enc M]⟩ = some ⟨bs, ts, [enc (put M (r, F) v)]⟩ := by
  have h1 : mapT Tryd.prog 87 = some (76, 3) := by kernel_rfl
  simp only [aMapUpdate, h1, List.getElem?_cons_zero, key_ok, AV.bnd, Bool.and_self, if_true, mput_ok, List.set_cons_zero]
theorem enc_inj {M N : Mem} (h : enc M = enc N) : M = N := by
  induction M generalizing N with
  | nil => cases N <;> simp [enc] at h ⊢
  | cons e M ih =>
    cases N with
    | nil => simp [enc] at h
    | cons f N =>
      simp only [enc, List.map_cons, List.cons.injEq, Prod.mk.injEq, AV.agg.injEq, AV.int.injEq, true_and, and_true] at h
      obtain ⟨⟨⟨h1, h2⟩, h3⟩, h4⟩ := h
      obtain ⟨⟨a, b⟩, c⟩ := e
      obtain ⟨⟨a', b'⟩, c'⟩ := f
      simp only at h1 h2 h3
      have h2 : b = b' := (w_inj _ _).1 h2
      rw [ih h4, h2, show a = a' by omega, show c = c' by omega]
abbrev m76 : FuncId → Bool := fun i => i == 76
abbrev m115 : FuncId → Bool := fun i => i == 115
def Ok76 (m : Nat) : Prop := ∀ r F M, r < 64 → pc r = m → Snd M → CallOk Tryd.prog 76 [asA r F] ⟨[], [], [enc M]⟩ (I (ask r F)) ⟨[], [], [enc (needM m r F M).2]⟩
theorem okL76 : FokL Tryd.prog m115 76 Tryd.f76 := ⟨mixed, by kernel_rfl, by kernel_rfl, by kernel_rfl⟩
theorem okL115 : FokL Tryd.prog m76 115 Tryd.f115 := ⟨mixed, by kernel_rfl, by kernel_rfl, by kernel_rfl⟩
noncomputable def c76 (m : Nat) (ih : Ok76 m) : Ctr Tryd.prog where
  f := 76
  X := Nat × W × Mem
  args x := [asA x.1 x.2.1]
  pre x h := (x.1 < 64 ∧ pc x.1 = m ∧ Snd x.2.2) ∧ h.maps = [enc x.2.2]
  res x h := (I (ask x.1 x.2.1), ⟨h.blk, h.toks, [enc (needM m x.1 x.2.1 x.2.2).2]⟩)
  det := by
    rintro ⟨r, F, M⟩ ⟨r', F', M'⟩ h e ⟨_, p⟩ ⟨_, q⟩
    simp at e p q
    obtain ⟨h1, h2⟩ := e
    have h1 : r = r' := by omega
    rw [p, List.cons.injEq] at q
    have h3 := enc_inj q.1
    clear p q
    subst h1; subst h2; subst h3; rfl
  ok := by
    rintro ⟨r, F, M⟩ ⟨bs, ts, ms⟩ ⟨⟨h1, h2, h3⟩, hm⟩
    simp only at h1 h2 h3 hm
    subst hm
    exact ⟨okL76.call, CallOk.frameM (by simp [AV.bnds, AV.bnd]) (by simp [AV.bnd]) (ih r F M h1 h2 h3) bs ts []⟩
theorem keep76 (m : Nat) (ih : Ok76 m) : KeepS (EnM [c116o, c76 m ih]) m76 := keep_sof (fun c hc hM x h _ => by
  simp only [List.mem_cons, List.not_mem_nil, or_false] at hc
  rcases hc with rfl | rfl
  · cases hM
  · rfl)
theorem rests76 (m : Nat) (ih : Ok76 m) : Rests (EnM [c116o, c76 m ih]) m76 := rests mixed (.rd _ c116o_rd (.eff _ rfl .nil))
theorem simp115 : allSimpleL m76 (loopAt Tryd.f115 0) = true := by kernel_rfl
abbrev bA (r : Nat) (F : W) : List AV := [I r, u64A F, .map 0]
abbrev h115 (r : Nat) (F : W) (M : Mem) : H := ⟨[bA r F], [], [enc M]⟩
abbrev o115 (m r : Nat) (F : W) (M : Mem) : List Out := [.mk Unit (.exit 0) [4, 5] (fun _ => True) (fun _ => [I ((bst (go ask r F) r 6).1 : Nat), I ((bst (go ask r F) r 6).2 : Nat)]) (fun _ => h115 r F (loopM (goM (needM m) r F) r M 6).2) (fun _ => [])]
theorem pick_max (a b : Nat) : pick2 true (a : Int) (b : Int) = ((max a b : Nat) : Int) := by
  simp only [pick2, if_true]
  split <;> omega
theorem lp115 (m : Nat) (ih : Ok76 m) (r : Nat) (F : W) (M : Mem) (hr : r < 64) (hm : pc r = m + 1) (hM : Snd M) :
    LoopS (EnM [c116o, c76 m ih]) (loopAt Tryd.f115 0) 36 [1, 4, 5, 8] [.ptr 0 0, I 0, I 7, I 0] (h115 r F M) (o115 m r F M) := by
  have hlo := loop_ok (F := F) hr hm (fun r' F' M' a b c => need_ok m r' F' M' a b c) hM
  refine loop_sL (rests76 m ih) (keep76 m ih) simp115 none (by intro _ h; cases h) (fun j vs h => h = h115 r F (loopM (goM (needM m) r F) r M j).2 ∧ vs = [.ptr 0 0, I ((bst (go ask r F) r j).1 : Nat), I ((bst (go ask r F) r j).2 : Nat), I j]) 6 ⟨rfl, rfl⟩ (by intro _ h; cases h) ?_
  rintro j vs h hj ⟨rfl, rfl⟩
  by_cases hz : (j : Int) < 6
  · have hz' : j < 6 := by omega
    obtain ⟨l1, l2⟩ := hlo j (by omega)
    have ev0 := i_shr (a := r) (n := j) (by omega)
    have ev1 := i_bit (a := r) (n := j) (by omega)
    cases hb : r.testBit j
    · rw [hb] at ev1
      have ev1 : IntKind.i64.wrap ((BitVec.ofInt IntKind.i64.bits ((r >>> j : Nat) : Int) &&& BitVec.ofInt IntKind.i64.bits 1).toNat : Int) = 0 := ev1
      have e1 : bst (go ask r F) r (j + 1) = bst (go ask r F) r j := by simp only [bst, hb]; simp
      have e2 : loopM (goM (needM m) r F) r M (j + 1) = loopM (goM (needM m) r F) r M j := by simp only [loopM, hb]; simp
      generalize loopM (goM (needM m) r F) r M j = q at l1 l2 e2 ⊢
      generalize bst (go ask r F) r j = b at l1 e1 ⊢
      refine ⟨[Ans.o (Orc.b true), Ans.o (Orc.val 15 (I (↑(r >>> j) : Int)) H.nil), Ans.o (Orc.val 16 (I (↑false.toNat : Int)) H.nil), Ans.o Orc.dflt], fun u => of_eq ((↑j : Int) < (6 : Int) ∧ aBin Tryd.prog BinOp.shr (3 : Nat) (I (↑r : Int)) (I (↑j : Int)) = some (I (↑(r >>> j) : Int)) ∧ aBin Tryd.prog BinOp.and (3 : Nat) (I (↑(r >>> j) : Int)) (I 1) = some (I 0) ∧ IntKind.i64.wrap ((↑j : Int) + (1 : Int)) = (↑j : Int) + (1 : Int) ∧ (36 : Nat) = (36 : Nat) ∧ j < (6 : Nat) ∧ Keep (H.mk [[I (↑r : Int), u64A F, AV.map (0 : Nat)]] [] [enc q.snd] = H.mk [[I (↑r : Int), u64A F, AV.map (0 : Nat)]] [] [enc (loopM (goM (needM m) r F) r M (j + (1 : Nat))).snd] ∧ [AV.ptr 0 0, I (↑b.fst : Int), I (↑b.snd : Int), I ((↑j : Int) + (1 : Int))] = [AV.ptr 0 0, I (↑(bst (go ask r F) r (j + (1 : Nat))).fst : Int), I (↑(bst (go ask r F) r (j + (1 : Nat))).snd : Int), I (↑(j + (1 : Nat)) : Int)])) (by kernel_rfl) ?_⟩
      refine ⟨by first | with_reducible assumption | omega | assumption, ?_⟩
      refine ⟨by first | exact told_shr (by first | exact Int.natCast_nonneg _ | omega) (by with_reducible assumption) | exact told_shr (by omega) rfl, ?_⟩
      refine ⟨told_and (by with_reducible assumption), ?_⟩
      refine ⟨wr _ (by omega) (by omega), ?_⟩
      refine ⟨by first | with_reducible assumption | omega | assumption, ?_⟩
      refine ⟨by first | with_reducible assumption | omega | assumption, ?_⟩
      exact ⟨by rw [e2], by rw [e1]; rfl⟩
    · rw [hb] at ev1
      have ev1 : IntKind.i64.wrap ((BitVec.ofInt IntKind.i64.bits ((r >>> j : Nat) : Int) &&& BitVec.ofInt IntKind.i64.bits 1).toNat : Int) = 1 := ev1
      have hp := pc_rst hz' hr hb
      have hrl := rst_lt (x := j) hr
      have hpm : pc (rst r j) = m := by omega
      have e1 : bst (go ask r F) r (j + 1) = if go ask r F j < (bst (go ask r F) r j).2 then (j, go ask r F j) else bst (go ask r F) r j := by simp only [bst, hb]; simp
      have a1 := need_ok m (rst r j) (wot F j) (loopM (goM (needM m) r F) r M j).2 hrl (by omega) l2
      have a2 := need_ok m (rst r j) (lnk F j) (needM m (rst r j) (wot F j) (loopM (goM (needM m) r F) r M j).2).2 hrl (by omega) a1.2
      have e2 : (loopM (goM (needM m) r F) r M (j + 1)).2 = (needM m (rst r j) (lnk F j) (needM m (rst r j) (wot F j) (loopM (goM (needM m) r F) r M j).2).2).2 := by simp only [loopM, hb]; simp
      generalize loopM (goM (needM m) r F) r M j = q at l1 l2 e2 a1 a2 ⊢
      generalize bst (go ask r F) r j = b at l1 e1 ⊢
      have k1 := ask_6 (F := wot F j) hrl
      have k2 := ask_6 (F := lnk F j) hrl
      have ev2 : IntKind.i64.wrap (1 + pick2 true ((ask (rst r j) (wot F j) : Nat) : Int) ((ask (rst r j) (lnk F j) : Nat) : Int)) = ((go ask r F j : Nat) : Int) := by
        rw [pick_max, wr _ (by omega) (by omega)]; simp only [go]; omega
      have p1 : r < 64 ∧ j < 6 := ⟨hr, hz'⟩
      have ne1 : ∀ M : Mem, [enc M] ≠ [] := fun M => by simp
      by_cases hlt : go ask r F j < b.2
      · have hlt' : ((go ask r F j : Nat) : Int) < (b.2 : Nat) := by omega
        rw [if_pos hlt] at e1
        refine ⟨[Ans.o (Orc.b true), Ans.o (Orc.val 15 (I (↑(r >>> j) : Int)) H.nil), Ans.o (Orc.val 16 (I (↑true.toNat : Int)) H.nil), Ans.o Orc.dflt, Ans.o (Orc.val 20 (AV.agg [I (↑(rst r j) : Int), u64A (wot F j), AV.map (0 : Nat)]) (H.mk [[I (↑r : Int), u64A F, AV.map (0 : Nat)]] [] [enc q.snd])), Ans.o (Orc.val 21 (I (↑(ask (rst r j) (wot F j)) : Int)) (H.mk [[I (↑r : Int), u64A F, AV.map (0 : Nat)]] [] [enc (needM m (rst r j) (wot F j) q.snd).snd])), Ans.o (Orc.val 24 (AV.agg [I (↑(rst r j) : Int), u64A (lnk F j), AV.map (0 : Nat)]) (H.mk [[I (↑r : Int), u64A F, AV.map (0 : Nat)]] [] [enc (needM m (rst r j) (wot F j) q.snd).snd])), Ans.o (Orc.val 25 (I (↑(ask (rst r j) (lnk F j)) : Int)) (H.mk [[I (↑r : Int), u64A F, AV.map (0 : Nat)]] [] [enc (needM m (rst r j) (lnk F j) (needM m (rst r j) (wot F j) q.snd).snd).snd])), Ans.o (Orc.val 27 (I (↑(go ask r F j) : Int)) H.nil), Ans.o (Orc.b true)], fun u => of_eq ((↑j : Int) < (6 : Int) ∧ aBin Tryd.prog BinOp.shr (3 : Nat) (I (↑r : Int)) (I (↑j : Int)) = some (I (↑(r >>> j) : Int)) ∧ aBin Tryd.prog BinOp.and (3 : Nat) (I (↑(r >>> j) : Int)) (I 1) = some (I 1) ∧ aCall (Sof [c116o, c76 m ih]) (AV.fn (Fn.func (116 : Nat)) [] []) [AV.agg [I (↑r : Int), u64A F, AV.map (0 : Nat)], AV.fn (Fn.func (70 : Nat)) [] [], I (↑j : Int)] (H.mk [[I (↑r : Int), u64A F, AV.map (0 : Nat)]] [] [enc q.snd]) = some (AV.agg [I (↑(rst r j) : Int), u64A (wot F j), AV.map (0 : Nat)], H.mk [[I (↑r : Int), u64A F, AV.map (0 : Nat)]] [] [enc q.snd]) ∧ aCall (Sof [c116o, c76 m ih]) (AV.fn (Fn.func (76 : Nat)) [] []) [AV.agg [I (↑(rst r j) : Int), u64A (wot F j), AV.map (0 : Nat)]] (H.mk [[I (↑r : Int), u64A F, AV.map (0 : Nat)]] [] [enc q.snd]) = some (I (↑(ask (rst r j) (wot F j)) : Int), H.mk [[I (↑r : Int), u64A F, AV.map (0 : Nat)]] [] [enc (needM m (rst r j) (wot F j) q.snd).snd]) ∧ aCall (Sof [c116o, c76 m ih]) (AV.fn (Fn.func (116 : Nat)) [] []) [AV.agg [I (↑r : Int), u64A F, AV.map (0 : Nat)], AV.fn (Fn.func (69 : Nat)) [] [], I (↑j : Int)] (H.mk [[I (↑r : Int), u64A F, AV.map (0 : Nat)]] [] [enc (needM m (rst r j) (wot F j) q.snd).snd]) = some (AV.agg [I (↑(rst r j) : Int), u64A (lnk F j), AV.map (0 : Nat)], H.mk [[I (↑r : Int), u64A F, AV.map (0 : Nat)]] [] [enc (needM m (rst r j) (wot F j) q.snd).snd]) ∧ aCall (Sof [c116o, c76 m ih]) (AV.fn (Fn.func (76 : Nat)) [] []) [AV.agg [I (↑(rst r j) : Int), u64A (lnk F j), AV.map (0 : Nat)]] (H.mk [[I (↑r : Int), u64A F, AV.map (0 : Nat)]] [] [enc (needM m (rst r j) (wot F j) q.snd).snd]) = some (I (↑(ask (rst r j) (lnk F j)) : Int), H.mk [[I (↑r : Int), u64A F, AV.map (0 : Nat)]] [] [enc (needM m (rst r j) (lnk F j) (needM m (rst r j) (wot F j) q.snd).snd).snd]) ∧ aBin Tryd.prog BinOp.add (3 : Nat) (I 1) (I (pick2 true (↑(ask (rst r j) (wot F j)) : Int) (↑(ask (rst r j) (lnk F j)) : Int))) = some (I (↑(go ask r F j) : Int)) ∧ (↑(go ask r F j) : Int) < (↑b.snd : Int) ∧ IntKind.i64.wrap ((↑j : Int) + (1 : Int)) = (↑j : Int) + (1 : Int) ∧ (36 : Nat) = (36 : Nat) ∧ j < (6 : Nat) ∧ Keep (H.mk [[I (↑r : Int), u64A F, AV.map (0 : Nat)]] [] [enc (needM m (rst r j) (lnk F j) (needM m (rst r j) (wot F j) q.snd).snd).snd] = H.mk [[I (↑r : Int), u64A F, AV.map (0 : Nat)]] [] [enc (loopM (goM (needM m) r F) r M (j + (1 : Nat))).snd] ∧ [AV.ptr 0 0, I (↑j : Int), I (↑(go ask r F j) : Int), I ((↑j : Int) + (1 : Int))] = [AV.ptr 0 0, I (↑(bst (go ask r F) r (j + (1 : Nat))).fst : Int), I (↑(bst (go ask r F) r (j + (1 : Nat))).snd : Int), I (↑(j + (1 : Nat)) : Int)])) (by kernel_rfl) ?_⟩
        refine ⟨by first | with_reducible assumption | omega | assumption, ?_⟩
        refine ⟨by first | exact told_shr (by first | exact Int.natCast_nonneg _ | omega) (by with_reducible assumption) | exact told_shr (by omega) rfl, ?_⟩
        refine ⟨told_and (by with_reducible assumption), ?_⟩
        refine ⟨by first | exact acall_hit (c := c116o) (.inr (r, F, j)) _ rfl ⟨p1, ne1 _⟩ | exact acall_hit (c := c116o) (.inl (r, F, j)) _ rfl ⟨p1, ne1 _⟩, ?_⟩
        refine ⟨by first | exact acall_hit (c := c76 m ih) (rst r j, wot F j, q.2) _ rfl ⟨⟨hrl, hpm, l2⟩, rfl⟩ | exact acall_hit (c := c76 m ih) (rst r j, lnk F j, (needM m (rst r j) (wot F j) q.2).2) _ rfl ⟨⟨hrl, hpm, a1.2⟩, rfl⟩, ?_⟩
        refine ⟨by first | exact acall_hit (c := c116o) (.inr (r, F, j)) _ rfl ⟨p1, ne1 _⟩ | exact acall_hit (c := c116o) (.inl (r, F, j)) _ rfl ⟨p1, ne1 _⟩, ?_⟩
        refine ⟨by first | exact acall_hit (c := c76 m ih) (rst r j, wot F j, q.2) _ rfl ⟨⟨hrl, hpm, l2⟩, rfl⟩ | exact acall_hit (c := c76 m ih) (rst r j, lnk F j, (needM m (rst r j) (wot F j) q.2).2) _ rfl ⟨⟨hrl, hpm, a1.2⟩, rfl⟩, ?_⟩
        refine ⟨told_add (by with_reducible assumption), ?_⟩
        refine ⟨by first | with_reducible assumption | omega | assumption, ?_⟩
        refine ⟨wr _ (by omega) (by omega), ?_⟩
        refine ⟨by first | with_reducible assumption | omega | assumption, ?_⟩
        refine ⟨by first | with_reducible assumption | omega | assumption, ?_⟩
        exact ⟨by rw [e2], by rw [e1]; rfl⟩
      · have hlt' : ((b.2 : Nat) : Int) ≤ (go ask r F j : Nat) := by omega
        rw [if_neg hlt] at e1
        refine ⟨[Ans.o (Orc.b true), Ans.o (Orc.val 15 (I (↑(r >>> j) : Int)) H.nil), Ans.o (Orc.val 16 (I (↑true.toNat : Int)) H.nil), Ans.o Orc.dflt, Ans.o (Orc.val 20 (AV.agg [I (↑(rst r j) : Int), u64A (wot F j), AV.map (0 : Nat)]) (H.mk [[I (↑r : Int), u64A F, AV.map (0 : Nat)]] [] [enc q.snd])), Ans.o (Orc.val 21 (I (↑(ask (rst r j) (wot F j)) : Int)) (H.mk [[I (↑r : Int), u64A F, AV.map (0 : Nat)]] [] [enc (needM m (rst r j) (wot F j) q.snd).snd])), Ans.o (Orc.val 24 (AV.agg [I (↑(rst r j) : Int), u64A (lnk F j), AV.map (0 : Nat)]) (H.mk [[I (↑r : Int), u64A F, AV.map (0 : Nat)]] [] [enc (needM m (rst r j) (wot F j) q.snd).snd])), Ans.o (Orc.val 25 (I (↑(ask (rst r j) (lnk F j)) : Int)) (H.mk [[I (↑r : Int), u64A F, AV.map (0 : Nat)]] [] [enc (needM m (rst r j) (lnk F j) (needM m (rst r j) (wot F j) q.snd).snd).snd])), Ans.o (Orc.val 27 (I (↑(go ask r F j) : Int)) H.nil), Ans.o (Orc.b false)], fun u => of_eq ((↑j : Int) < (6 : Int) ∧ aBin Tryd.prog BinOp.shr (3 : Nat) (I (↑r : Int)) (I (↑j : Int)) = some (I (↑(r >>> j) : Int)) ∧ aBin Tryd.prog BinOp.and (3 : Nat) (I (↑(r >>> j) : Int)) (I 1) = some (I 1) ∧ aCall (Sof [c116o, c76 m ih]) (AV.fn (Fn.func (116 : Nat)) [] []) [AV.agg [I (↑r : Int), u64A F, AV.map (0 : Nat)], AV.fn (Fn.func (70 : Nat)) [] [], I (↑j : Int)] (H.mk [[I (↑r : Int), u64A F, AV.map (0 : Nat)]] [] [enc q.snd]) = some (AV.agg [I (↑(rst r j) : Int), u64A (wot F j), AV.map (0 : Nat)], H.mk [[I (↑r : Int), u64A F, AV.map (0 : Nat)]] [] [enc q.snd]) ∧ aCall (Sof [c116o, c76 m ih]) (AV.fn (Fn.func (76 : Nat)) [] []) [AV.agg [I (↑(rst r j) : Int), u64A (wot F j), AV.map (0 : Nat)]] (H.mk [[I (↑r : Int), u64A F, AV.map (0 : Nat)]] [] [enc q.snd]) = some (I (↑(ask (rst r j) (wot F j)) : Int), H.mk [[I (↑r : Int), u64A F, AV.map (0 : Nat)]] [] [enc (needM m (rst r j) (wot F j) q.snd).snd]) ∧ aCall (Sof [c116o, c76 m ih]) (AV.fn (Fn.func (116 : Nat)) [] []) [AV.agg [I (↑r : Int), u64A F, AV.map (0 : Nat)], AV.fn (Fn.func (69 : Nat)) [] [], I (↑j : Int)] (H.mk [[I (↑r : Int), u64A F, AV.map (0 : Nat)]] [] [enc (needM m (rst r j) (wot F j) q.snd).snd]) = some (AV.agg [I (↑(rst r j) : Int), u64A (lnk F j), AV.map (0 : Nat)], H.mk [[I (↑r : Int), u64A F, AV.map (0 : Nat)]] [] [enc (needM m (rst r j) (wot F j) q.snd).snd]) ∧ aCall (Sof [c116o, c76 m ih]) (AV.fn (Fn.func (76 : Nat)) [] []) [AV.agg [I (↑(rst r j) : Int), u64A (lnk F j), AV.map (0 : Nat)]] (H.mk [[I (↑r : Int), u64A F, AV.map (0 : Nat)]] [] [enc (needM m (rst r j) (wot F j) q.snd).snd]) = some (I (↑(ask (rst r j) (lnk F j)) : Int), H.mk [[I (↑r : Int), u64A F, AV.map (0 : Nat)]] [] [enc (needM m (rst r j) (lnk F j) (needM m (rst r j) (wot F j) q.snd).snd).snd]) ∧ aBin Tryd.prog BinOp.add (3 : Nat) (I 1) (I (pick2 true (↑(ask (rst r j) (wot F j)) : Int) (↑(ask (rst r j) (lnk F j)) : Int))) = some (I (↑(go ask r F j) : Int)) ∧ (↑b.snd : Int) ≤ (↑(go ask r F j) : Int) ∧ IntKind.i64.wrap ((↑j : Int) + (1 : Int)) = (↑j : Int) + (1 : Int) ∧ (36 : Nat) = (36 : Nat) ∧ j < (6 : Nat) ∧ Keep (H.mk [[I (↑r : Int), u64A F, AV.map (0 : Nat)]] [] [enc (needM m (rst r j) (lnk F j) (needM m (rst r j) (wot F j) q.snd).snd).snd] = H.mk [[I (↑r : Int), u64A F, AV.map (0 : Nat)]] [] [enc (loopM (goM (needM m) r F) r M (j + (1 : Nat))).snd] ∧ [AV.ptr 0 0, I (↑b.fst : Int), I (↑b.snd : Int), I ((↑j : Int) + (1 : Int))] = [AV.ptr 0 0, I (↑(bst (go ask r F) r (j + (1 : Nat))).fst : Int), I (↑(bst (go ask r F) r (j + (1 : Nat))).snd : Int), I (↑(j + (1 : Nat)) : Int)])) (by kernel_rfl) ?_⟩
        refine ⟨by first | with_reducible assumption | omega | assumption, ?_⟩
        refine ⟨by first | exact told_shr (by first | exact Int.natCast_nonneg _ | omega) (by with_reducible assumption) | exact told_shr (by omega) rfl, ?_⟩
        refine ⟨told_and (by with_reducible assumption), ?_⟩
        refine ⟨by first | exact acall_hit (c := c116o) (.inr (r, F, j)) _ rfl ⟨p1, ne1 _⟩ | exact acall_hit (c := c116o) (.inl (r, F, j)) _ rfl ⟨p1, ne1 _⟩, ?_⟩
        refine ⟨by first | exact acall_hit (c := c76 m ih) (rst r j, wot F j, q.2) _ rfl ⟨⟨hrl, hpm, l2⟩, rfl⟩ | exact acall_hit (c := c76 m ih) (rst r j, lnk F j, (needM m (rst r j) (wot F j) q.2).2) _ rfl ⟨⟨hrl, hpm, a1.2⟩, rfl⟩, ?_⟩
        refine ⟨by first | exact acall_hit (c := c116o) (.inr (r, F, j)) _ rfl ⟨p1, ne1 _⟩ | exact acall_hit (c := c116o) (.inl (r, F, j)) _ rfl ⟨p1, ne1 _⟩, ?_⟩
        refine ⟨by first | exact acall_hit (c := c76 m ih) (rst r j, wot F j, q.2) _ rfl ⟨⟨hrl, hpm, l2⟩, rfl⟩ | exact acall_hit (c := c76 m ih) (rst r j, lnk F j, (needM m (rst r j) (wot F j) q.2).2) _ rfl ⟨⟨hrl, hpm, a1.2⟩, rfl⟩, ?_⟩
        refine ⟨told_add (by with_reducible assumption), ?_⟩
        refine ⟨by first | with_reducible assumption | omega | assumption, ?_⟩
        refine ⟨wr _ (by omega) (by omega), ?_⟩
        refine ⟨by first | with_reducible assumption | omega | assumption, ?_⟩
        refine ⟨by first | with_reducible assumption | omega | assumption, ?_⟩
        exact ⟨by rw [e2], by rw [e1]; rfl⟩
  · have hz : (6 : Int) ≤ j := by omega
    have hj' : j = 6 := by omega
    subst hj'
    refine ⟨[Ans.o Orc.dflt], fun u => of_eq ((36 : Nat) = (36 : Nat) ∧ hits [Out.mk Unit (AX.exit (0 : Nat)) [(4 : Nat), (5 : Nat)] (fun x => True) (fun x => [I (↑(bst (go ask r F) r (6 : Nat)).fst : Int), I (↑(bst (go ask r F) r (6 : Nat)).snd : Int)]) (fun x => h115 r F (loopM (goM (needM m) r F) r M (6 : Nat)).snd) fun x => []] (AX.exit (0 : Nat)) [u (0 : Nat), AV.ptr 0 0, u (2 : Nat), u (3 : Nat), I (↑(bst (go ask r F) r (6 : Nat)).fst : Int), I (↑(bst (go ask r F) r (6 : Nat)).snd : Int), u (6 : Nat), u (7 : Nat), I 6, AV.bool false, u (10 : Nat), u (11 : Nat), u (12 : Nat), u (13 : Nat), u (14 : Nat), u (15 : Nat), u (16 : Nat), u (17 : Nat), u (18 : Nat), u (19 : Nat), u (20 : Nat), u (21 : Nat), u (22 : Nat), u (23 : Nat), u (24 : Nat), u (25 : Nat), u (26 : Nat), u (27 : Nat), u (28 : Nat), u (29 : Nat), u (30 : Nat), u (31 : Nat), u (32 : Nat), u (33 : Nat), u (34 : Nat), u (35 : Nat)] (H.mk [[I (↑r : Int), u64A F, AV.map (0 : Nat)]] [] [enc (loopM (goM (needM m) r F) r M (6 : Nat)).snd])) (by kernel_rfl) ?_⟩
    refine ⟨by first | with_reducible assumption | omega | assumption, ?_⟩
    exact .inl ⟨(), trivial, rfl, rfl, rfl⟩
theorem r115 (m : Nat) (ih : Ok76 m) (r : Nat) (F : W) (M : Mem) (hr : r < 64) (hm : pc r = m + 1) (hM : Snd M) :
    Body (EnM [c116o, c76 m ih]) m76 Tryd.f115 [asA r F] ⟨[], [], [enc M]⟩ (.tup [I ((bst (go ask r F) r 6).1 : Nat), I ((bst (go ask r F) r 6).2 : Nat)], ⟨[], [], [enc (loopM (goM (needM m) r F) r M 6).2]⟩) := by
  have hl := lp115 m ih r F M hr hm hM
  refine body_s ([Ans.loop [(1 : Nat), (4 : Nat), (5 : Nat), (8 : Nat)] [Out.mk Unit (AX.exit (0 : Nat)) [(4 : Nat), (5 : Nat)] (fun x => True) (fun x => [I (↑(bst (go ask r F) r (6 : Nat)).fst : Int), I (↑(bst (go ask r F) r (6 : Nat)).snd : Int)]) (fun x => h115 r F (loopM (goM (needM m) r F) r M (6 : Nat)).snd) fun y => []]]) (LoopS (Env.mk Tryd.prog (Sof [c116o, c76 m ih]) (Pof (P := Tryd.prog) []) (Base.mk (0 : Nat) (0 : Nat) (1 : Nat)) (300 : Nat)) (loopAt Tryd.f115 (0 : Nat)) (36 : Nat) [(1 : Nat), (4 : Nat), (5 : Nat), (8 : Nat)] [AV.ptr 0 0, I 0, I 7, I 0] (H.mk [[I (↑r : Int), u64A F, AV.map (0 : Nat)]] [] [enc M]) [Out.mk Unit (AX.exit (0 : Nat)) [(4 : Nat), (5 : Nat)] (fun x => True) (fun x => [I (↑(bst (go ask r F) r (6 : Nat)).fst : Int), I (↑(bst (go ask r F) r (6 : Nat)).snd : Int)]) (fun x => h115 r F (loopM (goM (needM m) r F) r M (6 : Nat)).snd) fun y => []] ∧ (∀ (y : Unit), True → ∀ (u : Nat → AV), (AV.tup [I (↑(bst (go ask r F) r (6 : Nat)).fst : Int), I (↑(bst (go ask r F) r (6 : Nat)).snd : Int)], H.mk [] [] [enc (loopM (goM (needM m) r F) r M (6 : Nat)).snd]) = (AV.tup [I (↑(bst (go ask r F) r (6 : Nat)).fst : Int), I (↑(bst (go ask r F) r (6 : Nat)).snd : Int)], H.mk [] [] [enc (loopM (goM (needM m) r F) r M (6 : Nat)).snd])) ∧ True) (by kernel_rfl) ?_
  refine ⟨hl, ?_⟩
  refine And.intro ?_ ?_
  · skip
    intro y
    intro w1
    intro u
    rfl
  · skip
    trivial
theorem simpB115 : allSimpleL m76 (bd Tryd.f115) = true := by kernel_rfl
theorem call115 (m : Nat) (ih : Ok76 m) (r : Nat) (F : W) (M : Mem) (hr : r < 64) (hm : pc r = m + 1) (hM : Snd M) :
    CallOk Tryd.prog 115 [asA r F] ⟨[], [], [enc M]⟩ (.tup [I ((bst (go ask r F) r 6).1 : Nat), I ((bst (go ask r F) r 6).2 : Nat)]) ⟨[], [], [enc (loopM (goM (needM m) r F) r M 6).2]⟩ :=
  (r115 m ih r F M hr hm hM).callL okL115 simpB115 (rests76 m ih) (keep76 m ih) rfl
noncomputable def c115 (m : Nat) (ih : Ok76 m) : Ctr Tryd.prog where
  f := 115
  X := Nat × W × Mem
  args x := [asA x.1 x.2.1]
  pre x h := (x.1 < 64 ∧ pc x.1 = m + 1 ∧ Snd x.2.2) ∧ h.maps = [enc x.2.2]
  res x h := (.tup [I ((bst (go ask x.1 x.2.1) x.1 6).1 : Nat), I ((bst (go ask x.1 x.2.1) x.1 6).2 : Nat)], ⟨h.blk, h.toks, [enc (loopM (goM (needM m) x.1 x.2.1) x.1 x.2.2 6).2]⟩)
  det := by
    rintro ⟨r, F, M⟩ ⟨r', F', M'⟩ h e ⟨_, p⟩ ⟨_, q⟩
    simp at e p q
    obtain ⟨h1, h2⟩ := e
    have h1 : r = r' := by omega
    rw [p, List.cons.injEq] at q
    have h3 := enc_inj q.1
    clear p q
    subst h1; subst h2; subst h3; rfl
  ok := by
    rintro ⟨r, F, M⟩ ⟨bs, ts, ms⟩ ⟨⟨h1, h2, h3⟩, hm⟩
    simp only at h1 h2 h3 hm
    subst hm
    exact ⟨okL115.call, CallOk.frameM (by simp [AV.bnds, AV.bnd]) (by simp [AV.bnds, AV.bnd]) (call115 m ih r F M h1 h2 h3) bs ts []⟩
theorem ok76 : FokM Tryd.prog m115 76 Tryd.f76 := ⟨mixed, by kernel_rfl, by kernel_rfl, by kernel_rfl, by kernel_rfl⟩
theorem r76s (cs : List (Ctr Tryd.prog)) (h1 : Sof (P := Tryd.prog) (c114.to :: cs) = Sof (c114.to :: cs)) (r : Nat) (F : W) (M : Mem) (hr : r < 64) (hst : stl r F = true) :
    Body (EnM [c114.to]) m115 Tryd.f76 [asA r F] ⟨[], [], [enc M]⟩ (I (0 : Nat), ⟨[], [], [enc M]⟩) := by
  refine body_s ([Ans.o (Orc.val 7 (AV.bool true) (H.mk [[I (↑r : Int), u64A F, AV.map (0 : Nat)]] [] [enc M]))]) (aCall (Sof [c114.to]) (AV.fn (Fn.func (114 : Nat)) [] []) [AV.agg [I (↑r : Int), u64A F]] (H.mk [[I (↑r : Int), u64A F, AV.map (0 : Nat)]] [] [enc M]) = some (AV.bool true, H.mk [[I (↑r : Int), u64A F, AV.map (0 : Nat)]] [] [enc M]) ∧ (I 0, H.mk [] [] [enc M]) = (I 0, H.mk [] [] [enc M])) (by kernel_rfl) ?_
  refine ⟨acall_b (acall_hit (c := c114.to) (r, F) _ rfl hr) hst, ?_⟩
  rfl
theorem r76k (m : Nat) (ih : Ok76 m) (r : Nat) (F : W) (M : Mem) (hr : r < 64) (hst : stl r F = false) (v : Nat) (hv : look M (r, F) = some v) :
    Body (EnM [c114.to, c115 m ih]) m115 Tryd.f76 [asA r F] ⟨[], [], [enc M]⟩ (I v, ⟨[], [], [enc M]⟩) := by
  have hlk := look_ok (bs := [bA r F]) (ts := []) hv
  refine body_s ([Ans.o (Orc.val 7 (AV.bool false) (H.mk [[I (↑r : Int), u64A F, AV.map (0 : Nat)]] [] [enc M])), Ans.o (Orc.val 13 (AV.tup [I (↑v : Int), AV.bool true]) H.nil)]) (aCall (Sof [c114.to, c115 m ih]) (AV.fn (Fn.func (114 : Nat)) [] []) [AV.agg [I (↑r : Int), u64A F]] (H.mk [[I (↑r : Int), u64A F, AV.map (0 : Nat)]] [] [enc M]) = some (AV.bool false, H.mk [[I (↑r : Int), u64A F, AV.map (0 : Nat)]] [] [enc M]) ∧ aLookup Tryd.prog (87 : Nat) (AV.map (0 : Nat)) (AV.agg [I (↑r : Int), u64A F]) true (H.mk [[I (↑r : Int), u64A F, AV.map (0 : Nat)]] [] [enc M]) = some (AV.tup [I (↑v : Int), AV.bool true]) ∧ (I (↑v : Int), H.mk [] [] [enc M]) = (I (↑v : Int), H.mk [] [] [enc M])) (by kernel_rfl) ?_
  refine ⟨acall_b (acall_hit (c := c114.to) (r, F) _ rfl hr) hst, ?_⟩
  refine ⟨hlk, ?_⟩
  rfl
theorem r76n (m : Nat) (ih : Ok76 m) (r : Nat) (F : W) (M : Mem) (hr : r < 64) (hm : pc r = m + 1) (hM : Snd M) (hst : stl r F = false) (hv : look M (r, F) = none) :
    Body (EnM [c114.to, c115 m ih]) m115 Tryd.f76 [asA r F] ⟨[], [], [enc M]⟩ (I ((bst (go ask r F) r 6).2 : Nat), ⟨[], [], [enc (put (loopM (goM (needM m) r F) r M 6).2 (r, F) (bst (go ask r F) r 6).2)]⟩) := by
  have hlk := look_no (bs := [bA r F]) (ts := []) hv
  have hup := upd_ok r F (bst (go ask r F) r 6).2 (loopM (goM (needM m) r F) r M 6).2 [bA r F] []
  have p115 : (r < 64 ∧ pc r = m + 1 ∧ Snd M) := ⟨hr, hm, hM⟩
  refine body_s ([Ans.o (Orc.val 7 (AV.bool false) (H.mk [[I (↑r : Int), u64A F, AV.map (0 : Nat)]] [] [enc M])), Ans.o (Orc.val 13 (AV.tup [I 0, AV.bool false]) H.nil), Ans.o (Orc.val 20 (AV.tup [I (↑(bst (go ask r F) r (6 : Nat)).fst : Int), I (↑(bst (go ask r F) r (6 : Nat)).snd : Int)]) (H.mk [[I (↑r : Int), u64A F, AV.map (0 : Nat)]] [] [enc (loopM (goM (needM m) r F) r M (6 : Nat)).snd])), Ans.o (Orc.val 9999 AV.undef (H.mk [bA r F] [] [enc (put (loopM (goM (needM m) r F) r M (6 : Nat)).snd (r, F) (bst (go ask r F) r (6 : Nat)).snd)]))]) (aCall (Sof [c114.to, c115 m ih]) (AV.fn (Fn.func (114 : Nat)) [] []) [AV.agg [I (↑r : Int), u64A F]] (H.mk [[I (↑r : Int), u64A F, AV.map (0 : Nat)]] [] [enc M]) = some (AV.bool false, H.mk [[I (↑r : Int), u64A F, AV.map (0 : Nat)]] [] [enc M]) ∧ aLookup Tryd.prog (87 : Nat) (AV.map (0 : Nat)) (AV.agg [I (↑r : Int), u64A F]) true (H.mk [[I (↑r : Int), u64A F, AV.map (0 : Nat)]] [] [enc M]) = some (AV.tup [I 0, AV.bool false]) ∧ aCall (Sof [c114.to, c115 m ih]) (AV.fn (Fn.func (115 : Nat)) [] []) [AV.agg [I (↑r : Int), u64A F, AV.map (0 : Nat)]] (H.mk [[I (↑r : Int), u64A F, AV.map (0 : Nat)]] [] [enc M]) = some (AV.tup [I (↑(bst (go ask r F) r (6 : Nat)).fst : Int), I (↑(bst (go ask r F) r (6 : Nat)).snd : Int)], H.mk [[I (↑r : Int), u64A F, AV.map (0 : Nat)]] [] [enc (loopM (goM (needM m) r F) r M (6 : Nat)).snd]) ∧ aMapUpdate Tryd.prog (87 : Nat) (AV.map (0 : Nat)) (AV.agg [I (↑r : Int), u64A F]) (I (↑(bst (go ask r F) r (6 : Nat)).snd : Int)) (H.mk [[I (↑r : Int), u64A F, AV.map (0 : Nat)]] [] [enc (loopM (goM (needM m) r F) r M (6 : Nat)).snd]) = some (H.mk [[I (↑r : Int), u64A F, AV.map (0 : Nat)]] [] [enc (put (loopM (goM (needM m) r F) r M (6 : Nat)).snd (r, F) (bst (go ask r F) r (6 : Nat)).snd)]) ∧ (I (↑(bst (go ask r F) r (6 : Nat)).snd : Int), H.mk [] [] [enc (put (loopM (goM (needM m) r F) r M (6 : Nat)).snd (r, F) (bst (go ask r F) r (6 : Nat)).snd)]) = (I (↑(bst (go ask r F) r (6 : Nat)).snd : Int), H.mk [] [] [enc (put (loopM (goM (needM m) r F) r M (6 : Nat)).snd (r, F) (bst (go ask r F) r (6 : Nat)).snd)])) (by kernel_rfl) ?_
  refine ⟨acall_b (acall_hit (c := c114.to) (r, F) _ rfl hr) hst, ?_⟩
  refine ⟨hlk, ?_⟩
  refine ⟨acall_hit (c := c115 m ih) (r, F, M) _ rfl ⟨p115, rfl⟩, ?_⟩
  refine ⟨hup, ?_⟩
  rfl
theorem ok76_all : ∀ m, Ok76 m
  | 0 => fun r F M hr hm hM => by
    have := pc_zero hr hm
    subst this
    rw [ask_stl (stl_zero F)]
    exact (r76s [] rfl 0 F M (by decide) (stl_zero F)).call ok76 (rests mixed (.pure _ .nil)) rfl
  | m + 1 => fun r F M hr hm hM => by
    have ih := ok76_all m
    by_cases hst : stl r F = true
    · rw [ask_stl hst]
      have : (needM (m + 1) r F M).2 = M := by simp [needM, hst]
      rw [this]
      exact (r76s [] rfl r F M hr hst).call ok76 (rests mixed (.pure _ .nil)) rfl
    · have hst' : stl r F = false := by simpa using hst
      have hlo := loop_ok (F := F) hr hm (fun r' F' M' a b c => need_ok m r' F' M' a b c) hM 6 (Nat.le_refl _)
      cases hv : look M (r, F) with
      | some v =>
        have e := snd_look hM hv
        have : (needM (m + 1) r F M).2 = M := by simp [needM, hst, hv]
        rw [this, ← e]
        exact (r76k m ih r F M hr hst' v hv).call ok76 (rests mixed (.pure _ (.eff _ rfl .nil))) rfl
      | none =>
        have e : (needM (m + 1) r F M).2 = put (loopM (goM (needM m) r F) r M 6).2 (r, F) (bst (go ask r F) r 6).2 := by simp [needM, hst, hv, hlo.1]
        rw [e, ask_eq hr hst]
        exact (r76n m ih r F M hr hm hM hst' hv).call ok76 (rests mixed (.pure _ (.eff _ rfl .nil))) rfl
end Go.Proofs.Evd

