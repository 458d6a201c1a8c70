/- Layer 8: what is read. -/
import Derived.Test.YtjobibaeklbkmaaDoorEdE
import Derived.Test.YtjobibaeklbkmaaDoorEdG
import Derived.KernelRfl
set_option linter.unusedSimpArgs false
set_option linter.unusedVariables false
set_option linter.unnecessarySimpa false
set_option maxHeartbeats 4000000
set_option maxRecDepth 100000
namespace Go.Proofs.Evd
open Go Go.VM
open Go.Proofs.Sur (W w_wrap w_nat w_inj w_eq0 w_and w_or w_andn w_shl w_shr neg_nat sub_nat tz tz_ok cl bits_cons bits_0 bits_len andn andn_bit andn_le i_wrap i_and i_or i_andn i_shl i_shr bit_01)

theorem okL74 : FokL Tryd.prog none1 74 Tryd.f74 := ⟨mixed, by kernel_rfl, by kernel_rfl, by kernel_rfl⟩
/-- what draws -/
noncomputable abbrev R74 : Code := sq1 (sq2 (sq2 (bd Tryd.f74)))
theorem bd74 : bd Tryd.f74 = .seq (sq1 (bd Tryd.f74)) (.seq (sq1 (sq2 (bd Tryd.f74))) (.seq R74 (sq2 (sq2 (sq2 (bd Tryd.f74)))))) := by kernel_rfl
theorem reg74 : R74 = .region (regId R74) (regOps R74) true := by kernel_rfl
theorem sim74 : simpleRegionV none1 (regOps R74) = true := by kernel_rfl
theorem smp74a : allSimpleM none1 (sq1 (bd Tryd.f74)) = true := by kernel_rfl
theorem smp74b : allSimpleM none1 (sq1 (sq2 (bd Tryd.f74))) = true := by kernel_rfl
theorem smp74c : allSimpleM none1 (sq2 (sq2 (sq2 (bd Tryd.f74)))) = true := by kernel_rfl
theorem noV74 : ∀ (i : Nat) (o : Oper), (regOps R74)[i]? = some o → valCall o.op = true → False := by
  have key : ((regOps R74).toList.all fun o => !valCall o.op) = true := by kernel_rfl
  intro i o ho hv
  have h1 := List.all_eq_true.1 key o (by rw [← Array.mem_def]; exact Array.mem_of_getElem? ho)
  simp [hv] at h1
theorem fre74 : ∀ (i : Nat) (o : Oper), (regOps R74)[i]? = some o → readsV none1 o.op = true → freeV none1 (regOps R74) i = true → i = 4 ∨ i = 5 ∨ i = 6 ∨ i = 9 ∨ i = 10 ∨ i = 11 := by
  have key : ((regOps R74).toList.zipIdx.all fun (o, i) => !(readsV none1 o.op && freeV none1 (regOps R74) i) || (decide (i = 4) || decide (i = 5) || decide (i = 6) || decide (i = 9) || decide (i = 10) || decide (i = 11))) = true := by kernel_rfl
  intro i o ho h1 h2
  have := List.all_eq_true.1 key (o, i) (by rw [List.mem_zipIdx_iff_getElem?]; simpa using ho)
  simp [h1, h2] at this
  omega
theorem op_at {ops : Array Oper} {i : Nat} {o : Oper} {x : Op} {d : Option Tmp} (ho : ops[i]? = some o) (key : (ops[i]?).map (fun o => (o.op, o.dst)) = some (x, d)) : o.op = x ∧ o.dst = d := by
  rw [ho] at key
  simp at key
  exact key
noncomputable abbrev cs74 : List (Ctr Tryd.prog) := [c65.to, c67.to, c22.to, c66.to]
abbrev h74 (R : Nat) (G : W) : H := ⟨[z76, [I R, u64A G]], [], []⟩
abbrev g74 (R : Nat) (G : W) : H := ⟨[[I R, u64A G], [I R, u64A G]], [], []⟩
abbrev A74 (n : Int) (l : List Int) (r : Room) : List AV := [I n, ls l r, .undef, .undef, .ptr 0 0, .bool false, .undef, .undef, .undef, .undef, .undef, .undef, .undef, .undef, .undef, .undef, .undef, .undef, .undef, .undef, .undef, .undef, .undef, .undef, .undef, .undef, .undef, .undef]
abbrev A74b (n : Int) (l : List Int) (r : Room) (R : Nat) (G : W) (ok : Bool) : List AV := [I n, ls l r, .undef, .undef, .ptr 0 0, .bool false, .ptr 1 0, .bool ok, .tup [fA R G, .bool ok], I n, ls l r, .tup [fA R G, .bool ok], fA R G, .bool ok, .undef, .undef, .undef, .undef, .undef, .undef, .undef, .undef, .undef, .undef, .undef, .undef, .undef, .undef]
abbrev A74c (n : Int) (l : List Int) (r : Room) (R : Nat) (G : W) (ok q : Bool) (t0 t1 t2 t3 t4 t5 t6 t7 t8 t9 t10 t11 t12 t13 : AV) : List AV := [I n, ls l r, .undef, .undef, .ptr 0 0, .bool q, .ptr 1 0, .bool ok, .tup [fA R G, .bool ok], I n, ls l r, .tup [fA R G, .bool ok], fA R G, .bool ok, t0, t1, t2, t3, t4, t5, t6, t7, t8, t9, t10, t11, t12, t13]
theorem s74a (n : Int) (l : List Int) (r : Room) : ∃ os, ∀ u : Nat → AV, Led (wS (En6 cs74) (sq1 (bd Tryd.f74)) ([I n, ls l r] ++ List.replicate (Tryd.f74.ntmps - 2) .undef) .nil os (fun y A h _ => Keep (y = .normal ∧ A = A74 n l r ∧ h = ⟨[z76], [], []⟩))) := by
  refine ⟨[], fun u => of_eq (AX.normal = AX.normal ∧ [I n, AV.sl (ints l) l.length r, AV.tup [], AV.tup [], AV.ptr 0 0, AV.bool false, AV.tup [], AV.tup [], AV.tup [], AV.tup [], AV.tup [], AV.tup [], AV.tup [], AV.tup [], AV.tup [], AV.tup [], AV.tup [], AV.tup [], AV.tup [], AV.tup [], AV.tup [], AV.tup [], AV.tup [], AV.tup [], AV.tup [], AV.tup [], AV.tup [], AV.tup []] = [I n, AV.sl (ints l) l.length r, AV.tup [], AV.tup [], AV.ptr 0 0, AV.bool false, AV.tup [], AV.tup [], AV.tup [], AV.tup [], AV.tup [], AV.tup [], AV.tup [], AV.tup [], AV.tup [], AV.tup [], AV.tup [], AV.tup [], AV.tup [], AV.tup [], AV.tup [], AV.tup [], AV.tup [], AV.tup [], AV.tup [], AV.tup [], AV.tup [], AV.tup []] ∧ H.mk [[I 0, AV.int IntKind.u64 (0 : Int)]] [] [] = H.mk [[I 0, AV.int IntKind.u64 (0 : Int)]] [] []) (by kernel_rfl) ?_⟩
  refine ⟨by rfl, ?_⟩
  refine ⟨by rfl, ?_⟩
  rfl
theorem s74b (n : Int) (l : List Int) (r : Room) (p65 : lim l.length ∧ rok l r ∧ rng l) : ∃ os, ∀ u : Nat → AV, Led (wS (En6 cs74) (sq1 (sq2 (bd Tryd.f74))) (A74 n l r) ⟨[z76], [], []⟩ os (fun y A h _ => Keep (y = .normal ∧ A = A74b n l r (gR n l) (gF n l) (gB n l) ∧ h = h74 (gR n l) (gF n l)))) := by
  refine ⟨[Ans.o (Orc.val 11 (AV.tup [AV.agg [I (↑(gR n l) : Int), u64A (gF n l)], AV.bool (gB n l)]) (H.mk [[I 0, AV.int IntKind.u64 (0 : Int)]] [] [])), Ans.bfork (13 : Nat) [] []], fun u => of_eq (aCall (Sof cs74) (AV.fn (Fn.func (65 : Nat)) [] []) [I n, AV.sl (ints l) l.length r] (H.mk [[I 0, AV.int IntKind.u64 (0 : Int)]] [] []) = some (AV.tup [AV.agg [I (↑(gR n l) : Int), u64A (gF n l)], AV.bool (gB n l)], H.mk [[I 0, AV.int IntKind.u64 (0 : Int)]] [] []) ∧ (gB n l = true → AX.normal = AX.normal ∧ [I n, AV.sl (ints l) l.length r, AV.tup [], AV.tup [], AV.ptr 0 0, AV.bool false, AV.ptr 1 0, AV.bool true, AV.tup [AV.agg [I (↑(gR n l) : Int), u64A (gF n l)], AV.bool (gB n l)], I n, AV.sl (ints l) l.length r, AV.tup [AV.agg [I (↑(gR n l) : Int), u64A (gF n l)], AV.bool (gB n l)], AV.agg [I (↑(gR n l) : Int), u64A (gF n l)], AV.bool true, AV.tup [], AV.tup [], AV.tup [], AV.tup [], AV.tup [], AV.tup [], AV.tup [], AV.tup [], AV.tup [], AV.tup [], AV.tup [], AV.tup [], AV.tup [], AV.tup []] = [I n, AV.sl (ints l) l.length r, AV.tup [], AV.tup [], AV.ptr 0 0, AV.bool false, AV.ptr 1 0, AV.bool (gB n l), AV.tup [AV.agg [I (↑(gR n l) : Int), u64A (gF n l)], AV.bool (gB n l)], I n, AV.sl (ints l) l.length r, AV.tup [AV.agg [I (↑(gR n l) : Int), u64A (gF n l)], AV.bool (gB n l)], AV.agg [I (↑(gR n l) : Int), u64A (gF n l)], AV.bool (gB n l), AV.tup [], AV.tup [], AV.tup [], AV.tup [], AV.tup [], AV.tup [], AV.tup [], AV.tup [], AV.tup [], AV.tup [], AV.tup [], AV.tup [], AV.tup [], AV.tup []] ∧ H.mk [[I 0, AV.int IntKind.u64 (0 : Int)], [I (↑(gR n l) : Int), u64A (gF n l)]] [] [] = H.mk [[I 0, AV.int IntKind.u64 (0 : Int)], [I (↑(gR n l) : Int), u64A (gF n l)]] [] []) ∧ (gB n l = false → AX.normal = AX.normal ∧ [I n, AV.sl (ints l) l.length r, AV.tup [], AV.tup [], AV.ptr 0 0, AV.bool false, AV.ptr 1 0, AV.bool false, AV.tup [AV.agg [I (↑(gR n l) : Int), u64A (gF n l)], AV.bool (gB n l)], I n, AV.sl (ints l) l.length r, AV.tup [AV.agg [I (↑(gR n l) : Int), u64A (gF n l)], AV.bool (gB n l)], AV.agg [I (↑(gR n l) : Int), u64A (gF n l)], AV.bool false, AV.tup [], AV.tup [], AV.tup [], AV.tup [], AV.tup [], AV.tup [], AV.tup [], AV.tup [], AV.tup [], AV.tup [], AV.tup [], AV.tup [], AV.tup [], AV.tup []] = [I n, AV.sl (ints l) l.length r, AV.tup [], AV.tup [], AV.ptr 0 0, AV.bool false, AV.ptr 1 0, AV.bool (gB n l), AV.tup [AV.agg [I (↑(gR n l) : Int), u64A (gF n l)], AV.bool (gB n l)], I n, AV.sl (ints l) l.length r, AV.tup [AV.agg [I (↑(gR n l) : Int), u64A (gF n l)], AV.bool (gB n l)], AV.agg [I (↑(gR n l) : Int), u64A (gF n l)], AV.bool (gB n l), AV.tup [], AV.tup [], AV.tup [], AV.tup [], AV.tup [], AV.tup [], AV.tup [], AV.tup [], AV.tup [], AV.tup [], AV.tup [], AV.tup [], AV.tup [], AV.tup []] ∧ H.mk [[I 0, AV.int IntKind.u64 (0 : Int)], [I (↑(gR n l) : Int), u64A (gF n l)]] [] [] = H.mk [[I 0, AV.int IntKind.u64 (0 : Int)], [I (↑(gR n l) : Int), u64A (gF n l)]] [] [])) (by kernel_rfl) ?_⟩
  refine ⟨acall_hit (c := c65.to) (n, l, r) _ rfl p65, ?_⟩
  refine And.intro ?_ ?_
  · skip
    intro w0
    refine ⟨by first | rfl | (rw [w0]), ?_⟩
    refine ⟨by first | rfl | (rw [w0]), ?_⟩
    first | rfl | (rw [w0])
  · skip
    intro w0
    refine ⟨by first | rfl | (rw [w0]), ?_⟩
    refine ⟨by first | rfl | (rw [w0]), ?_⟩
    first | rfl | (rw [w0])
theorem s74c (n : Int) (l : List Int) (r : Room) (R : Nat) (G : W) (ok q : Bool) (t0 t1 t2 t3 t4 t5 t6 t7 t8 t9 t10 t11 t12 t13 : AV) : ∃ os, ∀ u : Nat → AV, Led (wS (En6 cs74) (sq2 (sq2 (sq2 (bd Tryd.f74)))) (A74c n l r R G ok q t0 t1 t2 t3 t4 t5 t6 t7 t8 t9 t10 t11 t12 t13) (g74 R G) os (Kfin (En6 cs74) Tryd.f74 .nil (.tup [fA R G, .bool q], .nil))) := by
  refine ⟨[], fun u => of_eq ((AV.tup [AV.agg [I (↑R : Int), u64A G], AV.bool q], H.mk [] [] []) = (AV.tup [AV.agg [I (↑R : Int), u64A G], AV.bool q], H.mk [] [] [])) (by kernel_rfl) ?_⟩
  first | rfl | exact leave_bs _ (by simp [AV.bnd, AV.bnds])
abbrev B74_0 (n : Int) (l : List Int) (r : Room) (R : Nat) (G : W) : List AV := [I n, ls l r, .undef, .undef, .ptr 0 0, .bool false, .ptr 1 0, .bool false, .tup [fA R G, .bool false], I n, ls l r, .tup [fA R G, .bool false], fA R G, .bool false, fA R G, .bool false, .bool false, .undef, .undef, .undef, .undef, .bool false, .bool false, .undef, .undef, .undef, .undef, .bool false]
abbrev B74_1 (n : Int) (l : List Int) (r : Room) (R : Nat) (G : W) : List AV := [I n, ls l r, .undef, .undef, .ptr 0 0, .bool false, .ptr 1 0, .bool true, .tup [fA R G, .bool true], I n, ls l r, .tup [fA R G, .bool true], fA R G, .bool true, fA R G, .bool true, .bool true, ls l r, fA R G, ls (lst G) (rn (lst G)), .bool false, .bool false, .bool false, .undef, .undef, .undef, .undef, .bool false]
abbrev B74_2 (n : Int) (l : List Int) (r : Room) (R : Nat) (G : W) : List AV := [I n, ls l r, .undef, .undef, .ptr 0 0, .bool false, .ptr 1 0, .bool true, .tup [fA R G, .bool true], I n, ls l r, .tup [fA R G, .bool true], fA R G, .bool true, fA R G, .bool true, .bool true, ls l r, fA R G, ls (lst G) (rn (lst G)), .bool true, .bool true, .bool true, fA R G, fA R G, fA R (cls G), .bool false, .bool false]
abbrev B74_3 (n : Int) (l : List Int) (r : Room) (R : Nat) (G : W) : List AV := [I n, ls l r, .undef, .undef, .ptr 0 0, .bool true, .ptr 1 0, .bool true, .tup [fA R G, .bool true], I n, ls l r, .tup [fA R G, .bool true], fA R G, .bool true, fA R G, .bool true, .bool true, ls l r, fA R G, ls (lst G) (rn (lst G)), .bool true, .bool true, .bool true, fA R G, fA R G, fA R (cls G), .bool true, .bool true]
theorem s74r0 (n : Int) (l : List Int) (r : Room) (R : Nat) (G : W) : ∃ os, ∀ u : Nat → AV, Led (wS (En6 cs74) (sq1 (sq2 (sq2 (bd Tryd.f74)))) (A74b n l r R G false) (h74 R G) os (fun y A h _ => Keep (y = .normal ∧ A = B74_0 n l r R G ∧ h = g74 R G))) := by
  refine ⟨[], fun u => of_eq (AX.normal = AX.normal ∧ [I n, AV.sl (ints l) l.length r, AV.tup [], AV.tup [], AV.ptr 0 0, AV.bool false, AV.ptr 1 0, AV.bool false, AV.tup [AV.agg [I (↑R : Int), u64A G], AV.bool false], I n, AV.sl (ints l) l.length r, AV.tup [AV.agg [I (↑R : Int), u64A G], AV.bool false], AV.agg [I (↑R : Int), u64A G], AV.bool false, AV.agg [I (↑R : Int), u64A G], AV.bool false, AV.bool false, AV.tup [], AV.tup [], AV.tup [], AV.tup [], AV.bool false, AV.bool false, AV.tup [], AV.tup [], AV.tup [], AV.tup [], AV.bool false] = [I n, AV.sl (ints l) l.length r, AV.tup [], AV.tup [], AV.ptr 0 0, AV.bool false, AV.ptr 1 0, AV.bool false, AV.tup [AV.agg [I (↑R : Int), u64A G], AV.bool false], I n, AV.sl (ints l) l.length r, AV.tup [AV.agg [I (↑R : Int), u64A G], AV.bool false], AV.agg [I (↑R : Int), u64A G], AV.bool false, AV.agg [I (↑R : Int), u64A G], AV.bool false, AV.bool false, AV.tup [], AV.tup [], AV.tup [], AV.tup [], AV.bool false, AV.bool false, AV.tup [], AV.tup [], AV.tup [], AV.tup [], AV.bool false] ∧ H.mk [[I (↑R : Int), u64A G], [I (↑R : Int), u64A G]] [] [] = H.mk [[I (↑R : Int), u64A G], [I (↑R : Int), u64A G]] [] []) (by kernel_rfl) ?_⟩
  refine ⟨by rfl, ?_⟩
  refine ⟨by rfl, ?_⟩
  rfl
theorem s74r1 (n : Int) (l : List Int) (r : Room) (R : Nat) (G : W) (p22 : lim l.length ∧ rok l r ∧ rok (lst G) (rn (lst G))) (h1 : decide (l = lst G) = false) : ∃ os, ∀ u : Nat → AV, Led (wS (En6 cs74) (sq1 (sq2 (sq2 (bd Tryd.f74)))) (A74b n l r R G true) (h74 R G) os (fun y A h _ => Keep (y = .normal ∧ A = B74_1 n l r R G ∧ h = g74 R G))) := by
  refine ⟨[Ans.o (Orc.val 19 (AV.sl (ints (lst G)) (lst G).length (rn (lst G))) (H.mk [[I 0, AV.int IntKind.u64 (0 : Int)], [I (↑R : Int), u64A G]] [] [])), Ans.o (Orc.val 20 (AV.bool false) (H.mk [[I 0, AV.int IntKind.u64 (0 : Int)], [I (↑R : Int), u64A G]] [] []))], fun u => of_eq (aCall (Sof cs74) (AV.fn (Fn.func (67 : Nat)) [] []) [AV.agg [I (↑R : Int), u64A G]] (H.mk [[I 0, AV.int IntKind.u64 (0 : Int)], [I (↑R : Int), u64A G]] [] []) = some (AV.sl (ints (lst G)) (lst G).length (rn (lst G)), H.mk [[I 0, AV.int IntKind.u64 (0 : Int)], [I (↑R : Int), u64A G]] [] []) ∧ aCall (Sof cs74) (AV.fn (Fn.func (22 : Nat)) [] []) [AV.sl (ints l) l.length r, AV.sl (ints (lst G)) (lst G).length (rn (lst G))] (H.mk [[I 0, AV.int IntKind.u64 (0 : Int)], [I (↑R : Int), u64A G]] [] []) = some (AV.bool false, H.mk [[I 0, AV.int IntKind.u64 (0 : Int)], [I (↑R : Int), u64A G]] [] []) ∧ AX.normal = AX.normal ∧ [I n, AV.sl (ints l) l.length r, AV.tup [], AV.tup [], AV.ptr 0 0, AV.bool false, AV.ptr 1 0, AV.bool true, AV.tup [AV.agg [I (↑R : Int), u64A G], AV.bool true], I n, AV.sl (ints l) l.length r, AV.tup [AV.agg [I (↑R : Int), u64A G], AV.bool true], AV.agg [I (↑R : Int), u64A G], AV.bool true, AV.agg [I (↑R : Int), u64A G], AV.bool true, AV.bool true, AV.sl (ints l) l.length r, AV.agg [I (↑R : Int), u64A G], AV.sl (ints (lst G)) (lst G).length (rn (lst G)), AV.bool false, AV.bool false, AV.bool false, AV.tup [], AV.tup [], AV.tup [], AV.tup [], AV.bool false] = [I n, AV.sl (ints l) l.length r, AV.tup [], AV.tup [], AV.ptr 0 0, AV.bool false, AV.ptr 1 0, AV.bool true, AV.tup [AV.agg [I (↑R : Int), u64A G], AV.bool true], I n, AV.sl (ints l) l.length r, AV.tup [AV.agg [I (↑R : Int), u64A G], AV.bool true], AV.agg [I (↑R : Int), u64A G], AV.bool true, AV.agg [I (↑R : Int), u64A G], AV.bool true, AV.bool true, AV.sl (ints l) l.length r, AV.agg [I (↑R : Int), u64A G], AV.sl (ints (lst G)) (lst G).length (rn (lst G)), AV.bool false, AV.bool false, AV.bool false, AV.tup [], AV.tup [], AV.tup [], AV.tup [], AV.bool false] ∧ H.mk [[I (↑R : Int), u64A G], [I (↑R : Int), u64A G]] [] [] = H.mk [[I (↑R : Int), u64A G], [I (↑R : Int), u64A G]] [] []) (by kernel_rfl) ?_⟩
  refine ⟨acall_hit (c := c67.to) (R, G) _ rfl trivial, ?_⟩
  refine ⟨acall_b (acall_hit (c := c22.to) (l, r, lst G, rn (lst G)) _ rfl p22) h1, ?_⟩
  refine ⟨by rfl, ?_⟩
  refine ⟨by rfl, ?_⟩
  rfl
theorem s74r2 (n : Int) (l : List Int) (r : Room) (R : Nat) (G : W) (hR : R < 64) (p22 : lim l.length ∧ rok l r ∧ rok (lst G) (rn (lst G))) (h1 : decide (l = lst G) = true) (hq : ((G.toNat : Nat) : Int) ≠ ((cls G).toNat : Nat)) : ∃ os, ∀ u : Nat → AV, Led (wS (En6 cs74) (sq1 (sq2 (sq2 (bd Tryd.f74)))) (A74b n l r R G true) (h74 R G) os (fun y A h _ => Keep (y = .normal ∧ A = B74_2 n l r R G ∧ h = g74 R G))) := by
  have heq : aBin Tryd.prog .eql 76 (fA R G) (fA R (cls G)) = some (.bool false) := by
    have h1 : Tryd.prog.eqGuardType Tryd.prog.depth 76 = false := by kernel_rfl
    have hne : decide ((R, G) = (R, cls G)) = false := decide_eq_false (fun e => hq (by rw [← (Prod.mk.inj e).2]))
    simp only [aBin, h1, fA_eq, hne, eqOnly]; rfl
  refine ⟨[Ans.o (Orc.val 19 (AV.sl (ints (lst G)) (lst G).length (rn (lst G))) (H.mk [[I 0, AV.int IntKind.u64 (0 : Int)], [I (↑R : Int), u64A G]] [] [])), Ans.o (Orc.val 20 (AV.bool true) (H.mk [[I 0, AV.int IntKind.u64 (0 : Int)], [I (↑R : Int), u64A G]] [] [])), Ans.o (Orc.val 25 (AV.agg [I (↑R : Int), u64A (cls G)]) (H.mk [[I 0, AV.int IntKind.u64 (0 : Int)], [I (↑R : Int), u64A G]] [] [])), Ans.bfork (26 : Nat) [] []], fun u => of_eq (aCall (Sof cs74) (AV.fn (Fn.func (67 : Nat)) [] []) [AV.agg [I (↑R : Int), u64A G]] (H.mk [[I 0, AV.int IntKind.u64 (0 : Int)], [I (↑R : Int), u64A G]] [] []) = some (AV.sl (ints (lst G)) (lst G).length (rn (lst G)), H.mk [[I 0, AV.int IntKind.u64 (0 : Int)], [I (↑R : Int), u64A G]] [] []) ∧ aCall (Sof cs74) (AV.fn (Fn.func (22 : Nat)) [] []) [AV.sl (ints l) l.length r, AV.sl (ints (lst G)) (lst G).length (rn (lst G))] (H.mk [[I 0, AV.int IntKind.u64 (0 : Int)], [I (↑R : Int), u64A G]] [] []) = some (AV.bool true, H.mk [[I 0, AV.int IntKind.u64 (0 : Int)], [I (↑R : Int), u64A G]] [] []) ∧ aCall (Sof cs74) (AV.fn (Fn.func (66 : Nat)) [] []) [AV.agg [I (↑R : Int), u64A G]] (H.mk [[I 0, AV.int IntKind.u64 (0 : Int)], [I (↑R : Int), u64A G]] [] []) = some (AV.agg [I (↑R : Int), u64A (cls G)], H.mk [[I 0, AV.int IntKind.u64 (0 : Int)], [I (↑R : Int), u64A G]] [] []) ∧ (((↑R : Int) == (↑R : Int) && ((↑(BitVec.toNat G) : Int) == (↑(BitVec.toNat (cls G)) : Int) && true)) = true → AX.normal = AX.normal ∧ [I n, AV.sl (ints l) l.length r, AV.tup [], AV.tup [], AV.ptr 0 0, AV.bool true, AV.ptr 1 0, AV.bool true, AV.tup [AV.agg [I (↑R : Int), u64A G], AV.bool true], I n, AV.sl (ints l) l.length r, AV.tup [AV.agg [I (↑R : Int), u64A G], AV.bool true], AV.agg [I (↑R : Int), u64A G], AV.bool true, AV.agg [I (↑R : Int), u64A G], AV.bool true, AV.bool true, AV.sl (ints l) l.length r, AV.agg [I (↑R : Int), u64A G], AV.sl (ints (lst G)) (lst G).length (rn (lst G)), AV.bool true, AV.bool true, AV.bool true, AV.agg [I (↑R : Int), u64A G], AV.agg [I (↑R : Int), u64A G], AV.agg [I (↑R : Int), u64A (cls G)], AV.bool true, AV.bool true] = [I n, AV.sl (ints l) l.length r, AV.tup [], AV.tup [], AV.ptr 0 0, AV.bool false, AV.ptr 1 0, AV.bool true, AV.tup [AV.agg [I (↑R : Int), u64A G], AV.bool true], I n, AV.sl (ints l) l.length r, AV.tup [AV.agg [I (↑R : Int), u64A G], AV.bool true], AV.agg [I (↑R : Int), u64A G], AV.bool true, AV.agg [I (↑R : Int), u64A G], AV.bool true, AV.bool true, AV.sl (ints l) l.length r, AV.agg [I (↑R : Int), u64A G], AV.sl (ints (lst G)) (lst G).length (rn (lst G)), AV.bool true, AV.bool true, AV.bool true, AV.agg [I (↑R : Int), u64A G], AV.agg [I (↑R : Int), u64A G], AV.agg [I (↑R : Int), u64A (cls G)], AV.bool false, AV.bool false] ∧ H.mk [[I (↑R : Int), u64A G], [I (↑R : Int), u64A G]] [] [] = H.mk [[I (↑R : Int), u64A G], [I (↑R : Int), u64A G]] [] []) ∧ (((↑R : Int) == (↑R : Int) && ((↑(BitVec.toNat G) : Int) == (↑(BitVec.toNat (cls G)) : Int) && true)) = false → AX.normal = AX.normal ∧ [I n, AV.sl (ints l) l.length r, AV.tup [], AV.tup [], AV.ptr 0 0, AV.bool false, AV.ptr 1 0, AV.bool true, AV.tup [AV.agg [I (↑R : Int), u64A G], AV.bool true], I n, AV.sl (ints l) l.length r, AV.tup [AV.agg [I (↑R : Int), u64A G], AV.bool true], AV.agg [I (↑R : Int), u64A G], AV.bool true, AV.agg [I (↑R : Int), u64A G], AV.bool true, AV.bool true, AV.sl (ints l) l.length r, AV.agg [I (↑R : Int), u64A G], AV.sl (ints (lst G)) (lst G).length (rn (lst G)), AV.bool true, AV.bool true, AV.bool true, AV.agg [I (↑R : Int), u64A G], AV.agg [I (↑R : Int), u64A G], AV.agg [I (↑R : Int), u64A (cls G)], AV.bool false, AV.bool false] = [I n, AV.sl (ints l) l.length r, AV.tup [], AV.tup [], AV.ptr 0 0, AV.bool false, AV.ptr 1 0, AV.bool true, AV.tup [AV.agg [I (↑R : Int), u64A G], AV.bool true], I n, AV.sl (ints l) l.length r, AV.tup [AV.agg [I (↑R : Int), u64A G], AV.bool true], AV.agg [I (↑R : Int), u64A G], AV.bool true, AV.agg [I (↑R : Int), u64A G], AV.bool true, AV.bool true, AV.sl (ints l) l.length r, AV.agg [I (↑R : Int), u64A G], AV.sl (ints (lst G)) (lst G).length (rn (lst G)), AV.bool true, AV.bool true, AV.bool true, AV.agg [I (↑R : Int), u64A G], AV.agg [I (↑R : Int), u64A G], AV.agg [I (↑R : Int), u64A (cls G)], AV.bool false, AV.bool false] ∧ H.mk [[I (↑R : Int), u64A G], [I (↑R : Int), u64A G]] [] [] = H.mk [[I (↑R : Int), u64A G], [I (↑R : Int), u64A G]] [] [])) (by kernel_rfl) ?_⟩
  refine ⟨acall_hit (c := c67.to) (R, G) _ rfl trivial, ?_⟩
  refine ⟨acall_b (acall_hit (c := c22.to) (l, r, lst G, rn (lst G)) _ rfl p22) h1, ?_⟩
  refine ⟨acall_hit (c := c66.to) (R, G) _ rfl hR, ?_⟩
  refine And.intro ?_ ?_
  · skip
    intro w0
    refine ⟨by first | rfl | (exfalso; simp at w0; exact hq (congrArg (fun x : W => ((x.toNat : Nat) : Int)) w0)), ?_⟩
    refine ⟨by first | rfl | (exfalso; simp at w0; exact hq (congrArg (fun x : W => ((x.toNat : Nat) : Int)) w0)), ?_⟩
    first | rfl | (exfalso; simp at w0; exact hq (congrArg (fun x : W => ((x.toNat : Nat) : Int)) w0))
  · skip
    intro w0
    refine ⟨by first | rfl | (exfalso; simp at w0; exact hq (congrArg (fun x : W => ((x.toNat : Nat) : Int)) w0)), ?_⟩
    refine ⟨by first | rfl | (exfalso; simp at w0; exact hq (congrArg (fun x : W => ((x.toNat : Nat) : Int)) w0)), ?_⟩
    first | rfl | (exfalso; simp at w0; exact hq (congrArg (fun x : W => ((x.toNat : Nat) : Int)) w0))
theorem s74r3 (n : Int) (l : List Int) (r : Room) (R : Nat) (G : W) (hR : R < 64) (p22 : lim l.length ∧ rok l r ∧ rok (lst G) (rn (lst G))) (h1 : decide (l = lst G) = true) (hq : cls G = G) : ∃ os, ∀ u : Nat → AV, Led (wS (En6 cs74) (sq1 (sq2 (sq2 (bd Tryd.f74)))) (A74b n l r R G true) (h74 R G) os (fun y A h _ => Keep (y = .normal ∧ A = B74_3 n l r R G ∧ h = g74 R G))) := by
  have heq : aBin Tryd.prog .eql 76 (fA R G) (fA R (cls G)) = some (.bool true) := by
    have h1 : Tryd.prog.eqGuardType Tryd.prog.depth 76 = false := by kernel_rfl
    have hne : decide ((R, G) = (R, cls G)) = true := decide_eq_true (by rw [hq])
    simp only [aBin, h1, fA_eq, hne, eqOnly]; rfl
  refine ⟨[Ans.o (Orc.val 19 (AV.sl (ints (lst G)) (lst G).length (rn (lst G))) (H.mk [[I 0, AV.int IntKind.u64 (0 : Int)], [I (↑R : Int), u64A G]] [] [])), Ans.o (Orc.val 20 (AV.bool true) (H.mk [[I 0, AV.int IntKind.u64 (0 : Int)], [I (↑R : Int), u64A G]] [] [])), Ans.o (Orc.val 25 (AV.agg [I (↑R : Int), u64A (cls G)]) (H.mk [[I 0, AV.int IntKind.u64 (0 : Int)], [I (↑R : Int), u64A G]] [] [])), Ans.bfork (26 : Nat) [] []], fun u => of_eq (aCall (Sof cs74) (AV.fn (Fn.func (67 : Nat)) [] []) [AV.agg [I (↑R : Int), u64A G]] (H.mk [[I 0, AV.int IntKind.u64 (0 : Int)], [I (↑R : Int), u64A G]] [] []) = some (AV.sl (ints (lst G)) (lst G).length (rn (lst G)), H.mk [[I 0, AV.int IntKind.u64 (0 : Int)], [I (↑R : Int), u64A G]] [] []) ∧ aCall (Sof cs74) (AV.fn (Fn.func (22 : Nat)) [] []) [AV.sl (ints l) l.length r, AV.sl (ints (lst G)) (lst G).length (rn (lst G))] (H.mk [[I 0, AV.int IntKind.u64 (0 : Int)], [I (↑R : Int), u64A G]] [] []) = some (AV.bool true, H.mk [[I 0, AV.int IntKind.u64 (0 : Int)], [I (↑R : Int), u64A G]] [] []) ∧ aCall (Sof cs74) (AV.fn (Fn.func (66 : Nat)) [] []) [AV.agg [I (↑R : Int), u64A G]] (H.mk [[I 0, AV.int IntKind.u64 (0 : Int)], [I (↑R : Int), u64A G]] [] []) = some (AV.agg [I (↑R : Int), u64A (cls G)], H.mk [[I 0, AV.int IntKind.u64 (0 : Int)], [I (↑R : Int), u64A G]] [] []) ∧ (((↑R : Int) == (↑R : Int) && ((↑(BitVec.toNat G) : Int) == (↑(BitVec.toNat (cls G)) : Int) && true)) = true → AX.normal = AX.normal ∧ [I n, AV.sl (ints l) l.length r, AV.tup [], AV.tup [], AV.ptr 0 0, AV.bool true, AV.ptr 1 0, AV.bool true, AV.tup [AV.agg [I (↑R : Int), u64A G], AV.bool true], I n, AV.sl (ints l) l.length r, AV.tup [AV.agg [I (↑R : Int), u64A G], AV.bool true], AV.agg [I (↑R : Int), u64A G], AV.bool true, AV.agg [I (↑R : Int), u64A G], AV.bool true, AV.bool true, AV.sl (ints l) l.length r, AV.agg [I (↑R : Int), u64A G], AV.sl (ints (lst G)) (lst G).length (rn (lst G)), AV.bool true, AV.bool true, AV.bool true, AV.agg [I (↑R : Int), u64A G], AV.agg [I (↑R : Int), u64A G], AV.agg [I (↑R : Int), u64A (cls G)], AV.bool true, AV.bool true] = [I n, AV.sl (ints l) l.length r, AV.tup [], AV.tup [], AV.ptr 0 0, AV.bool true, AV.ptr 1 0, AV.bool true, AV.tup [AV.agg [I (↑R : Int), u64A G], AV.bool true], I n, AV.sl (ints l) l.length r, AV.tup [AV.agg [I (↑R : Int), u64A G], AV.bool true], AV.agg [I (↑R : Int), u64A G], AV.bool true, AV.agg [I (↑R : Int), u64A G], AV.bool true, AV.bool true, AV.sl (ints l) l.length r, AV.agg [I (↑R : Int), u64A G], AV.sl (ints (lst G)) (lst G).length (rn (lst G)), AV.bool true, AV.bool true, AV.bool true, AV.agg [I (↑R : Int), u64A G], AV.agg [I (↑R : Int), u64A G], AV.agg [I (↑R : Int), u64A (cls G)], AV.bool true, AV.bool true] ∧ H.mk [[I (↑R : Int), u64A G], [I (↑R : Int), u64A G]] [] [] = H.mk [[I (↑R : Int), u64A G], [I (↑R : Int), u64A G]] [] []) ∧ (((↑R : Int) == (↑R : Int) && ((↑(BitVec.toNat G) : Int) == (↑(BitVec.toNat (cls G)) : Int) && true)) = false → AX.normal = AX.normal ∧ [I n, AV.sl (ints l) l.length r, AV.tup [], AV.tup [], AV.ptr 0 0, AV.bool false, AV.ptr 1 0, AV.bool true, AV.tup [AV.agg [I (↑R : Int), u64A G], AV.bool true], I n, AV.sl (ints l) l.length r, AV.tup [AV.agg [I (↑R : Int), u64A G], AV.bool true], AV.agg [I (↑R : Int), u64A G], AV.bool true, AV.agg [I (↑R : Int), u64A G], AV.bool true, AV.bool true, AV.sl (ints l) l.length r, AV.agg [I (↑R : Int), u64A G], AV.sl (ints (lst G)) (lst G).length (rn (lst G)), AV.bool true, AV.bool true, AV.bool true, AV.agg [I (↑R : Int), u64A G], AV.agg [I (↑R : Int), u64A G], AV.agg [I (↑R : Int), u64A (cls G)], AV.bool false, AV.bool false] = [I n, AV.sl (ints l) l.length r, AV.tup [], AV.tup [], AV.ptr 0 0, AV.bool true, AV.ptr 1 0, AV.bool true, AV.tup [AV.agg [I (↑R : Int), u64A G], AV.bool true], I n, AV.sl (ints l) l.length r, AV.tup [AV.agg [I (↑R : Int), u64A G], AV.bool true], AV.agg [I (↑R : Int), u64A G], AV.bool true, AV.agg [I (↑R : Int), u64A G], AV.bool true, AV.bool true, AV.sl (ints l) l.length r, AV.agg [I (↑R : Int), u64A G], AV.sl (ints (lst G)) (lst G).length (rn (lst G)), AV.bool true, AV.bool true, AV.bool true, AV.agg [I (↑R : Int), u64A G], AV.agg [I (↑R : Int), u64A G], AV.agg [I (↑R : Int), u64A (cls G)], AV.bool true, AV.bool true] ∧ H.mk [[I (↑R : Int), u64A G], [I (↑R : Int), u64A G]] [] [] = H.mk [[I (↑R : Int), u64A G], [I (↑R : Int), u64A G]] [] [])) (by kernel_rfl) ?_⟩
  refine ⟨acall_hit (c := c67.to) (R, G) _ rfl trivial, ?_⟩
  refine ⟨acall_b (acall_hit (c := c22.to) (l, r, lst G, rn (lst G)) _ rfl p22) h1, ?_⟩
  refine ⟨acall_hit (c := c66.to) (R, G) _ rfl hR, ?_⟩
  refine And.intro ?_ ?_
  · skip
    intro w0
    refine ⟨by first | rfl | (exfalso; simp [hq] at w0), ?_⟩
    refine ⟨by first | rfl | (exfalso; simp [hq] at w0), ?_⟩
    first | rfl | (exfalso; simp [hq] at w0)
  · skip
    intro w0
    refine ⟨by first | rfl | (exfalso; simp [hq] at w0), ?_⟩
    refine ⟨by first | rfl | (exfalso; simp [hq] at w0), ?_⟩
    first | rfl | (exfalso; simp [hq] at w0)
theorem k4 : ((regOps R74)[4]?).map (fun o => (o.op, o.dst)) = some (.load 76 (.tmp 6), some 18) := by kernel_rfl
theorem k5 : ((regOps R74)[5]?).map (fun o => (o.op, o.dst)) = some (.call { callee := .value (.func 67), args := #[.tmp 18], argTypes := #[76] }, some 19) := by kernel_rfl
theorem k6 : ((regOps R74)[6]?).map (fun o => (o.op, o.dst)) = some (.call { callee := .value (.func 22), args := #[.tmp 17, .tmp 19], argTypes := #[22, 22] }, some 20) := by kernel_rfl
theorem k9 : ((regOps R74)[9]?).map (fun o => (o.op, o.dst)) = some (.load 76 (.tmp 6), some 23) := by kernel_rfl
theorem k10 : ((regOps R74)[10]?).map (fun o => (o.op, o.dst)) = some (.load 76 (.tmp 6), some 24) := by kernel_rfl
theorem k11 : ((regOps R74)[11]?).map (fun o => (o.op, o.dst)) = some (.call { callee := .value (.func 66), args := #[.tmp 24], argTypes := #[76] }, some 25) := by kernel_rfl
theorem d2 : ((regOps R74)[2]?).bind (·.dst) = some 16 := by kernel_rfl
theorem d8 : ((regOps R74)[8]?).bind (·.dst) = some 22 := by kernel_rfl
theorem g4 : ((regOps R74)[4]?).map (fun o => o.guard) = some (some (2, true)) := by kernel_rfl
theorem g5 : ((regOps R74)[5]?).map (fun o => o.guard) = some (some (2, true)) := by kernel_rfl
theorem g6 : ((regOps R74)[6]?).map (fun o => o.guard) = some (some (2, true)) := by kernel_rfl
theorem g9 : ((regOps R74)[9]?).map (fun o => o.guard) = some (some (8, true)) := by kernel_rfl
theorem g10 : ((regOps R74)[10]?).map (fun o => o.guard) = some (some (8, true)) := by kernel_rfl
theorem g11 : ((regOps R74)[11]?).map (fun o => o.guard) = some (some (8, true)) := by kernel_rfl
theorem want_no {ops : Array Oper} {i g : Nat} {d : Tmp} {o : Oper} {B : List AV} (ho : ops[i]? = some o) (hg : (ops[i]?).map (fun o => o.guard) = some (some (g, true))) (hd : (ops[g]?).bind (·.dst) = some d) (hb : B[d]? = some (.bool false)) (hw : awant ops B o = some true) : False := by
  rw [ho] at hg
  simp only [Option.map_some, Option.some.injEq] at hg
  simp [awant, hg, hd, hb] at hw
theorem ld74 (R : Nat) (G : W) : aLoad Tryd.prog 76 [I R, u64A G] = some (fA R G) := by kernel_rfl
theorem hload {S : Summ} {β : Base} {o : Oper} (hop : o.op = .load 76 (.tmp 6)) {B : List AV} (hB : aev B (.tmp 6) = .ptr 1 0) (R : Nat) (G : W) : aop Tryd.prog S β o B (g74 R G) = some (fA R G, g74 R G) := by
  have h1 : (g74 R G).target (.ptr 1 0) = some [I R, u64A G] := rfl
  simp only [aop, hop, hB, h1, ld74]; rfl
theorem hcom74 (R : Nat) (G : W) (l : List Int) (r : Room) (e1 e2 : Bool) (B : List AV) (b6 : aev B (.tmp 6) = .ptr 1 0) (h16 : B[16]? = some (.bool false) ∨ (lim l.length ∧ rok l r ∧ rok (lst G) (rn (lst G))) ∧ decide (l = lst G) = e1 ∧ B[17]? = some (ls l r) ∧ B[18]? = some (fA R G) ∧ B[19]? = some (ls (lst G) (rn (lst G))) ∧ B[20]? = some (.bool e1))
    (h22 : B[22]? = some (.bool false) ∨ R < 64 ∧ B[23]? = some (fA R G) ∧ B[24]? = some (fA R G) ∧ B[25]? = some (fA R (cls G))) :
    ∀ (i : Nat) (o : Oper), (regOps R74)[i]? = some o → readsV none1 o.op = true → freeV none1 (regOps R74) i = true → awant (regOps R74) B o = some true → ∃ v, aop Tryd.prog (Sof cs74) H.nil.base o B (g74 R G) = some (v, g74 R G) ∧ ∀ d, o.dst = some d → B[d]? = some v := by
  intro i o ho hr hf hw
  have ev : ∀ {t : Tmp} {v : AV}, B[t]? = some v → aev B (.tmp t) = v := fun {t v} h => by simp [aev, List.getD_eq_getElem?_getD, h]
  rcases fre74 i o ho hr hf with rfl | rfl | rfl | rfl | rfl | rfl
  · obtain ⟨hop, hd⟩ := op_at ho k4
    rcases h16 with h | ⟨p22, he, q17, q18, q19, q20⟩
    · exact (want_no ho g4 d2 h hw).elim
    · exact ⟨_, hload hop b6 R G, fun d hq => by rw [hd] at hq; cases hq; exact q18⟩
  · obtain ⟨hop, hd⟩ := op_at ho k5
    rcases h16 with h | ⟨p22, he, q17, q18, q19, q20⟩
    · exact (want_no ho g5 d2 h hw).elim
    · refine ⟨ls (lst G) (rn (lst G)), ?_, fun d hq => by rw [hd] at hq; cases hq; exact q19⟩
      simp only [aop, hop]
      rw [show (#[Operand.tmp 18].toList.map (aev B)) = [fA R G] by simp [q18]]
      exact acall_hit (c := c67.to) (R, G) _ rfl trivial
  · obtain ⟨hop, hd⟩ := op_at ho k6
    rcases h16 with h | ⟨p22, he, q17, q18, q19, q20⟩
    · exact (want_no ho g6 d2 h hw).elim
    · refine ⟨.bool e1, ?_, fun d hq => by rw [hd] at hq; cases hq; exact q20⟩
      simp only [aop, hop]
      rw [show (#[Operand.tmp 17, Operand.tmp 19].toList.map (aev B)) = [ls l r, ls (lst G) (rn (lst G))] by simp [q17, q19]]
      exact acall_b (acall_hit (c := c22.to) (l, r, lst G, rn (lst G)) _ rfl p22) he
  · obtain ⟨hop, hd⟩ := op_at ho k9
    rcases h22 with h | ⟨p, q23, q24, q25⟩
    · exact (want_no ho g9 d8 h hw).elim
    · exact ⟨_, hload hop b6 R G, fun d hq => by rw [hd] at hq; cases hq; exact q23⟩
  · obtain ⟨hop, hd⟩ := op_at ho k10
    rcases h22 with h | ⟨p, q23, q24, q25⟩
    · exact (want_no ho g10 d8 h hw).elim
    · exact ⟨_, hload hop b6 R G, fun d hq => by rw [hd] at hq; cases hq; exact q24⟩
  · obtain ⟨hop, hd⟩ := op_at ho k11
    rcases h22 with h | ⟨p, q23, q24, q25⟩
    · exact (want_no ho g11 d8 h hw).elim
    · refine ⟨fA R (cls G), ?_, fun d hq => by rw [hd] at hq; cases hq; exact q25⟩
      simp only [aop, hop]
      rw [show (#[Operand.tmp 24].toList.map (aev B)) = [fA R G] by simp [q24]]
      exact acall_hit (c := c66.to) (R, G) _ rfl p
theorem rest74 : Rests (En6 cs74) none1 := rests mixed (.pure _ (.pure _ (.pure _ (.pure _ .nil))))
/-- what is read, put together -/
theorem call74 (n : Int) (l : List Int) (r : Room) (p65 : lim l.length ∧ rok l r ∧ rng l) (ok q : Bool) (hok : gB n l = ok) (t0 t1 t2 t3 t4 t5 t6 t7 t8 t9 t10 t11 t12 t13 : AV)
    (hs : SemC Tryd.prog (300 = 300) H.nil.base R74 (A74b n l r (gR n l) (gF n l) ok) (h74 (gR n l) (gF n l)) (fun x A' h' => x = .normal ∧ A' = A74c n l r (gR n l) (gF n l) ok q t0 t1 t2 t3 t4 t5 t6 t7 t8 t9 t10 t11 t12 t13 ∧ h' = g74 (gR n l) (gF n l))) :
    CallOk Tryd.prog 74 [I n, ls l r] .nil (.tup [fA (gR n l) (gF n l), .bool q]) .nil := by
  refine sem_callL (E := En6 cs74) (r := (.tup [fA (gR n l) (gF n l), .bool q], .nil)) (lv := (300 = 300)) okL74 rfl ?_
  rw [bd74]
  refine SemC.seq (K1 := fun y A h => y = .normal ∧ A = A74 n l r ∧ h = ⟨[z76], [], []⟩) ((SemC.read rest74 smp74a (s74a n l r)).mono fun x A' h' ⟨_, hk⟩ => hk) (fun _ _ _ hk => hk.1) (fun A1 h1 hk => ?_)
  obtain ⟨_, rfl, rfl⟩ := hk
  refine SemC.seq (K1 := fun y A h => y = .normal ∧ A = A74b n l r (gR n l) (gF n l) (gB n l) ∧ h = h74 (gR n l) (gF n l)) ((SemC.read rest74 smp74b (s74b n l r p65)).mono fun x A' h' ⟨_, hk⟩ => hk) (fun _ _ _ hk => hk.1) (fun A1 h1 hk => ?_)
  obtain ⟨_, rfl, rfl⟩ := hk
  rw [hok]
  refine SemC.seq hs (fun _ _ _ hk => hk.1) (fun A1 h1 hk => ?_)
  obtain ⟨_, rfl, rfl⟩ := hk
  exact SemC.read rest74 smp74c (s74c n l r (gR n l) (gF n l) ok q t0 t1 t2 t3 t4 t5 t6 t7 t8 t9 t10 t11 t12 t13)
theorem noVh {B : List AV} : ∀ (i : Nat) (o : Oper) (x : Operand) (args : Array Operand) (ts : Array TypeId), (regOps R74)[i]? = some o → o.op = .call { callee := .value x, args := args, argTypes := ts } → valCall o.op = true → awant (regOps R74) B o = some true → ∃ g, aev B x = .fn (.func g) [] [] ∧ none1 g = false :=
  fun i o _ _ _ ho _ hv _ => (noV74 i o ho hv).elim
open Classical in
/-- 'read': false -/
theorem read_no (n : Int) (l : List Int) (r : Room) (p65 : lim l.length ∧ rok l r ∧ rng l) (h : ¬ ∃ F, Fm n l F) : CallOk Tryd.prog 74 [I n, ls l r] .nil (.tup [fA (gR n l) (gF n l), .bool false]) .nil := by
  have hrn := rn_rok (lst (gF n l))
  cases hg : gB n l
  · exact call74 n l r p65 false false hg _ _ _ _ _ _ _ _ _ _ _ _ _ _ (SemC.draw1 rest74 reg74 sim74 (s74r0 n l r (gR n l) (gF n l)) noVh (hcom74 _ _ l r false false _ rfl (.inl rfl) (.inl rfl)))
  · have ho : okS n l := of_decide_eq_true hg
    have eF : gF n l = fm (nl l) := if_pos ho
    have eR : gR n l = 2 ^ n.toNat - 1 := if_pos ho
    have hR : gR n l < 64 := by
      rw [eR]
      have := p64 (n := n.toNat) (by have := ho.1; omega)
      have := Nat.two_pow_pos n.toNat
      omega
    by_cases h1 : l = lst (gF n l)
    · have hne : cls (gF n l) ≠ gF n l := fun e => h (fm_iff.2 ⟨ho, by rw [← eF]; exact h1, by rw [← eF]; exact e⟩)
      have hd : decide (l = lst (gF n l)) = true := decide_eq_true h1
      exact call74 n l r p65 true false hg _ _ _ _ _ _ _ _ _ _ _ _ _ _ (SemC.draw1 rest74 reg74 sim74 (s74r2 n l r (gR n l) (gF n l) hR ⟨p65.1, p65.2.1, hrn⟩ hd (fun e => hne ((w_inj _ _).1 e).symm)) noVh (hcom74 _ _ l r true false _ rfl (.inr ⟨⟨p65.1, p65.2.1, hrn⟩, hd, rfl, rfl, rfl, rfl⟩) (.inr ⟨hR, rfl, rfl, rfl⟩)))
    · have hd : decide (l = lst (gF n l)) = false := decide_eq_false h1
      exact call74 n l r p65 true false hg _ _ _ _ _ _ _ _ _ _ _ _ _ _ (SemC.draw1 rest74 reg74 sim74 (s74r1 n l r (gR n l) (gF n l) ⟨p65.1, p65.2.1, hrn⟩ hd) noVh (hcom74 _ _ l r false false _ rfl (.inr ⟨⟨p65.1, p65.2.1, hrn⟩, hd, rfl, rfl, rfl, rfl⟩) (.inl rfl)))
/-- 'read': a family -/
theorem read_ok (n : Int) (F : W) (r : Room) (hr : rok (lst F) r) (h : Fm n (lst F) F) : CallOk Tryd.prog 74 [I n, ls (lst F) r] .nil (.tup [fA (2 ^ n.toNat - 1) F, .bool true]) .nil := by
  have hrn := rn_rok (lst F)
  have ho := h.ok
  have hg : gB n (lst F) = true := decide_eq_true ho
  have eF : gF n (lst F) = F := (if_pos ho).trans (fm_nl h)
  have eR : gR n (lst F) = 2 ^ n.toNat - 1 := if_pos ho
  have hR : gR n (lst F) < 64 := by
    rw [eR]
    have := p64 (n := n.toNat) (by have := ho.1; omega)
    have := Nat.two_pow_pos n.toNat
    omega
  have hl : lim (lst F).length := by have := lst_len F; simp only [lim]; omega
  have p65 : lim (lst F).length ∧ rok (lst F) r ∧ rng (lst F) := ⟨hl, hr, lst_rng F⟩
  have hd : decide (lst F = lst (gF n (lst F))) = true := decide_eq_true (by rw [eF])
  have hrn' : rok (lst (gF n (lst F))) (rn (lst (gF n (lst F)))) := rn_rok _
  have := call74 n (lst F) r p65 true true hg _ _ _ _ _ _ _ _ _ _ _ _ _ _ (SemC.draw1 rest74 reg74 sim74 (s74r3 n (lst F) r (gR n (lst F)) (gF n (lst F)) hR ⟨hl, hr, hrn'⟩ hd (by rw [eF]; exact cls_fix.2 h.dn)) noVh (hcom74 _ _ (lst F) r true true _ rfl (.inr ⟨⟨hl, hr, hrn'⟩, hd, rfl, rfl, rfl, rfl⟩) (.inr ⟨hR, rfl, rfl, rfl⟩)))
  rw [eR, eF] at this
  exact this
end Go.Proofs.Evd

