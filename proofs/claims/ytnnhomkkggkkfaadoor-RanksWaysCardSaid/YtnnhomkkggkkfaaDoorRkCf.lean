/- Layer 2: the program's search for a row, from its beginning. -/
import Derived.Test.YtnnhomkkggkkfaaDoorRkCe
import Derived.KernelRfl
set_option linter.unusedSimpArgs false
set_option linter.unusedVariables false
set_option linter.unnecessarySimpa false
set_option maxHeartbeats 4000000
set_option maxRecDepth 100000
namespace Go.Proofs.Rnk
open Go Go.VM
open Go.Proofs.Sur (andn andn_bit andn_le i_wrap i_and i_or i_xor i_andn i_shl i_shr bit_01)
section
attribute [local instance] wrI
structure ExT (t : List Int) (f k : Nat) : Prop where
  h : Tn t
  kf : f + 1 = k
  k8 : k ≤ 8
theorem met_all {t : List Int} (h8 : t.length ≤ 8) : metF t (alls t.length) = 0 := by
  have hA := alls_lt h8
  apply Nat.eq_of_testBit_eq
  intro i
  rw [metF, andn_bit (by omega), Nat.zero_testBit]
  cases (alls t.length).testBit i <;> rfl
abbrev exT (t : List Int) (f p : Nat) : Option (List Int) := exR t [(p : Int)] f (andn (alls t.length) (2 ^ p))
theorem ExT.next {t : List Int} {f k p : Nat} (h : ExT t f k) (hp : p < t.length) : ExP t [(p : Int)] f k (andn (alls t.length) (2 ^ p)) (andn (alls t.length) (2 ^ p) &&& sn t p) where
  w := by
    have h8 := h.h.s.2
    have w0 : WyP t [] .no (f + 1) k 0 := ⟨h.h, fun _ => no_ne, by have := h.kf; simp only [List.length_nil]; omega, by have := h.kf; omega, h.k8, by omega, fun j hj => by simp at hj⟩
    have := w0.next hp
    rw [met_next h8 (alls_lt h8) hp, met_all h8]
    exact this
  ne := by simp
  f8 := by have := alls_lt h.h.s.2; have := andn_le (a := alls t.length) (b := 2 ^ p) (by omega); omega
  fi i hi := by
    have hA := alls_lt h.h.s.2
    rw [andn_bit (by omega), Bool.and_eq_true, alls_bit] at hi
    simpa using hi.1
  n8 := by have := alls_lt h.h.s.2; have := andn_le (a := alls t.length) (b := 2 ^ p) (by omega); have := @Nat.and_le_left (andn (alls t.length) (2 ^ p)) (sn t p); omega
  ni i := by
    have := last_app [] p
    simp only [List.nil_append] at this
    rw [Nat.testBit_and, Bool.and_eq_true, this]
theorem hitT (f : Nat) (hok : Ok94 f) {t : List Int} {k j p : Nat} (h : ExT t f k) (hp : p < t.length) {o : Option (List Int)} (ho : exT t f p = o) :
    aCall (SofO (c94T f hok) [d72]) (.fn (.func 94) [] [.ptr 3 0, .ptr 1 0, .ptr 2 0, .ptr 4 0, .ptr 0 0]) [I (andn (alls t.length) (2 ^ p) : Nat), I (andn (alls t.length) (2 ^ p) &&& sn t p : Nat)] ⟨bQ t k (alls t.length) (alls t.length) j (8 + 2 * j) [(p : Int)], [], []⟩ = some (.bool o.isSome, ⟨bQ t k (alls t.length) (alls t.length) j (8 + 2 * j + 1) (o.getD [(p : Int)]), [], []⟩) := by
  subst ho
  exact acallO_hit (b := c94T f hok) ⟨t, k, [(p : Int)], andn (alls t.length) (2 ^ p), andn (alls t.length) (2 ^ p) &&& sn t p, alls t.length, alls t.length, j, 8 + 2 * j⟩ rfl ⟨rfl, h.next hp, by show 8 ≤ 8 + 2 * j; omega⟩
theorem keepT {t : List Int} {k fr nx j : Nat} : (⟨[ls t .no] :: [I k] :: [fitV] :: [rowV (8 + 2 * j + 1) 0] :: [selfV] :: [I fr] :: [.bool false] :: [I (dI (nx : Nat) (j + 1))] :: (List.replicate (8 + 2 * j + 1 - 8) [] ++ [ints [((el nx j : Nat) : Int)]]), [], []⟩ : H) = ⟨bV t k fr nx (j + 1), [], []⟩ := by
  have h1 : ZT nx (j + 1) = List.replicate (2 * j + 1) [] ++ [ints [((el nx j : Nat) : Int)]] := by rw [ZT, if_neg (by omega)]; rfl
  have h2 : RC (j + 1) = rowV (8 + 2 * j + 1) 0 := by rw [RC, if_neg (by omega), show 7 + 2 * (j + 1) = 8 + 2 * j + 1 by omega]
  rw [bV, h1, h2, show 8 + 2 * j + 1 - 8 = 2 * j + 1 by omega]
theorem itT {p : Pures} {β : Base} {nx : Nat} (hs : nx < 256) {h0 : H} (hh : h0.blk[7]? = some [I (nx : Nat)]) : IterOk Tryd.prog β 95 [.ptr 7 0] h0 h0 (pc nx) (pxs nx) (powI 7 (nx : Nat)) (pnxI 7 (nx : Nat)) :=
  @IterOk.up instInhabitedGlobs wrI (fun _ => rfl) _ _ _ _ _ _ _ _ _ _ (@players_itI p β 7 (nx : Nat) ⟨by omega, by omega⟩ h0 hh)
structure TTs (t : List Int) (k j0 j : Nat) (H : H) : Prop where
  e : H = ⟨[ls t .no] :: [I k] :: [fitV] :: [RC j] :: [selfV] :: [I (alls t.length : Nat)] :: [.bool false] :: [I (dI (alls t.length : Nat) j)] :: ZT (alls t.length) j, [], []⟩
  le : j ≤ j0
abbrev hWt (t : List Int) (k : Nat) (j : Nat) (l : List Int) : H := ⟨[ls t .no] :: [I k] :: [fitV] :: [rowV (8 + 2 * j + 1) l.length] :: [selfV] :: [I (alls t.length : Nat)] :: [.bool true] :: [I (dI (alls t.length : Nat) j)] :: (List.replicate (8 + 2 * j + 1 - 8) [] ++ [ints l]), [], []⟩
abbrev o94t (t : List Int) (k : Nat) (j : Nat) (l : List Int) : List Out := [.mk Unit .ret [9] (fun y => y = ()) (fun _ => [.ptr 6 0]) (fun _ => hWt t k j l) (fun _ => [])]
theorem lp94t (f : Nat) (hok : Ok94 f) (t : List Int) (k j0 : Nat) (l : List Int) (h : ExT t f k) (h0 : j0 < pc (alls t.length)) (hno : ∀ j, j < j0 → exT t f (el (alls t.length) j) = none) (hyes : exT t f (el (alls t.length) j0) = some l) :
    RangeS (EnB (c94T f hok) [d72]) (rangeAt Tryd.f94 0) 51 [2, 5, 6, 7, 9, 27] [.ptr 3 0, .ptr 4 0, .ptr 0 0, .ptr 5 0, .ptr 6 0, .fn (.func 95) [] [.ptr 7 0]] ⟨bV t k (alls t.length) (alls t.length) 0, [], []⟩ (o94t t k j0 l) := by
  have hR : Rests (EnB (c94T f hok) [d72]) M94 := restsO mixed rfl (.eff d72 rfl .nil)
  have h8 := h.h.s.2
  refine range_at hR (by kernel_rfl) simp94 (itT (p := Pof (P := Tryd.prog) []) (alls_lt h8) rfl) (fun u => rfl) (fun k => rfl) none (by intro nb h; cases h) (fun j H => TTs t k j0 j H) ⟨rfl, Nat.zero_le _⟩ (by intro nb h; cases h) ?_ ?_
  · rintro j _ hj hown ⟨rfl, hle⟩
    have p2 : (alls t.length).testBit (el (alls t.length) j) = true := (el_mem hj).1
    have p3 : el (alls t.length) j < t.length := by rw [alls_bit] at p2; simpa using p2
    have hA : aAppend Tryd.prog 22 22 (RC j) (.sl [I (el (alls t.length) j : Nat)] 1 .full) ⟨[ls t .no] :: [I k] :: [fitV] :: [RC j] :: [selfV] :: [I (alls t.length : Nat)] :: [.bool false] :: [I (dI (alls t.length : Nat) j)] :: ZT (alls t.length) j, [], []⟩ = some (rowV (8 + 2 * j) [((el (alls t.length) j : Nat) : Int)].length, ⟨[ls t .no] :: [I k] :: [fitV] :: [RC j] :: [selfV] :: [I (alls t.length : Nat)] :: [.bool false] :: [I (dI (alls t.length : Nat) j)] :: (List.replicate (8 + 2 * j - 8) [] ++ [ints [((el (alls t.length) j : Nat) : Int)]]), [], []⟩) := ap_T
    obtain ⟨rc, hrc⟩ : ∃ rc, rc = RC j := ⟨_, rfl⟩
    rw [← hrc] at hA ⊢
    have hri : Room.no ≠ Room.nil := no_ne
    have hf8 := alls_lt h8
    have hsn := h.h.sn (el (alls t.length) j)
    have hal : andn (alls t.length) (2 ^ el (alls t.length) j) ≤ alls t.length := andn_le (by omega)
    have ev1 := pw_shl (n := el (alls t.length) j) (by omega)
    have ev2 : IntKind.i64.wrap ((BitVec.ofInt IntKind.i64.bits ((alls t.length : Nat) : Int) &&& ~~~BitVec.ofInt IntKind.i64.bits ((2 ^ el (alls t.length) j : Nat) : Int)).toNat : Int) = ((andn (alls t.length) (2 ^ el (alls t.length) j) : Nat) : Int) := i_andn (by omega)
    have ev3 : IntKind.i64.wrap ((BitVec.ofInt IntKind.i64.bits ((andn (alls t.length) (2 ^ el (alls t.length) j) : Nat) : Int) &&& BitVec.ofInt IntKind.i64.bits (t.getD (el (alls t.length) j) i0)).toNat : Int) = ((andn (alls t.length) (2 ^ el (alls t.length) j) &&& sn t (el (alls t.length) j) : Nat) : Int) := by
      have := i_and (a := andn (alls t.length) (2 ^ el (alls t.length) j)) (b := sn t (el (alls t.length) j)) (by omega) (by omega)
      rw [hsn.2] at this
      exact this
    have hS : ∀ H, aSlice Tryd.prog 22 (rowV (8 + 2 * j + 1) 1) none (some (I 0)) none H = some (rowV (8 + 2 * j + 1) 0) := fun H => sl_row (m := 0) (by kernel_rfl) (by omega)
    by_cases hlt : j < j0
    · have hc : aCall (SofO (c94T f hok) [d72]) (.fn (.func 94) [] [.ptr 3 0, .ptr 1 0, .ptr 2 0, .ptr 4 0, .ptr 0 0]) [I (andn (alls t.length) (2 ^ el (alls t.length) j) : Nat), I (andn (alls t.length) (2 ^ el (alls t.length) j) &&& sn t (el (alls t.length) j) : Nat)] ⟨bQ t k (alls t.length) (alls t.length) j (8 + 2 * j) [((el (alls t.length) j : Nat) : Int)], [], []⟩ = some (.bool false, ⟨bQ t k (alls t.length) (alls t.length) j (8 + 2 * j + 1) [((el (alls t.length) j : Nat) : Int)], [], []⟩) := hitT f hok h p3 (hno j hlt)
      refine ⟨[Ans.o (Orc.val 32 (rowV ((8 : Nat) + (2 : Nat) * j) [(↑(el (alls t.length) j) : Int)].length) (H.mk ([ls t Room.no] :: [I (↑k : Int)] :: [fitV] :: [rc] :: [selfV] :: [I (↑(alls t.length) : Int)] :: [AV.bool false] :: [I (dI (↑(alls t.length) : Int) j)] :: (List.replicate ((8 : Nat) + (2 : Nat) * j - (8 : Nat)) [] ++ [ints [(↑(el (alls t.length) j) : Int)]])) [] [])), Ans.o (Orc.val 35 (I (↑((2 : Nat) ^ el (alls t.length) j) : Int)) H.nil), Ans.o (Orc.val 36 (I (↑(andn (alls t.length) ((2 : Nat) ^ el (alls t.length) j)) : Int)) H.nil), Ans.o (Orc.val 42 (AV.cptr (ints (List.drop (el (alls t.length) j) t))) H.nil), Ans.o (Orc.val 43 (I (t.getD (el (alls t.length) j) i0)) H.nil), Ans.o (Orc.val 44 (I (↑(andn (alls t.length) ((2 : Nat) ^ el (alls t.length) j) &&& sn t (el (alls t.length) j)) : Int)) H.nil), Ans.o (Orc.val 45 (AV.bool false) (H.mk ([ls t Room.no] :: [I (↑k : Int)] :: [AV.fn (Fn.func (65 : FuncId)) [] []] :: [AV.msl ((8 : Nat) + (2 : Nat) * j + (1 : Nat)) (0 : Nat) (1 : Nat) (9223372036854775808 : Nat) (1 : Nat)] :: [AV.fn (Fn.func (94 : FuncId)) [] [AV.ptr 3 0, AV.ptr 1 0, AV.ptr 2 0, AV.ptr 4 0, AV.ptr 0 0]] :: [I (↑(alls t.length) : Int)] :: [AV.bool false] :: [I (dI (↑(alls t.length) : Int) j)] :: (List.replicate ((8 : Nat) + (2 : Nat) * j + (1 : Nat) - (8 : Nat)) [] ++ [ints [(↑(el (alls t.length) j) : Int)]])) [] []))], fun u => of_eq (aAppend Tryd.prog 22 (22 : Nat) rc (AV.sl [I (↑(el (alls t.length) j) : Int)] (1 : Nat) Room.full) (H.mk ([ls t Room.no] :: [I (↑k : Int)] :: [AV.fn (Fn.func (65 : FuncId)) [] []] :: [rc] :: [AV.fn (Fn.func (94 : FuncId)) [] [AV.ptr 3 0, AV.ptr 1 0, AV.ptr 2 0, AV.ptr 4 0, AV.ptr 0 0]] :: [I (↑(alls t.length) : Int)] :: [AV.bool false] :: [I (dI (↑(alls t.length) : Int) j)] :: ZT (alls t.length) j) [] []) = some (AV.msl ((8 : Nat) + (2 : Nat) * j) (0 : Nat) (1 : Nat) (9223372036854775808 : Nat) (1 : Nat), H.mk ([ls t Room.no] :: [I (↑k : Int)] :: [AV.fn (Fn.func (65 : FuncId)) [] []] :: [rc] :: [AV.fn (Fn.func (94 : FuncId)) [] [AV.ptr 3 0, AV.ptr 1 0, AV.ptr 2 0, AV.ptr 4 0, AV.ptr 0 0]] :: [I (↑(alls t.length) : Int)] :: [AV.bool false] :: [I (dI (↑(alls t.length) : Int) j)] :: (List.replicate ((8 : Nat) + (2 : Nat) * j - (8 : Nat)) [] ++ [ints [(↑(el (alls t.length) j) : Int)]])) [] []) ∧ aBin Tryd.prog BinOp.shl (3 : Nat) (I 1) (I (↑(el (alls t.length) j) : Int)) = some (I (↑((2 : Nat) ^ el (alls t.length) j) : Int)) ∧ aBin Tryd.prog BinOp.andNot (3 : Nat) (I (↑(alls t.length) : Int)) (I (↑((2 : Nat) ^ el (alls t.length) j) : Int)) = some (I (↑(andn (alls t.length) ((2 : Nat) ^ el (alls t.length) j)) : Int)) ∧ aIndexAddr Tryd.prog 22 (ls t Room.no) (I (↑(el (alls t.length) j) : Int)) = some (AV.cptr (ints (List.drop (el (alls t.length) j) t))) ∧ aLoad Tryd.prog 3 (ints (List.drop (el (alls t.length) j) t)) = some (I (t.getD (el (alls t.length) j) i0)) ∧ aBin Tryd.prog BinOp.and (3 : Nat) (I (↑(andn (alls t.length) ((2 : Nat) ^ el (alls t.length) j)) : Int)) (I (t.getD (el (alls t.length) j) i0)) = some (I (↑(andn (alls t.length) ((2 : Nat) ^ el (alls t.length) j) &&& sn t (el (alls t.length) j)) : Int)) ∧ aCall (SofO (c94T f hok) [d72]) (AV.fn (Fn.func (94 : FuncId)) [] [AV.ptr 3 0, AV.ptr 1 0, AV.ptr 2 0, AV.ptr 4 0, AV.ptr 0 0]) [I (↑(andn (alls t.length) ((2 : Nat) ^ el (alls t.length) j)) : Int), I (↑(andn (alls t.length) ((2 : Nat) ^ el (alls t.length) j) &&& sn t (el (alls t.length) j)) : Int)] (H.mk ([ls t Room.no] :: [I (↑k : Int)] :: [AV.fn (Fn.func (65 : FuncId)) [] []] :: [AV.msl ((8 : Nat) + (2 : Nat) * j) (0 : Nat) (1 : Nat) (9223372036854775808 : Nat) (1 : Nat)] :: [AV.fn (Fn.func (94 : FuncId)) [] [AV.ptr 3 0, AV.ptr 1 0, AV.ptr 2 0, AV.ptr 4 0, AV.ptr 0 0]] :: [I (↑(alls t.length) : Int)] :: [AV.bool false] :: [I (dI (↑(alls t.length) : Int) j)] :: (List.replicate ((8 : Nat) + (2 : Nat) * j - (8 : Nat)) [] ++ [ints [(↑(el (alls t.length) j) : Int)]])) [] []) = some (AV.bool false, H.mk ([ls t Room.no] :: [I (↑k : Int)] :: [AV.fn (Fn.func (65 : FuncId)) [] []] :: [AV.msl ((8 : Nat) + (2 : Nat) * j + (1 : Nat)) (0 : Nat) (1 : Nat) (9223372036854775808 : Nat) (1 : Nat)] :: [AV.fn (Fn.func (94 : FuncId)) [] [AV.ptr 3 0, AV.ptr 1 0, AV.ptr 2 0, AV.ptr 4 0, AV.ptr 0 0]] :: [I (↑(alls t.length) : Int)] :: [AV.bool false] :: [I (dI (↑(alls t.length) : Int) j)] :: (List.replicate ((8 : Nat) + (2 : Nat) * j + (1 : Nat) - (8 : Nat)) [] ++ [ints [(↑(el (alls t.length) j) : Int)]])) [] []) ∧ IntKind.i64.wrap (0 : Int) = (0 : Int) ∧ True ∧ Keep (powI (7 : Nat) (↑(alls t.length) : Int) j (H.mk ([ls t Room.no] :: [I (↑k : Int)] :: [AV.fn (Fn.func (65 : FuncId)) [] []] :: [AV.msl ((8 : Nat) + (2 : Nat) * j + (1 : Nat)) (0 : Nat) (0 : Nat) (9223372036854775808 : Nat) (1 : Nat)] :: [AV.fn (Fn.func (94 : FuncId)) [] [AV.ptr 3 0, AV.ptr 1 0, AV.ptr 2 0, AV.ptr 4 0, AV.ptr 0 0]] :: [I (↑(alls t.length) : Int)] :: [AV.bool false] :: [I (dI (↑(alls t.length) : Int) j)] :: (List.replicate ((8 : Nat) + (2 : Nat) * j + (1 : Nat) - (8 : Nat)) [] ++ [ints [(↑(el (alls t.length) j) : Int)]])) [] []) ∧ TTs t k j0 (j + (1 : Nat)) (H.mk ([ls t Room.no] :: [I (↑k : Int)] :: [AV.fn (Fn.func (65 : FuncId)) [] []] :: [AV.msl ((8 : Nat) + (2 : Nat) * j + (1 : Nat)) (0 : Nat) (0 : Nat) (9223372036854775808 : Nat) (1 : Nat)] :: [AV.fn (Fn.func (94 : FuncId)) [] [AV.ptr 3 0, AV.ptr 1 0, AV.ptr 2 0, AV.ptr 4 0, AV.ptr 0 0]] :: [I (↑(alls t.length) : Int)] :: [AV.bool false] :: [I (dI (↑(alls t.length) : Int) (j + (1 : Nat)))] :: (List.replicate ((8 : Nat) + (2 : Nat) * j + (1 : Nat) - (8 : Nat)) [] ++ [ints [(↑(el (alls t.length) j) : Int)]])) [] []))) (by kernel_rfl) ?_⟩
      refine ⟨hA, ?_⟩
      refine ⟨by first | exact told_shl (by first | exact Int.natCast_nonneg _ | omega) (by with_reducible assumption) | exact told_shl (by omega) rfl, ?_⟩
      refine ⟨told_andn (by with_reducible assumption), ?_⟩
      refine ⟨ix_ints (by kernel_rfl) p3 hri, ?_⟩
      refine ⟨ld_ints (by kernel_rfl) (by kernel_rfl) p3, ?_⟩
      refine ⟨told_and (by with_reducible assumption), ?_⟩
      refine ⟨hc, ?_⟩
      refine ⟨wr _ (by omega) (by omega), ?_⟩
      refine ⟨by trivial, ?_⟩
      exact ⟨rfl, ⟨keepT, hlt⟩⟩
    · have e : j = j0 := by omega
      subst e
      have hc : aCall (SofO (c94T f hok) [d72]) (.fn (.func 94) [] [.ptr 3 0, .ptr 1 0, .ptr 2 0, .ptr 4 0, .ptr 0 0]) [I (andn (alls t.length) (2 ^ el (alls t.length) j) : Nat), I (andn (alls t.length) (2 ^ el (alls t.length) j) &&& sn t (el (alls t.length) j) : Nat)] ⟨bQ t k (alls t.length) (alls t.length) j (8 + 2 * j) [((el (alls t.length) j : Nat) : Int)], [], []⟩ = some (.bool true, ⟨bQ t k (alls t.length) (alls t.length) j (8 + 2 * j + 1) l, [], []⟩) := hitT f hok h p3 hyes
      refine ⟨[Ans.o (Orc.val 32 (rowV ((8 : Nat) + (2 : Nat) * j) [(↑(el (alls t.length) j) : Int)].length) (H.mk ([ls t Room.no] :: [I (↑k : Int)] :: [fitV] :: [rc] :: [selfV] :: [I (↑(alls t.length) : Int)] :: [AV.bool false] :: [I (dI (↑(alls t.length) : Int) j)] :: (List.replicate ((8 : Nat) + (2 : Nat) * j - (8 : Nat)) [] ++ [ints [(↑(el (alls t.length) j) : Int)]])) [] [])), Ans.o (Orc.val 35 (I (↑((2 : Nat) ^ el (alls t.length) j) : Int)) H.nil), Ans.o (Orc.val 36 (I (↑(andn (alls t.length) ((2 : Nat) ^ el (alls t.length) j)) : Int)) H.nil), Ans.o (Orc.val 42 (AV.cptr (ints (List.drop (el (alls t.length) j) t))) H.nil), Ans.o (Orc.val 43 (I (t.getD (el (alls t.length) j) i0)) H.nil), Ans.o (Orc.val 44 (I (↑(andn (alls t.length) ((2 : Nat) ^ el (alls t.length) j) &&& sn t (el (alls t.length) j)) : Int)) H.nil), Ans.o (Orc.val 45 (AV.bool true) (H.mk ([ls t Room.no] :: [I (↑k : Int)] :: [AV.fn (Fn.func (65 : FuncId)) [] []] :: [AV.msl ((8 : Nat) + (2 : Nat) * j + (1 : Nat)) (0 : Nat) l.length (9223372036854775808 : Nat) (1 : Nat)] :: [AV.fn (Fn.func (94 : FuncId)) [] [AV.ptr 3 0, AV.ptr 1 0, AV.ptr 2 0, AV.ptr 4 0, AV.ptr 0 0]] :: [I (↑(alls t.length) : Int)] :: [AV.bool false] :: [I (dI (↑(alls t.length) : Int) j)] :: (List.replicate ((8 : Nat) + (2 : Nat) * j + (1 : Nat) - (8 : Nat)) [] ++ [ints l])) [] []))], fun u => of_eq (aAppend Tryd.prog 22 (22 : Nat) rc (AV.sl [I (↑(el (alls t.length) j) : Int)] (1 : Nat) Room.full) (H.mk ([ls t Room.no] :: [I (↑k : Int)] :: [AV.fn (Fn.func (65 : FuncId)) [] []] :: [rc] :: [AV.fn (Fn.func (94 : FuncId)) [] [AV.ptr 3 0, AV.ptr 1 0, AV.ptr 2 0, AV.ptr 4 0, AV.ptr 0 0]] :: [I (↑(alls t.length) : Int)] :: [AV.bool false] :: [I (dI (↑(alls t.length) : Int) j)] :: ZT (alls t.length) j) [] []) = some (AV.msl ((8 : Nat) + (2 : Nat) * j) (0 : Nat) (1 : Nat) (9223372036854775808 : Nat) (1 : Nat), H.mk ([ls t Room.no] :: [I (↑k : Int)] :: [AV.fn (Fn.func (65 : FuncId)) [] []] :: [rc] :: [AV.fn (Fn.func (94 : FuncId)) [] [AV.ptr 3 0, AV.ptr 1 0, AV.ptr 2 0, AV.ptr 4 0, AV.ptr 0 0]] :: [I (↑(alls t.length) : Int)] :: [AV.bool false] :: [I (dI (↑(alls t.length) : Int) j)] :: (List.replicate ((8 : Nat) + (2 : Nat) * j - (8 : Nat)) [] ++ [ints [(↑(el (alls t.length) j) : Int)]])) [] []) ∧ aBin Tryd.prog BinOp.shl (3 : Nat) (I 1) (I (↑(el (alls t.length) j) : Int)) = some (I (↑((2 : Nat) ^ el (alls t.length) j) : Int)) ∧ aBin Tryd.prog BinOp.andNot (3 : Nat) (I (↑(alls t.length) : Int)) (I (↑((2 : Nat) ^ el (alls t.length) j) : Int)) = some (I (↑(andn (alls t.length) ((2 : Nat) ^ el (alls t.length) j)) : Int)) ∧ aIndexAddr Tryd.prog 22 (ls t Room.no) (I (↑(el (alls t.length) j) : Int)) = some (AV.cptr (ints (List.drop (el (alls t.length) j) t))) ∧ aLoad Tryd.prog 3 (ints (List.drop (el (alls t.length) j) t)) = some (I (t.getD (el (alls t.length) j) i0)) ∧ aBin Tryd.prog BinOp.and (3 : Nat) (I (↑(andn (alls t.length) ((2 : Nat) ^ el (alls t.length) j)) : Int)) (I (t.getD (el (alls t.length) j) i0)) = some (I (↑(andn (alls t.length) ((2 : Nat) ^ el (alls t.length) j) &&& sn t (el (alls t.length) j)) : Int)) ∧ aCall (SofO (c94T f hok) [d72]) (AV.fn (Fn.func (94 : FuncId)) [] [AV.ptr 3 0, AV.ptr 1 0, AV.ptr 2 0, AV.ptr 4 0, AV.ptr 0 0]) [I (↑(andn (alls t.length) ((2 : Nat) ^ el (alls t.length) j)) : Int), I (↑(andn (alls t.length) ((2 : Nat) ^ el (alls t.length) j) &&& sn t (el (alls t.length) j)) : Int)] (H.mk ([ls t Room.no] :: [I (↑k : Int)] :: [AV.fn (Fn.func (65 : FuncId)) [] []] :: [AV.msl ((8 : Nat) + (2 : Nat) * j) (0 : Nat) (1 : Nat) (9223372036854775808 : Nat) (1 : Nat)] :: [AV.fn (Fn.func (94 : FuncId)) [] [AV.ptr 3 0, AV.ptr 1 0, AV.ptr 2 0, AV.ptr 4 0, AV.ptr 0 0]] :: [I (↑(alls t.length) : Int)] :: [AV.bool false] :: [I (dI (↑(alls t.length) : Int) j)] :: (List.replicate ((8 : Nat) + (2 : Nat) * j - (8 : Nat)) [] ++ [ints [(↑(el (alls t.length) j) : Int)]])) [] []) = some (AV.bool true, H.mk ([ls t Room.no] :: [I (↑k : Int)] :: [AV.fn (Fn.func (65 : FuncId)) [] []] :: [AV.msl ((8 : Nat) + (2 : Nat) * j + (1 : Nat)) (0 : Nat) l.length (9223372036854775808 : Nat) (1 : Nat)] :: [AV.fn (Fn.func (94 : FuncId)) [] [AV.ptr 3 0, AV.ptr 1 0, AV.ptr 2 0, AV.ptr 4 0, AV.ptr 0 0]] :: [I (↑(alls t.length) : Int)] :: [AV.bool false] :: [I (dI (↑(alls t.length) : Int) j)] :: (List.replicate ((8 : Nat) + (2 : Nat) * j + (1 : Nat) - (8 : Nat)) [] ++ [ints l])) [] []) ∧ ((∃ y, y = () ∧ AX.ret = AX.ret ∧ [AV.ptr 6 0] = [AV.ptr 6 0] ∧ H.mk ([ls t Room.no] :: [I (↑k : Int)] :: [AV.fn (Fn.func (65 : FuncId)) [] []] :: [AV.msl ((8 : Nat) + (2 : Nat) * j + (1 : Nat)) (0 : Nat) l.length (9223372036854775808 : Nat) (1 : Nat)] :: [AV.fn (Fn.func (94 : FuncId)) [] [AV.ptr 3 0, AV.ptr 1 0, AV.ptr 2 0, AV.ptr 4 0, AV.ptr 0 0]] :: [I (↑(alls t.length) : Int)] :: [AV.bool true] :: [I (dI (↑(alls t.length) : Int) j)] :: (List.replicate ((8 : Nat) + (2 : Nat) * j + (1 : Nat) - (8 : Nat)) [] ++ [ints l])) [] [] = H.mk ([ls t Room.no] :: [I (↑k : Int)] :: [AV.fn (Fn.func (65 : FuncId)) [] []] :: [AV.msl ((8 : Nat) + (2 : Nat) * j + (1 : Nat)) (0 : Nat) l.length (9223372036854775808 : Nat) (1 : Nat)] :: [AV.fn (Fn.func (94 : FuncId)) [] [AV.ptr 3 0, AV.ptr 1 0, AV.ptr 2 0, AV.ptr 4 0, AV.ptr 0 0]] :: [I (↑(alls t.length) : Int)] :: [AV.bool true] :: [I (dI (↑(alls t.length) : Int) j)] :: (List.replicate ((8 : Nat) + (2 : Nat) * j + (1 : Nat) - (8 : Nat)) [] ++ [ints l])) [] []) ∨ False)) (by kernel_rfl) ?_⟩
      refine ⟨hA, ?_⟩
      refine ⟨by first | exact told_shl (by first | exact Int.natCast_nonneg _ | omega) (by with_reducible assumption) | exact told_shl (by omega) rfl, ?_⟩
      refine ⟨told_andn (by with_reducible assumption), ?_⟩
      refine ⟨ix_ints (by kernel_rfl) p3 hri, ?_⟩
      refine ⟨ld_ints (by kernel_rfl) (by kernel_rfl) p3, ?_⟩
      refine ⟨told_and (by with_reducible assumption), ?_⟩
      refine ⟨hc, ?_⟩
      exact .inl ⟨(), rfl, rfl, rfl, rfl⟩
  · rintro _ ⟨_, hle⟩ u
    omega
theorem r94t (f : Nat) (hok : Ok94 f) (t : List Int) (k j0 : Nat) (l : List Int) (h : ExT t f k) (h0 : j0 < pc (alls t.length)) (hno : ∀ j, j < j0 → exT t f (el (alls t.length) j) = none) (hyes : exT t f (el (alls t.length) j0) = some l) :
    BodyO (EnB (c94T f hok) [d72]) M94 Tryd.f94 [I (alls t.length : Nat), I (alls t.length : Nat), .ptr 3 0, .ptr 1 0, .ptr 2 0, .ptr 4 0, .ptr 0 0] ⟨bT t k, [], []⟩ (.bool true, hWt t k j0 l) := by
  have lp := lp94t f hok t k j0 l h h0 hno hyes
  have hk := h.kf
  have c0 : (0 : Int) ≠ (k : Int) := by omega
  refine bodyO_s ([Ans.o (Orc.b false), Ans.o (Orc.val 27 (AV.fn (Fn.func (95 : FuncId)) [] [AV.ptr 7 0]) (H.mk [[ls t Room.no], [I (↑k : Int)], [AV.fn (Fn.func (65 : FuncId)) [] []], [AV.sl [] (0 : Nat) Room.nil], [AV.fn (Fn.func (94 : FuncId)) [] [AV.ptr 3 0, AV.ptr 1 0, AV.ptr 2 0, AV.ptr 4 0, AV.ptr 0 0]], [I (↑(alls t.length) : Int)], [AV.bool false], [I (↑(alls t.length) : Int)]] [] [])), Ans.loop [2, 5, 6, 7, 9, 27] [Out.mk Unit AX.ret [9] (fun y => y = ()) (fun x => [AV.ptr 6 0]) (fun x => hWt t k j0 l) fun y => []]]) ((0 : Int) ≠ (↑k : Int) ∧ aCall (SofO (c94T f hok) [d72]) (AV.fn (Fn.func 72) [] []) [I (↑(alls t.length) : Int)] (H.mk [[ls t Room.no], [I (↑k : Int)], [AV.fn (Fn.func (65 : FuncId)) [] []], [AV.sl [] (0 : Nat) Room.nil], [AV.fn (Fn.func (94 : FuncId)) [] [AV.ptr 3 0, AV.ptr 1 0, AV.ptr 2 0, AV.ptr 4 0, AV.ptr 0 0]], [I (↑(alls t.length) : Int)], [AV.bool false]] [] []) = some (AV.fn (Fn.func (95 : FuncId)) [] [AV.ptr 7 0], H.mk [[ls t Room.no], [I (↑k : Int)], [AV.fn (Fn.func (65 : FuncId)) [] []], [AV.sl [] (0 : Nat) Room.nil], [AV.fn (Fn.func (94 : FuncId)) [] [AV.ptr 3 0, AV.ptr 1 0, AV.ptr 2 0, AV.ptr 4 0, AV.ptr 0 0]], [I (↑(alls t.length) : Int)], [AV.bool false], [I (↑(alls t.length) : Int)]] [] []) ∧ RangeS (Env.mk Tryd.prog (SofO (c94T f hok) [d72]) (Pof (P := Tryd.prog) []) opn (300 : Nat)) (rangeAt Tryd.f94 (0 : Nat)) (51 : Nat) [2, 5, 6, 7, 9, 27] [AV.ptr 3 0, AV.ptr 4 0, AV.ptr 0 0, AV.ptr 5 0, AV.ptr 6 0, AV.fn (Fn.func (95 : FuncId)) [] [AV.ptr 7 0]] (H.mk [[ls t Room.no], [I (↑k : Int)], [AV.fn (Fn.func (65 : FuncId)) [] []], [AV.sl [] (0 : Nat) Room.nil], [AV.fn (Fn.func (94 : FuncId)) [] [AV.ptr 3 0, AV.ptr 1 0, AV.ptr 2 0, AV.ptr 4 0, AV.ptr 0 0]], [I (↑(alls t.length) : Int)], [AV.bool false], [I (↑(alls t.length) : Int)]] [] []) [Out.mk Unit AX.ret [9] (fun y => y = ()) (fun x => [AV.ptr 6 0]) (fun x => hWt t k j0 l) fun y => []] ∧ (∀ (y : Unit), y = () → ∀ (u : Nat → AV), (AV.bool true, H.mk ([ls t Room.no] :: [I (↑k : Int)] :: [AV.fn (Fn.func (65 : FuncId)) [] []] :: [AV.msl ((8 : Nat) + (2 : Nat) * j0 + (1 : Nat)) (0 : Nat) l.length (9223372036854775808 : Nat) (1 : Nat)] :: [AV.fn (Fn.func (94 : FuncId)) [] [AV.ptr 3 0, AV.ptr 1 0, AV.ptr 2 0, AV.ptr 4 0, AV.ptr 0 0]] :: [I (↑(alls t.length) : Int)] :: [AV.bool true] :: [I (dI (↑(alls t.length) : Int) j0)] :: (List.replicate ((8 : Nat) + (2 : Nat) * j0 + (1 : Nat) - (8 : Nat)) [] ++ [ints l])) [] []) = (AV.bool true, H.mk ([ls t Room.no] :: [I (↑k : Int)] :: [AV.fn (Fn.func (65 : FuncId)) [] []] :: [AV.msl ((8 : Nat) + (2 : Nat) * j0 + (1 : Nat)) (0 : Nat) l.length (9223372036854775808 : Nat) (1 : Nat)] :: [AV.fn (Fn.func (94 : FuncId)) [] [AV.ptr 3 0, AV.ptr 1 0, AV.ptr 2 0, AV.ptr 4 0, AV.ptr 0 0]] :: [I (↑(alls t.length) : Int)] :: [AV.bool true] :: [I (dI (↑(alls t.length) : Int) j0)] :: (List.replicate ((8 : Nat) + (2 : Nat) * j0 + (1 : Nat) - (8 : Nat)) [] ++ [ints l])) [] [])) ∧ True) (by kernel_rfl) ?_
  refine ⟨by first | with_reducible assumption | omega | assumption, ?_⟩
  refine ⟨by (refine acallO_skip (by show (72 : Nat) ≠ 94; decide) (acall_hit (c := d72) ((alls t.length : Nat) : Int) _ rfl ?_); trivial), ?_⟩
  refine ⟨lp, ?_⟩
  refine And.intro ?_ ?_
  · skip
    intro y
    intro w1
    intro u
    rfl
  · skip
    trivial
end
end Go.Proofs.Rnk

