/- Layer 2: the program's search for a row: its rounds. -/
import Derived.Test.YtnnhomkkggkkfaaDoorRkBy
import Derived.KernelRfl
set_option linter.unusedSimpArgs false
set_option linter.unusedVariables false
set_option linter.unnecessarySimpa false
set_option maxHeartbeats 4000000
set_option maxRecDepth 100000
namespace Go.Proofs.Rnk
open Go Go.VM
open Go.Proofs.Sur (andn andn_bit andn_le i_wrap i_and i_or i_xor i_andn i_shl i_shr bit_01)
section
attribute [local instance] wrI
theorem last_app (b : List Int) (p : Nat) : lastN (b ++ [(p : Int)]) = p := by
  simp [lastN, List.getD_eq_getElem?_getD]
theorem met_next {t : List Int} {fr p : Nat} (h8 : t.length ≤ 8) (hf : fr < 256) (hp : p < t.length) : metF t (andn fr (2 ^ p)) = metF t fr ||| 2 ^ p := by
  apply Nat.eq_of_testBit_eq
  intro i
  have hA := alls_lt h8
  rw [metF, metF, andn_bit (by omega), andn_bit (by omega), Nat.testBit_or, andn_bit (by omega), Nat.testBit_two_pow, alls_bit]
  by_cases c : p = i
  · subst c; simp [hp]
  · simp [c]
theorem ExP.pl {t b : List Int} {f k fr nx j : Nat} (h : ExP t b f k fr nx) (hj : j < pc nx) : nx.testBit (el nx j) = true ∧ fr.testBit (el nx j) = true ∧ el nx j < t.length ∧ el nx j < 8 ∧ (sn t (lastN b)).testBit (el nx j) = true := by
  have h1 := el_mem hj
  have h2 := (h.ni _).1 h1.1
  exact ⟨h1.1, h2.1, h.fi _ h2.1, h1.2, h2.2⟩
theorem ExP.next {t b : List Int} {f k fr nx p : Nat} (h : ExP t b (f + 1) k fr nx) (hp : fr.testBit p = true) : ExP t (b ++ [(p : Int)]) f k (andn fr (2 ^ p)) (andn fr (2 ^ p) &&& sn t p) where
  w := by
    rw [met_next h.w.h.s.2 h.f8 (h.fi p hp)]
    exact h.w.next (h.fi p hp)
  ne := by simp
  f8 := by have := h.f8; have := andn_le (a := fr) (b := 2 ^ p) (by omega); omega
  fi i hi := by
    rw [andn_bit (by have := h.f8; omega), Bool.and_eq_true] at hi
    exact h.fi i hi.1
  n8 := by have := h.f8; have := andn_le (a := fr) (b := 2 ^ p) (by omega); have := @Nat.and_le_left (andn fr (2 ^ p)) (sn t p); omega
  ni i := by rw [Nat.testBit_and, Bool.and_eq_true, last_app]
theorem keepJ {t : List Int} {k : Nat} {b : List Int} {fr nx j : Nat} : (⟨[ls t .no] :: [I k] :: [fitV] :: [rowV (9 + 2 * j + 1) b.length] :: [selfV] :: [] :: [I fr] :: [.bool false] :: [I (dI (nx : Nat) (j + 1))] :: (List.replicate (9 + 2 * j + 1 - 9) [] ++ [ints (b ++ [((el nx j : Nat) : Int)])]), [], []⟩ : H) = ⟨bJ t k b fr nx (j + 1), [], []⟩ := by
  have h1 : Zj b nx (j + 1) = List.replicate (2 * j + 1) [] ++ [ints (b ++ [((el nx j : Nat) : Int)])] := by rw [Zj, if_neg (by omega)]; rfl
  have h2 : Rj (j + 1) = 9 + 2 * j + 1 := by rw [Rj, if_neg (by omega)]; omega
  have h3 : Dj b (j + 1) = [] := by rw [Dj, if_neg (by omega)]
  rw [bJ, h1, h2, h3, show 9 + 2 * j + 1 - 9 = 2 * j + 1 by omega]
theorem sl_row {t : TypeId} {P : Program} (hu : (elemT P t).bind (sizeT P) = some 1) {R n m : Nat} {h : H} (hm : m ≤ n) : aSlice P t (rowV R n) none (some (I m)) none h = some (rowV R m) := by
  cases he : elemT P t with
  | none => rw [he] at hu; cases hu
  | some e =>
    rw [he] at hu
    have hs : sizeT P e = some 1 := hu
    simp [aSlice, intOf?, aBounds, he, hs, hm]
theorem itG {p : Pures} {β : Base} {nx : Nat} (hs : nx < 256) {h0 : H} (hh : h0.blk[8]? = some [I (nx : Nat)]) : IterOk Tryd.prog β 95 [.ptr 8 0] h0 h0 (pc nx) (pxs nx) (powI 8 (nx : Nat)) (pnxI 8 (nx : Nat)) :=
  @IterOk.up instInhabitedGlobs wrI (fun _ => rfl) _ _ _ _ _ _ _ _ _ _ (@players_itI p β 8 (nx : Nat) ⟨by omega, by omega⟩ h0 hh)
theorem hitR (f : Nat) (hok : Ok94 f) {t : List Int} {k : Nat} {b : List Int} {fr nx j p : Nat} (h : ExP t b (f + 1) k fr nx) (hp : fr.testBit p = true) {o : Option (List Int)} (ho : exR t (b ++ [(p : Int)]) f (andn fr (2 ^ p)) = o) :
    aCall (SofO (c94 f hok) [d72]) (.fn (.func 94) [] [.ptr 3 0, .ptr 1 0, .ptr 2 0, .ptr 4 0, .ptr 0 0]) [I (andn fr (2 ^ p) : Nat), I (andn fr (2 ^ p) &&& sn t p : Nat)] ⟨bP t k b fr nx j (9 + 2 * j) (b ++ [(p : Int)]), [], []⟩ = some (.bool o.isSome, ⟨bP t k b fr nx j (9 + 2 * j + 1) (o.getD (b ++ [(p : Int)])), [], []⟩) := by
  subst ho
  exact acallO_hit (b := c94 f hok) ⟨t, k, b ++ [(p : Int)], andn fr (2 ^ p), andn fr (2 ^ p) &&& sn t p, fr, nx, j, 9 + 2 * j⟩ rfl ⟨rfl, ⟨h.next hp, by show 9 ≤ 9 + 2 * j; omega⟩⟩
abbrev hWn (t : List Int) (k : Nat) (b : List Int) (fr nx j : Nat) (l : List Int) : H := ⟨[ls t .no] :: [I k] :: [fitV] :: [rowV (9 + 2 * j + 1) l.length] :: [selfV] :: [] :: [I fr] :: [.bool true] :: [I (dI (nx : Nat) j)] :: (List.replicate (9 + 2 * j + 1 - 9) [] ++ [ints l]), [], []⟩
abbrev o94n (t : List Int) (k : Nat) (b : List Int) (fr nx : Nat) : List Out := [.mk Unit .normal [9] (fun y => y = ()) (fun _ => [.ptr 7 0]) (fun _ => ⟨bJ t k b fr nx (pc nx), [], []⟩) (fun _ => [])]
abbrev o94s (t : List Int) (k : Nat) (b : List Int) (fr nx j : Nat) (l : List Int) : List Out := [.mk Unit .ret [9] (fun y => y = ()) (fun _ => [.ptr 7 0]) (fun _ => hWn t k b fr nx j l) (fun _ => [])]
structure TJ (t : List Int) (k : Nat) (b : List Int) (fr nx j : Nat) (H : H) : Prop where
  e : H = ⟨bJ t k b fr nx j, [], []⟩
theorem lp94n (f : Nat) (hok : Ok94 f) (t : List Int) (k : Nat) (b : List Int) (fr nx : Nat) (h : ExP t b (f + 1) k fr nx) (hno : ∀ j, j < pc nx → exR t (b ++ [((el nx j : Nat) : Int)]) f (andn fr (2 ^ el nx j)) = none) :
    RangeS (EnB (c94 f hok) [d72]) (rangeAt Tryd.f94 0) 51 [2, 5, 6, 7, 9, 27] [.ptr 3 0, .ptr 4 0, .ptr 0 0, .ptr 6 0, .ptr 7 0, .fn (.func 95) [] [.ptr 8 0]] ⟨bJ t k b fr nx 0, [], []⟩ (o94n t k b fr nx) := by
  have hR : Rests (EnB (c94 f hok) [d72]) M94 := restsO mixed rfl (.eff d72 rfl .nil)
  have h8 := h.w.h.s.2
  have hbk := h.w.l
  have hk8 := h.w.k8
  refine range_at hR (by kernel_rfl) simp94 (itG (p := Pof (P := Tryd.prog) []) h.n8 rfl) (fun u => rfl) (fun k => rfl) none (by intro nb h; cases h) (fun j H => TJ t k b fr nx j H) ⟨rfl⟩ (by intro nb h; cases h) ?_ ?_
  · rintro j _ hj hown ⟨rfl⟩
    obtain ⟨p1, p2, p3, p4, p5⟩ := h.pl hj
    have hA := ap_J (t := t) (k := k) (b := b) (fr := fr) (nx := nx) (j := j) (p := ((el nx j : Nat) : Int)) h.ne (by omega)
    have hlen : (b ++ [((el nx j : Nat) : Int)]).length = b.length + 1 := by simp
    have hS : ∀ H, aSlice Tryd.prog 22 (rowV (9 + 2 * j + 1) (b ++ [((el nx j : Nat) : Int)]).length) none (some (I b.length)) none H = some (rowV (9 + 2 * j + 1) b.length) := fun H => sl_row (by kernel_rfl) (by omega)
    have hS' := hS .nil
    have ev0 : IntKind.i64.wrap (((b ++ [((el nx j : Nat) : Int)]).length : Int) - 1) = (b.length : Int) := by rw [wr _ (by omega) (by omega)]; omega
    have hc : aCall (SofO (c94 f hok) [d72]) (.fn (.func 94) [] [.ptr 3 0, .ptr 1 0, .ptr 2 0, .ptr 4 0, .ptr 0 0]) [I (andn fr (2 ^ el nx j) : Nat), I (andn fr (2 ^ el nx j) &&& sn t (el nx j) : Nat)] ⟨bP t k b fr nx j (9 + 2 * j) (b ++ [((el nx j : Nat) : Int)]), [], []⟩ = some (.bool false, ⟨bP t k b fr nx j (9 + 2 * j + 1) (b ++ [((el nx j : Nat) : Int)]), [], []⟩) := hitR f hok h p2 (hno j hj)
    have hri : Room.no ≠ Room.nil := no_ne
    have hf8 := h.f8
    have hsn := h.w.h.sn (el nx j)
    have hal : andn fr (2 ^ el nx j) ≤ fr := andn_le (by omega)
    have ev1 := pw_shl (n := el nx j) (by omega)
    have ev2 : IntKind.i64.wrap ((BitVec.ofInt IntKind.i64.bits ((fr : Nat) : Int) &&& ~~~BitVec.ofInt IntKind.i64.bits ((2 ^ el nx j : Nat) : Int)).toNat : Int) = ((andn fr (2 ^ el nx j) : Nat) : Int) := i_andn (by omega)
    have ev3 : IntKind.i64.wrap ((BitVec.ofInt IntKind.i64.bits ((andn fr (2 ^ el nx j) : Nat) : Int) &&& BitVec.ofInt IntKind.i64.bits (t.getD (el nx j) i0)).toNat : Int) = ((andn fr (2 ^ el nx j) &&& sn t (el nx j) : Nat) : Int) := by
      have := i_and (a := andn fr (2 ^ el nx j)) (b := sn t (el nx j)) (by omega) (by omega)
      rw [hsn.2] at this
      exact this
    refine ⟨[Ans.o (Orc.val 32 (rowV ((9 : Nat) + (2 : Nat) * j) (b ++ [(↑(el nx j) : Int)]).length) (H.mk ([ls t Room.no] :: [I (↑k : Int)] :: [fitV] :: [rowV (Rj j) b.length] :: [selfV] :: [] :: [I (↑fr : Int)] :: [AV.bool false] :: [I (dI (↑nx : Int) j)] :: (List.replicate ((9 : Nat) + (2 : Nat) * j - (9 : Nat)) [] ++ [ints (b ++ [(↑(el nx j) : Int)])])) [] [])), Ans.o (Orc.val 35 (I (↑((2 : Nat) ^ el nx j) : Int)) H.nil), Ans.o (Orc.val 36 (I (↑(andn fr ((2 : Nat) ^ el nx j)) : Int)) H.nil), Ans.o (Orc.val 42 (AV.cptr (ints (List.drop (el nx j) t))) H.nil), Ans.o (Orc.val 43 (I (t.getD (el nx j) i0)) H.nil), Ans.o (Orc.val 44 (I (↑(andn fr ((2 : Nat) ^ el nx j) &&& sn t (el nx j)) : Int)) H.nil), Ans.o (Orc.val 45 (AV.bool false) (H.mk ([ls t Room.no] :: [I (↑k : Int)] :: [AV.fn (Fn.func (65 : FuncId)) [] []] :: [AV.msl ((9 : Nat) + (2 : Nat) * j + (1 : Nat)) (0 : Nat) (b ++ [(↑(el nx j) : Int)]).length (9223372036854775808 : Nat) (1 : Nat)] :: [AV.fn (Fn.func (94 : FuncId)) [] [AV.ptr 3 0, AV.ptr 1 0, AV.ptr 2 0, AV.ptr 4 0, AV.ptr 0 0]] :: [] :: [I (↑fr : Int)] :: [AV.bool false] :: [I (dI (↑nx : Int) j)] :: (List.replicate ((9 : Nat) + (2 : Nat) * j + (1 : Nat) - (9 : Nat)) [] ++ [ints (b ++ [(↑(el nx j) : Int)])])) [] [])), Ans.o (Orc.val 49 (I (↑b.length : Int)) H.nil), Ans.o (Orc.val 50 (rowV ((9 : Nat) + (2 : Nat) * j + (1 : Nat)) b.length) H.nil)], fun u => of_eq (aAppend Tryd.prog 22 (22 : Nat) (AV.msl (Rj j) (0 : Nat) b.length (9223372036854775808 : Nat) (1 : Nat)) (AV.sl [I (↑(el nx j) : Int)] (1 : Nat) Room.full) (H.mk ([ls t Room.no] :: [I (↑k : Int)] :: [AV.fn (Fn.func (65 : FuncId)) [] []] :: [AV.msl (Rj j) (0 : Nat) b.length (9223372036854775808 : Nat) (1 : Nat)] :: [AV.fn (Fn.func (94 : FuncId)) [] [AV.ptr 3 0, AV.ptr 1 0, AV.ptr 2 0, AV.ptr 4 0, AV.ptr 0 0]] :: Dj b j :: [I (↑fr : Int)] :: [AV.bool false] :: [I (dI (↑nx : Int) j)] :: Zj b nx j) [] []) = some (AV.msl ((9 : Nat) + (2 : Nat) * j) (0 : Nat) (b ++ [(↑(el nx j) : Int)]).length (9223372036854775808 : Nat) (1 : Nat), H.mk ([ls t Room.no] :: [I (↑k : Int)] :: [AV.fn (Fn.func (65 : FuncId)) [] []] :: [AV.msl (Rj j) (0 : Nat) b.length (9223372036854775808 : Nat) (1 : Nat)] :: [AV.fn (Fn.func (94 : FuncId)) [] [AV.ptr 3 0, AV.ptr 1 0, AV.ptr 2 0, AV.ptr 4 0, AV.ptr 0 0]] :: [] :: [I (↑fr : Int)] :: [AV.bool false] :: [I (dI (↑nx : Int) j)] :: (List.replicate ((9 : Nat) + (2 : Nat) * j - (9 : Nat)) [] ++ [ints (b ++ [(↑(el nx j) : Int)])])) [] []) ∧ aBin Tryd.prog BinOp.shl (3 : Nat) (I 1) (I (↑(el nx j) : Int)) = some (I (↑((2 : Nat) ^ el nx j) : Int)) ∧ aBin Tryd.prog BinOp.andNot (3 : Nat) (I (↑fr : Int)) (I (↑((2 : Nat) ^ el nx j) : Int)) = some (I (↑(andn fr ((2 : Nat) ^ el nx j)) : Int)) ∧ aIndexAddr Tryd.prog 22 (ls t Room.no) (I (↑(el nx j) : Int)) = some (AV.cptr (ints (List.drop (el nx j) t))) ∧ aLoad Tryd.prog 3 (ints (List.drop (el nx j) t)) = some (I (t.getD (el nx j) i0)) ∧ aBin Tryd.prog BinOp.and (3 : Nat) (I (↑(andn fr ((2 : Nat) ^ el nx j)) : Int)) (I (t.getD (el nx j) i0)) = some (I (↑(andn fr ((2 : Nat) ^ el nx j) &&& sn t (el nx j)) : Int)) ∧ aCall (SofO (c94 f hok) [d72]) (AV.fn (Fn.func (94 : FuncId)) [] [AV.ptr 3 0, AV.ptr 1 0, AV.ptr 2 0, AV.ptr 4 0, AV.ptr 0 0]) [I (↑(andn fr ((2 : Nat) ^ el nx j)) : Int), I (↑(andn fr ((2 : Nat) ^ el nx j) &&& sn t (el nx j)) : Int)] (H.mk ([ls t Room.no] :: [I (↑k : Int)] :: [AV.fn (Fn.func (65 : FuncId)) [] []] :: [AV.msl ((9 : Nat) + (2 : Nat) * j) (0 : Nat) (b ++ [(↑(el nx j) : Int)]).length (9223372036854775808 : Nat) (1 : Nat)] :: [AV.fn (Fn.func (94 : FuncId)) [] [AV.ptr 3 0, AV.ptr 1 0, AV.ptr 2 0, AV.ptr 4 0, AV.ptr 0 0]] :: [] :: [I (↑fr : Int)] :: [AV.bool false] :: [I (dI (↑nx : Int) j)] :: (List.replicate ((9 : Nat) + (2 : Nat) * j - (9 : Nat)) [] ++ [ints (b ++ [(↑(el nx j) : Int)])])) [] []) = some (AV.bool false, H.mk ([ls t Room.no] :: [I (↑k : Int)] :: [AV.fn (Fn.func (65 : FuncId)) [] []] :: [AV.msl ((9 : Nat) + (2 : Nat) * j + (1 : Nat)) (0 : Nat) (b ++ [(↑(el nx j) : Int)]).length (9223372036854775808 : Nat) (1 : Nat)] :: [AV.fn (Fn.func (94 : FuncId)) [] [AV.ptr 3 0, AV.ptr 1 0, AV.ptr 2 0, AV.ptr 4 0, AV.ptr 0 0]] :: [] :: [I (↑fr : Int)] :: [AV.bool false] :: [I (dI (↑nx : Int) j)] :: (List.replicate ((9 : Nat) + (2 : Nat) * j + (1 : Nat) - (9 : Nat)) [] ++ [ints (b ++ [(↑(el nx j) : Int)])])) [] []) ∧ aBin Tryd.prog BinOp.sub (3 : Nat) (I (↑(b ++ [(↑(el nx j) : Int)]).length : Int)) (I 1) = some (I (↑b.length : Int)) ∧ aSlice Tryd.prog 22 (AV.msl ((9 : Nat) + (2 : Nat) * j + (1 : Nat)) (0 : Nat) (b ++ [(↑(el nx j) : Int)]).length (9223372036854775808 : Nat) (1 : Nat)) none (some (I (↑b.length : Int))) none (H.mk ([ls t Room.no] :: [I (↑k : Int)] :: [AV.fn (Fn.func (65 : FuncId)) [] []] :: [AV.msl ((9 : Nat) + (2 : Nat) * j + (1 : Nat)) (0 : Nat) (b ++ [(↑(el nx j) : Int)]).length (9223372036854775808 : Nat) (1 : Nat)] :: [AV.fn (Fn.func (94 : FuncId)) [] [AV.ptr 3 0, AV.ptr 1 0, AV.ptr 2 0, AV.ptr 4 0, AV.ptr 0 0]] :: [] :: [I (↑fr : Int)] :: [AV.bool false] :: [I (dI (↑nx : Int) j)] :: (List.replicate ((9 : Nat) + (2 : Nat) * j + (1 : Nat) - (9 : Nat)) [] ++ [ints (b ++ [(↑(el nx j) : Int)])])) [] []) = some (AV.msl ((9 : Nat) + (2 : Nat) * j + (1 : Nat)) (0 : Nat) b.length (9223372036854775808 : Nat) (1 : Nat)) ∧ True ∧ Keep (powI (8 : Nat) (↑nx : Int) j (H.mk ([ls t Room.no] :: [I (↑k : Int)] :: [AV.fn (Fn.func (65 : FuncId)) [] []] :: [AV.msl ((9 : Nat) + (2 : Nat) * j + (1 : Nat)) (0 : Nat) b.length (9223372036854775808 : Nat) (1 : Nat)] :: [AV.fn (Fn.func (94 : FuncId)) [] [AV.ptr 3 0, AV.ptr 1 0, AV.ptr 2 0, AV.ptr 4 0, AV.ptr 0 0]] :: [] :: [I (↑fr : Int)] :: [AV.bool false] :: [I (dI (↑nx : Int) j)] :: (List.replicate ((9 : Nat) + (2 : Nat) * j + (1 : Nat) - (9 : Nat)) [] ++ [ints (b ++ [(↑(el nx j) : Int)])])) [] []) ∧ TJ t k b fr nx (j + (1 : Nat)) (H.mk ([ls t Room.no] :: [I (↑k : Int)] :: [AV.fn (Fn.func (65 : FuncId)) [] []] :: [AV.msl ((9 : Nat) + (2 : Nat) * j + (1 : Nat)) (0 : Nat) b.length (9223372036854775808 : Nat) (1 : Nat)] :: [AV.fn (Fn.func (94 : FuncId)) [] [AV.ptr 3 0, AV.ptr 1 0, AV.ptr 2 0, AV.ptr 4 0, AV.ptr 0 0]] :: [] :: [I (↑fr : Int)] :: [AV.bool false] :: [I (dI (↑nx : Int) (j + (1 : Nat)))] :: (List.replicate ((9 : Nat) + (2 : Nat) * j + (1 : Nat) - (9 : Nat)) [] ++ [ints (b ++ [(↑(el nx j) : Int)])])) [] []))) (by kernel_rfl) ?_⟩
    refine ⟨hA, ?_⟩
    refine ⟨by first | exact told_shl (by first | exact Int.natCast_nonneg _ | omega) (by with_reducible assumption) | exact told_shl (by omega) rfl, ?_⟩
    refine ⟨told_andn (by with_reducible assumption), ?_⟩
    refine ⟨ix_ints (by kernel_rfl) p3 hri, ?_⟩
    refine ⟨ld_ints (by kernel_rfl) (by kernel_rfl) p3, ?_⟩
    refine ⟨told_and (by with_reducible assumption), ?_⟩
    refine ⟨hc, ?_⟩
    refine ⟨told_sub (by with_reducible assumption), ?_⟩
    refine ⟨hS _, ?_⟩
    refine ⟨by trivial, ?_⟩
    exact ⟨rfl, ⟨keepJ⟩⟩
  · rintro _ ⟨rfl⟩ u
    exact .inl ⟨(), rfl, rfl, rfl, rfl⟩
end
end Go.Proofs.Rnk

