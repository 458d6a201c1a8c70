/- Layer 2: the best order, by the reference's search. -/
import Derived.Test.YtnnhomkkggkkfaaDoorRkBq
import Derived.Test.YtnnhomkkggkkfaaDoorRkI
import Derived.Test.YtnnhomkkggkkfaaDoorVm9
import Derived.KernelRfl
set_option linter.unusedSimpArgs false
set_option linter.unusedVariables false
set_option linter.unnecessarySimpa false
set_option maxHeartbeats 4000000
set_option maxRecDepth 100000
namespace Go.Proofs.Rnk
open Go Go.VM
open Go.Proofs.Sur (andn andn_bit andn_le i_wrap i_and i_or i_xor i_andn i_shl i_shr bit_01)

/-- the search's round: the players before the k-th tried -/
def fQ (A : Nat → Nat) (n f : Nat) (b : List Int) (m a : Nat) (st : Nat × List Int) : Nat → Nat × List Int
  | 0 => st
  | k + 1 => if m.testBit k then fQ A n f b m a st k else ordM A n f (b ++ [(k : Int)]) (m ||| 2 ^ k) (a + pc (A k &&& m)) (fQ A n f b m a st k)
theorem fQ_fold {A : Nat → Nat} {n f : Nat} {b : List Int} {m a : Nat} {st : Nat × List Int} : ∀ k, (List.range k).foldl (fun st i => if m.testBit i then st else ordM A n f (b ++ [(i : Int)]) (m ||| 2 ^ i) (a + pc (A i &&& m)) st) st = fQ A n f b m a st k
  | 0 => rfl
  | k + 1 => by rw [List.range_succ, List.foldl_append, fQ_fold k]; rfl
theorem ordM_go {A : Nat → Nat} {n f : Nat} {b : List Int} {m a : Nat} {st : Nat × List Int} (h : ¬ st.1 ≤ a) : ordM A n (f + 1) b m a st = fQ A n f b m a st n := by
  rw [ordM, if_neg h, fQ_fold]
/-- how a list that stands behind no room lies -/
def rq (l : List Int) : Room := if l.length = 0 then .nil else .no
def rs1 (l : List Int) : Room := if l.length = 0 then .nil else .full
theorem rq_c (l : List Int) : (rq l = .nil ∧ l = []) ∨ (rq l = .no ∧ l ≠ []) := by
  cases l with
  | nil => exact .inl ⟨rfl, rfl⟩
  | cons x l => exact .inr ⟨rfl, by simp⟩
@[simp] theorem rq_bnd (l : List Int) (n : Nat) : (rq l).bnd n = true := by rcases rq_c l with ⟨e, _⟩ | ⟨e, _⟩ <;> rw [e] <;> rfl
theorem rq_rok (l : List Int) : rok l (rq l) := fun h => by rcases rq_c l with ⟨e, h'⟩ | ⟨e, _⟩
                                                            · exact absurd h' h
                                                            · rw [e]; decide
abbrev lq (l : List Int) : AV := .sl (ints l) l.length (rq l)
abbrev hQ (best : Nat) (o : List Int) (T : List Nat) : H := ⟨[[I best], [lq o]], T, []⟩
theorem hQ_closed (best : Nat) (o : List Int) : (hQ best o []).closed := ⟨rfl, rfl, fun cs hcs => by
  simp only [List.mem_cons, List.not_mem_nil, or_false] at hcs
  rcases hcs with rfl | rfl
  · rfl
  · simp [AV.bnds, AV.bnd]⟩
theorem sl_q {P : Program} {t : TypeId} (hu : (elemT P t).bind (sizeT P) = some 1) {b : List Int} {H : H} : aSlice P t (lq b) none (some (I b.length)) (some (I b.length)) H = some (.sl (ints b) b.length (rs1 b)) := by
  cases he : elemT P t with
  | none => rw [he] at hu; cases hu
  | some e =>
    rw [he] at hu
    have hs : sizeT P e = some 1 := hu
    have hb : aBounds b.length none (some ((b.length : Nat) : Int)) = some (0, b.length) := by simp [aBounds]
    rcases rq_c b with ⟨q, rfl⟩ | ⟨q, h⟩
    · simp [aSlice, intOf?, he, hs, q, aBounds, rs1, ints]
    · have h0 : b.length ≠ 0 := fun e => h (List.length_eq_zero_iff.1 e)
      have hi : intOf? (some (I (b.length : Nat))) = some (some ((b.length : Nat) : Int)) := rfl
      have hn : intOf? (none : Option AV) = some none := rfl
      simp only [aSlice, hi, hn, he, hs, hb, q]
      simp [rs1, h0, ints]
      exact List.take_of_length_le (by simp)
theorem ap_q {P : Program} {t : TypeId} (hT : appT P t = true) {b : List Int} {x : Int} {best : Nat} {o : List Int} {T : List Nat} (hn : b.length ≤ 1000000) :
    aAppend P t t (.sl (ints b) b.length (rs1 b)) (.sl [I x] 1 .full) (hQ best o T) = some (.sl (ints (b ++ [x])) (b ++ [x]).length (.tok T.length 1), hQ best o (T ++ [(b ++ [x]).length])) := by
  obtain ⟨e, i, z, he, hi, hz, g1, g2, g3⟩ := appT_of hT
  have hb : (b.length + 1) * i.bytes ≤ 2 ^ 47 := Nat.le_trans (Nat.mul_le_mul (Nat.succ_le_succ hn) g2) (by decide)
  have hm' : b.length + 1 ≤ maxLen := Nat.le_trans (Nat.succ_le_succ hn) (by decide)
  have hi2 : ints (b ++ [x]) = ints b ++ [I x] := by simp [ints]
  rw [hi2]
  have ho : (I x).one = true := rfl
  by_cases h0 : b.length = 0
  · have hb0 : i.bytes ≤ 140737488355328 := by have := hb; rw [h0] at this; simpa using this
    have hb1 : b = [] := List.length_eq_zero_iff.1 h0
    subst hb1
    simp [aAppend, he, hi, hz, g1, g3, slCells, rs1, ho, hb0]
    decide
  · simp [aAppend, he, hi, hz, g1, g3, slCells, hb, hm', rs1, h0, ho]
abbrev QQ (t : List Int) (f : Nat) (b : List Int) (m a : Nat) (st : Nat × List Int) : Nat × List Int := ordM (sn t) t.length f b m a st
def Ok76 (f : Nat) : Prop := ∀ (t : List Int) (r : Room) (b : List Int) (m a best : Nat) (o : List Int), Tn t → rok t r → b.length + f = t.length → m < 256 → a ≤ 8 * b.length →
  CallOk Tryd.prog 76 [ls t r, lq b, I m, I a, .ptr 0 0, .ptr 1 0] (hQ best o []) (.tup []) (hQ (QQ t f b m a (best, o)).1 (QQ t f b m a (best, o)).2 [])
theorem frameQ {u u' : Nat} {o o' : List Int} {args : List AV} (ha : AV.bnds 2 0 0 args = true) (k : CallOk Tryd.prog 76 args (hQ u o []) (.tup []) (hQ u' o' [])) (T : List Nat) : CallOk Tryd.prog 76 args (hQ u o T) (.tup []) (hQ u' o' T) :=
  CallOk.frameW (h := hQ u o []) (h' := hQ u' o' []) (hQ_closed u o) (hQ_closed u' o') rfl (fun c => by
      match c with
      | 0 => simp
      | 1 => simp
      | c + 2 => simp) (fun cs hcs => by
      simp only [List.mem_cons, List.not_mem_nil, or_false] at hcs
      rcases hcs with rfl | rfl
      · rfl
      · simp [AV.bnds, AV.bnd]) ha rfl k [] T []
abbrev X76 := (List Int × Room) × (List Int × Room) × (Nat × Nat) × (Nat × List Int) × List Nat
abbrev p76 (f : Nat) (x : X76) (h : H) : Prop := h = hQ x.2.2.2.1.1 x.2.2.2.1.2 x.2.2.2.2 ∧ (Tn x.1.1 ∧ rok x.1.1 x.1.2) ∧ x.2.1.2.wk = rq x.2.1.1 ∧ x.2.1.1.length + f = x.1.1.length ∧ x.2.2.1.1 < 256 ∧ x.2.2.1.2 ≤ 8 * x.2.1.1.length
abbrev res76 (f : Nat) (x : X76) : AV × H := (.tup [], hQ (QQ x.1.1 f x.2.1.1 x.2.2.1.1 x.2.2.1.2 x.2.2.2.1).1 (QQ x.1.1 f x.2.1.1 x.2.2.1.1 x.2.2.1.2 x.2.2.2.1).2 x.2.2.2.2)
abbrev M76 : FuncId → Bool := (· == 76)
abbrev N62 : FuncId → Bool := (· == 62)
theorem ok76 : FokL Tryd.prog M76 76 Tryd.f76 := ⟨mixed, by kernel_rfl, by kernel_rfl, by kernel_rfl⟩
noncomputable def c76 (f : Nat) (hok : Ok76 f) : Ctr Tryd.prog where
  f := 76
  X := X76
  args x := [ls x.1.1 x.1.2, .sl (ints x.2.1.1) x.2.1.1.length x.2.1.2, I x.2.2.1.1, I x.2.2.1.2, .ptr 0 0, .ptr 1 0]
  pre x h := p76 f x h
  res x _ := res76 f x
  det := by
    rintro ⟨⟨t, r⟩, ⟨b, q⟩, ⟨m, a⟩, ⟨u, o⟩, T⟩ ⟨⟨t', r'⟩, ⟨b', q'⟩, ⟨m', a'⟩, ⟨u', o'⟩, T'⟩ h e p p'
    have h1 := p.1.symm.trans p'.1
    simp only [hQ, H.mk.injEq, List.cons.injEq, and_true, AV.sl.injEq, AV.int.injEq, true_and] at h1
    simp only [List.cons.injEq, AV.sl.injEq, AV.int.injEq, and_true, true_and] at e
    obtain ⟨⟨h2, h3, -⟩, h5⟩ := h1
    obtain ⟨⟨e1, -⟩, ⟨e2, -⟩, e3, e4⟩ := e
    have e1 := ints_inj e1
    have e2 := ints_inj e2
    have h3 := ints_inj h3
    have h2 : u = u' := by omega
    have e3 : m = m' := by omega
    have e4 : a = a' := by omega
    subst e1 e2 h3 h2 e3 e4 h5; rfl
  ok := by
    rintro ⟨⟨t, r⟩, ⟨b, q⟩, ⟨m, a⟩, ⟨u, o⟩, T⟩ h ⟨h1, ⟨h2, h2'⟩, h3, h4, h5, h6⟩
    have h1 : h = hQ u o T := h1
    subst h1
    refine ⟨ok76.call, CallOk.wk ?_⟩
    have h3 : q.wk = rq b := h3
    have k := hok t r.wk b m a u o h2 (by simpa using h2') h4 h5 h6
    have ha : AV.bnds 2 0 0 [ls t r.wk, lq b, I m, I a, .ptr 0 0, .ptr 1 0] = true := by simp [AV.bnds, AV.bnd, rm_wk_bnd]
    have := frameQ ha k T
    simp only [List.map_cons, List.map_nil, AV.wk, h3]
    exact this
noncomputable abbrev EnQ (l : List (Ctr Tryd.prog)) : Env := ⟨Tryd.prog, Sof (P := Tryd.prog) l, Pof (P := Tryd.prog) [], ⟨2, 0, 0⟩, 300⟩
theorem ct76 (f : Nat) (hok : Ok76 f) : Ctrs Tryd.prog M76 [c62.to, c76 f hok] := .pure _ (.eff _ rfl .nil)
abbrev o76 (t : List Int) (r : Room) (b : List Int) (m a f : Nat) (st : Nat × List Int) : List Out := [.mk (List Nat) (.exit 0) [] (fun _ => True) (fun _ => []) (fun T => hQ (fQ (sn t) t.length f b m a st t.length).1 (fQ (sn t) t.length f b m a st t.length).2 T) (fun _ => [])]
theorem free76 (f : Nat) (hok : Ok76 f) : FreeS (EnQ [c62.to, c76 f hok]).S N62 := free_sof (fun c hc hM x h hp h1 => by
  simp only [List.mem_cons, List.not_mem_nil, or_false] at hc
  rcases hc with rfl | rfl
  · exact ⟨hp, rfl, rfl⟩
  · cases hM)
abbrev xQ (t : List Int) (r : Room) (b : List Int) (m a k : Nat) (T : List Nat) (st : Nat × List Int) : X76 := ((t, r), (b ++ [(k : Int)], .tok T.length 1), (m ||| 2 ^ k, a + pc (sn t k &&& m)), st, T ++ [(b ++ [(k : Int)]).length])
theorem simp76 : allSimpleN N62 M76 (loopAt Tryd.f76 0) = true := by kernel_rfl
theorem lp76 (f : Nat) (hok : Ok76 f) (t : List Int) (r : Room) (b : List Int) (m a : Nat) (st : Nat × List Int) (h : Tn t) (hr : rok t r) (hb : b.length + (f + 1) = t.length) (hm : m < 256) (ha : a ≤ 8 * b.length) :
    LoopS (EnQ [c62.to, c76 f hok]) (loopAt Tryd.f76 0) 66 [0, 1, 2, 3, 4, 5, 12, 32, 33, 34] [ls t r, lq b, I m, I a, .ptr 0 0, .ptr 1 0, I b.length, ls t r, I t.length, I 0] (hQ st.1 st.2 []) (o76 t r b m a f st) := by
  have hR : Rests (EnQ [c62.to, c76 f hok]) M76 := rests mixed (ct76 f hok)
  have h8 := h.s.2
  refine loop_sN hR (free76 f hok) simp76 none (by intro _ h; cases h) (fun k vs H => (∃ T, H = hQ (fQ (sn t) t.length f b m a st k).1 (fQ (sn t) t.length f b m a st k).2 T) ∧ vs = [ls t r, lq b, I m, I a, .ptr 0 0, .ptr 1 0, I b.length, ls t r, I t.length, I k]) t.length ⟨⟨[], rfl⟩, rfl⟩ (by intro _ h; cases h) ?_
  rintro k vs h' hk ⟨⟨T, rfl⟩, rfl⟩
  by_cases hz : (k : Int) < t.length
  · have hz' : k < t.length := by omega
    have hri := rok_idx hr hz'
    have ev0 := wj1 (j := k) (by omega)
    have hs8 : s8 ((m : Nat) : Int) := by simp only [s8]; omega
    cases c : m.testBit k
    · have hnb : bi ((m : Nat) : Int) k = false := by simp only [bi, Int.toNat_natCast]; exact c
      obtain ⟨ev1, ev2⟩ := i_bit0 hs8 (show k ≤ 64 by omega) hnb
      have hsn := h.sn k
      have ev3 : IntKind.i64.wrap ((BitVec.ofInt IntKind.i64.bits (t.getD k i0) &&& BitVec.ofInt IntKind.i64.bits ((m : Nat) : Int)).toNat : Int) = ((sn t k &&& m : Nat) : Int) := by
        have := i_and (a := sn t k) (b := m) (by omega) (by omega)
        rw [hsn.2] at this
        exact this
      have ev4 := pw_shl (n := k) (by omega)
      have h2 : 2 ^ k < 2 ^ 8 := Nat.pow_lt_pow_right (by decide) (by omega)
      have ev5 : IntKind.i64.wrap ((BitVec.ofInt IntKind.i64.bits ((m : Nat) : Int) ||| BitVec.ofInt IntKind.i64.bits ((2 ^ k : Nat) : Int)).toNat : Int) = ((m ||| 2 ^ k : Nat) : Int) := i_or (by omega) (by omega)
      have hle : sn t k &&& m ≤ m := Nat.and_le_right
      have p62 : s8 ((sn t k &&& m : Nat) : Int) := by simp only [s8]; omega
      have hpc : pc (sn t k &&& m) ≤ 8 := pc_le _
      have ev6 : IntKind.i64.wrap (((a : Nat) : Int) + ((pc (((sn t k &&& m : Nat) : Int)).toNat : Nat) : Int)) = ((a + pc (sn t k &&& m) : Nat) : Int) := by
        rw [Int.toNat_natCast, wr _ (by omega) (by omega)]; omega
      have hS : ∀ H, aSlice Tryd.prog 22 (lq b) none (some (I b.length)) (some (I b.length)) H = some (.sl (ints b) b.length (rs1 b)) := fun H => sl_q (by kernel_rfl)
      have hS' := hS (hQ (fQ (sn t) t.length f b m a st k).1 (fQ (sn t) t.length f b m a st k).2 T)
      have hA := ap_q (P := Tryd.prog) (t := 22) (by kernel_rfl) (b := b) (x := (k : Int)) (best := (fQ (sn t) t.length f b m a st k).1) (o := (fQ (sn t) t.length f b m a st k).2) (T := T) (by omega)
      have e1 : fQ (sn t) t.length f b m a st (k + 1) = ordM (sn t) t.length f (b ++ [(k : Int)]) (m ||| 2 ^ k) (a + pc (sn t k &&& m)) (fQ (sn t) t.length f b m a st k) := by rw [fQ, c]; rfl
      have hq1 : rq (b ++ [(k : Int)]) = .no := by simp [rq]
      have p76 : p76 f (xQ t r b m a k T (fQ (sn t) t.length f b m a st k)) (hQ (fQ (sn t) t.length f b m a st k).1 (fQ (sn t) t.length f b m a st k).2 (T ++ [(b ++ [(k : Int)]).length])) :=
        ⟨rfl, ⟨h, hr⟩, hq1.symm, by simp only [List.length_append, List.length_cons, List.length_nil]; omega, Nat.or_lt_two_pow (n := 8) hm h2, by simp only [List.length_append, List.length_cons, List.length_nil]; omega⟩
      refine ⟨[Ans.o (Orc.b true), Ans.o (Orc.val 37 (AV.cptr (ints (List.drop k t))) H.nil), Ans.o (Orc.val 38 (I (t.getD k i0)) H.nil), Ans.o (Orc.val 41 (I (↑((↑m : Int).toNat >>> k) : Int)) H.nil), Ans.o (Orc.val 42 (I 0) H.nil), Ans.o Orc.dflt, Ans.o (Orc.val 48 (AV.sl (ints b) b.length (rs1 b)) H.nil), Ans.o (Orc.val 51 (AV.sl (ints (b ++ [(↑k : Int)])) (b ++ [(↑k : Int)]).length (Room.tok T.length (1 : Nat))) (hQ (fQ (sn t) t.length f b m a st k).fst (fQ (sn t) t.length f b m a st k).snd (T ++ [(b ++ [(↑k : Int)]).length]))), Ans.o (Orc.val 54 (I (↑((2 : Nat) ^ k) : Int)) H.nil), Ans.o (Orc.val 55 (I (↑(m ||| (2 : Nat) ^ k) : Int)) H.nil), Ans.o (Orc.val 59 (I (↑(sn t k &&& m) : Int)) H.nil), Ans.o (Orc.val 60 (I (↑(pc (↑(sn t k &&& m) : Int).toNat) : Int)) (H.mk [[I (↑(fQ (sn t) t.length f b m a st k).fst : Int)], [AV.sl (ints (fQ (sn t) t.length f b m a st k).snd) (fQ (sn t) t.length f b m a st k).snd.length (rq (fQ (sn t) t.length f b m a st k).snd)]] (T ++ [(b ++ [(↑k : Int)]).length]) [])), Ans.o (Orc.val 61 (I (↑(a + pc (sn t k &&& m)) : Int)) H.nil), Ans.o (Orc.val 64 (AV.tup []) (H.mk [[I (↑(QQ t f (b ++ [(↑k : Int)]) (m ||| (2 : Nat) ^ k) (a + pc (sn t k &&& m)) ((fQ (sn t) t.length f b m a st k).fst, (fQ (sn t) t.length f b m a st k).snd)).fst : Int)], [AV.sl (ints (QQ t f (b ++ [(↑k : Int)]) (m ||| (2 : Nat) ^ k) (a + pc (sn t k &&& m)) ((fQ (sn t) t.length f b m a st k).fst, (fQ (sn t) t.length f b m a st k).snd)).snd) (QQ t f (b ++ [(↑k : Int)]) (m ||| (2 : Nat) ^ k) (a + pc (sn t k &&& m)) ((fQ (sn t) t.length f b m a st k).fst, (fQ (sn t) t.length f b m a st k).snd)).snd.length (rq (QQ t f (b ++ [(↑k : Int)]) (m ||| (2 : Nat) ^ k) (a + pc (sn t k &&& m)) ((fQ (sn t) t.length f b m a st k).fst, (fQ (sn t) t.length f b m a st k).snd)).snd)]] (T ++ [(b ++ [(↑k : Int)]).length]) [])), Ans.o (Orc.val 65 (I (↑(k + (1 : Nat)) : Int)) H.nil)], fun u => of_eq ((↑k : Int) < (↑t.length : Int) ∧ aIndexAddr Tryd.prog (22 : Nat) (AV.sl (ints t) t.length r) (I (↑k : Int)) = some (AV.cptr (ints (List.drop k t))) ∧ aLoad Tryd.prog (3 : Nat) (ints (List.drop k t)) = some (I (t.getD k i0)) ∧ aBin Tryd.prog BinOp.shr (3 : Nat) (I (↑m : Int)) (I (↑k : Int)) = some (I (↑((↑m : Int).toNat >>> k) : Int)) ∧ aBin Tryd.prog BinOp.and (3 : Nat) (I (↑((↑m : Int).toNat >>> k) : Int)) (I 1) = some (I 0) ∧ aSlice Tryd.prog (22 : Nat) (AV.sl (ints b) b.length (rq b)) none (some (I (↑b.length : Int))) (some (I (↑b.length : Int))) (H.mk [[I (↑(fQ (sn t) t.length f b m a st k).fst : Int)], [AV.sl (ints (fQ (sn t) t.length f b m a st k).snd) (fQ (sn t) t.length f b m a st k).snd.length (rq (fQ (sn t) t.length f b m a st k).snd)]] T []) = some (AV.sl (ints b) b.length (rs1 b)) ∧ aAppend Tryd.prog (22 : Nat) (22 : Nat) (AV.sl (ints b) b.length (rs1 b)) (AV.sl [I (↑k : Int)] (1 : Nat) Room.full) (H.mk [[I (↑(fQ (sn t) t.length f b m a st k).fst : Int)], [AV.sl (ints (fQ (sn t) t.length f b m a st k).snd) (fQ (sn t) t.length f b m a st k).snd.length (rq (fQ (sn t) t.length f b m a st k).snd)]] T []) = some (AV.sl (ints (b ++ [(↑k : Int)])) (b ++ [(↑k : Int)]).length (Room.tok T.length (1 : Nat)), H.mk [[I (↑(fQ (sn t) t.length f b m a st k).fst : Int)], [AV.sl (ints (fQ (sn t) t.length f b m a st k).snd) (fQ (sn t) t.length f b m a st k).snd.length (rq (fQ (sn t) t.length f b m a st k).snd)]] (T ++ [(b ++ [(↑k : Int)]).length]) []) ∧ aBin Tryd.prog BinOp.shl (3 : Nat) (I 1) (I (↑k : Int)) = some (I (↑((2 : Nat) ^ k) : Int)) ∧ aBin Tryd.prog BinOp.or (3 : Nat) (I (↑m : Int)) (I (↑((2 : Nat) ^ k) : Int)) = some (I (↑(m ||| (2 : Nat) ^ k) : Int)) ∧ aBin Tryd.prog BinOp.and (3 : Nat) (I (t.getD k i0)) (I (↑m : Int)) = some (I (↑(sn t k &&& m) : Int)) ∧ aCall (Sof [c62.to, c76 f hok]) (AV.fn (Fn.func (62 : Nat)) [] []) [I (↑(sn t k &&& m) : Int)] (H.mk [[I (↑(fQ (sn t) t.length f b m a st k).fst : Int)], [AV.sl (ints (fQ (sn t) t.length f b m a st k).snd) (fQ (sn t) t.length f b m a st k).snd.length (rq (fQ (sn t) t.length f b m a st k).snd)]] (T ++ [(b ++ [(↑k : Int)]).length]) []) = some (I (↑(pc (↑(sn t k &&& m) : Int).toNat) : Int), H.mk [[I (↑(fQ (sn t) t.length f b m a st k).fst : Int)], [AV.sl (ints (fQ (sn t) t.length f b m a st k).snd) (fQ (sn t) t.length f b m a st k).snd.length (rq (fQ (sn t) t.length f b m a st k).snd)]] (T ++ [(b ++ [(↑k : Int)]).length]) []) ∧ aBin Tryd.prog BinOp.add (3 : Nat) (I (↑a : Int)) (I (↑(pc (↑(sn t k &&& m) : Int).toNat) : Int)) = some (I (↑(a + pc (sn t k &&& m)) : Int)) ∧ aCall (Sof [c62.to, c76 f hok]) (AV.fn (Fn.func (76 : Nat)) [] []) [AV.sl (ints t) t.length r, AV.sl (ints (b ++ [(↑k : Int)])) (b ++ [(↑k : Int)]).length (Room.tok T.length (1 : Nat)), I (↑(m ||| (2 : Nat) ^ k) : Int), I (↑(a + pc (sn t k &&& m)) : Int), AV.ptr 0 0, AV.ptr 1 0] (H.mk [[I (↑(fQ (sn t) t.length f b m a st k).fst : Int)], [AV.sl (ints (fQ (sn t) t.length f b m a st k).snd) (fQ (sn t) t.length f b m a st k).snd.length (rq (fQ (sn t) t.length f b m a st k).snd)]] (T ++ [(b ++ [(↑k : Int)]).length]) []) = some (AV.tup [], H.mk [[I (↑(QQ t f (b ++ [(↑k : Int)]) (m ||| (2 : Nat) ^ k) (a + pc (sn t k &&& m)) ((fQ (sn t) t.length f b m a st k).fst, (fQ (sn t) t.length f b m a st k).snd)).fst : Int)], [AV.sl (ints (QQ t f (b ++ [(↑k : Int)]) (m ||| (2 : Nat) ^ k) (a + pc (sn t k &&& m)) ((fQ (sn t) t.length f b m a st k).fst, (fQ (sn t) t.length f b m a st k).snd)).snd) (QQ t f (b ++ [(↑k : Int)]) (m ||| (2 : Nat) ^ k) (a + pc (sn t k &&& m)) ((fQ (sn t) t.length f b m a st k).fst, (fQ (sn t) t.length f b m a st k).snd)).snd.length (rq (QQ t f (b ++ [(↑k : Int)]) (m ||| (2 : Nat) ^ k) (a + pc (sn t k &&& m)) ((fQ (sn t) t.length f b m a st k).fst, (fQ (sn t) t.length f b m a st k).snd)).snd)]] (T ++ [(b ++ [(↑k : Int)]).length]) []) ∧ aBin Tryd.prog BinOp.add (3 : Nat) (I (↑k : Int)) (I 1) = some (I (↑(k + (1 : Nat)) : Int)) ∧ (66 : Nat) = (66 : Nat) ∧ k < t.length ∧ Keep ((∃ T_1, H.mk [[I (↑(QQ t f (b ++ [(↑k : Int)]) (m ||| (2 : Nat) ^ k) (a + pc (sn t k &&& m)) ((fQ (sn t) t.length f b m a st k).fst, (fQ (sn t) t.length f b m a st k).snd)).fst : Int)], [AV.sl (ints (QQ t f (b ++ [(↑k : Int)]) (m ||| (2 : Nat) ^ k) (a + pc (sn t k &&& m)) ((fQ (sn t) t.length f b m a st k).fst, (fQ (sn t) t.length f b m a st k).snd)).snd) (QQ t f (b ++ [(↑k : Int)]) (m ||| (2 : Nat) ^ k) (a + pc (sn t k &&& m)) ((fQ (sn t) t.length f b m a st k).fst, (fQ (sn t) t.length f b m a st k).snd)).snd.length (rq (QQ t f (b ++ [(↑k : Int)]) (m ||| (2 : Nat) ^ k) (a + pc (sn t k &&& m)) ((fQ (sn t) t.length f b m a st k).fst, (fQ (sn t) t.length f b m a st k).snd)).snd)]] (T ++ [(b ++ [(↑k : Int)]).length]) [] = H.mk [[I (↑(fQ (sn t) t.length f b m a st (k + (1 : Nat))).fst : Int)], [AV.sl (ints (fQ (sn t) t.length f b m a st (k + (1 : Nat))).snd) (fQ (sn t) t.length f b m a st (k + (1 : Nat))).snd.length (rq (fQ (sn t) t.length f b m a st (k + (1 : Nat))).snd)]] T_1 []) ∧ [AV.sl (ints t) t.length r, AV.sl (ints b) b.length (rq b), I (↑m : Int), I (↑a : Int), AV.ptr 0 0, AV.ptr 1 0, I (↑b.length : Int), AV.sl (ints t) t.length r, I (↑t.length : Int), I (↑(k + (1 : Nat)) : Int)] = [AV.sl (ints t) t.length r, AV.sl (ints b) b.length (rq b), I (↑m : Int), I (↑a : Int), AV.ptr 0 0, AV.ptr 1 0, I (↑b.length : Int), AV.sl (ints t) t.length r, I (↑t.length : Int), I (↑(k + (1 : Nat)) : Int)])) (by kernel_rfl) ?_⟩
      refine ⟨by first | with_reducible assumption | omega | assumption, ?_⟩
      refine ⟨ix_ints (by kernel_rfl) hz' hri, ?_⟩
      refine ⟨ld_ints (by kernel_rfl) (by kernel_rfl) hz', ?_⟩
      refine ⟨by first | exact told_shr (by first | exact Int.natCast_nonneg _ | omega) (by with_reducible assumption) | exact told_shr (by omega) rfl, ?_⟩
      refine ⟨told_and (by with_reducible assumption), ?_⟩
      refine ⟨hS _, ?_⟩
      refine ⟨hA, ?_⟩
      refine ⟨by first | exact told_shl (by first | exact Int.natCast_nonneg _ | omega) (by with_reducible assumption) | exact told_shl (by omega) rfl, ?_⟩
      refine ⟨told_or (by with_reducible assumption), ?_⟩
      refine ⟨told_and (by with_reducible assumption), ?_⟩
      refine ⟨acall_hit (c := c62.to) ((sn t k &&& m : Nat) : Int) _ rfl p62, ?_⟩
      refine ⟨told_add (by with_reducible assumption), ?_⟩
      refine ⟨acall_hit (c := c76 f hok) (xQ t r b m a k T (fQ (sn t) t.length f b m a st k)) _ rfl p76, ?_⟩
      refine ⟨told_add (by with_reducible assumption), ?_⟩
      refine ⟨by first | with_reducible assumption | omega | assumption, ?_⟩
      refine ⟨by first | with_reducible assumption | omega | assumption, ?_⟩
      exact ⟨⟨_, by rw [e1]⟩, rfl⟩
    · have hnb : bi ((m : Nat) : Int) k = true := by simp only [bi, Int.toNat_natCast]; exact c
      obtain ⟨ev1, ev2⟩ := i_bit1 hs8 (show k ≤ 64 by omega) hnb
      have e1 : fQ (sn t) t.length f b m a st (k + 1) = fQ (sn t) t.length f b m a st k := by rw [fQ, c]; rfl
      refine ⟨[Ans.o (Orc.b true), Ans.o (Orc.val 37 (AV.cptr (ints (List.drop k t))) H.nil), Ans.o (Orc.val 38 (I (t.getD k i0)) H.nil), Ans.o (Orc.val 41 (I (↑((↑m : Int).toNat >>> k) : Int)) H.nil), Ans.o (Orc.val 42 (I 1) H.nil), Ans.o Orc.dflt, Ans.o (Orc.val 65 (I (↑(k + (1 : Nat)) : Int)) H.nil)], fun u => of_eq ((↑k : Int) < (↑t.length : Int) ∧ aIndexAddr Tryd.prog (22 : Nat) (AV.sl (ints t) t.length r) (I (↑k : Int)) = some (AV.cptr (ints (List.drop k t))) ∧ aLoad Tryd.prog (3 : Nat) (ints (List.drop k t)) = some (I (t.getD k i0)) ∧ aBin Tryd.prog BinOp.shr (3 : Nat) (I (↑m : Int)) (I (↑k : Int)) = some (I (↑((↑m : Int).toNat >>> k) : Int)) ∧ aBin Tryd.prog BinOp.and (3 : Nat) (I (↑((↑m : Int).toNat >>> k) : Int)) (I 1) = some (I 1) ∧ aBin Tryd.prog BinOp.add (3 : Nat) (I (↑k : Int)) (I 1) = some (I (↑(k + (1 : Nat)) : Int)) ∧ (66 : Nat) = (66 : Nat) ∧ k < t.length ∧ Keep ((∃ T_1, H.mk [[I (↑(fQ (sn t) t.length f b m a st k).fst : Int)], [AV.sl (ints (fQ (sn t) t.length f b m a st k).snd) (fQ (sn t) t.length f b m a st k).snd.length (rq (fQ (sn t) t.length f b m a st k).snd)]] T [] = H.mk [[I (↑(fQ (sn t) t.length f b m a st (k + (1 : Nat))).fst : Int)], [AV.sl (ints (fQ (sn t) t.length f b m a st (k + (1 : Nat))).snd) (fQ (sn t) t.length f b m a st (k + (1 : Nat))).snd.length (rq (fQ (sn t) t.length f b m a st (k + (1 : Nat))).snd)]] T_1 []) ∧ [AV.sl (ints t) t.length r, AV.sl (ints b) b.length (rq b), I (↑m : Int), I (↑a : Int), AV.ptr 0 0, AV.ptr 1 0, I (↑b.length : Int), AV.sl (ints t) t.length r, I (↑t.length : Int), I (↑(k + (1 : Nat)) : Int)] = [AV.sl (ints t) t.length r, AV.sl (ints b) b.length (rq b), I (↑m : Int), I (↑a : Int), AV.ptr 0 0, AV.ptr 1 0, I (↑b.length : Int), AV.sl (ints t) t.length r, I (↑t.length : Int), I (↑(k + (1 : Nat)) : Int)])) (by kernel_rfl) ?_⟩
      refine ⟨by first | with_reducible assumption | omega | assumption, ?_⟩
      refine ⟨ix_ints (by kernel_rfl) hz' hri, ?_⟩
      refine ⟨ld_ints (by kernel_rfl) (by kernel_rfl) hz', ?_⟩
      refine ⟨by first | exact told_shr (by first | exact Int.natCast_nonneg _ | omega) (by with_reducible assumption) | exact told_shr (by omega) rfl, ?_⟩
      refine ⟨told_and (by with_reducible assumption), ?_⟩
      refine ⟨told_add (by with_reducible assumption), ?_⟩
      refine ⟨by first | with_reducible assumption | omega | assumption, ?_⟩
      refine ⟨by first | with_reducible assumption | omega | assumption, ?_⟩
      exact ⟨⟨_, by rw [e1]⟩, rfl⟩
  · have hz : (t.length : Int) ≤ k := by omega
    have e : k = t.length := by omega
    subst e
    refine ⟨[Ans.o (Orc.b false)], fun u => of_eq ((↑t.length : Int) ≤ (↑t.length : Int) ∧ (66 : Nat) = (66 : Nat) ∧ hits [Out.mk (List Nat) (AX.exit (0 : Nat)) [] (fun x => True) (fun x => []) (fun T => hQ (fQ (sn t) t.length f b m a st t.length).fst (fQ (sn t) t.length f b m a st t.length).snd T) fun x => []] (AX.exit (0 : Nat)) [AV.sl (ints t) t.length r, AV.sl (ints b) b.length (rq b), I (↑m : Int), I (↑a : Int), AV.ptr 0 0, AV.ptr 1 0, u (6 : Nat), u (7 : Nat), u (8 : Nat), u (9 : Nat), u (10 : Nat), u (11 : Nat), I (↑b.length : Int), u (13 : Nat), u (14 : Nat), u (15 : Nat), u (16 : Nat), u (17 : Nat), u (18 : Nat), u (19 : Nat), u (20 : Nat), u (21 : Nat), u (22 : Nat), u (23 : Nat), u (24 : Nat), u (25 : Nat), u (26 : Nat), u (27 : Nat), u (28 : Nat), u (29 : Nat), u (30 : Nat), u (31 : Nat), AV.sl (ints t) t.length r, I (↑t.length : Int), I (↑t.length : Int), AV.bool false, u (36 : Nat), u (37 : Nat), u (38 : Nat), u (39 : Nat), u (40 : Nat), u (41 : Nat), u (42 : Nat), u (43 : Nat), u (44 : Nat), u (45 : Nat), u (46 : Nat), u (47 : Nat), u (48 : Nat), u (49 : Nat), u (50 : Nat), u (51 : Nat), u (52 : Nat), u (53 : Nat), u (54 : Nat), u (55 : Nat), u (56 : Nat), u (57 : Nat), u (58 : Nat), u (59 : Nat), u (60 : Nat), u (61 : Nat), u (62 : Nat), u (63 : Nat), u (64 : Nat), u (65 : Nat)] (H.mk [[I (↑(fQ (sn t) t.length f b m a st t.length).fst : Int)], [AV.sl (ints (fQ (sn t) t.length f b m a st t.length).snd) (fQ (sn t) t.length f b m a st t.length).snd.length (rq (fQ (sn t) t.length f b m a st t.length).snd)]] T [])) (by kernel_rfl) ?_⟩
    refine ⟨by first | with_reducible assumption | omega | assumption, ?_⟩
    refine ⟨by first | with_reducible assumption | omega | assumption, ?_⟩
    exact .inl ⟨T, trivial, rfl, rfl, rfl⟩
theorem simpB76 : allSimpleN N62 M76 (bd Tryd.f76) = true := by kernel_rfl
theorem st_q (b o : List Int) (a : Nat) : aStore Tryd.prog ⟨2, 0, 0⟩ 22 (.ptr 1 0) (lq b) (hQ a o []) = some (hQ a b []) := by
  have hs : sizeT Tryd.prog 22 = some 1 := by kernel_rfl
  have h1 : AV.bnds 2 0 0 [lq b] = true := by simp [AV.bnds, AV.bnd]
  have h2 : AV.one (lq b) = true := rfl
  simp [aStore, AV.cells?, hs, h1, h2, putAt]
theorem st_q0 (o : List Int) (a u : Nat) : aStore Tryd.prog ⟨2, 0, 0⟩ 3 (.ptr 0 0) (I a) (hQ u o []) = some (hQ a o []) := by
  have hs : sizeT Tryd.prog 3 = some 1 := by kernel_rfl
  have h1 : AV.bnds 1 0 0 [I a] = true := by simp [AV.bnds, AV.bnd]
  have h2 : AV.one (I a) = true := rfl
  simp [aStore, AV.cells?, hs, h1, h2, putAt]
theorem r76z (t : List Int) (r : Room) (b : List Int) (m a best : Nat) (o : List Int) (hb : b.length = t.length) (hlt : a < best) : Body (EnQ []) M76 Tryd.f76 [ls t r, lq b, I m, I a, .ptr 0 0, .ptr 1 0] (hQ best o []) (.tup [], hQ a b []) := by
  have c0 : (a : Int) < best := by omega
  have c1 : (b.length : Int) = t.length := by omega
  have hst := st_q b o a
  have hst0 := st_q0 o a best
  exact body_s ([Ans.o (Orc.b false), Ans.o (Orc.b true), Ans.o (Orc.val 9999 (AV.tup []) (hQ a o [])), Ans.o (Orc.val 9999 (AV.tup []) (hQ a b []))]) ((a : Int) < (best : Int) ∧ (b.length : Int) = (t.length : Int) ∧ aStore Tryd.prog ⟨2, 0, 0⟩ 3 (.ptr 0 0) (I a) (hQ best o []) = some (hQ a o []) ∧ aStore Tryd.prog ⟨2, 0, 0⟩ 22 (.ptr 1 0) (lq b) (hQ a o []) = some (hQ a b []) ∧ (AV.tup [], hQ a b []) = (AV.tup [], hQ a b [])) (by kernel_rfl) ⟨c0, c1, hst0, hst, rfl⟩
theorem r76s (t : List Int) (r : Room) (b : List Int) (m a best : Nat) (o : List Int) (hlt : best ≤ a) : Body (EnQ []) M76 Tryd.f76 [ls t r, lq b, I m, I a, .ptr 0 0, .ptr 1 0] (hQ best o []) (.tup [], hQ best o []) := by
  have c0 : (best : Int) ≤ a := by omega
  refine body_s ([Ans.o (Orc.b true)]) ((↑best : Int) ≤ (↑a : Int) ∧ (AV.tup [], H.mk [[I (↑best : Int)], [AV.sl (ints o) o.length (rq o)]] [] []) = (AV.tup [], H.mk [[I (↑best : Int)], [AV.sl (ints o) o.length (rq o)]] [] [])) (by kernel_rfl) ?_
  refine ⟨by first | with_reducible assumption | omega | assumption, ?_⟩
  rfl
theorem r76 (f : Nat) (hok : Ok76 f) (t : List Int) (r : Room) (b : List Int) (m a best : Nat) (o : List Int) (h : Tn t) (hr : rok t r) (hb : b.length + (f + 1) = t.length) (hm : m < 256) (ha : a ≤ 8 * b.length) (hlt : a < best) : Body (EnQ [c62.to, c76 f hok]) M76 Tryd.f76 [ls t r, lq b, I m, I a, .ptr 0 0, .ptr 1 0] (hQ best o []) (.tup [], hQ (fQ (sn t) t.length f b m a (best, o) t.length).1 (fQ (sn t) t.length f b m a (best, o) t.length).2 []) := by
  have c0 : (a : Int) < best := by omega
  have c1 : (b.length : Int) ≠ t.length := by omega
  have lp := lp76 f hok t r b m a (best, o) h hr hb hm ha
  refine body_s ([Ans.o (Orc.b false), Ans.o (Orc.b false), Ans.loop [(0 : Nat), (1 : Nat), (2 : Nat), (3 : Nat), (4 : Nat), (5 : Nat), (12 : Nat), (32 : Nat), (33 : Nat), (34 : Nat)] [Out.mk (List Nat) (AX.exit (0 : Nat)) [] (fun x => True) (fun x => []) (fun T => hQ (fQ (sn t) t.length f b m a (best, o) t.length).fst (fQ (sn t) t.length f b m a (best, o) t.length).snd T) fun y => []]]) ((↑a : Int) < (↑best : Int) ∧ (↑b.length : Int) ≠ (↑t.length : Int) ∧ LoopS (Env.mk Tryd.prog (Sof [c62.to, c76 f hok]) (Pof (P := Tryd.prog) []) (Base.mk (2 : Nat) (0 : Nat) (0 : Nat)) (300 : Nat)) (loopAt Tryd.f76 (0 : Nat)) (66 : Nat) [(0 : Nat), (1 : Nat), (2 : Nat), (3 : Nat), (4 : Nat), (5 : Nat), (12 : Nat), (32 : Nat), (33 : Nat), (34 : Nat)] [AV.sl (ints t) t.length r, AV.sl (ints b) b.length (rq b), I (↑m : Int), I (↑a : Int), AV.ptr 0 0, AV.ptr 1 0, I (↑b.length : Int), AV.sl (ints t) t.length r, I (↑t.length : Int), I 0] (H.mk [[I (↑best : Int)], [AV.sl (ints o) o.length (rq o)]] [] []) [Out.mk (List Nat) (AX.exit (0 : Nat)) [] (fun x => True) (fun x => []) (fun T => hQ (fQ (sn t) t.length f b m a (best, o) t.length).fst (fQ (sn t) t.length f b m a (best, o) t.length).snd T) fun y => []] ∧ (∀ (y : List Nat), True → ∀ (u : Nat → AV), (AV.tup [], H.mk [[I (↑(fQ (sn t) t.length f b m a (best, o) t.length).fst : Int)], [AV.sl (ints (fQ (sn t) t.length f b m a (best, o) t.length).snd) (fQ (sn t) t.length f b m a (best, o) t.length).snd.length (rq (fQ (sn t) t.length f b m a (best, o) t.length).snd)]] [] []) = (AV.tup [], H.mk [[I (↑(fQ (sn t) t.length f b m a (best, o) t.length).fst : Int)], [AV.sl (ints (fQ (sn t) t.length f b m a (best, o) t.length).snd) (fQ (sn t) t.length f b m a (best, o) t.length).snd.length (rq (fQ (sn t) t.length f b m a (best, o) t.length).snd)]] [] [])) ∧ True) (by kernel_rfl) ?_
  refine ⟨by first | with_reducible assumption | omega | assumption, ?_⟩
  refine ⟨by first | with_reducible assumption | omega | assumption, ?_⟩
  refine ⟨lp, ?_⟩
  refine And.intro ?_ ?_
  · skip
    intro y
    intro w1
    intro u
    rfl
  · skip
    trivial
theorem all76 : ∀ f, Ok76 f
  | 0 => fun t r b m a best o h hr hb hm ha => by
    by_cases c : best ≤ a
    · have e : QQ t 0 b m a (best, o) = (best, o) := by simp [QQ, ordM, c]
      rw [e]
      exact (r76s t r b m a best o c).callN ok76 simpB76 (rests mixed .nil) (free_sof (fun c hc => by cases hc)) rfl
    · have e : QQ t 0 b m a (best, o) = (a, b) := by simp [QQ, ordM, c]
      rw [e]
      exact (r76z t r b m a best o (by omega) (by omega)).callN ok76 simpB76 (rests mixed .nil) (free_sof (fun c hc => by cases hc)) rfl
  | f + 1 => fun t r b m a best o h hr hb hm ha => by
    by_cases c : best ≤ a
    · have e : QQ t (f + 1) b m a (best, o) = (best, o) := by simp [QQ, ordM, c]
      rw [e]
      exact (r76s t r b m a best o c).callN ok76 simpB76 (rests mixed .nil) (free_sof (fun c hc => by cases hc)) rfl
    · have e : QQ t (f + 1) b m a (best, o) = fQ (sn t) t.length f b m a (best, o) t.length := ordM_go c
      rw [e]
      exact (r76 f (all76 f) t r b m a best o h hr hb hm ha (by omega)).callN ok76 simpB76 (rests mixed (ct76 f (all76 f))) (free76 f (all76 f)) rfl
end Go.Proofs.Rnk

