/- Layer 4: how many concepts the examples of a set of points leave, by the law's closure. -/
import Derived.Test.YtdnidpojcocklaaDoorLoR
import Derived.Test.YtdnidpojcocklaaDoorLnN0
import Derived.Test.YtdnidpojcocklaaDoorLnO0
import Derived.Test.YtdnidpojcocklaaDoorVm7
import Derived.KernelRfl
set_option linter.unusedSimpArgs false
set_option linter.unusedVariables false
set_option linter.unnecessarySimpa false
set_option maxHeartbeats 4000000
set_option maxRecDepth 100000
namespace Go.Proofs.Lrn
open Go Go.VM
theorem a49 : ((List.range 32).all fun n => isI (ebody Tryd.prog (Pof (P := Tryd.prog) []) (Sof (P := Tryd.prog) []) 300 Tryd.f49 (bd Tryd.f49) [I (n : Int)] .nil) (pk n)) = true := by kernel_rfl
theorem r49 (n : Int) (h : is32 n) : ebody Tryd.prog (Pof (P := Tryd.prog) []) (Sof (P := Tryd.prog) []) 300 Tryd.f49 (bd Tryd.f49) [I n] .nil = some (I (pk n), .nil) := by
  obtain ⟨k, rfl⟩ : ∃ k : Nat, n = k := ⟨n.toNat, by omega⟩
  exact isI_eq (List.all_eq_true.1 a49 k (List.mem_range.2 (by omega)))
theorem ok49 : Fok Tryd.prog 49 Tryd.f49 := ⟨mixed, by kernel_rfl, by kernel_rfl, by kernel_rfl, by kernel_rfl⟩
noncomputable def c49 : PCtr Tryd.prog := pctr ok49 (X := Int) (fun x => [I x]) (fun x => is32 x) (fun x => I (pk x)) (by intro x y e _ _; simp at e; simp [e]) (fun _ => rfl) (fun _ => rfl) (pof_ok _) (sof_ok _) (fun x => 300) (fun x hx => r49 x hx)
/-- the room of a list that append made, its token being the k-th -/
def rT (k : Nat) : List Pr → Room
  | [] => .nil
  | _ :: _ => .tok k 2
abbrev pT (k : Nat) (es : List Pr) : AV := .sl (pairsA es) es.length (rT k es)
theorem rT_rok (k : Nat) (es : List Pr) : rok es (rT k es) := by
  intro h
  cases es with
  | nil => exact absurd rfl h
  | cons x l => simp [rT]
theorem app_pT {P : Program} {t : TypeId} (hT : Rec.appT P t 2 = true) {l : List Pr} {x y : Int} {bs : List (List AV)} (hn : l.length ≤ 1000000) :
    aAppend P t t (pT 0 l) (.sl [I x, I y] 1 .full) ⟨bs, tkz l, []⟩ = some (pT 0 (l ++ [(x, y)]), ⟨bs, tkz (l ++ [(x, y)]), []⟩) := by
  unfold Rec.appT at hT
  cases he : elemT P t with
  | none => rw [he] at hT; cases hT
  | some e =>
    rw [he] at hT
    simp only at hT
    cases hi : P.info? e with
    | none => rw [hi] at hT; cases hT
    | some i =>
      cases hz : zeroCs P e with
      | none => rw [hi, hz] at hT; cases hT
      | some zs =>
        rw [hi, hz] at hT
        simp only [Bool.and_eq_true, beq_iff_eq, decide_eq_true_eq, Bool.not_eq_true'] at hT
        obtain ⟨⟨⟨h1, h2⟩, h3⟩, h4⟩ := hT
        have hb : (l.length + 1) * i.bytes ≤ 2 ^ 47 := Nat.le_trans (Nat.mul_le_mul (show l.length + 1 ≤ 1000001 by omega) h2) (by decide)
        have hm : l.length + 1 ≤ maxLen := Nat.le_trans (show l.length + 1 ≤ 1000001 by omega) (by decide)
        have hc : (pairsA l).length = l.length * 2 := by simp
        have ho : ∀ x : Int, (I x).one = true := fun _ => rfl
        have hap : pairsA (l ++ [(x, y)]) = pairsA l ++ [I x, I y] := by rw [pairsA_append]; rfl
        rw [pT, pT, hap]
        cases l with
        | nil => simp [aAppend, he, hi, hz, h1, h3, h4, slCells, rT, tkz, ho]; exact ⟨by simpa using hb, by decide⟩
        | cons a l =>
          simp [aAppend, he, hi, hz, h1, h3, slCells, rT, tkz, ho]
          simp at hc hb hm
          exact ⟨hc, hb, hm⟩
/-- the law's cells: the points, the class, the concept -/
abbrev bT (p : Int) (l : List Int) (q : RK) (c : Int) : List (List AV) := [[I p], [ls l (rr q)], [I c]]
abbrev hT (p : Int) (l : List Int) (q : RK) (c : Int) : H := ⟨bT p l q c, [], []⟩
theorem hT_closed (p : Int) (l : List Int) (q : RK) (c : Int) : (hT p l q c).closed := ⟨rfl, rfl, fun cs hcs => by
  simp only [bT, List.mem_cons, List.not_mem_nil, or_false] at hcs
  rcases hcs with rfl | rfl | rfl
  · rfl
  · cases q <;> simp [AV.bnds, AV.bnd, rr, Room.bnd]
  · rfl⟩
noncomputable abbrev EnT (cs : List (Ctr Tryd.prog)) (p : Int) (l : List Int) (q : RK) (c : Int) : Env := ⟨Tryd.prog, Sof (P := Tryd.prog) cs, Pof (P := Tryd.prog) [], (hT p l q c).base, 300⟩
noncomputable abbrev cs50 : List (Ctr Tryd.prog) := [b17.to, c16g.to]
theorem ct50 : Ctrs Tryd.prog none1 cs50 := .pure _ (.pure _ .nil)
abbrev o50 (p : Int) (l : List Int) (q : RK) (k : Nat) (es : List Pr) : List Out := [.mk Unit (.exit 0) [1, 3, 6] (fun _ => True) (fun _ => [.ptr 0 0, .ptr 1 0, pT 0 es]) (fun _ => ⟨bT p l q k, tkz es, []⟩) (fun _ => [])]
theorem simp50 : allSimpleM none1 (loopAt Tryd.f50 0) = true := by kernel_rfl
theorem lp50 (p : Int) (l : List Int) (q : RK) (k s : Nat) (h5 : p5 p) (hk : k < 32) (hs : s < 32) (E0 : List Pr) (hE0 : E0 = exL s k p.toNat) :
    LoopS (EnT cs50 p l q k) (loopAt Tryd.f50 0) 41 [0, 1, 2, 3, 6, 10, 11] [I s, .ptr 0 0, .ptr 2 0, .ptr 1 0, pT 0 [], I p, I 0] (hT p l q k) (o50 p l q k E0) := by
  have hRs : Rests (EnT cs50 p l q k) none1 := rests mixed ct50
  obtain ⟨g1, g2⟩ := h5
  obtain ⟨n, rfl⟩ : ∃ n : Nat, p = n := ⟨p.toNat, by omega⟩
  refine loop_s hRs simp50 none (by intro _ h; cases h) (fun j vs H => ∃ es, es = exL s k j ∧ H = ⟨bT n l q k, tkz es, []⟩ ∧ vs = [I s, .ptr 0 0, .ptr 2 0, .ptr 1 0, pT 0 es, I n, I j] ∧ j ≤ n) n ⟨[], rfl, rfl, rfl, Nat.zero_le _⟩ (by intro _ h; cases h) ?_
  rintro j vs H hj ⟨es, hes, rfl, rfl, hjn⟩
  by_cases hz : (j : Int) < (n : Int)
  · have hz' : j < n := by omega
    have ev0 : IntKind.i64.wrap ((j : Int) + 1) = ((j + 1 : Nat) : Int) := by rw [wr _ (by omega) (by omega)]; omega
    have ev1 : ((s : Nat) : Int).fdiv (2 ^ min ((j : Int)).toNat IntKind.i64.bits) = ((s / 2 ^ j : Nat) : Int) := shr_nat s j (by omega)
    have ev2 := and1 (n := s / 2 ^ j) (Nat.lt_of_le_of_lt (Nat.div_le_self _ _) (by omega))
    have h2 : s / 2 ^ j % 2 < 2 := Nat.mod_lt _ (by decide)
    have hj0 : 0 ≤ (j : Int) := by omega
    have hl := exL_len s k j
    rw [← hes] at hl
    by_cases hb : s / 2 ^ j % 2 = 1
    · rw [hb] at ev2
      have ev3 : ((k : Nat) : Int).fdiv (2 ^ min ((j : Int)).toNat IntKind.i64.bits) = ((k / 2 ^ j : Nat) : Int) := shr_nat k j (by omega)
      have ev4 := and1 (n := k / 2 ^ j) (Nat.lt_of_le_of_lt (Nat.div_le_self _ _) (by omega))
      have hx : exL s k (j + 1) = es ++ [((j : Int), ((k / 2 ^ j % 2 : Nat) : Int))] := by rw [hes]; simp only [exL, if_pos hb]
      have hA := app_pT (P := Tryd.prog) (t := 23) (by kernel_rfl) (l := es) (x := (j : Int)) (y := ((k / 2 ^ j % 2 : Nat) : Int)) (bs := bT n l q k) (by omega)
      obtain ⟨E1, hE1⟩ : ∃ E1, E1 = es ++ [((j : Int), ((k / 2 ^ j % 2 : Nat) : Int))] := ⟨_, rfl⟩
      rw [← hE1] at hA hx
      obtain ⟨y, hy⟩ : ∃ y : Int, y = ((k / 2 ^ j % 2 : Nat) : Int) := ⟨_, rfl⟩
      rw [← hy] at hA ev4
      have hjn1 : j + 1 ≤ n := by omega
      refine ⟨[Ans.o (Orc.b true), Ans.o (Orc.val 16 (I (↑(s / (2 : Nat) ^ j) : Int)) H.nil), Ans.o (Orc.val 17 (I (↑(1 : Nat) : Int)) H.nil), Ans.o Orc.dflt, Ans.o (Orc.val 23 (I (↑(k / (2 : Nat) ^ j) : Int)) H.nil), Ans.o (Orc.val 24 (I y) H.nil), Ans.o (Orc.val 27 (pT (0 : Nat) E1) (H.mk (bT (↑n : Int) l q (↑k : Int)) (tkz E1) [])), Ans.o (Orc.val 28 (I (↑(j + (1 : Nat)) : Int)) H.nil)], fun u => of_eq ((↑j : Int) < (↑n : Int) ∧ aBin Tryd.prog BinOp.shr (3 : Nat) (I (↑s : Int)) (I (↑j : Int)) = some (I (↑(s / (2 : Nat) ^ j) : Int)) ∧ aBin Tryd.prog BinOp.and (3 : Nat) (I (↑(s / (2 : Nat) ^ j) : Int)) (I 1) = some (I 1) ∧ aBin Tryd.prog BinOp.shr (3 : Nat) (I (↑k : Int)) (I (↑j : Int)) = some (I (↑(k / (2 : Nat) ^ j) : Int)) ∧ aBin Tryd.prog BinOp.and (3 : Nat) (I (↑(k / (2 : Nat) ^ j) : Int)) (I 1) = some (I y) ∧ aAppend Tryd.prog (23 : Nat) (23 : Nat) (AV.sl (pairsA es) es.length (rT (0 : Nat) es)) (AV.sl [I (↑j : Int), I y] (1 : Nat) Room.full) (H.mk [[I (↑n : Int)], [AV.sl (ints l) l.length (rr q)], [I (↑k : Int)]] (tkz es) []) = some (AV.sl (pairsA E1) E1.length (rT (0 : Nat) E1), H.mk [[I (↑n : Int)], [AV.sl (ints l) l.length (rr q)], [I (↑k : Int)]] (tkz E1) []) ∧ aBin Tryd.prog BinOp.add (3 : Nat) (I (↑j : Int)) (I 1) = some (I (↑(j + (1 : Nat)) : Int)) ∧ (41 : Nat) = (41 : Nat) ∧ j < n ∧ Keep (∃ es, es = exL s k (j + (1 : Nat)) ∧ H.mk [[I (↑n : Int)], [AV.sl (ints l) l.length (rr q)], [I (↑k : Int)]] (tkz E1) [] = H.mk [[I (↑n : Int)], [AV.sl (ints l) l.length (rr q)], [I (↑k : Int)]] (tkz es) [] ∧ [I (↑s : Int), AV.ptr 0 0, AV.ptr 2 0, AV.ptr 1 0, AV.sl (pairsA E1) E1.length (rT (0 : Nat) E1), I (↑n : Int), I (↑(j + (1 : Nat)) : Int)] = [I (↑s : Int), AV.ptr 0 0, AV.ptr 2 0, AV.ptr 1 0, AV.sl (pairsA es) es.length (rT (0 : Nat) es), I (↑n : Int), I (↑(j + (1 : Nat)) : Int)] ∧ j + (1 : Nat) ≤ n)) (by kernel_rfl) ?_⟩
      refine ⟨by first | with_reducible assumption | omega | assumption, ?_⟩
      refine ⟨by first | exact told_add (by assumption) | exact told_shr hj0 (by assumption) | exact told_and (by assumption), ?_⟩
      refine ⟨by first | exact told_add (by assumption) | exact told_shr hj0 (by assumption) | exact told_and (by assumption), ?_⟩
      refine ⟨by first | exact told_add (by assumption) | exact told_shr hj0 (by assumption) | exact told_and (by assumption), ?_⟩
      refine ⟨by first | exact told_add (by assumption) | exact told_shr hj0 (by assumption) | exact told_and (by assumption), ?_⟩
      refine ⟨hA, ?_⟩
      refine ⟨by first | exact told_add (by assumption) | exact told_shr hj0 (by assumption) | exact told_and (by assumption), ?_⟩
      refine ⟨by first | with_reducible assumption | omega | assumption, ?_⟩
      refine ⟨by first | with_reducible assumption | omega | assumption, ?_⟩
      exact ⟨E1, hx.symm, rfl, rfl, hjn1⟩
    · have h0 : s / 2 ^ j % 2 = 0 := by omega
      rw [h0] at ev2
      have hx : exL s k (j + 1) = es := by rw [hes]; simp only [exL, if_neg hb]
      have hjn1 : j + 1 ≤ n := by omega
      refine ⟨[Ans.o (Orc.b true), Ans.o (Orc.val 16 (I (↑(s / (2 : Nat) ^ j) : Int)) H.nil), Ans.o (Orc.val 17 (I (↑(0 : Nat) : Int)) H.nil), Ans.o Orc.dflt, Ans.o (Orc.val 28 (I (↑(j + (1 : Nat)) : Int)) H.nil)], fun u => of_eq ((↑j : Int) < (↑n : Int) ∧ aBin Tryd.prog BinOp.shr (3 : Nat) (I (↑s : Int)) (I (↑j : Int)) = some (I (↑(s / (2 : Nat) ^ j) : Int)) ∧ aBin Tryd.prog BinOp.and (3 : Nat) (I (↑(s / (2 : Nat) ^ j) : Int)) (I 1) = some (I 0) ∧ aBin Tryd.prog BinOp.add (3 : Nat) (I (↑j : Int)) (I 1) = some (I (↑(j + (1 : Nat)) : Int)) ∧ (41 : Nat) = (41 : Nat) ∧ j < n ∧ Keep (∃ es_1, es_1 = exL s k (j + (1 : Nat)) ∧ H.mk [[I (↑n : Int)], [AV.sl (ints l) l.length (rr q)], [I (↑k : Int)]] (tkz es) [] = H.mk [[I (↑n : Int)], [AV.sl (ints l) l.length (rr q)], [I (↑k : Int)]] (tkz es_1) [] ∧ [I (↑s : Int), AV.ptr 0 0, AV.ptr 2 0, AV.ptr 1 0, AV.sl (pairsA es) es.length (rT (0 : Nat) es), I (↑n : Int), I (↑(j + (1 : Nat)) : Int)] = [I (↑s : Int), AV.ptr 0 0, AV.ptr 2 0, AV.ptr 1 0, AV.sl (pairsA es_1) es_1.length (rT (0 : Nat) es_1), I (↑n : Int), I (↑(j + (1 : Nat)) : Int)] ∧ j + (1 : Nat) ≤ n)) (by kernel_rfl) ?_⟩
      refine ⟨by first | with_reducible assumption | omega | assumption, ?_⟩
      refine ⟨by first | exact told_add (by assumption) | exact told_shr hj0 (by assumption) | exact told_and (by assumption), ?_⟩
      refine ⟨by first | exact told_add (by assumption) | exact told_shr hj0 (by assumption) | exact told_and (by assumption), ?_⟩
      refine ⟨by first | exact told_add (by assumption) | exact told_shr hj0 (by assumption) | exact told_and (by assumption), ?_⟩
      refine ⟨by first | with_reducible assumption | omega | assumption, ?_⟩
      refine ⟨by first | with_reducible assumption | omega | assumption, ?_⟩
      exact ⟨es, hx.symm, rfl, rfl, hjn1⟩
  · have e : j = n := by omega
    subst e
    have hz : (j : Int) ≤ (j : Int) := by omega
    have hE1 : E0 = es := by rw [hE0, hes, Int.toNat_natCast]
    refine ⟨[Ans.o (Orc.b false)], fun u => of_eq ((↑j : Int) ≤ (↑j : Int) ∧ (41 : Nat) = (41 : Nat) ∧ hits [Out.mk Unit (AX.exit (0 : Nat)) [(1 : Nat), (3 : Nat), (6 : Nat)] (fun x => True) (fun x => [AV.ptr 0 0, AV.ptr 1 0, pT (0 : Nat) E0]) (fun x => H.mk (bT (↑j : Int) l q (↑k : Int)) (tkz E0) []) fun x => []] (AX.exit (0 : Nat)) [I (↑s : Int), AV.ptr 0 0, AV.ptr 2 0, AV.ptr 1 0, u (4 : Nat), u (5 : Nat), AV.sl (pairsA es) es.length (rT (0 : Nat) es), u (7 : Nat), u (8 : Nat), u (9 : Nat), I (↑j : Int), I (↑j : Int), AV.bool false, u (13 : Nat), u (14 : Nat), u (15 : Nat), u (16 : Nat), u (17 : Nat), u (18 : Nat), u (19 : Nat), u (20 : Nat), u (21 : Nat), u (22 : Nat), u (23 : Nat), u (24 : Nat), u (25 : Nat), u (26 : Nat), u (27 : Nat), u (28 : Nat), u (29 : Nat), u (30 : Nat), u (31 : Nat), u (32 : Nat), u (33 : Nat), u (34 : Nat), u (35 : Nat), u (36 : Nat), u (37 : Nat), u (38 : Nat), u (39 : Nat), u (40 : Nat)] (H.mk [[I (↑j : Int)], [AV.sl (ints l) l.length (rr q)], [I (↑k : Int)]] (tkz es) [])) (by kernel_rfl) ?_⟩
    refine ⟨by first | with_reducible assumption | omega | assumption, ?_⟩
    refine ⟨by first | with_reducible assumption | omega | assumption, ?_⟩
    exact .inl ⟨(), trivial, rfl, by subst hE1; rfl, by subst hE1; rfl⟩
theorem hit17T {cs : List (Ctr Tryd.prog)} (hf : Ctr.first 17 cs = some b17.to) {p : Int} {l : List Int} {q : RK} (hc : cls p l) (hl : pl l q) (H : H) : aCall (Sof cs) (.fn (.func 17) [] []) [ls l (rr q)] H = some (ls l (rr q.cl), H) := by
  have : aCall (Sof cs) (.fn (.func 17) [] []) [ls l (rr q)] H = some (ls (cut l) (rr q.cl), H) := acall_hit (c := b17.to) (cs := cs) (l, q) H hf hl
  rwa [cut_same hc.2.2.1] at this
theorem clsT {p : Int} {l : List Int} {q : RK} (hc : cls p l) (hl : pl l q) : cls p l ∧ rok l (rr q.cl) := by
  have h : cls p (cut l) ∧ rok (cut l) (rr q.cl) := ⟨cut_cls.2 hc, cl_rok hl.2⟩
  rwa [cut_same hc.2.2.1] at h
theorem ok50 : FokM Tryd.prog none1 50 Tryd.f50 := ⟨mixed, by kernel_rfl, by kernel_rfl, by kernel_rfl, by kernel_rfl⟩
theorem r50 (p : Int) (l : List Int) (q : RK) (k s : Nat) (hc : cls p l) (hl : pl l q) (hk : k < 32) (hs : s < 32) : Body (EnT cs50 p l q k) none1 Tryd.f50 [I s, .ptr 0 0, .ptr 2 0, .ptr 1 0] (hT p l q k) (I (leN (sOf l) p s k : Nat), hT p l q k) := by
  obtain ⟨es, hes⟩ : ∃ es, es = exL s k p.toNat := ⟨_, rfl⟩
  have lp := lp50 p l q k s hc.1 hk hs es hes
  have hex := exL_exs hc.1 s k
  rw [← hes] at hex
  have hz := clsT hc hl
  have t17 := hit17T (cs := cs50) rfl hc hl ⟨bT p l q k, tkz es, []⟩
  obtain ⟨L, hL⟩ : ∃ L, L = lsO (lfF es (sOf l)) := ⟨_, rfl⟩
  have hlen : L.length = leN (sOf l) p s k := by rw [hL, lsO_pc, hes, lfF_exL]; rfl
  have t16 : aCall (Sof cs50) (.fn (.func 16) [] []) [I p, ls l (rr q.cl), ps es (rT 0 es)] ⟨bT p l q k, tkz es, []⟩ = some (.tup [.sl (ints L) L.length (rn L), I 0], ⟨bT p l q k, tkz es, []⟩) := by
    rw [hL]
    exact acall_hit (c := c16g.to) (cs := cs50) (p, l, rr q.cl, es, rT 0 es) _ rfl ⟨⟨⟨hl.1, hz.2⟩, by have := hex.1; simp only [lim]; omega, rT_rok 0 es⟩, hc, hex⟩
  rw [← hlen]
  have hL0 : 0 ≤ (L.length : Int) := by omega
  refine body_s ([Ans.loop [(0 : Nat), (1 : Nat), (2 : Nat), (3 : Nat), (6 : Nat), (10 : Nat), (11 : Nat)] [Out.mk Unit (AX.exit (0 : Nat)) [(1 : Nat), (3 : Nat), (6 : Nat)] (fun x => True) (fun x => [AV.ptr 0 0, AV.ptr 1 0, pT (0 : Nat) es]) (fun x => H.mk (bT p l q (↑k : Int)) (tkz es) []) fun y => [Ans.o (Orc.val 32 (AV.sl (ints l) l.length (rr q.cl)) (H.mk [[I p], [AV.sl (ints l) l.length (rr q)], [I (↑k : Int)]] (tkz es) [])), Ans.o (Orc.val 34 (AV.tup [AV.sl (ints L) L.length (rn L), I 0]) (H.mk [[I p], [AV.sl (ints l) l.length (rr q)], [I (↑k : Int)]] (tkz es) [])), Ans.o Orc.dflt]]]) (LoopS (Env.mk Tryd.prog (Sof cs50) (Pof (P := Tryd.prog) []) (hT p l q (↑k : Int)).base (300 : Nat)) (loopAt Tryd.f50 (0 : Nat)) (41 : Nat) [(0 : Nat), (1 : Nat), (2 : Nat), (3 : Nat), (6 : Nat), (10 : Nat), (11 : Nat)] [I (↑s : Int), AV.ptr 0 0, AV.ptr 2 0, AV.ptr 1 0, AV.sl [] (0 : Nat) Room.nil, I p, I 0] (H.mk [[I p], [AV.sl (ints l) l.length (rr q)], [I (↑k : Int)]] [] []) [Out.mk Unit (AX.exit (0 : Nat)) [(1 : Nat), (3 : Nat), (6 : Nat)] (fun x => True) (fun x => [AV.ptr 0 0, AV.ptr 1 0, pT (0 : Nat) es]) (fun x => H.mk (bT p l q (↑k : Int)) (tkz es) []) fun y => [Ans.o (Orc.val 32 (AV.sl (ints l) l.length (rr q.cl)) (H.mk [[I p], [AV.sl (ints l) l.length (rr q)], [I (↑k : Int)]] (tkz es) [])), Ans.o (Orc.val 34 (AV.tup [AV.sl (ints L) L.length (rn L), I 0]) (H.mk [[I p], [AV.sl (ints l) l.length (rr q)], [I (↑k : Int)]] (tkz es) [])), Ans.o Orc.dflt]] ∧ (∀ (y : Unit), True → ∀ (u : Nat → AV), aCall (Sof cs50) (AV.fn (Fn.func (17 : Nat)) [] []) [AV.sl (ints l) l.length (rr q)] (H.mk [[I p], [AV.sl (ints l) l.length (rr q)], [I (↑k : Int)]] (tkz es) []) = some (AV.sl (ints l) l.length (rr q.cl), H.mk [[I p], [AV.sl (ints l) l.length (rr q)], [I (↑k : Int)]] (tkz es) []) ∧ aCall (Sof cs50) (AV.fn (Fn.func (16 : Nat)) [] []) [I p, AV.sl (ints l) l.length (rr q.cl), AV.sl (pairsA es) es.length (rT (0 : Nat) es)] (H.mk [[I p], [AV.sl (ints l) l.length (rr q)], [I (↑k : Int)]] (tkz es) []) = some (AV.tup [AV.sl (ints L) L.length (rn L), I 0], H.mk [[I p], [AV.sl (ints l) l.length (rr q)], [I (↑k : Int)]] (tkz es) []) ∧ (I (↑L.length : Int), H.mk [[I p], [AV.sl (ints l) l.length (rr q)], [I (↑k : Int)]] [] []) = (I (↑L.length : Int), H.mk [[I p], [AV.sl (ints l) l.length (rr q)], [I (↑k : Int)]] [] [])) ∧ True) (by kernel_rfl) ?_
  refine ⟨lp, ?_⟩
  refine And.intro ?_ ?_
  · skip
    intro y
    intro w1
    intro u
    refine ⟨t17, ?_⟩
    refine ⟨t16, ?_⟩
    first | with_reducible rfl | (refine bleaf_t ?_; omega) | (refine bleaf_f ?_; omega) | (refine ileaf ?_; omega) | rfl | (exfalso; omega)
  · skip
    trivial
noncomputable def c50 (p : Int) (l : List Int) (q : RK) (k : Nat) : Ctr Tryd.prog :=
  fctr ok50 (hT p l q k) (X := Nat) (fun s => [I s, .ptr 0 0, .ptr 2 0, .ptr 1 0]) (fun s => s < 32 ∧ (cls p l ∧ pl l q) ∧ k < 32) (fun s => I (leN (sOf l) p s k : Nat))
    (by rintro a b e _ _; simp at e; obtain rfl : a = b := (by omega); rfl) (hT_closed p l q k) (fun _ _ => rfl) (fun _ _ => rfl) (fun s hs => ⟨_, _, _, ct50, r50 p l q k s hs.2.1.1 hs.2.1.2 hs.2.2 hs.1⟩)
theorem c50_reads (p : Int) (l : List Int) (q : RK) (k : Nat) : (c50 p l q k).Reads := fctr_reads ..
abbrev cl50 : AV := .fn (.func 50) [] [.ptr 0 0, .ptr 2 0, .ptr 1 0]
end Go.Proofs.Lrn

