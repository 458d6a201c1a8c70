/- Own texts on reading the model, joined: VmT, VmV. -/
import Derived.Test.YtlomlnkafakloaaDoorVm3
import Derived.Test.YtlomlnkafakloaaDoorVm2
set_option linter.unusedSimpArgs false
set_option linter.unusedVariables false
set_option linter.unnecessarySimpa false
section
/- The led reader, with what comes behind: one condition for a whole body. -/
namespace Go.VM
set_option linter.unusedSectionVars false
variable [Inhabited Globs]

/-- a frame with known slots -/
def look (i : Nat) : List (Nat × AV) → Option AV
  | [] => none
  | (j, v) :: l => if i = j then some v else look i l
def frm (u : Nat → AV) (l : List (Nat × AV)) : Nat → Nat → List AV
  | _, 0 => []
  | i, n + 1 => (match look i l with | some v => v | none => u i) :: frm u l (i + 1) n
def fr (N : Nat) (u : Nat → AV) (l : List (Nat × AV)) : List AV := frm u l 0 N
def sel (is : List Nat) (A : List AV) : List AV := is.map fun i => A.getD i .undef

theorem frm_len (u : Nat → AV) (l : List (Nat × AV)) : ∀ i n, (frm u l i n).length = n
  | _, 0 => rfl
  | i, n + 1 => by simp [frm, frm_len u l (i + 1) n]
theorem frm_get (u : Nat → AV) (l : List (Nat × AV)) : ∀ i n k, k < n → (frm u l i n)[k]? = some (match look (i + k) l with | some v => v | none => u (i + k))
  | i, 0, k, h => by omega
  | i, n + 1, 0, h => by simp [frm]
  | i, n + 1, k + 1, h => by
    simp only [frm, List.getElem?_cons_succ]
    rw [frm_get u l (i + 1) n k (by omega)]
    rw [show i + 1 + k = i + (k + 1) by omega]
theorem look_zip (is : List Nat) (A : List AV) : ∀ i, look i (is.zip (sel is A)) = none ∨ look i (is.zip (sel is A)) = some (A.getD i .undef) := by
  intro i
  induction is with
  | nil => exact .inl rfl
  | cons j is ih =>
    simp only [sel, List.map_cons, List.zip_cons_cons, look]
    by_cases hij : i = j
    · subst hij; exact .inr (by simp)
    · simp only [if_neg hij]; exact ih
/-- every frame is one with its own slots known -/
theorem fr_sel (is : List Nat) (A : List AV) : fr A.length (fun i => A.getD i .undef) (is.zip (sel is A)) = A := by
  apply List.ext_getElem?
  intro k
  by_cases hk : k < A.length
  · rw [fr, frm_get _ _ _ _ _ hk, Nat.zero_add]
    have hA : A[k]? = some (A.getD k .undef) := by simp [hk]
    rw [hA]
    rcases look_zip is A k with h | h <;> rw [h]
  · rw [List.getElem?_eq_none (by rw [fr, frm_len]; omega), List.getElem?_eq_none (by omega)]

structure Env where
  P : Program
  S : Summ
  p : Pures
  β : Base
  n : Nat

/-- conditions come true -/
def Hd (E : Env) (cs : List Cd) : Prop := hold E.P E.S E.p E.β E.n cs
/-- a loop between known slots -/
def LoopOk (E : Env) (c : Code) (N : Nat) (is : List Nat) (vs : List AV) (h : H) (x : AX) (is' : List Nat) (vs' : List AV) (h' : H) : Prop :=
  ∀ A, A.length = N → sel is A = vs → ∃ A', loopx E.P E.S (Darun E.P E.p) E.β E.n c A h = some (x, A', h') ∧ A'.length = N ∧ sel is' A' = vs'

/-- the loops of a text, from the outer to the inner -/
def loopsOf : Code → List Code
  | .seq a b => loopsOf a ++ loopsOf b
  | .cond _ a b => loopsOf a ++ loopsOf b
  | .block _ c => loopsOf c
  | .scope c => loopsOf c
  | .loop c => c :: loopsOf c
  | _ => []
def loopAt (fn : Func) (k : Nat) : Code := (loopsOf (fn.body.getD .skip)).getD k .skip

inductive Lo where
  | o (o : Orc)
  | loop (is : List Nat) (x : AX) (is' : List Nat) (vs' : List AV) (h' : H)

abbrev Kont := List Cd → AX → List AV → H → List Orc → List Lo → Prop

def oiterW (f : List Cd → List AV → H → List Orc → List Lo → Kont → Prop) : Nat → List Cd → List AV → H → List Orc → List Lo → Kont → Prop
  | 0, _, _, _, _, _, _ => False
  | n + 1, a, A, h, os, ls, Q => f a A h os ls fun a x A h os ls => match x with
    | .normal => oiterW f n a A h os ls Q
    | x => Q a x A h os ls

/-- what has to hold ahead of code, that `Q` holds behind it -/
def oW (E : Env) : Code → List Cd → List AV → H → List Orc → List Lo → Kont → Prop
  | .skip, a, A, h, os, ls, Q => Q a .normal A h os ls
  | .label _, a, A, h, os, ls, Q => Q a .normal A h os ls
  | .region _ ops false, a, A, h, os, ls, Q => match orun E.P E.S E.β ops ops.toList A h os with
    | some (cs, A, h, os) => Q (a ++ cs) .normal A h os ls
    | none => False
  | .region _ ops true, a, A, h, os, ls, Q => match orun E.P (pureS E.p) E.β ops ops.toList A h os with
    | some ([], A, h, os) => Q a .normal A h os ls
    | some (cs, A, h, os) => hold E.P (pureS E.p) E.p E.β E.n cs ∧ Q a .normal A h os ls
    | none => False
  | .seq x y, a, A, h, os, ls, Q => oW E x a A h os ls fun a e A h os ls => match e with
    | .normal => oW E y a A h os ls Q
    | e => Q a e A h os ls
  | .cond c x y, a, A, h, os, ls, Q => match aev A c with
    | .bool true => oW E x a A h os ls Q
    | .bool false => oW E y a A h os ls Q
    | _ => False
  | .block id c, a, A, h, os, ls, Q => oW E c a A h os ls fun a e A h os ls => match e with
    | .exit i => if i = id then Q a .normal A h os ls else Q a (.exit i) A h os ls
    | e => Q a e A h os ls
  | .loop c, a, A, h, os, ls, Q => match ls with
    | .loop is x is' vs' h' :: ls => Hd E a ∧ LoopOk E c A.length is (sel is A) h x is' vs' h' ∧ ∀ u, Q [] x (fr A.length u (is'.zip vs')) h' os ls
    | .o _ :: ls => oiterW (oW E c) E.n a A h os ls Q
    | [] => oiterW (oW E c) E.n a A h os [] Q
  | .exit id, a, A, h, os, ls, Q => Q a (.exit id) A h os ls
  | .scope c, a, A, h, os, ls, Q => oW E c a A h os ls Q
  | .ret, a, A, h, os, ls, Q => Q a .ret A h os ls
  | _, _, _, _, _, _, _ => False

/-- what a continuation has to keep: its conditions come true -/
def Heeds (E : Env) (Q : Kont) : Prop := ∀ a x A h os ls, Q a x A h os ls → Hd E a


section
variable {E : Env}

theorem oiterW_ok {f : List Cd → List AV → H → List Orc → List Lo → Kont → Prop} {g : List AV → H → Option (AX × List AV × H)}
    (hf : ∀ a A h os ls Q, Heeds E Q → f a A h os ls Q → Hd E a ∧ ∃ a' x A' h' os' ls', g A h = some (x, A', h') ∧ Q a' x A' h' os' ls') :
    ∀ (k : Nat) (a : List Cd) (A : List AV) (h : H) (os : List Orc) (ls : List Lo) (Q : Kont), Heeds E Q → oiterW f k a A h os ls Q → Hd E a ∧ ∃ a' x A' h' os' ls', iter g k A h = some (x, A', h') ∧ Q a' x A' h' os' ls'
  | 0, a, A, h, os, ls, Q, hQ, hw => hw.elim
  | k + 1, a, A, h, os, ls, Q, hQ, hw => by
    simp only [oiterW] at hw
    obtain ⟨ha, a1, x1, A1, h1, os1, ls1, hg, hw1⟩ := hf _ _ _ _ _ _ (by
      intro a x A h os ls hq
      cases x
      · exact (oiterW_ok hf k _ _ _ _ _ _ hQ hq).1
      · exact hQ _ _ _ _ _ _ hq
      · exact hQ _ _ _ _ _ _ hq) hw
    refine ⟨ha, ?_⟩
    simp only [iter, hg]
    cases x1
    · exact (oiterW_ok hf k _ _ _ _ _ _ hQ hw1).2
    · exact ⟨_, _, _, _, _, _, rfl, hw1⟩
    · exact ⟨_, _, _, _, _, _, rfl, hw1⟩

theorem oW_ok : ∀ (c : Code) (a : List Cd) (A : List AV) (h : H) (os : List Orc) (ls : List Lo) (Q : Kont), Heeds E Q → oW E c a A h os ls Q →
    Hd E a ∧ ∃ a' x A' h' os' ls', exec E.P E.S (Darun E.P E.p) E.β E.n c A h = some (x, A', h') ∧ Q a' x A' h' os' ls' := by
  intro c
  induction c with
  | skip => intro a A h os ls Q hQ hw; exact ⟨hQ _ _ _ _ _ _ hw, _, _, _, _, _, _, rfl, hw⟩
  | label => intro a A h os ls Q hQ hw; exact ⟨hQ _ _ _ _ _ _ hw, _, _, _, _, _, _, rfl, hw⟩
  | exit => intro a A h os ls Q hQ hw; exact ⟨hQ _ _ _ _ _ _ hw, _, _, _, _, _, _, rfl, hw⟩
  | ret => intro a A h os ls Q hQ hw; exact ⟨hQ _ _ _ _ _ _ hw, _, _, _, _, _, _, rfl, hw⟩
  | region id ops d =>
    intro a A h os ls Q hQ hw
    cases d
    · simp only [oW] at hw
      split at hw
      · rename_i cs1 A1 h1 os1 hq
        have hh := hQ _ _ _ _ _ _ hw
        unfold Hd at hh
        rw [hold_app] at hh
        refine ⟨hh.1, _, _, _, _, _, _, ?_, hw⟩
        rw [exec_region, orun_ok hq hh.2]
      · exact hw.elim
    · simp only [oW] at hw
      split at hw
      · rename_i A1 h1 os1 hq
        refine ⟨hQ _ _ _ _ _ _ hw, _, _, _, _, _, _, ?_, hw⟩
        rw [exec_draw, orun_ok (p := E.p) (n := E.n) hq (by simp [hold])]
      · rename_i cs1 A1 h1 os1 hne hq
        refine ⟨hQ _ _ _ _ _ _ hw.2, _, _, _, _, _, _, ?_, hw.2⟩
        rw [exec_draw, orun_ok hq hw.1]
      · exact hw.elim
  | seq x y ihx ihy =>
    intro a A h os ls Q hQ hw
    simp only [oW] at hw
    obtain ⟨ha, a1, x1, A1, h1, os1, ls1, hg, hw1⟩ := ihx _ _ _ _ _ _ (by
      intro a x A h os ls hq
      cases x
      · exact (ihy _ _ _ _ _ _ hQ hq).1
      · exact hQ _ _ _ _ _ _ hq
      · exact hQ _ _ _ _ _ _ hq) hw
    refine ⟨ha, ?_⟩
    rw [exec_seq, hg]
    cases x1
    · exact (ihy _ _ _ _ _ _ hQ hw1).2
    · exact ⟨_, _, _, _, _, _, rfl, hw1⟩
    · exact ⟨_, _, _, _, _, _, rfl, hw1⟩
  | cond o x y ihx ihy =>
    intro a A h os ls Q hQ hw
    simp only [oW] at hw
    rw [exec_cond]
    split at hw
    · rename_i ho; rw [ho]; exact ihx _ _ _ _ _ _ hQ hw
    · rename_i ho; rw [ho]; exact ihy _ _ _ _ _ _ hQ hw
    · exact hw.elim
  | block id c ih =>
    intro a A h os ls Q hQ hw
    simp only [oW] at hw
    obtain ⟨ha, a1, x1, A1, h1, os1, ls1, hg, hw1⟩ := ih _ _ _ _ _ _ (by
      intro a x A h os ls hq
      cases x
      · exact hQ _ _ _ _ _ _ hq
      · simp only at hq
        split at hq
        · exact hQ _ _ _ _ _ _ hq
        · exact hQ _ _ _ _ _ _ hq
      · exact hQ _ _ _ _ _ _ hq) hw
    refine ⟨ha, ?_⟩
    rw [exec_block, hg]
    cases x1
    · exact ⟨_, _, _, _, _, _, rfl, hw1⟩
    · simp only at hw1 ⊢
      split at hw1
      · rename_i hi; simp only [hi, if_true]; exact ⟨_, _, _, _, _, _, rfl, hw1⟩
      · rename_i hi; simp only [hi, if_false]; exact ⟨_, _, _, _, _, _, rfl, hw1⟩
    · exact ⟨_, _, _, _, _, _, rfl, hw1⟩
  | loop c ih =>
    intro a A h os ls Q hQ hw
    simp only [oW] at hw
    rw [exec_loop]
    split at hw
    · rename_i is x is' vs' h' ls'
      obtain ⟨ha, hl, hu⟩ := hw
      refine ⟨ha, ?_⟩
      obtain ⟨A', he, hlen, hsel⟩ := hl A rfl rfl
      have := hu (fun i => A'.getD i .undef)
      rw [← hsel, ← hlen, fr_sel] at this
      exact ⟨_, _, _, _, _, _, he, this⟩
    · exact oiterW_ok ih _ _ _ _ _ _ _ hQ hw
    · exact oiterW_ok ih _ _ _ _ _ _ _ hQ hw
  | scope c ih => intro a A h os ls Q hQ hw; simp only [oW] at hw; rw [exec_scope]; exact ih _ _ _ _ _ _ hQ hw
  | _ => intro a A h os ls Q hQ hw; exact hw.elim

/-- the end of a body -/
def Kend (E : Env) (fn : Func) (h0 : H) (r : AV × H) : Kont := fun a x A h1 _ _ => Hd E a ∧
  match x with
  | .exit _ => False
  | _ => match resvs E.P h1 A fn.results.toList with
    | some vs => leave h0.base (oneOrTup vs) h1 = r
    | none => False
/-- the end of a stretch -/
def Kseg (E : Env) (is : List Nat) (R : AX → Nat → List AV → H → Prop) : Kont := fun a x A h1 _ _ => Hd E a ∧ R x A.length (sel is A) h1

def bodyW (E : Env) (fn : Func) (c : Code) (args : List AV) (h : H) (os : List Orc) (ls : List Lo) (r : AV × H) : Prop :=
  oW E c [] (args ++ List.replicate (fn.ntmps - args.length) .undef) h os ls (Kend E fn h r)

theorem body_led {P : Program} {p : Pures} {S : Summ} {n : Nat} {fn : Func} {c : Code} {args : List AV} {h : H} {r : AV × H} (os : List Orc) (ls : List Lo) (w : Prop)
    (e : bodyW ⟨P, S, p, h.base, n⟩ fn c args h os ls r = w) (hw : w) : ebody P p S n fn c args h = some r := by
  rw [← e] at hw
  obtain ⟨-, a, x, A, h1, os1, ls1, he, -, hx⟩ := oW_ok c _ _ _ _ _ _ (by intro a x A h os ls hq; exact hq.1) hw
  unfold ebody
  simp only at he hx
  rw [he]
  cases x
  · simp only at hx ⊢
    split at hx
    · rename_i vs hv; rw [hv]; simp only [hx]
    · exact hx.elim
  · exact hx.elim
  · simp only at hx ⊢
    split at hx
    · rename_i vs hv; rw [hv]; simp only [hx]
    · exact hx.elim

theorem hd_nil {E : Env} : Hd E [] ↔ True := by simp [Hd, hold]
theorem hd_cons {E : Env} {c : Cd} {cs : List Cd} : Hd E (c :: cs) ↔ c.holds E.P E.S (Darun E.P E.p) E.β E.n ∧ Hd E cs := by simp [Hd, hold]
/-- kept from being opened by the way -/
structure Led (q : Prop) : Prop where
  it : q
theorem of_eq {q : Prop} (w : Prop) (e : q = w) (hw : w) : Led q := ⟨e ▸ hw⟩
/-- a round's end: the next one, or the loop's -/
def Nxt (I : Nat → List AV → H → Prop) (N m j : Nat) (x : AX) (vs' : List AV) (h' : H) (x1 : AX) (N1 : Nat) (ws ws' : List AV) (h1 : H) : Prop :=
  N1 = N ∧ ((x1 = .normal ∧ j < m ∧ I (j + 1) ws h1) ∨ (x1 ≠ .normal ∧ x1 = x ∧ ws' = vs' ∧ h1 = h'))
def Kloop (E : Env) (I : Nat → List AV → H → Prop) (N m j : Nat) (is is' : List Nat) (x : AX) (vs' : List AV) (h' : H) : Kont :=
  fun a x1 A1 h1 _ _ => Hd E a ∧ Nxt I N m j x vs' h' x1 A1.length (sel is A1) (sel is' A1) h1
/-- a loop, by what holds at its head over its known slots -/
theorem loop_led {P : Program} {S : Summ} {p : Pures} {β : Base} {n : Nat} {c : Code} {N : Nat} {is is' : List Nat} {vs : List AV} {h : H} {x : AX} {vs' : List AV} {h' : H}
    (I : Nat → List AV → H → Prop) (m : Nat) (h0 : I 0 vs h) (hn : m < n)
    (hstep : ∀ j vs h, j ≤ m → I j vs h → ∃ os ls, ∀ u, Led (oW ⟨P, S, p, β, n⟩ c [] (fr N u (is.zip vs)) h os ls (Kloop ⟨P, S, p, β, n⟩ I N m j is is' x vs' h'))) :
    LoopOk ⟨P, S, p, β, n⟩ c N is vs h x is' vs' h' := by
  intro A hA hs
  obtain ⟨x1, A1, h1, e, rfl, h2, h3, h4⟩ := loop_use (r := loopx P S (Darun P p) β n c A h) rfl
    (fun j A h => A.length = N ∧ I j (sel is A) h) (fun x1 A1 h1 => x1 = x ∧ A1.length = N ∧ sel is' A1 = vs' ∧ h1 = h') m ⟨hA, by rw [hs]; exact h0⟩ hn (by
      rintro j A h hj ⟨hA, hI⟩
      obtain ⟨os, ls, hw⟩ := hstep j _ _ hj hI
      have := (hw (fun i => A.getD i .undef)).it
      rw [← hA, fr_sel] at this
      obtain ⟨-, a, x1, A1, h1, os1, ls1, he, -, hl, hx⟩ := oW_ok c _ _ _ _ _ _ (by intro a x A h os ls hq; exact hq.1) this
      simp only at he
      unfold After
      rw [he]
      rcases hx with ⟨rfl, hjm, hI'⟩ | ⟨hne, hx, hs', hh⟩
      · exact .inl ⟨rfl, hjm, by rw [hl, hA], hI'⟩
      · exact .inr ⟨hne, hx, by rw [hl, hA], hs', hh⟩)
  subst h4
  exact ⟨A1, e, h2, h3⟩
end
end Go.VM
end
section
/- Contracts in a list, joined to a summary. -/
namespace Go.VM
set_option linter.unusedSectionVars false
variable [Inhabited Globs]

/-- what a function does at some arguments -/
structure Ctr (P : Program) where
  f : FuncId
  X : Type
  args : X → List AV
  pre : X → H → Prop
  res : X → H → AV × H
  det : ∀ x y h, args x = args y → pre x h → pre y h → res x h = res y h
  ok : ∀ x h, pre x h → callable P f = true ∧ CallOk P f (args x) h (res x h).1 (res x h).2

section
variable {P : Program}
open Classical in
noncomputable def Sof : List (Ctr P) → Summ
  | [], _, _, _ => none
  | c :: cs, f, args, h => if f = c.f then (if e : ∃ x, c.args x = args ∧ c.pre x h then some (c.res e.choose h) else none) else Sof cs f args h

theorem sof_ok : ∀ cs : List (Ctr P), SummOk P (Sof cs)
  | [], f, args, h, v, h', he => by cases he
  | c :: cs, f, args, h, v, h', he => by
    simp only [Sof] at he
    split at he
    · rename_i hf
      split at he
      · rename_i e
        simp only [Option.some.injEq] at he
        have hs := e.choose_spec
        have := c.ok e.choose h hs.2
        rw [he, hs.1] at this
        rw [hf]; exact this
      · cases he
    · exact sof_ok cs f args h v h' he

def Ctr.first (f : FuncId) : List (Ctr P) → Option (Ctr P)
  | [] => none
  | c :: cs => if f = c.f then some c else first f cs

theorem sof_hit (c : Ctr P) : ∀ cs : List (Ctr P), Ctr.first c.f cs = some c → ∀ (x : c.X) (h : H), c.pre x h → Sof cs c.f (c.args x) h = some (c.res x h)
  | [], he, _, _, _ => by cases he
  | d :: cs, he, x, h, hp => by
    simp only [Ctr.first] at he
    simp only [Sof]
    split at he
    · rename_i hf
      simp only [Option.some.injEq] at he
      subst he
      simp only [if_true]
      have e : ∃ y, d.args y = d.args x ∧ d.pre y h := ⟨x, rfl, hp⟩
      rw [dif_pos e]
      have hs := e.choose_spec
      rw [d.det _ _ h hs.1 hs.2 hp]
    · rename_i hf
      rw [if_neg hf]
      exact sof_hit c cs he x h hp

/-- the same, of what leaves every heap as it is -/
structure PCtr (P : Program) where
  f : FuncId
  X : Type
  args : X → List AV
  pre : X → Prop
  v : X → AV
  det : ∀ x y, args x = args y → pre x → pre y → v x = v y
  ok : ∀ x, pre x → callable P f = true ∧ ∀ h, CallOk P f (args x) h (v x) h

def PCtr.to (c : PCtr P) : Ctr P where
  f := c.f
  X := c.X
  args := c.args
  pre x _ := c.pre x
  res x h := (c.v x, h)
  det x y h e p q := by rw [c.det x y e p q]
  ok x h p := ⟨(c.ok x p).1, (c.ok x p).2 h⟩

open Classical in
noncomputable def Pof : List (PCtr P) → Pures
  | [], _, _ => none
  | c :: cs, f, args => if f = c.f then (if e : ∃ x, c.args x = args ∧ c.pre x then some (c.v e.choose) else none) else Pof cs f args

theorem pof_ok : ∀ cs : List (PCtr P), PureOk P (Pof cs)
  | [], f, args, v, he => by cases he
  | c :: cs, f, args, v, he => by
    simp only [Pof] at he
    split at he
    · rename_i hf
      split at he
      · rename_i e
        simp only [Option.some.injEq] at he
        have hs := e.choose_spec
        have := c.ok e.choose hs.2
        rw [he, hs.1] at this
        rw [hf]; exact this
      · cases he
    · exact pof_ok cs f args v he

def PCtr.first (f : FuncId) : List (PCtr P) → Option (PCtr P)
  | [] => none
  | c :: cs => if f = c.f then some c else first f cs

theorem pof_hit (c : PCtr P) : ∀ cs : List (PCtr P), PCtr.first c.f cs = some c → ∀ (x : c.X), c.pre x → Pof cs c.f (c.args x) = some (c.v x)
  | [], he, _, _ => by cases he
  | d :: cs, he, x, hp => by
    simp only [PCtr.first] at he
    simp only [Pof]
    split at he
    · rename_i hf
      simp only [Option.some.injEq] at he
      subst he
      simp only [if_true]
      have e : ∃ y, d.args y = d.args x ∧ d.pre y := ⟨x, rfl, hp⟩
      rw [dif_pos e]
      have hs := e.choose_spec
      rw [d.det _ _ hs.1 hs.2 hp]
    · rename_i hf
      rw [if_neg hf]
      exact pof_hit c cs he x hp

theorem acall_hit {c : Ctr P} {cs : List (Ctr P)} (x : c.X) (h : H) (he : Ctr.first c.f cs = some c) (hp : c.pre x h) : aCall (Sof cs) (.fn (.func c.f) [] []) (c.args x) h = some (c.res x h) := by
  simp only [aCall, List.nil_append, List.append_nil]
  exact sof_hit c cs he x h hp
theorem pcall_hit {c : PCtr P} {cs : List (PCtr P)} (x : c.X) (h : H) (he : PCtr.first c.f cs = some c) (hp : c.pre x) : aCall (pureS (Pof cs)) (.fn (.func c.f) [] []) (c.args x) h = some (c.v x, h) := by
  simp only [aCall, List.nil_append, List.append_nil, pureS]
  rw [pof_hit c cs he x hp]; rfl
end
end Go.VM
end
