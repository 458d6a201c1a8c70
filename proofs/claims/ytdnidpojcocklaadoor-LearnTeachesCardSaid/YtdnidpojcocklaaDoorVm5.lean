/- Own texts on reading the model, joined: VmT, VmV. -/
import Derived.Test.YtdnidpojcocklaaDoorVm4
import Derived.Test.YtdnidpojcocklaaDoorVm3
set_option linter.unusedSimpArgs false
set_option linter.unusedVariables false
set_option linter.unnecessarySimpa false
section
/- The led reader, with what comes behind: one condition for a whole body. -/
namespace Go.VM
set_option linter.unusedSectionVars false
variable [Inhabited Globs]

/-- a frame with known slots -/
def look (i : Nat) : List (Nat × AV) → Option AV
  | [] => none
  | (j, v) :: l => if i = j then some v else look i l
def frm (u : Nat → AV) (l : List (Nat × AV)) : Nat → Nat → List AV
  | _, 0 => []
  | i, n + 1 => (match look i l with | some v => v | none => u i) :: frm u l (i + 1) n
def fr (N : Nat) (u : Nat → AV) (l : List (Nat × AV)) : List AV := frm u l 0 N
def sel (is : List Nat) (A : List AV) : List AV := is.map fun i => A.getD i .undef

theorem frm_len (u : Nat → AV) (l : List (Nat × AV)) : ∀ i n, (frm u l i n).length = n
  | _, 0 => rfl
  | i, n + 1 => by simp [frm, frm_len u l (i + 1) n]
theorem frm_get (u : Nat → AV) (l : List (Nat × AV)) : ∀ i n k, k < n → (frm u l i n)[k]? = some (match look (i + k) l with | some v => v | none => u (i + k))
  | i, 0, k, h => by omega
  | i, n + 1, 0, h => by simp [frm]
  | i, n + 1, k + 1, h => by
    simp only [frm, List.getElem?_cons_succ]
    rw [frm_get u l (i + 1) n k (by omega)]
    rw [show i + 1 + k = i + (k + 1) by omega]
theorem look_zip (is : List Nat) (A : List AV) : ∀ i, look i (is.zip (sel is A)) = none ∨ look i (is.zip (sel is A)) = some (A.getD i .undef) := by
  intro i
  induction is with
  | nil => exact .inl rfl
  | cons j is ih =>
    simp only [sel, List.map_cons, List.zip_cons_cons, look]
    by_cases hij : i = j
    · subst hij; exact .inr (by simp)
    · simp only [if_neg hij]; exact ih
/-- every frame is one with its own slots known -/
theorem fr_sel (is : List Nat) (A : List AV) : fr A.length (fun i => A.getD i .undef) (is.zip (sel is A)) = A := by
  apply List.ext_getElem?
  intro k
  by_cases hk : k < A.length
  · rw [fr, frm_get _ _ _ _ _ hk, Nat.zero_add]
    have hA : A[k]? = some (A.getD k .undef) := by simp [hk]
    rw [hA]
    rcases look_zip is A k with h | h <;> rw [h]
  · rw [List.getElem?_eq_none (by rw [fr, frm_len]; omega), List.getElem?_eq_none (by omega)]

structure Env where
  P : Program
  S : Summ
  p : Pures
  β : Base
  n : Nat

/-- the loops of a text, from the outer to the inner -/
def loopsOf : Code → List Code
  | .seq a b => loopsOf a ++ loopsOf b
  | .cond _ a b => loopsOf a ++ loopsOf b
  | .block _ c => loopsOf c
  | .scope c => loopsOf c
  | .loop c => c :: loopsOf c
  | _ => []
def loopAt (fn : Func) (k : Nat) : Code := (loopsOf (fn.body.getD .skip)).getD k .skip

inductive Lo where
  | o (o : Orc)
  | loop (is : List Nat) (x : AX) (is' : List Nat) (vs' : List AV) (h' : H)

section
variable {E : Env}

/-- kept from being opened by the way -/
structure Led (q : Prop) : Prop where
  it : q
theorem of_eq {q : Prop} (w : Prop) (e : q = w) (hw : w) : Led q := ⟨e ▸ hw⟩
end
end Go.VM
end
section
/- Contracts in a list, joined to a summary. -/
namespace Go.VM
set_option linter.unusedSectionVars false
variable [Inhabited Globs]

/-- what a function does at some arguments -/
structure Ctr (P : Program) where
  f : FuncId
  X : Type
  args : X → List AV
  pre : X → H → Prop
  res : X → H → AV × H
  det : ∀ x y h, args x = args y → pre x h → pre y h → res x h = res y h
  ok : ∀ x h, pre x h → callable P f = true ∧ CallOk P f (args x) h (res x h).1 (res x h).2

section
variable {P : Program}
open Classical in
noncomputable def Sof : List (Ctr P) → Summ
  | [], _, _, _ => none
  | c :: cs, f, args, h => if f = c.f then (if e : ∃ x, c.args x = args ∧ c.pre x h then some (c.res e.choose h) else none) else Sof cs f args h

theorem sof_ok : ∀ cs : List (Ctr P), SummOk P (Sof cs)
  | [], f, args, h, v, h', he => by cases he
  | c :: cs, f, args, h, v, h', he => by
    simp only [Sof] at he
    split at he
    · rename_i hf
      split at he
      · rename_i e
        simp only [Option.some.injEq] at he
        have hs := e.choose_spec
        have := c.ok e.choose h hs.2
        rw [he, hs.1] at this
        rw [hf]; exact this
      · cases he
    · exact sof_ok cs f args h v h' he

def Ctr.first (f : FuncId) : List (Ctr P) → Option (Ctr P)
  | [] => none
  | c :: cs => if f = c.f then some c else first f cs

theorem sof_hit (c : Ctr P) : ∀ cs : List (Ctr P), Ctr.first c.f cs = some c → ∀ (x : c.X) (h : H), c.pre x h → Sof cs c.f (c.args x) h = some (c.res x h)
  | [], he, _, _, _ => by cases he
  | d :: cs, he, x, h, hp => by
    simp only [Ctr.first] at he
    simp only [Sof]
    split at he
    · rename_i hf
      simp only [Option.some.injEq] at he
      subst he
      simp only [if_true]
      have e : ∃ y, d.args y = d.args x ∧ d.pre y h := ⟨x, rfl, hp⟩
      rw [dif_pos e]
      have hs := e.choose_spec
      rw [d.det _ _ h hs.1 hs.2 hp]
    · rename_i hf
      rw [if_neg hf]
      exact sof_hit c cs he x h hp

/-- the same, of what leaves every heap as it is -/
structure PCtr (P : Program) where
  f : FuncId
  X : Type
  args : X → List AV
  pre : X → Prop
  v : X → AV
  det : ∀ x y, args x = args y → pre x → pre y → v x = v y
  ok : ∀ x, pre x → callable P f = true ∧ ∀ h, CallOk P f (args x) h (v x) h

def PCtr.to (c : PCtr P) : Ctr P where
  f := c.f
  X := c.X
  args := c.args
  pre x _ := c.pre x
  res x h := (c.v x, h)
  det x y h e p q := by rw [c.det x y e p q]
  ok x h p := ⟨(c.ok x p).1, (c.ok x p).2 h⟩

open Classical in
noncomputable def Pof : List (PCtr P) → Pures
  | [], _, _ => none
  | c :: cs, f, args => if f = c.f then (if e : ∃ x, c.args x = args ∧ c.pre x then some (c.v e.choose) else none) else Pof cs f args

theorem pof_ok : ∀ cs : List (PCtr P), PureOk P (Pof cs)
  | [], f, args, v, he => by cases he
  | c :: cs, f, args, v, he => by
    simp only [Pof] at he
    split at he
    · rename_i hf
      split at he
      · rename_i e
        simp only [Option.some.injEq] at he
        have hs := e.choose_spec
        have := c.ok e.choose hs.2
        rw [he, hs.1] at this
        rw [hf]; exact this
      · cases he
    · exact pof_ok cs f args v he

def PCtr.first (f : FuncId) : List (PCtr P) → Option (PCtr P)
  | [] => none
  | c :: cs => if f = c.f then some c else first f cs

theorem acall_hit {c : Ctr P} {cs : List (Ctr P)} (x : c.X) (h : H) (he : Ctr.first c.f cs = some c) (hp : c.pre x h) : aCall (Sof cs) (.fn (.func c.f) [] []) (c.args x) h = some (c.res x h) := by
  simp only [aCall, List.nil_append, List.append_nil]
  exact sof_hit c cs he x h hp
end
end Go.VM
end
