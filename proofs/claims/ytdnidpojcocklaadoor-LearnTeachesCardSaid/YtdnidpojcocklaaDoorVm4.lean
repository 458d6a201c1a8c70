/- Own texts on reading the model, joined: VmS. -/
import Derived.Test.YtdnidpojcocklaaDoorVm3
set_option linter.unusedSimpArgs false
set_option linter.unusedVariables false
set_option linter.unnecessarySimpa false
section
/- The reader, led by answers that are given beforehand: each answer leaves a
   condition that is to be proved. -/
namespace Go.VM
set_option linter.unusedSectionVars false
variable [Inhabited Globs]

inductive Orc where
  | b (o : Bool)
  | dflt
  | val (d : Nat) (v : AV) (h : H)
  | loop (x : AX) (A : List AV) (h : H)

inductive Cd where
  | lt (a b : Int)
  | le (a b : Int)
  | eq (a b : Int)
  | ne (a b : Int)
  | rng (k : IntKind) (x : Int)
  | bt (b o : Bool)
  | app (t t' : TypeId) (x y : AV) (h : H) (v : AV) (h' : H)
  | idx (t : TypeId) (x i v : AV)
  | ix (t : TypeId) (x i v : AV)
  | load (t : TypeId) (cs : List AV) (v : AV)
  | call (f : AV) (args : List AV) (h : H) (v : AV) (h' : H)
  | oth (o : Oper) (A : List AV) (h : H) (v : AV) (h' : H)
  | loop (c : Code) (A : List AV) (h : H) (x : AX) (A' : List AV) (h' : H)

def Cd.holds (P : Program) (S : Summ) (D : Base → Draws) (β : Base) (n : Nat) : Cd → Prop
  | .lt a b => a < b
  | .le a b => a ≤ b
  | .eq a b => a = b
  | .ne a b => a ≠ b
  | .rng k x => k.wrap x = x
  | .bt b o => b = o
  | .app t t' x y h v h' => aAppend P t t' x y h = some (v, h')
  | .idx t x i v => aIndexAddr P t x i = some v
  | .ix t x i v => aIndex P t x i = some v
  | .load t cs v => aLoad P t cs = some v
  | .call f args h v h' => aCall S f args h = some (v, h')
  | .oth o A h v h' => aop P S β o A h = some (v, h')
  | .loop c A h x A' h' => loopx P S D β n c A h = some (x, A', h')

def cmp (op : BinOp) (a b : Int) (o : Bool) : Option Cd :=
  match op, o with
  | .eql, true | .neq, false => some (.eq a b)
  | .eql, false | .neq, true => some (.ne a b)
  | .lss, true | .geq, false => some (.lt a b)
  | .lss, false | .geq, true => some (.le b a)
  | .leq, true | .gtr, false => some (.le a b)
  | .leq, false | .gtr, true => some (.lt b a)
  | _, _ => none

abbrev ORes := Option (List Cd × AV × H × List Orc)

def odef (P : Program) (S : Summ) (β : Base) (o : Oper) (A : List AV) (h : H) (os : List Orc) : ORes :=
  match aop P S β o A h with
  | some (v, h') => some ([], v, h', os)
  | none => none

def obin (op : BinOp) (x y : AV) (h : H) (os : List Orc) : ORes :=
  match x, y with
  | .int k a, .int k' b =>
    if k = k' then
      match op with
      | .add => some ([.rng k (a + b)], .int k (a + b), h, os)
      | .sub => some ([.rng k (a - b)], .int k (a - b), h, os)
      | .mul => some ([.rng k (a * b)], .int k (a * b), h, os)
      | .quo => some ([.ne b 0, .rng k (a.tdiv b)], .int k (a.tdiv b), h, os)
      | .rem => some ([.ne b 0], .int k (a.tmod b), h, os)
      | _ => match os with
        | .b o :: os => match cmp op a b o with
          | some d => some ([d], .bool o, h, os)
          | none => none
        | _ => none
    else none
  | _, _ => none

def oop (P : Program) (S : Summ) (β : Base) (o : Oper) (A : List AV) (h : H) (os : List Orc) : ORes :=
  match o.op, os with
  | .binOp .shl .., os => odef P S β o A h os
  | .binOp .shr .., os => odef P S β o A h os
  | .binOp .and .., os => odef P S β o A h os
  | .binOp .or .., os => odef P S β o A h os
  | .binOp .xor .., os => odef P S β o A h os
  | .binOp .andNot .., os => odef P S β o A h os
  | .binOp _ .., .dflt :: os => odef P S β o A h os
  | .binOp op _ x y _, os => match obin op (aev A x) (aev A y) h os with
    | some r => some r
    | none => odef P S β o A h os
  | .unOp .neg _ x, os => match aev A x with
    | .int k a => some ([.rng k (0 - a)], .int k (0 - a), h, os)
    | _ => none
  | .call c, .val d v h' :: os' => if o.dst = some d then
      match c.callee with
      | .value f => some ([.call (aev A f) (c.args.toList.map (aev A)) h v h'], v, h', os')
      | .builtin .append => match c.args.toList.map (aev A), c.argTypes.toList with
        | [x, y], [t, t'] => some ([.app t t' x y h v h'], v, h', os')
        | _, _ => none
      | _ => some ([.oth o A h v h'], v, h', os')
    else odef P S β o A h os
  | .load t a, .val d v _ :: os' => if o.dst = some d then
      match h.target (aev A a) with
      | some cs => some ([.load t cs v], v, h, os')
      | none => none
    else odef P S β o A h os
  | .indexAddr t x i, .val d v _ :: os' => if o.dst = some d then some ([.idx t (aev A x) (aev A i) v], v, h, os') else odef P S β o A h os
  | .index t x i, .val d v _ :: os' => if o.dst = some d then some ([.ix t (aev A x) (aev A i) v], v, h, os') else odef P S β o A h os
  | _, .val d v h' :: os' => if o.dst = some d then some ([.oth o A h v h'], v, h', os') else odef P S β o A h os
  | _, os => odef P S β o A h os

section
variable {P : Program} {S : Summ} {p : Pures} {β : Base} {n : Nat}
abbrev hold (P : Program) (S : Summ) (p : Pures) (β : Base) (n : Nat) (cs : List Cd) : Prop := ∀ d ∈ cs, d.holds P S (Darun P p) β n

theorem odef_ok {o : Oper} {A : List AV} {h : H} {os : List Orc} {cs : List Cd} {v : AV} {h' : H} {os' : List Orc} (he : odef P S β o A h os = some (cs, v, h', os')) : aop P S β o A h = some (v, h') := by
  unfold odef at he
  split at he
  · rename_i v1 h1 hq
    simp only [Option.some.injEq, Prod.mk.injEq] at he
    obtain ⟨-, rfl, rfl, -⟩ := he
    exact hq
  · cases he

theorem cmp_ok {op : BinOp} {a b : Int} {o : Bool} {d : Cd} (h : cmp op a b o = some d) (k : IntKind) (hd : d.holds P S (Darun P p) β n) : aIntOp op k a b = some (.bool o) := by
  unfold cmp at h
  split at h
  all_goals first | (cases h; done) | skip
  all_goals (simp only [Option.some.injEq] at h; subst h; simp only [Cd.holds] at hd; simp only [aIntOp, Option.some.injEq, AV.bool.injEq])
  all_goals first | simpa using hd | (simp only [decide_eq_false_iff_not]; omega)

theorem obin_ok {op : BinOp} {t : TypeId} {x y : AV} {h : H} {os : List Orc} {cs : List Cd} {v : AV} {h' : H} {os' : List Orc} (he : obin op x y h os = some (cs, v, h', os')) (hc : hold P S p β n cs) (h1 : op ≠ .shl) (h2 : op ≠ .shr) : aBin P op t x y = some v ∧ h' = h := by
  unfold obin at he
  split at he
  · rename_i k a k' b
    split at he
    · rename_i hk; subst hk
      simp only [aBin, h1, h2, or_self, if_false, if_true]
      split at he
      all_goals try (
        simp only [Option.some.injEq, Prod.mk.injEq] at he
        obtain ⟨rfl, rfl, rfl, rfl⟩ := he
        simp only [hold, List.mem_cons, List.not_mem_nil, or_false, forall_eq, forall_eq_or_imp, Cd.holds] at hc
        simp [aIntOp, hc]
        done)
      split at he
      · split at he
        · rename_i d hd
          simp only [Option.some.injEq, Prod.mk.injEq] at he
          obtain ⟨rfl, rfl, rfl, rfl⟩ := he
          simp only [hold, List.mem_cons, List.not_mem_nil, or_false, forall_eq] at hc
          exact ⟨cmp_ok hd _ hc, rfl⟩
        · cases he
      · cases he
    · cases he
  · cases he

theorem hold_one {d : Cd} : hold P S p β n [d] ↔ d.holds P S (Darun P p) β n := by simp [hold]
theorem oop_ok {o : Oper} {A : List AV} {h : H} {os : List Orc} {cs : List Cd} {v : AV} {h' : H} {os' : List Orc} (he : oop P S β o A h os = some (cs, v, h', os')) (hc : hold P S p β n cs) : aop P S β o A h = some (v, h') := by
  unfold oop at he
  split at he
  all_goals try (exact odef_ok he)
  · rename_i op t x y t' h1 h2 h3 h4 h5 h6 hq h7
    split at he
    · rename_i r hr
      simp only [Option.some.injEq] at he; subst he
      obtain ⟨e, rfl⟩ := obin_ok (t := t) hr hc h1 h2
      simp only [aop, hq, e]; rfl
    · exact odef_ok he
  · rename_i t x hq
    split at he
    · rename_i k a ha
      simp only [Option.some.injEq, Prod.mk.injEq] at he
      obtain ⟨rfl, rfl, rfl, rfl⟩ := he
      rw [hold_one] at hc
      simp only [Cd.holds] at hc
      simp only [aop, hq, ha, aUn, hc]; rfl
    · cases he
  · rename_i c d v1 h1 os1 hq
    split at he
    · split at he
      · rename_i f hf
        simp only [Option.some.injEq, Prod.mk.injEq] at he
        obtain ⟨rfl, rfl, rfl, rfl⟩ := he
        rw [hold_one] at hc
        simp only [Cd.holds] at hc
        simp only [aop, hq, hf, hc]
      · rename_i hf
        split at he
        · rename_i x y t t' hxy ht
          simp only [Option.some.injEq, Prod.mk.injEq] at he
          obtain ⟨rfl, rfl, rfl, rfl⟩ := he
          rw [hold_one] at hc
          simp only [Cd.holds] at hc
          simp only [aop, hq, hf, hxy, ht, hc]
        · cases he
      · simp only [Option.some.injEq, Prod.mk.injEq] at he
        obtain ⟨rfl, rfl, rfl, rfl⟩ := he
        rw [hold_one] at hc
        exact hc
    · exact odef_ok he
  · rename_i t a d v1 h1 os1 hq
    split at he
    · split at he
      · rename_i cells hcs
        simp only [Option.some.injEq, Prod.mk.injEq] at he
        obtain ⟨rfl, rfl, rfl, rfl⟩ := he
        rw [hold_one] at hc
        simp only [Cd.holds] at hc
        simp only [aop, hq, hcs, hc]; rfl
      · cases he
    · exact odef_ok he
  · rename_i t x i d v1 h1 os1 hq
    split at he
    · simp only [Option.some.injEq, Prod.mk.injEq] at he
      obtain ⟨rfl, rfl, rfl, rfl⟩ := he
      rw [hold_one] at hc
      simp only [Cd.holds] at hc
      simp only [aop, hq, hc]; rfl
    · exact odef_ok he
  · rename_i t x i d v1 h1 os1 hq
    split at he
    · simp only [Option.some.injEq, Prod.mk.injEq] at he
      obtain ⟨rfl, rfl, rfl, rfl⟩ := he
      rw [hold_one] at hc
      simp only [Cd.holds] at hc
      simp only [aop, hq, hc]; rfl
    · exact odef_ok he
  · split at he
    · simp only [Option.some.injEq, Prod.mk.injEq] at he
      obtain ⟨rfl, rfl, rfl, rfl⟩ := he
      rw [hold_one] at hc
      exact hc
    · exact odef_ok he

end
end Go.VM
end
