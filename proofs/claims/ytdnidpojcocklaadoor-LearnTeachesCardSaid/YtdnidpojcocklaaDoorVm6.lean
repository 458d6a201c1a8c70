/- Own texts on reading the model, joined: VmW. -/
import Derived.Test.YtdnidpojcocklaaDoorVm5
set_option linter.unusedSimpArgs false
set_option linter.unusedVariables false
set_option linter.unnecessarySimpa false
section
/- The reader that follows all ways: a comparison that is open forks, a loop may end
   in several ways, calls are answered by contracts. -/
namespace Go.VM
set_option linter.unusedSectionVars false
variable [Inhabited Globs]

mutual
inductive Ans : Type 1 where
  | o (x : Orc)
  | fork (a b : List Ans)
  | vfork (d : Nat) (t : Bool) (h : H) (a b : List Ans)
  | bfork (d : Nat) (a b : List Ans)
  | btold (d : Nat) (o : Bool)
  | loop (is : List Nat) (outs : List Out)
inductive Out : Type 1 where
  | mk (T : Type) (x : AX) (is : List Nat) (C : T → Prop) (vs : T → List AV) (h : T → H) (os : T → List Ans)
end

abbrev Kn := AX → List AV → H → List Ans → Prop
abbrev Kv := AV → H → List Ans → Prop

/-- conditions for a value that is told -/
inductive Cn where
  | cd (d : Cd)
  | slice (t : TypeId) (x : AV) (lo hi mx : Option AV) (h : H) (v : AV)
  | look (t : TypeId) (m k : AV) (ok : Bool) (h : H) (v : AV)
  | mupd (t : TypeId) (m k x : AV) (h h' : H)
  | bin (op : BinOp) (t : TypeId) (x y v : AV)
  | conv (s d : TypeId) (x v : AV)
  | len (t : TypeId) (x : AV) (h : H) (v : AV)
  | mm (mx : Bool) (xs : List AV) (v : AV)
  | make (t : TypeId) (l c : Int) (h : H) (v : AV) (h' : H)
  | store (t : TypeId) (p x : AV) (h h' : H)
  | eq (a b : AV)
  | un (op : UnOp) (x v : AV)
  | fld (t : TypeId) (x : AV) (f : Nat) (v : AV)
  | cpy (t : TypeId) (x y : AV) (h : H) (v : AV) (h' : H)
  | bld (t : TypeId) (parts : List (Nat × AV)) (v : AV)

def Cn.holds (E : Env) (S : Summ) : Cn → Prop
  | .cd d => d.holds E.P S (Darun E.P E.p) E.β E.n
  | .slice t x lo hi mx h v => aSlice E.P t x lo hi mx h = some v
  | .look t m k ok h v => aLookup E.P t m k ok h = some v
  | .mupd t m k x h h' => aMapUpdate E.P t m k x h = some h'
  | .bin op t x y v => aBin E.P op t x y = some v
  | .conv s d x v => aConvert E.P s d x = some v
  | .len t x h v => aLen E.P t x h = some v
  | .mm mx xs v => aMin mx xs = some v
  | .make t l c h v h' => aMake E.P t l c h = some (v, h')
  | .store t p x h h' => aStore E.P E.β t p x h = some h'
  | .eq a b => a = b
  | .un op x v => aUn op x = some v
  | .fld t x f v => aField E.P t x f = some v
  | .cpy t x y h v h' => aCopy E.P E.β t x y h = some (v, h')
  | .bld t parts v => aBuild E.P t parts = some v

/-- the condition that an operation has a value -/
def valC (o : Oper) (A : List AV) (h : H) (v : AV) (h' : H) : Option Cn :=
  match o.op with
  | .load t a => match h.target (aev A a) with | some cs => some (.cd (.load t cs v)) | none => none
  | .store t a x => some (.store t (aev A a) (aev A x) h h')
  | .binOp op t x y _ => some (.bin op t (aev A x) (aev A y) v)
  | .convert s d x => some (.conv s d (aev A x) v)
  | .makeSlice t l c => match aev A l, aev A c with | .int .i64 l, .int .i64 c => some (.make t l c h v h') | _, _ => none
  | .slice t x lo hi mx => some (.slice t (aev A x) (lo.map (aev A)) (hi.map (aev A)) (mx.map (aev A)) h v)
  | .indexAddr t x i => some (.cd (.idx t (aev A x) (aev A i) v))
  | .index t x i => some (.cd (.ix t (aev A x) (aev A i) v))
  | .lookup t x i ok => some (.look t (aev A x) (aev A i) ok h v)
  | .mapUpdate t m k x | .insert t m k x => some (.mupd t (aev A m) (aev A k) (aev A x) h h')
  | .move x | .assign x => some (.eq (aev A x) v)
  | .unOp op _ x => some (.un op (aev A x) v)
  | .field t x f => some (.fld t (aev A x) f v)
  | .build t parts => some (.bld t (parts.toList.map fun (i, x) => (i, aev A x)) v)
  | .extract t i => match aev A t with
    | .tup vs => match vs[i]? with
      | some u => some (.eq u v)
      | none => none
    | _ => none
  | .call c => match c.callee with
    | .value f => some (.cd (.call (aev A f) (c.args.toList.map (aev A)) h v h'))
    | .builtin b => match b, c.args.toList.map (aev A), c.argTypes.toList with
      | .len, [x], t :: _ => some (.len t x h v)
      | .min, xs, _ => some (.mm false xs v)
      | .max, xs, _ => some (.mm true xs v)
      | .append, [x, y], [t, t'] => some (.cd (.app t t' x y h v h'))
      | .copy, [x, y], [t, _] => some (.cpy t x y h v h')
      | _, _, _ => none
    | _ => none
  | _ => none
/-- what the heap is afterwards, where the condition does not say so -/
def valH (o : Oper) (h h' : H) : H :=
  match o.op with
  | .store .. | .makeSlice .. | .mapUpdate .. | .insert .. => h'
  | .call c => match c.callee with
    | .value _ => h'
    | .builtin .append => h'
    | .builtin .copy => h'
    | _ => h
  | _ => h
def valV (o : Oper) (v : AV) : AV :=
  match o.op with
  | .store .. | .mapUpdate .. | .insert .. => .undef
  | _ => v

def conW (E : Env) (S : Summ) : List Cd → Prop → Prop
  | [], q => q
  | c :: cs, q => Cn.holds E S (.cd c) ∧ conW E S cs q

def restOf (q : List Orc) (os : List Ans) : List Ans := match q with | [] => os.tail | _ => os
def dfltW (E : Env) (S : Summ) (o : Oper) (A : List AV) (h : H) (q : List Orc) (os : List Ans) (K : Kv) : Prop :=
  match oop E.P S E.β o A h q with
  | some (cs, v, h', q') => conW E S cs (K v h' (match q with | [] => os | _ => restOf q' os))
  | none => False

/-- a comparison of integers: it takes an answer -/
def isCmp (o : Oper) (A : List AV) : Bool :=
  match o.op with
  | .binOp op _ x y _ => (match op with | .eql | .neq | .lss | .leq | .gtr | .geq => true | _ => false) && (match aev A x, aev A y with | .int _ _, .int _ _ => true | _, _ => false)
  | _ => false

def opW (E : Env) (S : Summ) (o : Oper) (A : List AV) (h : H) (os : List Ans) (K : Kv) : Prop :=
  match os with
  | .fork a b :: _ => match o.op with
    | .binOp op _ x y _ => match aev A x, aev A y with
      | .int k i, .int k' j => if k = k' then
          match cmp op i j true, cmp op i j false with
          | some c, some d => (Cn.holds E S (.cd c) → K (.bool true) h a) ∧ (Cn.holds E S (.cd d) → K (.bool false) h b)
          | _, _ => dfltW E S o A h [] os K
        else False
      | _, _ => dfltW E S o A h [] os K
    | _ => dfltW E S o A h [] os K
  | .vfork d t h' a b :: _ => if o.dst = some d then
      match valC o A h (.bool t) h', valV o (.bool true) with
      | some c, .bool _ => Cn.holds E S c ∧ (t = true → K (.bool true) (valH o h h') a) ∧ (t = false → K (.bool false) (valH o h h') b)
      | _, _ => False
    else dfltW E S o A h [] os K
  | .bfork d a b :: _ => if o.dst = some d then
      match aop E.P S E.β o A h with
      | some (.bool t, h') => (t = true → K (.bool true) h' a) ∧ (t = false → K (.bool false) h' b)
      | _ => False
    else dfltW E S o A h [] os K
  | .btold d q :: os' => if o.dst = some d then
      match aop E.P S E.β o A h with
      | some (.bool t, h') => t = q ∧ K (.bool q) h' os'
      | _ => False
    else dfltW E S o A h [] os K
  | .o (.val d v h') :: os' => if o.dst.getD 9999 = d then
      match valC o A h v h' with
      | some c => Cn.holds E S c ∧ K (valV o v) (valH o h h') os'
      | none => False
    else dfltW E S o A h [] os K
  | .o q :: _ => if isCmp o A then dfltW E S o A h [q] os K else dfltW E S o A h [] os K
  | _ => dfltW E S o A h [] os K

def runW (E : Env) (S : Summ) (ops : Array Oper) : List Oper → List AV → H → List Ans → (List AV → H → List Ans → Prop) → Prop
  | [], A, h, os, K => K A h os
  | o :: rest, A, h, os, K =>
    match awant ops A o with
    | some true => opW E S o A h os fun v h' os' => runW E S ops rest (putA A o.dst v) h' os' K
    | some false => runW E S ops rest (putA A o.dst .undef) h os K
    | none => False

def hits : List Out → AX → List AV → H → Prop
  | [], _, _, _ => False
  | .mk _ x' is C vs h' _ :: outs, x, A, h => (∃ y, C y ∧ x = x' ∧ sel is A = vs y ∧ h = h' y) ∨ hits outs x A h
def outsW (N : Nat) (K : Kn) : List Out → Prop
  | [] => True
  | .mk _ x is C vs h os :: outs => (∀ y, C y → ∀ u, K x (fr N u (is.zip (vs y))) (h y) (os y)) ∧ outsW N K outs
/-- a loop from known slots to one of some ends -/
def LoopTo (E : Env) (c : Code) (N : Nat) (is : List Nat) (vs : List AV) (h : H) (outs : List Out) : Prop :=
  ∀ A, A.length = N → sel is A = vs → ∃ x A' h', loopx E.P E.S (Darun E.P E.p) E.β E.n c A h = some (x, A', h') ∧ A'.length = N ∧ hits outs x A' h'

def iterW (f : List AV → H → List Ans → Kn → Prop) : Nat → List AV → H → List Ans → Kn → Prop
  | 0, _, _, _, _ => False
  | n + 1, A, h, os, K => f A h os fun x A h os => match x with
    | .normal => iterW f n A h os K
    | x => K x A h os

def wW (E : Env) : Code → List AV → H → List Ans → Kn → Prop
  | .skip, A, h, os, K => K .normal A h os
  | .label _, A, h, os, K => K .normal A h os
  | .region _ ops false, A, h, os, K => runW E E.S ops ops.toList A h os (K .normal)
  | .region _ ops true, A, h, os, K => runW E (pureS E.p) ops ops.toList A h os (K .normal)
  | .seq x y, A, h, os, K => wW E x A h os fun e A h os => match e with
    | .normal => wW E y A h os K
    | e => K e A h os
  | .cond c x y, A, h, os, K => match aev A c with
    | .bool true => wW E x A h os K
    | .bool false => wW E y A h os K
    | _ => False
  | .block id c, A, h, os, K => wW E c A h os fun e A h os => match e with
    | .exit i => if i = id then K .normal A h os else K (.exit i) A h os
    | e => K e A h os
  | .loop c, A, h, os, K => match os with
    | .loop is outs :: _ => LoopTo E c A.length is (sel is A) h outs ∧ outsW A.length K outs
    | os => iterW (wW E c) E.n A h os K
  | .exit id, A, h, os, K => K (.exit id) A h os
  | .scope c, A, h, os, K => wW E c A h os K
  | .ret, A, h, os, K => K .ret A h os
  | _, _, _, _, _ => False

section
variable {E : Env}

theorem conW_ok {S : Summ} : ∀ {cs : List Cd} {q : Prop}, conW E S cs q → hold E.P S E.p E.β E.n cs ∧ q
  | [], q, h => ⟨by simp [hold], h⟩
  | c :: cs, q, h => by
    obtain ⟨h1, h2⟩ := conW_ok h.2
    refine ⟨?_, h2⟩
    intro d hd
    rcases List.mem_cons.1 hd with rfl | hd
    · exact h.1
    · exact h1 d hd

theorem dfltW_ok {S : Summ} {o : Oper} {A : List AV} {h : H} {q : List Orc} {os : List Ans} {K : Kv} (hw : dfltW E S o A h q os K) :
    ∃ v h' os', aop E.P S E.β o A h = some (v, h') ∧ K v h' os' := by
  unfold dfltW at hw
  split at hw
  · rename_i cs v h' q' he
    obtain ⟨h1, h2⟩ := conW_ok hw
    exact ⟨v, h', _, oop_ok he h1, h2⟩
  · exact hw.elim

theorem valC_ok {S : Summ} {o : Oper} {A : List AV} {h : H} {v : AV} {h' : H} {c : Cn} (hc : valC o A h v h' = some c) (hh : Cn.holds E S c) :
    aop E.P S E.β o A h = some (valV o v, valH o h h') := by
  unfold valC at hc
  unfold aop valH valV
  split at hc
  · rename_i t a hq
    split at hc
    · rename_i cs hcs
      simp only [Option.some.injEq] at hc; subst hc
      simp only [Cn.holds, Cd.holds] at hh
      simp only [hq, hcs, hh]; rfl
    · cases hc
  · rename_i t a x hq
    simp only [Option.some.injEq] at hc; subst hc
    simp only [Cn.holds] at hh
    simp only [hq, hh]; rfl
  · rename_i op t x y g hq
    simp only [Option.some.injEq] at hc; subst hc
    simp only [Cn.holds] at hh
    simp only [hq, hh]; rfl
  · rename_i s d x hq
    simp only [Option.some.injEq] at hc; subst hc
    simp only [Cn.holds] at hh
    simp only [hq, hh]; rfl
  · rename_i t l k hq
    split at hc
    · rename_i l' k' hl hk
      simp only [Option.some.injEq] at hc; subst hc
      simp only [Cn.holds] at hh
      simp only [hq, hl, hk, hh]
    · cases hc
  · rename_i t x lo hi mx hq
    simp only [Option.some.injEq] at hc; subst hc
    simp only [Cn.holds] at hh
    simp only [hq, hh]; rfl
  · rename_i t x i hq
    simp only [Option.some.injEq] at hc; subst hc
    simp only [Cn.holds, Cd.holds] at hh
    simp only [hq, hh]; rfl
  · rename_i t x i hq
    simp only [Option.some.injEq] at hc; subst hc
    simp only [Cn.holds, Cd.holds] at hh
    simp only [hq, hh]; rfl
  · rename_i t x i k hq
    simp only [Option.some.injEq] at hc; subst hc
    simp only [Cn.holds] at hh
    simp only [hq, hh]; rfl
  · rename_i t m k x hq
    simp only [Option.some.injEq] at hc; subst hc
    simp only [Cn.holds] at hh
    simp only [hq, hh]; rfl
  · rename_i t m k x hq
    simp only [Option.some.injEq] at hc; subst hc
    simp only [Cn.holds] at hh
    simp only [hq, hh]; rfl
  · rename_i x hq
    simp only [Option.some.injEq] at hc; subst hc
    simp only [Cn.holds] at hh
    simp only [hq, hh]
  · rename_i x hq
    simp only [Option.some.injEq] at hc; subst hc
    simp only [Cn.holds] at hh
    simp only [hq, hh]
  · rename_i op t x hq
    simp only [Option.some.injEq] at hc; subst hc
    simp only [Cn.holds] at hh
    simp only [hq, hh]; rfl
  · rename_i t x f hq
    simp only [Option.some.injEq] at hc; subst hc
    simp only [Cn.holds] at hh
    simp only [hq, hh]; rfl
  · rename_i t parts hq
    simp only [Option.some.injEq] at hc; subst hc
    simp only [Cn.holds] at hh
    simp only [hq, hh]; rfl
  · rename_i t i hq
    split at hc
    · rename_i vs hvs
      split at hc
      · rename_i u hu
        simp only [Option.some.injEq] at hc; subst hc
        simp only [Cn.holds] at hh
        simp only [hq, hvs, hu, hh]; rfl
      · cases hc
    · cases hc
  · rename_i k hq
    split at hc
    · rename_i f hf
      simp only [Option.some.injEq] at hc; subst hc
      simp only [Cn.holds, Cd.holds] at hh
      simp only [hq, hf, hh]
    · rename_i b hb
      split at hc
      · rename_i x t l hx ht
        simp only [Option.some.injEq] at hc; subst hc
        simp only [Cn.holds] at hh
        simp only [hq, hb, hx, ht, hh]; rfl
      · rename_i ts xs hx
        simp only [Option.some.injEq] at hc; subst hc
        simp only [Cn.holds] at hh
        simp only [hq, hb, hh]; rfl
      · rename_i ts xs hx
        simp only [Option.some.injEq] at hc; subst hc
        simp only [Cn.holds] at hh
        simp only [hq, hb, hh]; rfl
      · rename_i x y t t' hx ht
        simp only [Option.some.injEq] at hc; subst hc
        simp only [Cn.holds, Cd.holds] at hh
        simp only [hq, hb, hx, ht, hh]
      · rename_i x y t t' hx ht
        simp only [Option.some.injEq] at hc; subst hc
        simp only [Cn.holds] at hh
        simp only [hq, hb, hx, ht, hh]
      · cases hc
    · cases hc
  · cases hc

theorem opW_ok {S : Summ} {o : Oper} {A : List AV} {h : H} {os : List Ans} {K : Kv} (hw : opW E S o A h os K) :
    ∃ v h' os', aop E.P S E.β o A h = some (v, h') ∧ K v h' os' := by
  unfold opW at hw
  split at hw
  · rename_i a b os1
    split at hw
    · rename_i op t x y g hq
      split at hw
      · rename_i k i k' j hx hy
        split at hw
        · rename_i hk; subst hk
          split at hw
          · rename_i c d hc hd
            have key : ∀ (o' : Bool) (e : Cd), cmp op i j o' = some e → Cn.holds E S (.cd e) → aop E.P S E.β o A h = some (.bool o', h) := by
              intro o' e he hh
              have h1 : op ≠ .shl := by rintro rfl; simp [cmp] at he
              have h2 : op ≠ .shr := by rintro rfl; simp [cmp] at he
              have := cmp_ok (P := E.P) (S := S) (p := E.p) (β := E.β) (n := E.n) he k hh
              simp only [aop, hq, hx, hy, aBin, h1, h2, or_self, if_false, if_true, this]; rfl
            by_cases hT : Cn.holds E S (.cd c)
            · exact ⟨_, _, _, key true c hc hT, hw.1 hT⟩
            · have hF : Cn.holds E S (.cd d) := by
                revert hT
                unfold cmp at hc hd
                simp only [Cn.holds]
                cases op <;> simp only [reduceCtorEq, Option.some.injEq] at hc hd <;> subst hc <;> subst hd <;> simp only [Cd.holds] <;> omega
              exact ⟨_, _, _, key false d hd hF, hw.2 hF⟩
          · exact dfltW_ok hw
        · exact hw.elim
      · exact dfltW_ok hw
    · exact dfltW_ok hw
  · rename_i d t h' a b os1
    split at hw
    · split at hw
      · rename_i c b' hc hv1
        have := valC_ok hc hw.1
        have hv : valV o (.bool t) = .bool t := by
          unfold valV at hv1 ⊢
          split at hv1
          · cases hv1
          · cases hv1
          · cases hv1
          · rfl
        rw [hv] at this
        cases t
        · exact ⟨_, _, _, this, hw.2.2 rfl⟩
        · exact ⟨_, _, _, this, hw.2.1 rfl⟩
      · exact hw.elim
    · exact dfltW_ok hw
  · split at hw
    · split at hw
      · rename_i t h' hq
        cases t
        · exact ⟨_, _, _, hq, hw.2 rfl⟩
        · exact ⟨_, _, _, hq, hw.1 rfl⟩
      · exact hw.elim
    · exact dfltW_ok hw
  · split at hw
    · split at hw
      · rename_i t h' hq
        rw [hw.1] at hq
        exact ⟨_, _, _, hq, hw.2⟩
      · exact hw.elim
    · exact dfltW_ok hw
  · rename_i d v h' os'
    split at hw
    · split at hw
      · rename_i c hc
        exact ⟨_, _, _, valC_ok hc hw.1, hw.2⟩
      · exact hw.elim
    · exact dfltW_ok hw
  · split at hw
    · exact dfltW_ok hw
    · exact dfltW_ok hw
  · exact dfltW_ok hw

theorem runW_ok {S : Summ} {ops : Array Oper} : ∀ {l : List Oper} {A : List AV} {h : H} {os : List Ans} {K : List AV → H → List Ans → Prop}, runW E S ops l A h os K →
    ∃ A' h' os', arun E.P S E.β ops l A h = some (A', h') ∧ K A' h' os'
  | [], A, h, os, K, hw => ⟨A, h, os, rfl, hw⟩
  | o :: rest, A, h, os, K, hw => by
    simp only [runW] at hw
    simp only [arun]
    split at hw
    · rename_i hq
      obtain ⟨v, h', os', he, hk⟩ := opW_ok hw
      simp only [hq, he]
      exact runW_ok hk
    · rename_i hq
      simp only [hq]
      exact runW_ok hw
    · exact hw.elim

theorem iterW_ok {f : List AV → H → List Ans → Kn → Prop} {g : List AV → H → Option (AX × List AV × H)}
    (hf : ∀ A h os K, f A h os K → ∃ x A' h' os', g A h = some (x, A', h') ∧ K x A' h' os') :
    ∀ (k : Nat) (A : List AV) (h : H) (os : List Ans) (K : Kn), iterW f k A h os K → ∃ x A' h' os', iter g k A h = some (x, A', h') ∧ K x A' h' os'
  | 0, A, h, os, K, hw => hw.elim
  | k + 1, A, h, os, K, hw => by
    simp only [iterW] at hw
    obtain ⟨x1, A1, h1, os1, hg, hw1⟩ := hf _ _ _ _ hw
    simp only [iter, hg]
    cases x1
    · exact iterW_ok hf k _ _ _ _ hw1
    · exact ⟨_, _, _, _, rfl, hw1⟩
    · exact ⟨_, _, _, _, rfl, hw1⟩

theorem outs_hit {N : Nat} {K : Kn} : ∀ {outs : List Out} {x : AX} {A : List AV} {h : H}, A.length = N → hits outs x A h → outsW N K outs → ∃ os, K x A h os
  | [], x, A, h, _, hh, _ => hh.elim
  | .mk T x' is C vs h' os :: outs, x, A, h, hN, hh, hw => by
    rcases hh with ⟨y, hC, rfl, hs, rfl⟩ | hh
    · have := hw.1 y hC (fun i => A.getD i .undef)
      rw [← hs, ← hN, fr_sel] at this
      exact ⟨_, this⟩
    · exact outs_hit hN hh hw.2

theorem wW_ok : ∀ (c : Code) (A : List AV) (h : H) (os : List Ans) (K : Kn), wW E c A h os K →
    ∃ x A' h' os', exec E.P E.S (Darun E.P E.p) E.β E.n c A h = some (x, A', h') ∧ K x A' h' os' := by
  intro c
  induction c with
  | skip => intro A h os K hw; exact ⟨_, _, _, _, rfl, hw⟩
  | label => intro A h os K hw; exact ⟨_, _, _, _, rfl, hw⟩
  | exit => intro A h os K hw; exact ⟨_, _, _, _, rfl, hw⟩
  | ret => intro A h os K hw; exact ⟨_, _, _, _, rfl, hw⟩
  | region id ops d =>
    intro A h os K hw
    cases d
    · simp only [wW] at hw
      obtain ⟨A', h', os', he, hk⟩ := runW_ok hw
      exact ⟨_, _, _, _, by rw [exec_region, he], hk⟩
    · simp only [wW] at hw
      obtain ⟨A', h', os', he, hk⟩ := runW_ok hw
      exact ⟨_, _, _, _, by rw [exec_draw, he], hk⟩
  | seq x y ihx ihy =>
    intro A h os K hw
    simp only [wW] at hw
    obtain ⟨x1, A1, h1, os1, hg, hw1⟩ := ihx _ _ _ _ hw
    rw [exec_seq, hg]
    cases x1
    · exact ihy _ _ _ _ hw1
    · exact ⟨_, _, _, _, rfl, hw1⟩
    · exact ⟨_, _, _, _, rfl, hw1⟩
  | cond o x y ihx ihy =>
    intro A h os K hw
    simp only [wW] at hw
    rw [exec_cond]
    split at hw
    · rename_i ho; rw [ho]; exact ihx _ _ _ _ hw
    · rename_i ho; rw [ho]; exact ihy _ _ _ _ hw
    · exact hw.elim
  | block id c ih =>
    intro A h os K hw
    simp only [wW] at hw
    obtain ⟨x1, A1, h1, os1, hg, hw1⟩ := ih _ _ _ _ hw
    rw [exec_block, hg]
    cases x1
    · exact ⟨_, _, _, _, rfl, hw1⟩
    · simp only at hw1 ⊢
      split at hw1
      · rename_i hi; simp only [hi, if_true]; exact ⟨_, _, _, _, rfl, hw1⟩
      · rename_i hi; simp only [hi, if_false]; exact ⟨_, _, _, _, rfl, hw1⟩
    · exact ⟨_, _, _, _, rfl, hw1⟩
  | loop c ih =>
    intro A h os K hw
    simp only [wW] at hw
    rw [exec_loop]
    split at hw
    · rename_i is outs os1
      obtain ⟨x, A', h', he, hN, hh⟩ := hw.1 A rfl rfl
      obtain ⟨os', hk⟩ := outs_hit hN hh hw.2
      exact ⟨_, _, _, _, he, hk⟩
    · exact iterW_ok ih _ _ _ _ _ hw
  | scope c ih => intro A h os K hw; simp only [wW] at hw; rw [exec_scope]; exact ih _ _ _ _ hw
  | _ => intro A h os K hw; exact hw.elim

/-- the end of a body -/
def Kfin (E : Env) (fn : Func) (h0 : H) (r : AV × H) : Kn := fun x A h1 _ =>
  match x with
  | .exit _ => False
  | _ => match resvs E.P h1 A fn.results.toList with
    | some vs => leave h0.base (oneOrTup vs) h1 = r
    | none => False

def bodyV (E : Env) (fn : Func) (c : Code) (args : List AV) (h : H) (os : List Ans) (r : AV × H) : Prop :=
  wW E c (args ++ List.replicate (fn.ntmps - args.length) .undef) h os (Kfin E fn h r)

theorem body_wV {P : Program} {p : Pures} {S : Summ} {n : Nat} {fn : Func} {c : Code} {args : List AV} {h : H} {r : AV × H} (os : List Ans) (w : Prop)
    (e : bodyV ⟨P, S, p, h.base, n⟩ fn c args h os r = w) (hw : w) : ebody P p S n fn c args h = some r := by
  rw [← e] at hw
  obtain ⟨x, A, h1, os1, he, hx⟩ := wW_ok c _ _ _ _ hw
  unfold ebody
  simp only at he
  rw [he]
  cases x
  · simp only [Kfin] at hx ⊢
    split at hx
    · rename_i vs hv; rw [hv]; simp only [hx]
    · exact hx.elim
  · exact hx.elim
  · simp only [Kfin] at hx ⊢
    split at hx
    · rename_i vs hv; rw [hv]; simp only [hx]
    · exact hx.elim

/-- kept from being opened -/
def Keep (p : Prop) : Prop := p
theorem leave_same {h : H} {v : AV} (hb : v.bnd h.blk.length h.toks.length h.maps.length = true) : leave h.base v h = (v, h) := by
  simp [leave, H.base, hb]
end
end Go.VM
end
