/- From the reader to a row's own words. -/
import Derived.Test.YtbadfaiepgfpdaaVmP
import Derived.Below
namespace Go.VM
open Go.RowKit

def Ghost.nil : Ghost := ⟨fun _ => none, fun _ _ => none, fun _ _ => none, fun _ => none, []⟩

theorem srel_nil (w : World) : SRel .nil .nil w := by
  constructor
  case dom => exact ⟨(by intro _ _ h; cases h), (by intro _ _ _ h; cases h), (by intro _ _ h; cases h)⟩
  case fr => intro _ _ _ h; cases h
  case blk => intro _ _ h; cases h
  case tok => intro t n ht; simp [H.nil] at ht
  case map => intro _ _ h; cases h
  case injφ => intro _ _ _ h; cases h
  case φfr => intro _ _ _ h; cases h
  case φtk => intro _ _ _ _ _ _ h; cases h
  case tkle => intro _ _ _ h; cases h
  case injtk => intro t t' n n' c cap sz cap' sz' ht; simp [H.nil] at ht
  case injmp => intro _ _ _ h; cases h
  case bases => intro _ h; cases h

/-- known cells of the world, from the first -/
def Ghost.ofCells (fr : Nat → Nat → Option Value) : Ghost := ⟨fun _ => none, fr, fun _ _ => none, fun _ => none, []⟩
theorem srel_cells {fr : Nat → Nat → Option Value} {w : World} (hf : ∀ c o v, fr c o = some v → w.cell? ⟨c, o, none⟩ = some v) : SRel (.ofCells fr) .nil w := by
  constructor
  case dom => exact ⟨(by intro _ _ h; cases h), (by intro _ _ _ h; cases h), (by intro _ _ h; cases h)⟩
  case fr => exact hf
  case blk => intro _ _ h; cases h
  case tok => intro t n ht; simp [H.nil] at ht
  case map => intro _ _ h; cases h
  case injφ => intro _ _ _ h; cases h
  case φfr => intro _ _ _ h; cases h
  case φtk => intro _ _ _ _ _ _ h; cases h
  case tkle => intro _ _ _ h; cases h
  case injtk => intro t t' n n' c cap sz cap' sz' ht; simp [H.nil] at ht
  case injmp => intro _ _ _ h; cases h
  case bases => intro _ h; cases h

theorem below_of_step {fr : Nat → Nat → Option Value} {w w' : World} {G' : Ghost} {h' : H} (st : Step (.ofCells fr) .nil w G' h' w') : Below w.heap.size w w' :=
  ⟨st.os, st.tape, st.output, st.size, fun k hk => st.keep k hk (fun ho => by
    rcases ho with ⟨b, hb⟩ | ⟨t, n, cap, sz, ht, _⟩ | ⟨m, hm⟩
    · cases hb
    · simp [H.nil] at ht
    · cases hm)⟩

section
variable {P : Program}

/-- a call from outside, over known cells -/
theorem top_call {f : FuncId} {args : List AV} {v : AV} {h' : H} (hc : CallOk P f args .nil v h') {fr : Nat → Nat → Option Value} {w : World} (hf : ∀ c o v, fr c o = some v → w.cell? ⟨c, o, none⟩ = some v) {vs : List Value} (hr : VRels (.ofCells fr) args vs) :
    Calls P f vs.toArray w (fun e w' => (∃ G' u, e = .returned u ∧ VRel G' v u) ∧ Below w.heap.size w w') :=
  (hc _ w vs (srel_cells hf) hr).mono fun _ _ ⟨G', u, he, st, _, hv⟩ => ⟨⟨G', u, he, hv⟩, below_of_step st⟩

theorem top_bool {f : FuncId} {args : List AV} {b : Bool} {h' : H} (hc : CallOk P f args .nil (.bool b) h') {fr : Nat → Nat → Option Value} {w : World} (hf : ∀ c o v, fr c o = some v → w.cell? ⟨c, o, none⟩ = some v) {vs : List Value} (hr : VRels (.ofCells fr) args vs) :
    Calls P f vs.toArray w (fun e w' => e = .returned (.bool b) ∧ Below w.heap.size w w') :=
  (top_call hc hf hr).mono fun _ _ ⟨⟨G', u, he, hv⟩, hb⟩ => ⟨by simp only [VRel] at hv; rw [he, hv], hb⟩

def allGood (P : Program) (special : FuncId → Bool) : Bool :=
  P.funcs.toList.zipIdx.all fun (fn, i) => special i || match fn.body with | some c => allSimple c | none => true

theorem allGood_spec {special : FuncId → Bool} (h : allGood P special = true) : ∀ f fn c, special f = false → P.funcs[f]? = some fn → fn.body = some c → allSimple c = true := by
  intro f fn c hs hf hb
  have := List.all_eq_true.1 h (fn, f) (by rw [List.mem_zipIdx_iff_getElem?]; simpa using hf)
  simpa [hs, hb] using this

def isTrue : Option (AV × H) → Bool
  | some (.bool true, ⟨[], [], []⟩) => true
  | _ => false
theorem isTrue_eq {r : Option (AV × H)} (h : isTrue r = true) : r = some (.bool true, .nil) := by
  unfold isTrue at h
  split at h
  · rfl
  · cases h
end
end Go.VM
namespace Go.VM
theorem w64 (x : Int) (h1 : -9223372036854775808 ≤ x) (h2 : x ≤ 9223372036854775807) : IntKind.i64.wrap x = x := by
  simp only [IntKind.wrap, IntKind.bits, IntKind.signed]; simp; omega

/-- a loop, by what holds at its head -/
theorem iter_use {f : List AV → H → Option (AX × List AV × H)} {n : Nat} {A : List AV} {h : H} {r : Option (AX × List AV × H)} (hq : iter f n A h = r) (I : Nat → List AV → H → Prop) (Post : AX → List AV → H → Prop) (m : Nat) (h0 : I 0 A h) (hn : m < n)
    (hstep : ∀ j A h, j ≤ m → I j A h → ∃ x A' h', f A h = some (x, A', h') ∧ ((x = .normal ∧ j < m ∧ I (j + 1) A' h') ∨ (x ≠ .normal ∧ Post x A' h'))) :
    ∃ x A' h', r = some (x, A', h') ∧ Post x A' h' := by
  subst hq
  have go : ∀ (d : Nat) (n j : Nat) (A : List AV) (h : H), m - j = d → j ≤ m → d < n → I j A h → ∃ x A' h', iter f n A h = some (x, A', h') ∧ Post x A' h' := by
    intro d
    induction d with
    | zero =>
      intro n j A h hd hj hn hI
      obtain ⟨n, rfl⟩ : ∃ k, n = k + 1 := ⟨n - 1, by omega⟩
      obtain ⟨x, A', h', hf, hc⟩ := hstep j A h hj hI
      rcases hc with ⟨_, hjm, _⟩ | ⟨hx, hp⟩
      · omega
      · refine ⟨x, A', h', ?_, hp⟩
        simp only [iter, hf]
        cases x
        · exact absurd rfl hx
        · rfl
        · rfl
    | succ d ih =>
      intro n j A h hd hj hn hI
      obtain ⟨n, rfl⟩ : ∃ k, n = k + 1 := ⟨n - 1, by omega⟩
      obtain ⟨x, A', h', hf, hc⟩ := hstep j A h hj hI
      rcases hc with ⟨rfl, hjm, hI'⟩ | ⟨hx, hp⟩
      · obtain ⟨x, A'', h'', h1, h2⟩ := ih n (j + 1) A' h' (by omega) (by omega) (by omega) hI'
        exact ⟨x, A'', h'', by simp only [iter, hf]; exact h1, h2⟩
      · refine ⟨x, A', h', ?_, hp⟩
        simp only [iter, hf]
        cases x
        · exact absurd rfl hx
        · rfl
        · rfl
  exact go m n 0 A h (by omega) (Nat.zero_le _) hn h0
/-- a loop, not opened -/
def loopx (P : Program) (S : Summ) (D : Base → Draws) (β : Base) (n : Nat) (c : Code) (A : List AV) (h : H) : Option (AX × List AV × H) := iter (exec P S D β n c) n A h
section
variable {P : Program} {S : Summ} {D : Base → Draws} {β : Base} {n : Nat} {A : List AV} {h : H}
@[simp] theorem exec_skip : exec P S D β n .skip A h = some (.normal, A, h) := rfl
@[simp] theorem exec_label {l : Nat} : exec P S D β n (.label l) A h = some (.normal, A, h) := rfl
@[simp] theorem exec_region {id : Nat} {ops : Array Oper} : exec P S D β n (.region id ops false) A h = (match arun P S β ops ops.toList A h with | some (A, h) => some (.normal, A, h) | none => none) := by
  simp only [exec]; cases arun P S β ops ops.toList A h <;> rfl
@[simp] theorem exec_draw {p : Pures} {id : Nat} {ops : Array Oper} : exec P S (Darun P p) β n (.region id ops true) A h = (match arun P (pureS p) β ops ops.toList A h with | some (A, h) => some (.normal, A, h) | none => none) := by
  simp only [exec, Darun]; cases arun P (pureS p) β ops ops.toList A h <;> rfl
@[simp] theorem exec_seq {x y : Code} : exec P S D β n (.seq x y) A h = (match exec P S D β n x A h with | some (.normal, A', h') => exec P S D β n y A' h' | r => r) := rfl
@[simp] theorem exec_cond {c : Operand} {x y : Code} : exec P S D β n (.cond c x y) A h = (match aev A c with | .bool true => exec P S D β n x A h | .bool false => exec P S D β n y A h | _ => none) := rfl
@[simp] theorem exec_block {id : Nat} {c : Code} : exec P S D β n (.block id c) A h = (match exec P S D β n c A h with | some (.exit i, A', h') => if i = id then some (.normal, A', h') else some (.exit i, A', h') | r => r) := rfl
@[simp] theorem exec_loop {c : Code} : exec P S D β n (.loop c) A h = loopx P S D β n c A h := rfl
@[simp] theorem exec_exit {id : Nat} : exec P S D β n (.exit id) A h = some (.exit id, A, h) := rfl
@[simp] theorem exec_scope {c : Code} : exec P S D β n (.scope c) A h = exec P S D β n c A h := rfl
@[simp] theorem exec_ret : exec P S D β n .ret A h = some (.ret, A, h) := rfl

def After (r : Option (AX × List AV × H)) (Q : AX → List AV → H → Prop) : Prop :=
  match r with
  | some (x, A, h) => Q x A h
  | none => False
@[simp] theorem after_some {x : AX} {A : List AV} {h : H} {Q : AX → List AV → H → Prop} : After (some (x, A, h)) Q = Q x A h := rfl

theorem loop_use {c : Code} {r : Option (AX × List AV × H)} (hq : loopx P S D β n c A h = r) (I : Nat → List AV → H → Prop) (Post : AX → List AV → H → Prop) (m : Nat) (h0 : I 0 A h) (hn : m < n)
    (hstep : ∀ j A h, j ≤ m → I j A h → After (exec P S D β n c A h) (fun x A' h' => (x = .normal ∧ j < m ∧ I (j + 1) A' h') ∨ (x ≠ .normal ∧ Post x A' h'))) :
    ∃ x A' h', r = some (x, A', h') ∧ Post x A' h' := iter_use hq I Post m h0 hn fun j A h hj hI => by
  have := hstep j A h hj hI
  unfold After at this
  split at this
  · exact ⟨_, _, _, by assumption, this⟩
  · exact this.elim
end
attribute [simp] arun awant aop aev aBin aIntOp aUn eqOnly H.nil H.base ofConst ofConst1 putA resvs resv oneOrTup pureS aCall
@[simp] theorem aMap_some {α β : Type} (f : α → β) (a : α) : Option.map f (some a) = some (f a) := rfl
end Go.VM
