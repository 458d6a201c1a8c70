/- The contracts, joined. -/
import Derived.Test.YtbadfaiepgfpdaaTryPd
namespace Go.Proofs.Wei
open Go Go.VM

def np : Pures := fun _ _ => none
def ns : Summ := fun _ _ _ => none
theorem np_ok : PureOk Try.prog np := by intro f args v h; cases h
theorem ns_ok : SummOk Try.prog ns := by intro f args h v h' he; cases he

theorem fn74 : Try.prog.funcs[74]? = some Try.f74 := by kernel_rfl
theorem fn45 : Try.prog.funcs[45]? = some Try.f45 := by kernel_rfl
theorem fn44 : Try.prog.funcs[44]? = some Try.f44 := by kernel_rfl
theorem fn40 : Try.prog.funcs[40]? = some Try.f40 := by kernel_rfl
theorem as74 : Try.f74.body = some (Try.f74.body.getD .skip) ∧ allSimple (Try.f74.body.getD .skip) = true ∧ callable Try.prog 74 = true := ⟨by kernel_rfl, by kernel_rfl, by kernel_rfl⟩
theorem as45 : Try.f45.body = some (Try.f45.body.getD .skip) ∧ allSimple (Try.f45.body.getD .skip) = true ∧ callable Try.prog 45 = true := ⟨by kernel_rfl, by kernel_rfl, by kernel_rfl⟩
theorem as44 : Try.f44.body = some (Try.f44.body.getD .skip) ∧ allSimple (Try.f44.body.getD .skip) = true ∧ callable Try.prog 44 = true := ⟨by kernel_rfl, by kernel_rfl, by kernel_rfl⟩
theorem as40 : Try.f40.body = some (Try.f40.body.getD .skip) ∧ allSimple (Try.f40.body.getD .skip) = true ∧ callable Try.prog 40 = true := ⟨by kernel_rfl, by kernel_rfl, by kernel_rfl⟩

theorem digits_ok (n : Int) (h1 : -1000 ≤ n) (h2 : n ≤ 1000) : CallOk Try.prog 74 [I n] .nil (lv 0 (digs n)) ⟨[], lt (digs n), []⟩ :=
  ebody_ok mixed np_ok ns_ok fn74 as74.1 as74.2.1 (digits_run np ns n h1 h2)
theorem refp_ok (n : Int) (h1 : -1000 ≤ n) (h2 : n ≤ 1000) : CallOk Try.prog 45 [I n] .nil (lv 0 (digs n)) ⟨[], lt (digs n), []⟩ :=
  ebody_ok mixed np_ok ns_ok fn45 as45.1 as45.2.1 (ref_run np ns n h1 h2)

/-- what `Pans` calls -/
def s74 : Summ := fun f args h => if f = 74 then match args with
  | [.int .i64 n] => if -1000 ≤ n ∧ n ≤ 1000 then some (lv h.toks.length (digs n), ⟨h.blk, h.toks ++ lt (digs n), h.maps⟩) else none
  | _ => none else none
theorem bnds_I (n : Int) : AV.bnds 0 0 0 [I n] = true := by simp [AV.bnds, AV.bnd]
theorem s74_ok : SummOk Try.prog s74 := by
  intro f args h v h' he
  unfold s74 at he
  split at he
  · rename_i hf; subst hf
    split at he
    · rename_i n
      split at he
      · rename_i hr
        simp only [Option.some.injEq, Prod.mk.injEq] at he
        obtain ⟨rfl, rfl⟩ := he
        refine ⟨as74.2.2, ?_⟩
        have := frame_call (ts := lt (digs n)) (ms := []) (digits_ok n hr.1 hr.2) (bnds_I n) h
        rw [lv_shift, List.append_nil] at this
        exact this
      · cases he
    · cases he
  · cases he
theorem pans_ok (n : Int) : CallOk Try.prog 44 [I n] .nil (pv 0 n) ⟨[], pt n, []⟩ :=
  ebody_ok mixed np_ok s74_ok fn44 as44.1 as44.2.1 (pans_run np s74 n (fun h1 h2 => by simp [s74, h1, h2]))
theorem equal_ok (xs ys : List Int) (rx ry : Room) (h : H) (hl : xs.length ≤ 1900) (hx : xs ≠ [] → rx ≠ .nil) (hy : ys ≠ [] → ry ≠ .nil) :
    CallOk Try.prog 40 [.sl (ints xs) xs.length rx, .sl (ints ys) ys.length ry] h (.bool (decide (xs = ys))) h :=
  ebody_ok mixed np_ok ns_ok fn40 as40.1 as40.2.1 (eq_run np ns xs ys rx ry h hl hx hy)

def unints : List AV → Option (List Int)
  | [] => some []
  | .int .i64 n :: l => (unints l).map (n :: ·)
  | _ => none
theorem unints_ints (l : List Int) : unints (ints l) = some l := by
  induction l with
  | nil => rfl
  | cons x l ih => simp only [ints, List.map_cons, unints] at *; rw [ih]; rfl
theorem ints_unints (cs : List AV) : ∀ l, unints cs = some l → cs = ints l := by
  induction cs with
  | nil => intro l h; simp only [unints, Option.some.injEq] at h; subst h; rfl
  | cons c cs ih =>
    intro l h
    unfold unints at h
    split at h
    · rename_i hq; cases hq
    · rename_i n l' hq
      cases hq
      rw [Option.map_eq_some_iff] at h
      obtain ⟨m, hm, rfl⟩ := h
      rw [ih m hm]; rfl
    · cases h

/-- what the law calls -/
def sl9 : Summ := fun f args h =>
  if f = 44 then match args with
    | [.int .i64 n] => some (pv h.toks.length n, ⟨h.blk, h.toks ++ pt n, h.maps⟩)
    | _ => none
  else if f = 45 then match args with
    | [.int .i64 n] => if -1000 ≤ n ∧ n ≤ 1000 then some (lv h.toks.length (digs n), ⟨h.blk, h.toks ++ lt (digs n), h.maps⟩) else none
    | _ => none
  else if f = 40 then match args with
    | [.sl xs n rx, .sl ys m ry] => match unints xs, unints ys with
      | some xs', some ys' => if n = xs'.length ∧ m = ys'.length ∧ xs'.length ≤ 1900 ∧ (xs' ≠ [] → rx ≠ .nil) ∧ (ys' ≠ [] → ry ≠ .nil) then some (.bool (decide (xs' = ys')), h) else none
      | _, _ => none
    | _ => none
  else if f = 21 then match args with
    | [] => some (.bool true, h)
    | _ => none
  else none
theorem sl9_ok (hawake : callable Try.prog 21 = true ∧ CallOk Try.prog 21 [] .nil (.bool true) .nil) : SummOk Try.prog sl9 := by
  intro f args h v h' he
  unfold sl9 at he
  split at he
  · rename_i hf; subst hf
    split at he
    · rename_i n
      simp only [Option.some.injEq, Prod.mk.injEq] at he
      obtain ⟨rfl, rfl⟩ := he
      refine ⟨as44.2.2, ?_⟩
      have := frame_call (ts := pt n) (ms := []) (pans_ok n) (bnds_I n) h
      rw [pv_shift, List.append_nil] at this
      exact this
    · cases he
  split at he
  · rename_i hf; subst hf
    split at he
    · rename_i n
      split at he
      · rename_i hr
        simp only [Option.some.injEq, Prod.mk.injEq] at he
        obtain ⟨rfl, rfl⟩ := he
        refine ⟨as45.2.2, ?_⟩
        have := frame_call (ts := lt (digs n)) (ms := []) (refp_ok n hr.1 hr.2) (bnds_I n) h
        rw [lv_shift, List.append_nil] at this
        exact this
      · cases he
    · cases he
  split at he
  · rename_i hf; subst hf
    split at he
    · rename_i xs n rx ys m ry
      split at he
      · rename_i xs' ys' hx hy
        split at he
        · rename_i hc
          obtain ⟨rfl, rfl, h3, h4, h5⟩ := hc
          simp only [Option.some.injEq, Prod.mk.injEq] at he
          obtain ⟨rfl, rfl⟩ := he
          rw [ints_unints _ _ hx, ints_unints _ _ hy]
          exact ⟨as40.2.2, equal_ok _ _ _ _ _ h3 h4 h5⟩
        · cases he
      · cases he
    · cases he
  split at he
  · rename_i hf; subst hf
    split at he
    · simp only [Option.some.injEq, Prod.mk.injEq] at he
      obtain ⟨rfl, rfl⟩ := he
      exact ⟨hawake.1, pure_call hawake.2 rfl rfl _⟩
    · cases he
  · cases he
end Go.Proofs.Wei
