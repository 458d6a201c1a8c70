/- Facts on types; slices of integers. -/
import Derived.Test.YtbadfaiepgfpdaaVm2
import Derived.Test.YtbadfaiepgfpdaaProg
import Derived.KernelRfl
set_option linter.unusedSimpArgs false
set_option linter.unusedVariables false
set_option linter.unnecessarySimpa false
namespace Go.Proofs.Wei
open Go Go.VM

theorem mixed : Try.prog.follows .mixedOrders = true := by kernel_rfl
@[simp] theorem und3 : Try.prog.underlying 3 = some (.int .i64) := by kernel_rfl
@[simp] theorem und4 : Try.prog.underlying 4 = some .bool := by kernel_rfl
@[simp] theorem und28 : Try.prog.underlying 28 = some (.int .i64) := by kernel_rfl
@[simp] theorem und56 : Try.prog.underlying 56 = some (.slice 3) := by kernel_rfl
@[simp] theorem el56 : elemT Try.prog 56 = some 3 := by kernel_rfl
@[simp] theorem size3 : sizeT Try.prog 3 = some 1 := by kernel_rfl
@[simp] theorem agg3 : isAggT Try.prog 3 = false := by kernel_rfl
@[simp] theorem zero3 : zeroCs Try.prog 3 = some [.int .i64 0] := by kernel_rfl
theorem info3 : ∃ i, Try.prog.info? 3 = some i ∧ i.size = 1 ∧ i.bytes = 8 := ⟨(Try.prog.info? 3).get (by kernel_rfl), by kernel_rfl, by kernel_rfl, by kernel_rfl⟩

@[simp] theorem beq_dec (a b : Int) : (a == b) = decide (a = b) := by by_cases h : a = b <;> simp [h]
@[simp] theorem bne_dec (a b : Int) : (a != b) = !decide (a = b) := by by_cases h : a = b <;> simp [h]

@[simp] theorem wlit (x : Int) (h : -9223372036854775808 ≤ x) (h' : x ≤ 9223372036854775807) : IntKind.i64.wrap x = x := w64 x h h'

@[simp] theorem ncast_eq (a b : Nat) : ((a : Int) = (b : Int)) = (a = b) := propext Int.ofNat_inj

abbrev I (n : Int) : AV := .int .i64 n
def ints (l : List Int) : List AV := l.map I
@[simp] theorem ints_len (l : List Int) : (ints l).length = l.length := by simp [ints]
@[simp] theorem ints_bnd (l : List Int) (a b c : Nat) : AV.bnds a b c (ints l) = true := by
  rw [AV.bnds_iff]; intro x hx; simp [ints] at hx; obtain ⟨n, _, rfl⟩ := hx; simp [AV.bnd]
@[simp] theorem ints_one (l : List Int) : (ints l).all AV.one = true := by
  rw [List.all_eq_true]; intro x hx; simp [ints] at hx; obtain ⟨n, _, rfl⟩ := hx; rfl
@[simp] theorem ints_frz (l : List Int) (a b : Nat) (h : H) (k : Nat) : (ints l).map (frz a b h (k + 1)) = ints l := by
  simp [ints, List.map_map]; intro a _; rfl
@[simp] theorem ints_get (l : List Int) (i : Nat) : (ints l)[i]? = (l[i]?).map I := by simp [ints]
@[simp] theorem ints_nil : ints [] = [] := rfl
theorem ints_app (l m : List Int) : ints l ++ ints m = ints (l ++ m) := by simp [ints]
theorem ints_drop (l : List Int) (n : Nat) : (ints l).drop n = ints (l.drop n) := by simp [ints]

@[simp] theorem bs56 (x : Int) : aBuildSlice Try.prog 56 1 [(0, .int .i64 x)] = some (.sl (ints [x]) 1 .full) := by
  simp [aBuildSlice, afill, AV.cells?, putAt, ints, List.replicate]

/-- a slice under way: nil, or with a token of its own -/
def lv (t : Nat) : List Int → AV
  | [] => .sl [] 0 .nil
  | x :: l => .sl (ints (x :: l)) (x :: l).length (.tok t 1)
def lt : List Int → List Nat
  | [] => []
  | x :: l => [(x :: l).length]
@[simp] theorem app56 (l : List Int) (x : Int) (toks : List Nat) (bs : List (List AV)) (ms : List (List (AV × AV))) (hl : l.length ≤ 1000000) :
    aAppend Try.prog 56 56 (lv toks.length l) (.sl (ints [x]) 1 .full) ⟨bs, toks ++ lt l, ms⟩ = some (lv toks.length (l ++ [x]), ⟨bs, toks ++ lt (l ++ [x]), ms⟩) := by
  obtain ⟨ti, hti, hs, hb⟩ := info3
  cases l with
  | nil =>
    simp only [aAppend, slCells, lv, lt, el56, hti, hs, hb, zero3, ne_eq, not_true_eq_false, if_false]
    simp [maxLen, ints_app, hs, hb]
  | cons y l =>
    simp only [List.length_cons] at hl
    simp only [aAppend, slCells, lv, lt, el56, hti, zero3, ne_eq, not_true_eq_false, if_false]
    have h47 : (2 : Nat) ^ 47 = 140737488355328 := by decide
    have h63 : (2 : Nat) ^ 63 = 9223372036854775808 := by decide
    rw [if_pos (by
      simp only [hs, hb, ints_len, ints_one, maxLen, List.length_cons, List.length_nil]
      refine ⟨trivial, ?_, ?_, ?_, ?_, ?_, ?_⟩ <;> first | omega | rfl | trivial)]
    rw [ints_app]; simp [hs]
@[simp] theorem leave_lv (l : List Int) : leave ⟨0, 0, 0⟩ (lv 0 l) ⟨[], lt l, []⟩ = (lv 0 l, ⟨[], lt l, []⟩) := by
  cases l with
  | nil => rfl
  | cons x l => simp [leave, lv, lt, AV.bnd, frz, Room.bnd, retok]
@[simp] theorem leave_lv1 (l : List Int) (n : Int) : leave ⟨0, 0, 0⟩ (.tup [lv 0 l, .int .i64 n]) ⟨[], lt l, []⟩ = (.tup [lv 0 l, .int .i64 n], ⟨[], lt l, []⟩) := by
  cases l with
  | nil => rfl
  | cons x l => simp [leave, lv, lt, AV.bnd, AV.bnds, frz, Room.bnd, retok]
def rm (t : Nat) : List Int → Room
  | [] => .nil
  | _ :: _ => .tok t 1
theorem lv_eq (t : Nat) (l : List Int) : lv t l = .sl (ints l) l.length (rm t l) := by cases l <;> rfl
theorem rm_ne {t : Nat} {l : List Int} (h : l ≠ []) : rm t l ≠ .nil := by cases l <;> simp_all [rm]

theorem ix56 (xs : List Int) (n : Nat) (r : Room) (k : IntKind) (i : Nat) (h : i < n) (hr : r ≠ .nil) : aIndexAddr Try.prog 56 (.sl (ints xs) n r) (.int k i) = some (.cptr (ints (xs.drop i))) := by
  simp [aIndexAddr, hr, h, ints_drop]
@[simp] theorem ld3 (l : List Int) : aLoad Try.prog 3 (ints l) = (l[0]?).map I := by
  simp [aLoad, und3, agg3]
@[simp] theorem tg3 (h : H) (cs : List AV) : h.target (.cptr cs) = some cs := rfl
@[simp] theorem len56 (h : H) (xs : List Int) (n : Nat) (r : Room) : aLen Try.prog 56 (.sl (ints xs) n r) h = some (.int .i64 n) := by
  simp [aLen]
theorem lv_rel (l : List Int) : lv 0 l = (if l = [] then .sl [] 0 .nil else .sl (ints l) l.length (.tok 0 1)) := by cases l <;> simp [lv]
end Go.Proofs.Wei
