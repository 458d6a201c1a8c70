/- The abstract operations are right: arithmetic, equality, parts. -/
import Derived.Test.YtbadfaiepgfpdaaVmE
namespace Go.VM
section
variable {P : Program} {G : Ghost} {h : H} {w : World}

/-! ### equality -/
theorem eqs_len : ∀ {ks : List Kd} {xs ys : List AV} {b : Bool}, eqs ks xs ys = some b → xs.length = ks.length ∧ ys.length = ks.length
  | [], [], [], _, _ => ⟨rfl, rfl⟩
  | k :: ks, x :: xs, y :: ys, b, h => by
    simp only [eqs] at h
    split at h
    · rename_i a b h1 h2
      obtain ⟨e1, e2⟩ := eqs_len h2
      simp [e1, e2]
    · cases h
  | [], [], _ :: _, _, h | [], _ :: _, _, _, h | _ :: _, [], _, _, h | _ :: _, _ :: _, [], _, h => by simp [eqs] at h

theorem eqs_append : ∀ {ks : List Kd} {ls : List Kd} {xs ys : List AV} {b : Bool}, eqs (ks ++ ls) xs ys = some b →
    ∃ b1 b2, eqs ks (xs.take ks.length) (ys.take ks.length) = some b1 ∧ eqs ls (xs.drop ks.length) (ys.drop ks.length) = some b2 ∧ b = (b1 && b2)
  | [], ls, xs, ys, b, h => ⟨true, b, by simp [eqs], by simpa using h, by simp⟩
  | k :: ks, ls, [], ys, b, h => by cases ys <;> simp [eqs] at h
  | k :: ks, ls, x :: xs, [], b, h => by simp [eqs] at h
  | k :: ks, ls, x :: xs, y :: ys, b, h => by
    simp only [List.cons_append, eqs] at h
    split at h
    · rename_i a c h1 h2
      obtain ⟨b1, b2, e1, e2, rfl⟩ := eqs_append h2
      simp only [Option.some.injEq] at h; subst h
      exact ⟨a && b1, b2, by simp [eqs, h1, e1], by simpa using e2, by simp [Bool.and_assoc]⟩
    · cases h

theorem rels_one_cell {x : AV} {v : Value} (hx : VRel G x v) : VRels G [x] [v] := by simp only [VRels]; exact ⟨v, [], rfl, hx, rfl⟩

theorem part_run {t : TypeId} {d : TypeDesc} (hd : P.underlying t = some d) {n : Nat} (hn : sizeT P t = some n) (arr : Array Value) (off : Nat) (hl : off + n ≤ arr.size) (h1 : isAggT P t = false → n = 1) :
    (part t arr off).run P w = .ok (if isAggT P t then .agg (arr.extract off (off + n)) else arr.getD off undef) w := by
  simp only [part, Sem.run_bind, run_isAgg hd, Result.andThen_ok]
  by_cases ha : isAggT P t = true
  · simp [ha, run_sizeT hn]
  · have := h1 (by simpa using ha)
    subst this
    have hlt : off < arr.size := by omega
    simp [ha, hlt]

/-- what flat tells of a type -/
theorem flat_shape : ∀ {d : Nat} {t : TypeId} {ks : List Kd}, flat P d t = some ks → ∃ de, P.underlying t = some de ∧ (isAggT P t = false → ks.length = 1)
  | 0, _, _, h => by simp [flat] at h
  | d + 1, t, ks, h => by
    simp only [flat] at h
    split at h <;> (try cases h) <;> (rename_i he; refine ⟨_, he, fun ha => ?_⟩) <;> (try rfl)
    · simp [isAggT, he] at ha
    · simp [isAggT, he] at ha

def rdCells (P : Program) (t : TypeId) (vs : List Value) : Value := if isAggT P t then .agg vs.toArray else vs.getD 0 undef

theorem take_drop_one {α : Type} (l : List α) (n : Nat) (d : α) (h : n < l.length) : (l.drop n).take 1 = [l.getD n d] := by
  rw [List.take_one, List.head?_drop]
  simp [List.getD, h]

theorem extract_toList (arr : Array Value) (a n : Nat) : (arr.extract a (a + n)) = ((arr.toList.drop a).take n).toArray := by
  apply Array.ext'
  simp [Array.toList_extract, List.extract_eq_take_drop]

theorem part_run' {t : TypeId} {d : TypeDesc} (hd : P.underlying t = some d) {n : Nat} (hn : sizeT P t = some n) (arr : Array Value) (off : Nat) (hl : off + n ≤ arr.size) (h1 : isAggT P t = false → n = 1) :
    (part t arr off).run P w = .ok (rdCells P t ((arr.toList.drop off).take n)) w := by
  rw [part_run hd hn arr off hl h1, rdCells]
  by_cases ha : isAggT P t = true
  · simp only [ha, if_true, extract_toList]
  · have := h1 (by simpa using ha)
    subst this
    simp only [ha, Bool.false_eq_true, if_false]
    rw [take_drop_one _ _ undef (by simp; omega)]
    simp [List.getD]

theorem forIn_loop_ok {α β σ : Type} (l : List α) (f : α → σ → Sem (ForInStep σ)) (g : α → σ → σ) : ∀ (b : σ), (∀ a ∈ l, ∀ b, (f a b).run P w = .ok (.yield (g a b)) w) → (forIn l b f).run P w = .ok (l.foldl (fun b a => g a b) b) w := by
  induction l with
  | nil => intro b _; rfl
  | cons a l ih =>
    intro b hb
    rw [List.forIn_cons, Sem.run_bind, hb a (by simp), Result.andThen_ok]
    exact ih _ (fun a ha => hb a (by simp [ha]))
end
end Go.VM
