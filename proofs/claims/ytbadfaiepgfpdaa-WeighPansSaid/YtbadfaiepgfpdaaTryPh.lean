/- The law of pans: every number. -/
import Derived.Test.YtbadfaiepgfpdaaTryPg
namespace Go.Proofs.Wei
open Go Go.VM

theorem pv_in {n : Int} (h1 : -1000 ≤ n) (h2 : n ≤ 1000) (t : Nat) : pv t n = .tup [.sl (ints (digs n)) (digs n).length (rm t (digs n)), I 0] := by
  rw [pv, if_pos ⟨h1, h2⟩, lv_eq]
theorem pt_in {n : Int} (h1 : -1000 ≤ n) (h2 : n ≤ 1000) : pt n = lt (digs n) := if_pos ⟨h1, h2⟩
theorem sl45 (n : Int) (h : H) (h1 : -1000 ≤ n) (h2 : n ≤ 1000) : sl9 45 [.int .i64 n] h = some (.sl (ints (digs n)) (digs n).length (rm h.toks.length (digs n)), ⟨h.blk, h.toks ++ lt (digs n), h.maps⟩) := by
  rw [← lv_eq]; simp [sl9, h1, h2]
theorem sl40 (xs : List Int) (rx ry : Room) (h : H) (hl : xs.length ≤ 1900) (hx : xs ≠ [] → rx ≠ .nil) (hy : xs ≠ [] → ry ≠ .nil) : sl9 40 [.sl (ints xs) xs.length rx, .sl (ints xs) xs.length ry] h = some (.bool true, h) := by
  simp [sl9, unints_ints, hl]
  exact ⟨hx, hy⟩

theorem law_run (n : Int) : ∃ h, ebody Try.prog np sl9 2000 Try.f9 (Try.f9.body.getD .skip) [I n] .nil = some (.bool true, h) := by
  by_cases c1 : n < -1000
  · have e : ¬ (-1000 ≤ n ∧ n ≤ 1000) := by omega
    refine ⟨.nil, body_led [.val 13 (.tup [.sl [] 0 .nil, .int .i64 2]) .nil, .b true, .b true, .b true] []
      (Hd E9 [Cd.call (.fn (.func 44) [] []) [I n] .nil (.tup [.sl [] 0 .nil, I 2]) .nil, Cd.lt n (-1000), Cd.eq 0 0, Cd.eq 2 2] ∧ (AV.bool true, H.nil) = (.bool true, .nil)) (by kernel_rfl) ⟨?_, rfl⟩⟩
    simp only [hd_cons, hd_nil, Cd.holds, and_true, e9s]
    exact ⟨by simp [aCall, pv, pt, e, lv], c1⟩
  by_cases c2 : 1000 < n
  · have e : ¬ (-1000 ≤ n ∧ n ≤ 1000) := by omega
    refine ⟨.nil, body_led [.val 13 (.tup [.sl [] 0 .nil, .int .i64 2]) .nil, .b false, .b true, .b true, .b true] []
      (Hd E9 [Cd.call (.fn (.func 44) [] []) [I n] .nil (.tup [.sl [] 0 .nil, I 2]) .nil, Cd.le (-1000) n, Cd.lt 1000 n, Cd.eq 0 0, Cd.eq 2 2] ∧ (AV.bool true, H.nil) = (.bool true, .nil)) (by kernel_rfl) ⟨?_, rfl⟩⟩
    simp only [hd_cons, hd_nil, Cd.holds, and_true, e9s]
    exact ⟨by simp [aCall, pv, pt, e, lv], by omega, c2⟩
  have h1 : -1000 ≤ n := by omega
  have h2 : n ≤ 1000 := by omega
  obtain ⟨f1, f2, f3, f4⟩ := digs_facts n h1 h2
  generalize hb : digs (-n) = b at *
  generalize ha : digs n = a at *
  let t1 : List Nat := lt a
  let t2 : List Nat := lt a ++ lt b
  let t3 : List Nat := lt a ++ lt b ++ lt a
  have hbl : b.length = a.length := by rw [f1]; simp
  refine ⟨.nil, body_led [.val 13 (.tup [.sl (ints a) a.length (rm 0 a), I 0]) ⟨[], t1, []⟩, .b false, .b false,
      .val 35 (.tup [.sl (ints b) b.length (rm t1.length b), I 0]) ⟨[], t2, []⟩, .val 40 (.sl (ints a) a.length (rm t2.length a)) ⟨[], t3, []⟩, .val 41 (.bool true) ⟨[], t3, []⟩, .b false, .b false, .b false, .b true, .val 84 (.bool true) ⟨[], t3, []⟩]
      [.loop sl9s (.exit 0) [0, 7] [I n, I n] ⟨[], t3, []⟩]
      (Hd E9 [Cd.call (.fn (.func 44) [] []) [I n] .nil (.tup [.sl (ints a) a.length (rm 0 a), I 0]) ⟨[], t1, []⟩, Cd.le (-1000) n, Cd.le n 1000, Cd.rng .i64 (0 - n),
          Cd.call (.fn (.func 44) [] []) [I (0 - n)] ⟨[], t1, []⟩ (.tup [.sl (ints b) b.length (rm t1.length b), I 0]) ⟨[], t2, []⟩,
          Cd.call (.fn (.func 45) [] []) [I n] ⟨[], t2, []⟩ (.sl (ints a) a.length (rm t2.length a)) ⟨[], t3, []⟩,
          Cd.call (.fn (.func 40) [] []) [.sl (ints a) a.length (rm 0 a), .sl (ints a) a.length (rm t2.length a)] ⟨[], t3, []⟩ (.bool true) ⟨[], t3, []⟩, Cd.eq 0 0, Cd.eq 0 0, Cd.eq b.length a.length] ∧
        LoopOk E9 (loopAt Try.f9 0) 86 sl9s [I n, .sl (ints a) a.length (rm 0 a), .sl (ints b) b.length (rm t1.length b), I 0, I 1, .sl (ints a) a.length (rm 0 a), I a.length, I 0] ⟨[], t3, []⟩ (.exit 0) [0, 7] [I n, I n] ⟨[], t3, []⟩ ∧
        ∀ (_u : Nat → AV), Hd E9 [Cd.eq n n, Cd.call (.fn (.func 21) [] []) [] ⟨[], t3, []⟩ (.bool true) ⟨[], t3, []⟩] ∧ (AV.bool true, H.nil) = (.bool true, .nil)) (by kernel_rfl) ⟨?_, ?_, fun _ => ⟨?_, rfl⟩⟩⟩
  · simp only [hd_cons, hd_nil, Cd.holds, and_true, e9s]
    refine ⟨?_, h1, h2, w64 _ (by omega) (by omega), ?_, ?_, ?_, ?_⟩
    · simp only [aCall, List.nil_append, List.append_nil, sl44, pv_in h1 h2, pt_in h1 h2, ha]; rfl
    · have h1' : -1000 ≤ 0 - n := by omega
      have h2' : 0 - n ≤ 1000 := by omega
      have hb' : digs (0 - n) = b := by rw [← hb]; congr 1; omega
      simp only [aCall, List.nil_append, List.append_nil, sl44, pv_in h1' h2', pt_in h1' h2', hb']; rfl
    · simp only [aCall, List.nil_append, List.append_nil, sl45 n _ h1 h2, ha]; rfl
    · simp only [aCall, List.nil_append, List.append_nil]
      exact sl40 a _ _ _ (by omega) rm_ne rm_ne
    · exact ⟨trivial, trivial, by rw [hbl]⟩
  · exact loop9 n a b _ _ _ rm_ne rm_ne f1 f2 f3 f4
  · simp only [hd_cons, hd_nil, Cd.holds, and_true, e9s]
    simp [aCall]
end Go.Proofs.Wei
