/- Layer 7: the reference's Lines and Height. -/
import Derived.Test.YtmgbglnljnlapaaOrAj
import Derived.KernelRfl
set_option linter.unusedSimpArgs false
set_option linter.unusedVariables false
set_option linter.unnecessarySimpa false
set_option maxHeartbeats 4000000
set_option maxRecDepth 100000
namespace Go.Proofs.Ord
open Go Go.VM
open Go.Proofs.Sur (andn andn_bit andn_le i_wrap i_and i_or i_andn i_shl i_shr bit_01)

theorem ls3b_wk (o : List Int) (r : Room) (t : Nat) (b : List Nat) (s : Room) : AV.bnds 0 0 0 [AV.wk (ls o r), AV.wk (I t), AV.wk (bg b s)] = true := by simp [AV.bnds, AV.bnd, AV.wk, rm_wk_bnd]
theorem rwl_plain (L : List (List Nat)) (r : Room) : (rwl L r).plain = true := by simp [AV.plain, plains_rows]
theorem rwl_bnd (L : List (List Nat)) : (rwl L .no).bnd 0 0 0 = true := by simp [AV.bnd, Room.bnd]
theorem rwl_wkd (L : List (List Nat)) (r : Room) (h : r.wk = .no) : (rwl L r).wkd = rwl L .no := by simp [AV.wkd, wkds_rows, h]
theorem fin76 {o : List Int} {r : Room} {t : Nat} {b : List Nat} {s : Room} {L : List (List Nat)} {v0 : AV} {ts : List Nat} (hs : s.wk = rr (kr b)) (hc : CallOk Try.prog 76 [ls o r.wk, I t, bg b (rr (kr b))] .nil v0 ⟨[], ts, []⟩) (hp : v0.plain = true) (hw : v0.wkd = rwl L .no) (H : H) : CallOk Try.prog 76 [ls o r, I t, bg b s] H (rwl L .no) H := by
  have := hc.drop hp
  rw [hw] at this
  have e : ([ls o r, I t, bg b s] : List AV).map AV.wk = [ls o r.wk, I t, bg b (rr (kr b))] := by simp [AV.wk, hs]
  rw [← e] at this
  exact (pure_call this (ls3b_wk o r t b s) (rwl_bnd L) H).wk
theorem t76 : ∀ m, Ok76 m
  | 0 => by
    rintro ⟨⟨o, r⟩, t, b, s⟩ ⟨h, hs⟩
    simp only at h hs
    exact ⟨ok76.call, fun H => fin76 hs ((r76z o r.wk t b (by have := h.2.2.2; omega)).run ok76 .nil rfl) (rwl_plain _ _) (rwl_wkd _ _ rfl) H⟩
  | m + 1 => by
    rintro ⟨⟨o, r⟩, t, b, s⟩ ⟨h, hs⟩
    simp only at h hs
    exact ⟨ok76.call, fun H => fin76 hs ((r76 m (t76 m) o r.wk t b ⟨⟨h.1.1, by simpa using h.1.2⟩, h.2⟩).run ok76 (.pure _ (.pure _ .nil)) rfl) (rwl_plain _ _) (rwl_wkd _ _ rfl) H⟩
/-- all lines -/
abbrev LL (o : List Int) : List (List Nat) := lns (rel o) o.length o.length 0 []
theorem pcn {n : Nat} (h6 : n ≤ 6) : pc (cm n 0) = n := by
  rw [cm_z h6]
  have : ∀ n, n ≤ 6 → pc (alls n) = n := by decide
  exact this n h6
noncomputable def c76n : PCtr Try.prog where
  f := 76
  X := List Int × Room
  args x := [ls x.1 x.2, I 0, .sl [] 0 .nil]
  pre x := OrdL x.1 ∧ rok x.1 x.2
  v x := rwl (LL x.1) .no
  det := by rintro ⟨l, r⟩ ⟨m, s⟩ e _ _; simp at e; simp only [e.1]
  ok := by
    rintro ⟨o, r⟩ h
    exact t76 o.length ((o, r), 0, [], .nil) ⟨⟨h, Nat.two_pow_pos _, pcn h.1.s.2, by simp⟩, rfl⟩
theorem leave_no (L : List (List Nat)) : leave ⟨0, 0, 0⟩ (rwl L .no) ⟨[], [], []⟩ = (rwl L .no, .nil) := by
  rw [leave, if_pos (rwl_bnd L)]; rfl
theorem r32 (o : List Int) (r : Room) (h : OrdL o ∧ rok o r) : Body (En6 [c76n.to]) none1 Try.f32 [ls o r] .nil (rwl (LL o) .no, .nil) := by
  refine body_s ([Ans.o (Orc.val 4 (AV.sl (rowsA (lr (LL o))) (lr (LL o)).length Room.no) (H.mk [] [] []))]) (aCall (Sof [c76n.to]) (AV.fn (Fn.func (76 : Nat)) [] []) [AV.sl (ints o) o.length r, I 0, AV.sl [] (0 : Nat) Room.nil] (H.mk [] [] []) = some (AV.sl (rowsA (lr (LL o))) (lr (LL o)).length Room.no, H.mk [] [] []) ∧ leave (Base.mk H.nil.blk.length H.nil.toks.length H.nil.maps.length) (AV.sl (rowsA (lr (LL o))) (lr (LL o)).length Room.no) (H.mk [] [] []) = (AV.sl (rowsA (lr (LL o))) (lr (LL o)).length Room.no, H.mk [] [] [])) (by kernel_rfl) ?_
  refine ⟨acall_hit (c := c76n.to) ((o, r) : List Int × Room) _ rfl h, ?_⟩
  exact leave_no _
theorem ok32 : FokM Try.prog none1 32 Try.f32 := ⟨mixed, by kernel_rfl, by kernel_rfl, by kernel_rfl, by kernel_rfl⟩
noncomputable def c32 : PCtr Try.prog := slctr ok32 (X := List Int × Room) (fun x => [ls x.1 x.2]) (fun x => OrdL x.1 ∧ rok x.1 x.2) (fun x => rwl (LL x.1) .no)
  (by rintro ⟨l, r⟩ ⟨m, s⟩ e _ _; simp at e; simp only [e.1]) (fun x => ls_wk _ _) (fun x => rwl_bnd _) (fun x hx => ⟨_, _, _, _, _, .pure _ .nil, r32 x.1 x.2.wk ⟨hx.1, by simpa using hx.2⟩, rwl_plain _ _, rwl_wkd _ _ rfl⟩)
theorem idx_le (i : Nat) : ∀ (l : List Nat) (k : Nat), idx i k l ≤ l.length * (k + l.length)
  | [], k => by simp [idx]
  | e :: l, k => by
    have := idx_le i l (k + 1)
    rw [idx, List.length_cons, Nat.succ_mul, show k + (l.length + 1) = k + 1 + l.length by omega]
    split <;> omega
theorem idx_take (i : Nat) (b : List Nat) {q : Nat} (hq : q < b.length) : idx i 0 (b.take (q + 1)) = idx i 0 (b.take q) + (if b.getD q 0 = i then q else 0) := by
  have e : b.take (q + 1) = b.take q ++ [b.getD q 0] := by
    rw [List.take_add_one, List.getElem?_eq_getElem hq]; simp [List.getD, hq]
  rw [e, idx_app, List.length_take, Nat.min_eq_left (Nat.le_of_lt hq), Nat.zero_add]
theorem tot_take (i : Nat) (L : List (List Nat)) {k : Nat} (hk : k < L.length) : tot i (L.take (k + 1)) = tot i (L.take k) + idx i 0 (L.getD k []) := by
  have e : L.take (k + 1) = L.take k ++ [L.getD k []] := by
    rw [List.take_add_one, List.getElem?_eq_getElem hk]; simp [List.getD, hk]
  rw [e, tot_app]; simp [tot]
theorem tot_le (i : Nat) : ∀ (L : List (List Nat)), (∀ b ∈ L, b.length ≤ 6) → tot i L ≤ L.length * 36
  | [], _ => by simp [tot]
  | b :: L, h => by
    have h1 := tot_le i L fun c hc => h c (List.mem_cons_of_mem _ hc)
    have h2 := idx_le i b 0
    have h3 := h b List.mem_cons_self
    have h4 : b.length * (0 + b.length) ≤ 6 * 6 := by rw [Nat.zero_add]; exact Nat.mul_le_mul h3 h3
    have e : tot i (b :: L) = idx i 0 b + tot i L := by simp [tot]
    rw [e, List.length_cons]; omega
theorem lns_bl {A : Rel} {n : Nat} : ∀ (m t : Nat) (b c : List Nat), c ∈ lns A n m t b → c.length = b.length + m
  | 0, t, b, c, h => by simp only [lns, List.mem_singleton] at h; rw [h]; rfl
  | m + 1, t, b, c, h => by
    simp only [lns, List.mem_flatMap] at h
    obtain ⟨i, _, h⟩ := h
    split at h
    · rw [lns_bl m _ _ c h, List.length_append, List.length_singleton]; omega
    · cases h
end Go.Proofs.Ord

