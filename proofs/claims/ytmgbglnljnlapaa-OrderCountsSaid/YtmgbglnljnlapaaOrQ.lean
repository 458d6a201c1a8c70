/- Layer 7: the law of counts. -/
import Derived.Test.YtmgbglnljnlapaaOrO
import Derived.KernelRfl
set_option linter.unusedSimpArgs false
set_option linter.unusedVariables false
set_option linter.unnecessarySimpa false
set_option maxHeartbeats 4000000
set_option maxRecDepth 100000
namespace Go.Proofs.Ord
open Go Go.VM
open Go.Proofs.Sur (andn andn_bit andn_le i_wrap i_and i_or i_andn i_shl i_shr bit_01)

theorem cut_get {o : List Int} {i : Nat} (h : i < 9) : ia (cut o) i = ia o i := by
  simp [ia, cut, List.getD_eq_getElem?_getD, List.getElem?_take, h]
theorem cut_pI {o : List Int} {r : Room} (h : pI o r) : pI (cut o) (rcl r) := by
  refine ⟨cut_lim o, fun hne => ?_, fun i hi => ?_⟩
  · have : o ≠ [] := fun e => hne (by rw [e]; rfl)
    exact rcl_rok h.2.1 this
  · have h9 : i < 9 ∧ i < o.length := by simp only [cut, List.length_take] at hi; omega
    rw [cut_get h9.1]; exact h.2.2 i h9.2
theorem cut_ord {o : List Int} : OrdL (cut o) ↔ OrdL o := by
  by_cases h : o.length ≤ 9
  · rw [cut_id h]
  · constructor
    · intro k
      have := k.s.2
      simp only [cut, List.length_take] at this
      omega
    · intro k
      have := k.s.2
      omega
theorem pJ_20 {o : List Int} {r : Room} (h : pJ o r) : lim o.length ∧ rok o r ∧ em o r := ⟨h.1.1, h.1.2.1, h.2⟩
/-- a number without its sign, modulo n -/
def ui (i : Int) : Nat := (IntKind.u64.wrap i).toNat
theorem ui_w (i : Int) : IntKind.u64.wrap i = ((ui i : Nat) : Int) := by
  have : 0 ≤ IntKind.u64.wrap i := by
    simp only [IntKind.wrap, IntKind.bits, IntKind.signed]
    simp
    omega
  simp only [ui]; omega
theorem len_w {n : Nat} (h : n ≤ 1000) : IntKind.u64.wrap (n : Int) = (n : Nat) := by
  simp only [IntKind.wrap, IntKind.bits, IntKind.signed]
  simp
  omega
def md (i : Int) (n : Nat) : Nat := ui i % n
theorem md_lt (i : Int) {n : Nat} (h : 1 ≤ n) : md i n < n := Nat.mod_lt _ h
theorem r10f (o : List Int) (r : Room) (i j : Int) (h : pJ o r) (hn : ¬ OrdL o) : Body (En6 [c20.to, c30f.to, c26.to]) none1 Try.f10 [ls o r, I i, I j] .nil (.bool true, .nil) := by
  have h2 : ¬ OrdL (cut o) := fun k => hn (cut_ord.1 k)
  refine body_s ([Ans.o (Orc.val 28 (AV.sl (ints (cut o)) (cut o).length (rcl r)) (H.mk [] [] [])), Ans.o (Orc.val 29 (AV.tup [I 0, I 2]) (H.mk [] [] [])), Ans.o Orc.dflt, Ans.o Orc.dflt, Ans.o (Orc.val 42 (AV.bool true) (H.mk [] [] []))]) (aCall (Sof [c20.to, c30f.to, c26.to]) (AV.fn (Fn.func (20 : Nat)) [] []) [AV.sl (ints o) o.length r] (H.mk [] [] []) = some (AV.sl (ints (cut o)) (cut o).length (rcl r), H.mk [] [] []) ∧ aCall (Sof [c20.to, c30f.to, c26.to]) (AV.fn (Fn.func (30 : Nat)) [] []) [AV.sl (ints (cut o)) (cut o).length (rcl r)] (H.mk [] [] []) = some (AV.tup [I 0, I 2], H.mk [] [] []) ∧ aCall (Sof [c20.to, c30f.to, c26.to]) (AV.fn (Fn.func (26 : Nat)) [] []) [] (H.mk [] [] []) = some (AV.bool true, H.mk [] [] []) ∧ (AV.bool true, H.mk [] [] []) = (AV.bool true, H.mk [] [] [])) (by kernel_rfl) ?_
  refine ⟨acall_hit (c := c20.to) ((o, r) : List Int × Room) _ rfl (pJ_20 h), ?_⟩
  refine ⟨acall_hit (c := c30f.to) ((cut o, rcl r) : List Int × Room) _ rfl ⟨cut_pI h.1, h2⟩, ?_⟩
  refine ⟨acall_hit (c := c26.to) () _ rfl trivial, ?_⟩
  rfl
theorem rcl_pI {o : List Int} {r : Room} (h : pI o r) : pI o (rcl r) := ⟨h.1, rcl_rok h.2.1, h.2.2⟩
theorem r10s (o : List Int) (r : Room) (i j : Int) (h : pJ o r ∧ OrdL o) (hf : ¬ Fr (rel o) (md i o.length) (md j o.length)) : Body (En6 [c20t.to, c30t.to, c24t.to, c26.to, c27.to, c19s.to]) none1 Try.f10 [ls o r, I i, I j] .nil (.bool true, .nil) := by
  have h1 := h.2.s.1
  have h6 := h.2.s.2
  have hi := md_lt i h1
  have hj := md_lt j h1
  have ev0 : IntKind.u64.wrap i = ((ui i : Nat) : Int) := ui_w i
  have ev1 : IntKind.u64.wrap j = ((ui j : Nat) : Int) := ui_w j
  have ev2 : IntKind.u64.wrap (o.length : Int) = (o.length : Nat) := len_w (by omega)
  have ev3 : Int.tmod ((ui i : Nat) : Int) (o.length : Int) = ((md i o.length : Nat) : Int) := rfl
  have ev4 : Int.tmod ((ui j : Nat) : Int) (o.length : Int) = ((md j o.length : Nat) : Int) := rfl
  have ev5 : IntKind.i64.wrap ((md i o.length : Nat) : Int) = ((md i o.length : Nat) : Int) := i_wrap (by omega)
  have ev6 : IntKind.i64.wrap ((md j o.length : Nat) : Int) = ((md j o.length : Nat) : Int) := i_wrap (by omega)
  have h9 : o.length ≤ 9 := by omega
  have hne : (o.length : Int) ≠ 0 := by omega
  have hl := lp10 c19s o r h i j (ctO o : Nat)
  have hs : ((sm (rel o) o.length o.length : Nat) : Int) = ((ctO o : Nat) : Int) := by rw [sm_all h.2.od h1 h6]
  have hf' : ¬ Fr (rel o) (md j o.length) (md i o.length) := fun k => hf ⟨fun e => k.1 e.symm, k.2.2, k.2.1⟩
  have hq : pI o (rcl r) ∧ OrdL o := ⟨rcl_pI h.1.1, h.2⟩
  have b27 := fr_nb hf
  have hsz : (sz o ∧ rgO o) ∧ rok o r := ⟨⟨h.2.s, h.2.r⟩, h.1.1.2.1⟩
  refine body_s ([Ans.o (Orc.val 28 (AV.sl (ints o) o.length (rcl r)) (H.mk [] [] [])), Ans.o (Orc.val 29 (AV.tup [I (↑(ctO o) : Int), I 0]) (H.mk [] [] [])), Ans.o Orc.dflt, Ans.o (Orc.val 36 (AV.bool true) (H.mk [] [] [])), Ans.loop [(0 : Nat), (1 : Nat), (2 : Nat), (7 : Nat), (9 : Nat), (45 : Nat), (46 : Nat)] [Out.mk (List Nat) (AX.exit (0 : Nat)) [(0 : Nat), (1 : Nat), (2 : Nat), (7 : Nat), (9 : Nat)] (fun x => True) (fun x => [ls o r, I i, I j, I (↑(ctO o) : Int), I (↑(sm (rel o) o.length o.length) : Int)]) (fun ts => H.mk [] ts []) fun y => [Ans.o (Orc.b false), Ans.o (Orc.val 112 (AV.int IntKind.u64 (↑(ui i) : Int)) H.nil), Ans.o (Orc.val 115 (AV.int IntKind.u64 (↑o.length : Int)) H.nil), Ans.o (Orc.val 116 (AV.int IntKind.u64 (↑(md i o.length) : Int)) H.nil), Ans.o (Orc.val 117 (I (↑(md i o.length) : Int)) H.nil), Ans.o (Orc.val 119 (AV.int IntKind.u64 (↑(ui j) : Int)) H.nil), Ans.o (Orc.val 122 (AV.int IntKind.u64 (↑o.length : Int)) H.nil), Ans.o (Orc.val 123 (AV.int IntKind.u64 (↑(md j o.length) : Int)) H.nil), Ans.o (Orc.val 124 (I (↑(md j o.length) : Int)) H.nil), Ans.o (Orc.val 127 (AV.sl (ints o) o.length (rcl r)) (H.mk [] y [])), Ans.o (Orc.val 130 (AV.tup [AV.sl [] (0 : Nat) Room.nil, I 5]) (H.mk [] y [])), Ans.o (Orc.val 135 (AV.sl (ints o) o.length (rcl r)) (H.mk [] y [])), Ans.o (Orc.val 138 (AV.tup [AV.sl [] (0 : Nat) Room.nil, I 5]) (H.mk [] y [])), Ans.o Orc.dflt, Ans.o Orc.dflt, Ans.o Orc.dflt, Ans.o (Orc.val 154 (AV.bool false) (H.mk [] y [])), Ans.o (Orc.val 158 (AV.bool true) (H.mk [] y []))]]]) (aCall (Sof [c20t.to, c30t.to, c24t.to, c26.to, c27.to, c19s.to]) (AV.fn (Fn.func (20 : Nat)) [] []) [AV.sl (ints o) o.length r] (H.mk [] [] []) = some (AV.sl (ints o) o.length (rcl r), H.mk [] [] []) ∧ aCall (Sof [c20t.to, c30t.to, c24t.to, c26.to, c27.to, c19s.to]) (AV.fn (Fn.func (30 : Nat)) [] []) [AV.sl (ints o) o.length (rcl r)] (H.mk [] [] []) = some (AV.tup [I (↑(ctO o) : Int), I 0], H.mk [] [] []) ∧ aCall (Sof [c20t.to, c30t.to, c24t.to, c26.to, c27.to, c19s.to]) (AV.fn (Fn.func (24 : Nat)) [] []) [AV.sl (ints o) o.length r] (H.mk [] [] []) = some (AV.bool true, H.mk [] [] []) ∧ LoopS (Env.mk Try.prog (Sof [c20t.to, c30t.to, c24t.to, c26.to, c27.to, c19s.to]) (Pof (P := Try.prog) []) H.nil.base (300 : Nat)) (loopAt Try.f10 (0 : Nat)) (198 : Nat) [(0 : Nat), (1 : Nat), (2 : Nat), (7 : Nat), (9 : Nat), (45 : Nat), (46 : Nat)] [AV.sl (ints o) o.length r, I i, I j, I (↑(ctO o) : Int), I 0, I (↑o.length : Int), I 0] (H.mk [] [] []) [Out.mk (List Nat) (AX.exit (0 : Nat)) [(0 : Nat), (1 : Nat), (2 : Nat), (7 : Nat), (9 : Nat)] (fun x => True) (fun x => [ls o r, I i, I j, I (↑(ctO o) : Int), I (↑(sm (rel o) o.length o.length) : Int)]) (fun ts => H.mk [] ts []) fun y => [Ans.o (Orc.b false), Ans.o (Orc.val 112 (AV.int IntKind.u64 (↑(ui i) : Int)) H.nil), Ans.o (Orc.val 115 (AV.int IntKind.u64 (↑o.length : Int)) H.nil), Ans.o (Orc.val 116 (AV.int IntKind.u64 (↑(md i o.length) : Int)) H.nil), Ans.o (Orc.val 117 (I (↑(md i o.length) : Int)) H.nil), Ans.o (Orc.val 119 (AV.int IntKind.u64 (↑(ui j) : Int)) H.nil), Ans.o (Orc.val 122 (AV.int IntKind.u64 (↑o.length : Int)) H.nil), Ans.o (Orc.val 123 (AV.int IntKind.u64 (↑(md j o.length) : Int)) H.nil), Ans.o (Orc.val 124 (I (↑(md j o.length) : Int)) H.nil), Ans.o (Orc.val 127 (AV.sl (ints o) o.length (rcl r)) (H.mk [] y [])), Ans.o (Orc.val 130 (AV.tup [AV.sl [] (0 : Nat) Room.nil, I 5]) (H.mk [] y [])), Ans.o (Orc.val 135 (AV.sl (ints o) o.length (rcl r)) (H.mk [] y [])), Ans.o (Orc.val 138 (AV.tup [AV.sl [] (0 : Nat) Room.nil, I 5]) (H.mk [] y [])), Ans.o Orc.dflt, Ans.o Orc.dflt, Ans.o Orc.dflt, Ans.o (Orc.val 154 (AV.bool false) (H.mk [] y [])), Ans.o (Orc.val 158 (AV.bool true) (H.mk [] y []))]] ∧ (∀ (y : List Nat), True → ∀ (u : Nat → AV), (↑(sm (rel o) o.length o.length) : Int) = (↑(ctO o) : Int) ∧ aConvert Try.prog (3 : Nat) (69 : Nat) (I i) = some (AV.int IntKind.u64 (↑(ui i) : Int)) ∧ aConvert Try.prog (3 : Nat) (69 : Nat) (I (↑o.length : Int)) = some (AV.int IntKind.u64 (↑o.length : Int)) ∧ aBin Try.prog BinOp.rem (69 : Nat) (AV.int IntKind.u64 (↑(ui i) : Int)) (AV.int IntKind.u64 (↑o.length : Int)) = some (AV.int IntKind.u64 (↑(md i o.length) : Int)) ∧ aConvert Try.prog (69 : Nat) (3 : Nat) (AV.int IntKind.u64 (↑(md i o.length) : Int)) = some (I (↑(md i o.length) : Int)) ∧ aConvert Try.prog (3 : Nat) (69 : Nat) (I j) = some (AV.int IntKind.u64 (↑(ui j) : Int)) ∧ aConvert Try.prog (3 : Nat) (69 : Nat) (I (↑o.length : Int)) = some (AV.int IntKind.u64 (↑o.length : Int)) ∧ aBin Try.prog BinOp.rem (69 : Nat) (AV.int IntKind.u64 (↑(ui j) : Int)) (AV.int IntKind.u64 (↑o.length : Int)) = some (AV.int IntKind.u64 (↑(md j o.length) : Int)) ∧ aConvert Try.prog (69 : Nat) (3 : Nat) (AV.int IntKind.u64 (↑(md j o.length) : Int)) = some (I (↑(md j o.length) : Int)) ∧ aCall (Sof [c20t.to, c30t.to, c24t.to, c26.to, c27.to, c19s.to]) (AV.fn (Fn.func (20 : Nat)) [] []) [AV.sl (ints o) o.length r] (H.mk [] y []) = some (AV.sl (ints o) o.length (rcl r), H.mk [] y []) ∧ aCall (Sof [c20t.to, c30t.to, c24t.to, c26.to, c27.to, c19s.to]) (AV.fn (Fn.func (19 : Nat)) [] []) [AV.sl (ints o) o.length (rcl r), I (↑(md i o.length) : Int), I (↑(md j o.length) : Int)] (H.mk [] y []) = some (AV.tup [AV.sl [] (0 : Nat) Room.nil, I 5], H.mk [] y []) ∧ aCall (Sof [c20t.to, c30t.to, c24t.to, c26.to, c27.to, c19s.to]) (AV.fn (Fn.func (20 : Nat)) [] []) [AV.sl (ints o) o.length r] (H.mk [] y []) = some (AV.sl (ints o) o.length (rcl r), H.mk [] y []) ∧ aCall (Sof [c20t.to, c30t.to, c24t.to, c26.to, c27.to, c19s.to]) (AV.fn (Fn.func (19 : Nat)) [] []) [AV.sl (ints o) o.length (rcl r), I (↑(md j o.length) : Int), I (↑(md i o.length) : Int)] (H.mk [] y []) = some (AV.tup [AV.sl [] (0 : Nat) Room.nil, I 5], H.mk [] y []) ∧ aCall (Sof [c20t.to, c30t.to, c24t.to, c26.to, c27.to, c19s.to]) (AV.fn (Fn.func (27 : Nat)) [] []) [AV.sl (ints o) o.length r, I (↑(md i o.length) : Int), I (↑(md j o.length) : Int)] (H.mk [] y []) = some (AV.bool false, H.mk [] y []) ∧ aCall (Sof [c20t.to, c30t.to, c24t.to, c26.to, c27.to, c19s.to]) (AV.fn (Fn.func (26 : Nat)) [] []) [] (H.mk [] y []) = some (AV.bool true, H.mk [] y []) ∧ (AV.bool true, H.mk [] [] []) = (AV.bool true, H.mk [] [] [])) ∧ True) (by kernel_rfl) ?_
  refine ⟨acall_hit (c := c20t.to) ((o, r) : List Int × Room) _ rfl ⟨pJ_20 h.1, h9⟩, ?_⟩
  refine ⟨acall_hit (c := c30t.to) ((o, rcl r) : List Int × Room) _ rfl hq, ?_⟩
  refine ⟨acall_hit (c := c24t.to) ((o, r) : List Int × Room) _ rfl ⟨h.1.1, h.2⟩, ?_⟩
  refine ⟨hl, ?_⟩
  refine And.intro ?_ ?_
  · skip
    intro y
    intro w1
    intro u
    refine ⟨by first | with_reducible assumption | omega | assumption, ?_⟩
    refine ⟨by first | exact told_conv (by kernel_rfl) (by kernel_rfl) (by with_reducible assumption) | exact told_conv (by kernel_rfl) (by kernel_rfl) ev0 | exact told_conv (by kernel_rfl) (by kernel_rfl) ev1 | exact told_conv (by kernel_rfl) (by kernel_rfl) ev2 | exact told_conv (by kernel_rfl) (by kernel_rfl) ev3 | exact told_conv (by kernel_rfl) (by kernel_rfl) ev4 | exact told_conv (by kernel_rfl) (by kernel_rfl) ev5 | exact told_conv (by kernel_rfl) (by kernel_rfl) ev6 | exact told_conv (by kernel_rfl) (by kernel_rfl) ev7 | exact told_conv (by kernel_rfl) (by kernel_rfl) ev8 | exact told_conv (by kernel_rfl) (by kernel_rfl) ev9 | exact told_conv (by kernel_rfl) (by kernel_rfl) ev10 | exact told_conv (by kernel_rfl) (by kernel_rfl) ev11, ?_⟩
    refine ⟨by first | exact told_conv (by kernel_rfl) (by kernel_rfl) (by with_reducible assumption) | exact told_conv (by kernel_rfl) (by kernel_rfl) ev0 | exact told_conv (by kernel_rfl) (by kernel_rfl) ev1 | exact told_conv (by kernel_rfl) (by kernel_rfl) ev2 | exact told_conv (by kernel_rfl) (by kernel_rfl) ev3 | exact told_conv (by kernel_rfl) (by kernel_rfl) ev4 | exact told_conv (by kernel_rfl) (by kernel_rfl) ev5 | exact told_conv (by kernel_rfl) (by kernel_rfl) ev6 | exact told_conv (by kernel_rfl) (by kernel_rfl) ev7 | exact told_conv (by kernel_rfl) (by kernel_rfl) ev8 | exact told_conv (by kernel_rfl) (by kernel_rfl) ev9 | exact told_conv (by kernel_rfl) (by kernel_rfl) ev10 | exact told_conv (by kernel_rfl) (by kernel_rfl) ev11, ?_⟩
    refine ⟨told_rem (by first | decide | omega) (by with_reducible assumption), ?_⟩
    refine ⟨by first | exact told_conv (by kernel_rfl) (by kernel_rfl) (by with_reducible assumption) | exact told_conv (by kernel_rfl) (by kernel_rfl) ev0 | exact told_conv (by kernel_rfl) (by kernel_rfl) ev1 | exact told_conv (by kernel_rfl) (by kernel_rfl) ev2 | exact told_conv (by kernel_rfl) (by kernel_rfl) ev3 | exact told_conv (by kernel_rfl) (by kernel_rfl) ev4 | exact told_conv (by kernel_rfl) (by kernel_rfl) ev5 | exact told_conv (by kernel_rfl) (by kernel_rfl) ev6 | exact told_conv (by kernel_rfl) (by kernel_rfl) ev7 | exact told_conv (by kernel_rfl) (by kernel_rfl) ev8 | exact told_conv (by kernel_rfl) (by kernel_rfl) ev9 | exact told_conv (by kernel_rfl) (by kernel_rfl) ev10 | exact told_conv (by kernel_rfl) (by kernel_rfl) ev11, ?_⟩
    refine ⟨by first | exact told_conv (by kernel_rfl) (by kernel_rfl) (by with_reducible assumption) | exact told_conv (by kernel_rfl) (by kernel_rfl) ev0 | exact told_conv (by kernel_rfl) (by kernel_rfl) ev1 | exact told_conv (by kernel_rfl) (by kernel_rfl) ev2 | exact told_conv (by kernel_rfl) (by kernel_rfl) ev3 | exact told_conv (by kernel_rfl) (by kernel_rfl) ev4 | exact told_conv (by kernel_rfl) (by kernel_rfl) ev5 | exact told_conv (by kernel_rfl) (by kernel_rfl) ev6 | exact told_conv (by kernel_rfl) (by kernel_rfl) ev7 | exact told_conv (by kernel_rfl) (by kernel_rfl) ev8 | exact told_conv (by kernel_rfl) (by kernel_rfl) ev9 | exact told_conv (by kernel_rfl) (by kernel_rfl) ev10 | exact told_conv (by kernel_rfl) (by kernel_rfl) ev11, ?_⟩
    refine ⟨by first | exact told_conv (by kernel_rfl) (by kernel_rfl) (by with_reducible assumption) | exact told_conv (by kernel_rfl) (by kernel_rfl) ev0 | exact told_conv (by kernel_rfl) (by kernel_rfl) ev1 | exact told_conv (by kernel_rfl) (by kernel_rfl) ev2 | exact told_conv (by kernel_rfl) (by kernel_rfl) ev3 | exact told_conv (by kernel_rfl) (by kernel_rfl) ev4 | exact told_conv (by kernel_rfl) (by kernel_rfl) ev5 | exact told_conv (by kernel_rfl) (by kernel_rfl) ev6 | exact told_conv (by kernel_rfl) (by kernel_rfl) ev7 | exact told_conv (by kernel_rfl) (by kernel_rfl) ev8 | exact told_conv (by kernel_rfl) (by kernel_rfl) ev9 | exact told_conv (by kernel_rfl) (by kernel_rfl) ev10 | exact told_conv (by kernel_rfl) (by kernel_rfl) ev11, ?_⟩
    refine ⟨told_rem (by first | decide | omega) (by with_reducible assumption), ?_⟩
    refine ⟨by first | exact told_conv (by kernel_rfl) (by kernel_rfl) (by with_reducible assumption) | exact told_conv (by kernel_rfl) (by kernel_rfl) ev0 | exact told_conv (by kernel_rfl) (by kernel_rfl) ev1 | exact told_conv (by kernel_rfl) (by kernel_rfl) ev2 | exact told_conv (by kernel_rfl) (by kernel_rfl) ev3 | exact told_conv (by kernel_rfl) (by kernel_rfl) ev4 | exact told_conv (by kernel_rfl) (by kernel_rfl) ev5 | exact told_conv (by kernel_rfl) (by kernel_rfl) ev6 | exact told_conv (by kernel_rfl) (by kernel_rfl) ev7 | exact told_conv (by kernel_rfl) (by kernel_rfl) ev8 | exact told_conv (by kernel_rfl) (by kernel_rfl) ev9 | exact told_conv (by kernel_rfl) (by kernel_rfl) ev10 | exact told_conv (by kernel_rfl) (by kernel_rfl) ev11, ?_⟩
    refine ⟨acall_hit (c := c20t.to) ((o, r) : List Int × Room) _ rfl ⟨pJ_20 h.1, h9⟩, ?_⟩
    refine ⟨by first | exact acall_hit (c := c19s.to) ((o, rcl r), md i o.length, md j o.length) _ rfl ⟨hq, hi, hj, hf⟩ | exact acall_hit (c := c19s.to) ((o, rcl r), md j o.length, md i o.length) _ rfl ⟨hq, hj, hi, hf'⟩, ?_⟩
    refine ⟨acall_hit (c := c20t.to) ((o, r) : List Int × Room) _ rfl ⟨pJ_20 h.1, h9⟩, ?_⟩
    refine ⟨by first | exact acall_hit (c := c19s.to) ((o, rcl r), md i o.length, md j o.length) _ rfl ⟨hq, hi, hj, hf⟩ | exact acall_hit (c := c19s.to) ((o, rcl r), md j o.length, md i o.length) _ rfl ⟨hq, hj, hi, hf'⟩, ?_⟩
    refine ⟨acall_b (acall_hit (c := c27.to) ((o, r), md i o.length, md j o.length) _ rfl ⟨hsz, hi, hj⟩) b27, ?_⟩
    refine ⟨acall_hit (c := c26.to) () _ rfl trivial, ?_⟩
    rfl
  · skip
    trivial
theorem r10t (o : List Int) (r : Room) (i j : Int) (h : pJ o r ∧ OrdL o) (hf : Fr (rel o) (md i o.length) (md j o.length)) : Body (En6 [c20t.to, c30t.to, c24t.to, c26.to, c27.to, c19t.to]) none1 Try.f10 [ls o r, I i, I j] .nil (.bool true, .nil) := by
  have h1 := h.2.s.1
  have h6 := h.2.s.2
  have hi := md_lt i h1
  have hj := md_lt j h1
  have ev0 : IntKind.u64.wrap i = ((ui i : Nat) : Int) := ui_w i
  have ev1 : IntKind.u64.wrap j = ((ui j : Nat) : Int) := ui_w j
  have ev2 : IntKind.u64.wrap (o.length : Int) = (o.length : Nat) := len_w (by omega)
  have ev3 : Int.tmod ((ui i : Nat) : Int) (o.length : Int) = ((md i o.length : Nat) : Int) := rfl
  have ev4 : Int.tmod ((ui j : Nat) : Int) (o.length : Int) = ((md j o.length : Nat) : Int) := rfl
  have ev5 : IntKind.i64.wrap ((md i o.length : Nat) : Int) = ((md i o.length : Nat) : Int) := i_wrap (by omega)
  have ev6 : IntKind.i64.wrap ((md j o.length : Nat) : Int) = ((md j o.length : Nat) : Int) := i_wrap (by omega)
  have h9 : o.length ≤ 9 := by omega
  have hne : (o.length : Int) ≠ 0 := by omega
  have hl := lp10 c19t o r h i j (ctO o : Nat)
  have hs : ((sm (rel o) o.length o.length : Nat) : Int) = ((ctO o : Nat) : Int) := by rw [sm_all h.2.od h1 h6]
  have hf' : Fr (rel o) (md j o.length) (md i o.length) := ⟨fun e => hf.1 e.symm, hf.2.2, hf.2.1⟩
  have hq : pI o (rcl r) ∧ OrdL o := ⟨rcl_pI h.1.1, h.2⟩
  have hod := h.2.od
  have p6 : 2 ^ o.length ≤ 2 ^ 6 := Nat.pow_le_pow_right (by decide) h6
  have ha := ad_or hod hi hj hf
  have hb := ad_or hod hj hi hf'
  have hqa : pI (rl o.length (adR (rel o) (md i o.length) (md j o.length))) .full ∧ OrdL (rl o.length (adR (rel o) (md i o.length) (md j o.length))) := ⟨rl_pI ha h6 (fun _ => by decide), rl_ord ha h1 h6⟩
  have hqb : pI (rl o.length (adR (rel o) (md j o.length) (md i o.length))) .full ∧ OrdL (rl o.length (adR (rel o) (md j o.length) (md i o.length))) := ⟨rl_pI hb h6 (fun _ => by decide), rl_ord hb h1 h6⟩
  have ba : alls o.length < big := by have := alls_lt o.length; simp only [big]; omega
  have ca := ctO_rl ha.rg
  have cb := ctO_rl hb.rg
  have hsum : ctO o = ctO (rl o.length (adR (rel o) (md i o.length) (md j o.length))) + ctO (rl o.length (adR (rel o) (md j o.length) (md i o.length))) := by
    rw [ca, cb]
    exact ct_add hod hf _ _ (Nat.le_refl _) ba (by rw [alls_bit]; exact decide_eq_true hi) (by rw [alls_bit]; exact decide_eq_true hj)
  have pa : 0 < ctO (rl o.length (adR (rel o) (md i o.length) (md j o.length))) := by rw [ca]; exact ct_pos ha.tr ha.irr _ _ (Nat.le_refl _) ba (alls_lt _)
  have pb : 0 < ctO (rl o.length (adR (rel o) (md j o.length) (md i o.length))) := by rw [cb]; exact ct_pos hb.tr hb.irr _ _ (Nat.le_refl _) ba (alls_lt _)
  have hle : ctO o ≤ 46656 := ct_le h6 (alls_lt _)
  generalize hX : rl o.length (adR (rel o) (md i o.length) (md j o.length)) = X at *
  generalize hY : rl o.length (adR (rel o) (md j o.length) (md i o.length)) = Y at *
  have ev7 : IntKind.i64.wrap (((ctO X : Nat) : Int) + ((ctO Y : Nat) : Int)) = ((ctO o : Nat) : Int) := by rw [wr _ (by omega) (by omega)]; omega
  have haa : ((ctO o : Nat) : Int) = ((ctO o : Nat) : Int) := rfl
  have pa' : (0 : Int) < ((ctO X : Nat) : Int) := by omega
  have pb' : (0 : Int) < ((ctO Y : Nat) : Int) := by omega
  subst hX; subst hY
  refine body_s ([Ans.o (Orc.val 28 (AV.sl (ints o) o.length (rcl r)) (H.mk [] [] [])), Ans.o (Orc.val 29 (AV.tup [I (↑(ctO o) : Int), I 0]) (H.mk [] [] [])), Ans.o Orc.dflt, Ans.o (Orc.val 36 (AV.bool true) (H.mk [] [] [])), Ans.loop [(0 : Nat), (1 : Nat), (2 : Nat), (7 : Nat), (9 : Nat), (45 : Nat), (46 : Nat)] [Out.mk (List Nat) (AX.exit (0 : Nat)) [(0 : Nat), (1 : Nat), (2 : Nat), (7 : Nat), (9 : Nat)] (fun x => True) (fun x => [ls o r, I i, I j, I (↑(ctO o) : Int), I (↑(sm (rel o) o.length o.length) : Int)]) (fun ts => H.mk [] ts []) fun y => [Ans.o (Orc.b false), Ans.o (Orc.val 112 (AV.int IntKind.u64 (↑(ui i) : Int)) H.nil), Ans.o (Orc.val 115 (AV.int IntKind.u64 (↑o.length : Int)) H.nil), Ans.o (Orc.val 116 (AV.int IntKind.u64 (↑(md i o.length) : Int)) H.nil), Ans.o (Orc.val 117 (I (↑(md i o.length) : Int)) H.nil), Ans.o (Orc.val 119 (AV.int IntKind.u64 (↑(ui j) : Int)) H.nil), Ans.o (Orc.val 122 (AV.int IntKind.u64 (↑o.length : Int)) H.nil), Ans.o (Orc.val 123 (AV.int IntKind.u64 (↑(md j o.length) : Int)) H.nil), Ans.o (Orc.val 124 (I (↑(md j o.length) : Int)) H.nil), Ans.o (Orc.val 127 (AV.sl (ints o) o.length (rcl r)) (H.mk [] y [])), Ans.o (Orc.val 130 (AV.tup [AV.sl (ints (rl o.length (adR (rel o) (md i o.length) (md j o.length)))) (rl o.length (adR (rel o) (md i o.length) (md j o.length))).length Room.full, I 0]) (H.mk [] y [])), Ans.o (Orc.val 135 (AV.sl (ints o) o.length (rcl r)) (H.mk [] y [])), Ans.o (Orc.val 138 (AV.tup [AV.sl (ints (rl o.length (adR (rel o) (md j o.length) (md i o.length)))) (rl o.length (adR (rel o) (md j o.length) (md i o.length))).length Room.full, I 0]) (H.mk [] y [])), Ans.o Orc.dflt, Ans.o (Orc.val 162 (AV.tup [I (↑(ctO (rl o.length (adR (rel o) (md i o.length) (md j o.length)))) : Int), I 0]) (H.mk [] y [])), Ans.o (Orc.val 167 (AV.tup [I (↑(ctO (rl o.length (adR (rel o) (md j o.length) (md i o.length)))) : Int), I 0]) (H.mk [] y [])), Ans.o Orc.dflt, Ans.o Orc.dflt, Ans.o Orc.dflt, Ans.o (Orc.val 183 (I (↑(ctO o) : Int)) H.nil), Ans.o (Orc.b true), Ans.o (Orc.b true), Ans.o (Orc.b true), Ans.o (Orc.val 196 (AV.bool true) (H.mk [] y []))]]]) (aCall (Sof [c20t.to, c30t.to, c24t.to, c26.to, c27.to, c19t.to]) (AV.fn (Fn.func (20 : Nat)) [] []) [AV.sl (ints o) o.length r] (H.mk [] [] []) = some (AV.sl (ints o) o.length (rcl r), H.mk [] [] []) ∧ aCall (Sof [c20t.to, c30t.to, c24t.to, c26.to, c27.to, c19t.to]) (AV.fn (Fn.func (30 : Nat)) [] []) [AV.sl (ints o) o.length (rcl r)] (H.mk [] [] []) = some (AV.tup [I (↑(ctO o) : Int), I 0], H.mk [] [] []) ∧ aCall (Sof [c20t.to, c30t.to, c24t.to, c26.to, c27.to, c19t.to]) (AV.fn (Fn.func (24 : Nat)) [] []) [AV.sl (ints o) o.length r] (H.mk [] [] []) = some (AV.bool true, H.mk [] [] []) ∧ LoopS (Env.mk Try.prog (Sof [c20t.to, c30t.to, c24t.to, c26.to, c27.to, c19t.to]) (Pof (P := Try.prog) []) H.nil.base (300 : Nat)) (loopAt Try.f10 (0 : Nat)) (198 : Nat) [(0 : Nat), (1 : Nat), (2 : Nat), (7 : Nat), (9 : Nat), (45 : Nat), (46 : Nat)] [AV.sl (ints o) o.length r, I i, I j, I (↑(ctO o) : Int), I 0, I (↑o.length : Int), I 0] (H.mk [] [] []) [Out.mk (List Nat) (AX.exit (0 : Nat)) [(0 : Nat), (1 : Nat), (2 : Nat), (7 : Nat), (9 : Nat)] (fun x => True) (fun x => [ls o r, I i, I j, I (↑(ctO o) : Int), I (↑(sm (rel o) o.length o.length) : Int)]) (fun ts => H.mk [] ts []) fun y => [Ans.o (Orc.b false), Ans.o (Orc.val 112 (AV.int IntKind.u64 (↑(ui i) : Int)) H.nil), Ans.o (Orc.val 115 (AV.int IntKind.u64 (↑o.length : Int)) H.nil), Ans.o (Orc.val 116 (AV.int IntKind.u64 (↑(md i o.length) : Int)) H.nil), Ans.o (Orc.val 117 (I (↑(md i o.length) : Int)) H.nil), Ans.o (Orc.val 119 (AV.int IntKind.u64 (↑(ui j) : Int)) H.nil), Ans.o (Orc.val 122 (AV.int IntKind.u64 (↑o.length : Int)) H.nil), Ans.o (Orc.val 123 (AV.int IntKind.u64 (↑(md j o.length) : Int)) H.nil), Ans.o (Orc.val 124 (I (↑(md j o.length) : Int)) H.nil), Ans.o (Orc.val 127 (AV.sl (ints o) o.length (rcl r)) (H.mk [] y [])), Ans.o (Orc.val 130 (AV.tup [AV.sl (ints (rl o.length (adR (rel o) (md i o.length) (md j o.length)))) (rl o.length (adR (rel o) (md i o.length) (md j o.length))).length Room.full, I 0]) (H.mk [] y [])), Ans.o (Orc.val 135 (AV.sl (ints o) o.length (rcl r)) (H.mk [] y [])), Ans.o (Orc.val 138 (AV.tup [AV.sl (ints (rl o.length (adR (rel o) (md j o.length) (md i o.length)))) (rl o.length (adR (rel o) (md j o.length) (md i o.length))).length Room.full, I 0]) (H.mk [] y [])), Ans.o Orc.dflt, Ans.o (Orc.val 162 (AV.tup [I (↑(ctO (rl o.length (adR (rel o) (md i o.length) (md j o.length)))) : Int), I 0]) (H.mk [] y [])), Ans.o (Orc.val 167 (AV.tup [I (↑(ctO (rl o.length (adR (rel o) (md j o.length) (md i o.length)))) : Int), I 0]) (H.mk [] y [])), Ans.o Orc.dflt, Ans.o Orc.dflt, Ans.o Orc.dflt, Ans.o (Orc.val 183 (I (↑(ctO o) : Int)) H.nil), Ans.o (Orc.b true), Ans.o (Orc.b true), Ans.o (Orc.b true), Ans.o (Orc.val 196 (AV.bool true) (H.mk [] y []))]] ∧ (∀ (y : List Nat), True → ∀ (u : Nat → AV), (↑(sm (rel o) o.length o.length) : Int) = (↑(ctO o) : Int) ∧ aConvert Try.prog (3 : Nat) (69 : Nat) (I i) = some (AV.int IntKind.u64 (↑(ui i) : Int)) ∧ aConvert Try.prog (3 : Nat) (69 : Nat) (I (↑o.length : Int)) = some (AV.int IntKind.u64 (↑o.length : Int)) ∧ aBin Try.prog BinOp.rem (69 : Nat) (AV.int IntKind.u64 (↑(ui i) : Int)) (AV.int IntKind.u64 (↑o.length : Int)) = some (AV.int IntKind.u64 (↑(md i o.length) : Int)) ∧ aConvert Try.prog (69 : Nat) (3 : Nat) (AV.int IntKind.u64 (↑(md i o.length) : Int)) = some (I (↑(md i o.length) : Int)) ∧ aConvert Try.prog (3 : Nat) (69 : Nat) (I j) = some (AV.int IntKind.u64 (↑(ui j) : Int)) ∧ aConvert Try.prog (3 : Nat) (69 : Nat) (I (↑o.length : Int)) = some (AV.int IntKind.u64 (↑o.length : Int)) ∧ aBin Try.prog BinOp.rem (69 : Nat) (AV.int IntKind.u64 (↑(ui j) : Int)) (AV.int IntKind.u64 (↑o.length : Int)) = some (AV.int IntKind.u64 (↑(md j o.length) : Int)) ∧ aConvert Try.prog (69 : Nat) (3 : Nat) (AV.int IntKind.u64 (↑(md j o.length) : Int)) = some (I (↑(md j o.length) : Int)) ∧ aCall (Sof [c20t.to, c30t.to, c24t.to, c26.to, c27.to, c19t.to]) (AV.fn (Fn.func (20 : Nat)) [] []) [AV.sl (ints o) o.length r] (H.mk [] y []) = some (AV.sl (ints o) o.length (rcl r), H.mk [] y []) ∧ aCall (Sof [c20t.to, c30t.to, c24t.to, c26.to, c27.to, c19t.to]) (AV.fn (Fn.func (19 : Nat)) [] []) [AV.sl (ints o) o.length (rcl r), I (↑(md i o.length) : Int), I (↑(md j o.length) : Int)] (H.mk [] y []) = some (AV.tup [AV.sl (ints (rl o.length (adR (rel o) (md i o.length) (md j o.length)))) (rl o.length (adR (rel o) (md i o.length) (md j o.length))).length Room.full, I 0], H.mk [] y []) ∧ aCall (Sof [c20t.to, c30t.to, c24t.to, c26.to, c27.to, c19t.to]) (AV.fn (Fn.func (20 : Nat)) [] []) [AV.sl (ints o) o.length r] (H.mk [] y []) = some (AV.sl (ints o) o.length (rcl r), H.mk [] y []) ∧ aCall (Sof [c20t.to, c30t.to, c24t.to, c26.to, c27.to, c19t.to]) (AV.fn (Fn.func (19 : Nat)) [] []) [AV.sl (ints o) o.length (rcl r), I (↑(md j o.length) : Int), I (↑(md i o.length) : Int)] (H.mk [] y []) = some (AV.tup [AV.sl (ints (rl o.length (adR (rel o) (md j o.length) (md i o.length)))) (rl o.length (adR (rel o) (md j o.length) (md i o.length))).length Room.full, I 0], H.mk [] y []) ∧ aCall (Sof [c20t.to, c30t.to, c24t.to, c26.to, c27.to, c19t.to]) (AV.fn (Fn.func (30 : Nat)) [] []) [AV.sl (ints (rl o.length (adR (rel o) (md i o.length) (md j o.length)))) (rl o.length (adR (rel o) (md i o.length) (md j o.length))).length Room.full] (H.mk [] y []) = some (AV.tup [I (↑(ctO (rl o.length (adR (rel o) (md i o.length) (md j o.length)))) : Int), I 0], H.mk [] y []) ∧ aCall (Sof [c20t.to, c30t.to, c24t.to, c26.to, c27.to, c19t.to]) (AV.fn (Fn.func (30 : Nat)) [] []) [AV.sl (ints (rl o.length (adR (rel o) (md j o.length) (md i o.length)))) (rl o.length (adR (rel o) (md j o.length) (md i o.length))).length Room.full] (H.mk [] y []) = some (AV.tup [I (↑(ctO (rl o.length (adR (rel o) (md j o.length) (md i o.length)))) : Int), I 0], H.mk [] y []) ∧ aBin Try.prog BinOp.add (3 : Nat) (I (↑(ctO (rl o.length (adR (rel o) (md i o.length) (md j o.length)))) : Int)) (I (↑(ctO (rl o.length (adR (rel o) (md j o.length) (md i o.length)))) : Int)) = some (I (↑(ctO o) : Int)) ∧ (↑(ctO o) : Int) = (↑(ctO o) : Int) ∧ (0 : Int) < (↑(ctO (rl o.length (adR (rel o) (md i o.length) (md j o.length)))) : Int) ∧ (0 : Int) < (↑(ctO (rl o.length (adR (rel o) (md j o.length) (md i o.length)))) : Int) ∧ aCall (Sof [c20t.to, c30t.to, c24t.to, c26.to, c27.to, c19t.to]) (AV.fn (Fn.func (26 : Nat)) [] []) [] (H.mk [] y []) = some (AV.bool true, H.mk [] y []) ∧ (AV.bool true, H.mk [] [] []) = (AV.bool true, H.mk [] [] [])) ∧ True) (by kernel_rfl) ?_
  refine ⟨acall_hit (c := c20t.to) ((o, r) : List Int × Room) _ rfl ⟨pJ_20 h.1, h9⟩, ?_⟩
  refine ⟨by first | exact acall_hit (c := c30t.to) ((o, rcl r) : List Int × Room) _ rfl hq | exact acall_hit (c := c30t.to) ((rl o.length (adR (rel o) (md i o.length) (md j o.length)), .full) : List Int × Room) _ rfl hqa | exact acall_hit (c := c30t.to) ((rl o.length (adR (rel o) (md j o.length) (md i o.length)), .full) : List Int × Room) _ rfl hqb, ?_⟩
  refine ⟨acall_hit (c := c24t.to) ((o, r) : List Int × Room) _ rfl ⟨h.1.1, h.2⟩, ?_⟩
  refine ⟨hl, ?_⟩
  refine And.intro ?_ ?_
  · skip
    intro y
    intro w1
    intro u
    refine ⟨by first | with_reducible assumption | omega | assumption, ?_⟩
    refine ⟨by first | exact told_conv (by kernel_rfl) (by kernel_rfl) (by with_reducible assumption) | exact told_conv (by kernel_rfl) (by kernel_rfl) ev0 | exact told_conv (by kernel_rfl) (by kernel_rfl) ev1 | exact told_conv (by kernel_rfl) (by kernel_rfl) ev2 | exact told_conv (by kernel_rfl) (by kernel_rfl) ev3 | exact told_conv (by kernel_rfl) (by kernel_rfl) ev4 | exact told_conv (by kernel_rfl) (by kernel_rfl) ev5 | exact told_conv (by kernel_rfl) (by kernel_rfl) ev6 | exact told_conv (by kernel_rfl) (by kernel_rfl) ev7 | exact told_conv (by kernel_rfl) (by kernel_rfl) ev8 | exact told_conv (by kernel_rfl) (by kernel_rfl) ev9 | exact told_conv (by kernel_rfl) (by kernel_rfl) ev10 | exact told_conv (by kernel_rfl) (by kernel_rfl) ev11, ?_⟩
    refine ⟨by first | exact told_conv (by kernel_rfl) (by kernel_rfl) (by with_reducible assumption) | exact told_conv (by kernel_rfl) (by kernel_rfl) ev0 | exact told_conv (by kernel_rfl) (by kernel_rfl) ev1 | exact told_conv (by kernel_rfl) (by kernel_rfl) ev2 | exact told_conv (by kernel_rfl) (by kernel_rfl) ev3 | exact told_conv (by kernel_rfl) (by kernel_rfl) ev4 | exact told_conv (by kernel_rfl) (by kernel_rfl) ev5 | exact told_conv (by kernel_rfl) (by kernel_rfl) ev6 | exact told_conv (by kernel_rfl) (by kernel_rfl) ev7 | exact told_conv (by kernel_rfl) (by kernel_rfl) ev8 | exact told_conv (by kernel_rfl) (by kernel_rfl) ev9 | exact told_conv (by kernel_rfl) (by kernel_rfl) ev10 | exact told_conv (by kernel_rfl) (by kernel_rfl) ev11, ?_⟩
    refine ⟨told_rem (by first | decide | omega) (by with_reducible assumption), ?_⟩
    refine ⟨by first | exact told_conv (by kernel_rfl) (by kernel_rfl) (by with_reducible assumption) | exact told_conv (by kernel_rfl) (by kernel_rfl) ev0 | exact told_conv (by kernel_rfl) (by kernel_rfl) ev1 | exact told_conv (by kernel_rfl) (by kernel_rfl) ev2 | exact told_conv (by kernel_rfl) (by kernel_rfl) ev3 | exact told_conv (by kernel_rfl) (by kernel_rfl) ev4 | exact told_conv (by kernel_rfl) (by kernel_rfl) ev5 | exact told_conv (by kernel_rfl) (by kernel_rfl) ev6 | exact told_conv (by kernel_rfl) (by kernel_rfl) ev7 | exact told_conv (by kernel_rfl) (by kernel_rfl) ev8 | exact told_conv (by kernel_rfl) (by kernel_rfl) ev9 | exact told_conv (by kernel_rfl) (by kernel_rfl) ev10 | exact told_conv (by kernel_rfl) (by kernel_rfl) ev11, ?_⟩
    refine ⟨by first | exact told_conv (by kernel_rfl) (by kernel_rfl) (by with_reducible assumption) | exact told_conv (by kernel_rfl) (by kernel_rfl) ev0 | exact told_conv (by kernel_rfl) (by kernel_rfl) ev1 | exact told_conv (by kernel_rfl) (by kernel_rfl) ev2 | exact told_conv (by kernel_rfl) (by kernel_rfl) ev3 | exact told_conv (by kernel_rfl) (by kernel_rfl) ev4 | exact told_conv (by kernel_rfl) (by kernel_rfl) ev5 | exact told_conv (by kernel_rfl) (by kernel_rfl) ev6 | exact told_conv (by kernel_rfl) (by kernel_rfl) ev7 | exact told_conv (by kernel_rfl) (by kernel_rfl) ev8 | exact told_conv (by kernel_rfl) (by kernel_rfl) ev9 | exact told_conv (by kernel_rfl) (by kernel_rfl) ev10 | exact told_conv (by kernel_rfl) (by kernel_rfl) ev11, ?_⟩
    refine ⟨by first | exact told_conv (by kernel_rfl) (by kernel_rfl) (by with_reducible assumption) | exact told_conv (by kernel_rfl) (by kernel_rfl) ev0 | exact told_conv (by kernel_rfl) (by kernel_rfl) ev1 | exact told_conv (by kernel_rfl) (by kernel_rfl) ev2 | exact told_conv (by kernel_rfl) (by kernel_rfl) ev3 | exact told_conv (by kernel_rfl) (by kernel_rfl) ev4 | exact told_conv (by kernel_rfl) (by kernel_rfl) ev5 | exact told_conv (by kernel_rfl) (by kernel_rfl) ev6 | exact told_conv (by kernel_rfl) (by kernel_rfl) ev7 | exact told_conv (by kernel_rfl) (by kernel_rfl) ev8 | exact told_conv (by kernel_rfl) (by kernel_rfl) ev9 | exact told_conv (by kernel_rfl) (by kernel_rfl) ev10 | exact told_conv (by kernel_rfl) (by kernel_rfl) ev11, ?_⟩
    refine ⟨told_rem (by first | decide | omega) (by with_reducible assumption), ?_⟩
    refine ⟨by first | exact told_conv (by kernel_rfl) (by kernel_rfl) (by with_reducible assumption) | exact told_conv (by kernel_rfl) (by kernel_rfl) ev0 | exact told_conv (by kernel_rfl) (by kernel_rfl) ev1 | exact told_conv (by kernel_rfl) (by kernel_rfl) ev2 | exact told_conv (by kernel_rfl) (by kernel_rfl) ev3 | exact told_conv (by kernel_rfl) (by kernel_rfl) ev4 | exact told_conv (by kernel_rfl) (by kernel_rfl) ev5 | exact told_conv (by kernel_rfl) (by kernel_rfl) ev6 | exact told_conv (by kernel_rfl) (by kernel_rfl) ev7 | exact told_conv (by kernel_rfl) (by kernel_rfl) ev8 | exact told_conv (by kernel_rfl) (by kernel_rfl) ev9 | exact told_conv (by kernel_rfl) (by kernel_rfl) ev10 | exact told_conv (by kernel_rfl) (by kernel_rfl) ev11, ?_⟩
    refine ⟨acall_hit (c := c20t.to) ((o, r) : List Int × Room) _ rfl ⟨pJ_20 h.1, h9⟩, ?_⟩
    refine ⟨by first | exact acall_hit (c := c19t.to) ((o, rcl r), md i o.length, md j o.length) _ rfl ⟨hq, hi, hj, hf⟩ | exact acall_hit (c := c19t.to) ((o, rcl r), md j o.length, md i o.length) _ rfl ⟨hq, hj, hi, hf'⟩, ?_⟩
    refine ⟨acall_hit (c := c20t.to) ((o, r) : List Int × Room) _ rfl ⟨pJ_20 h.1, h9⟩, ?_⟩
    refine ⟨by first | exact acall_hit (c := c19t.to) ((o, rcl r), md i o.length, md j o.length) _ rfl ⟨hq, hi, hj, hf⟩ | exact acall_hit (c := c19t.to) ((o, rcl r), md j o.length, md i o.length) _ rfl ⟨hq, hj, hi, hf'⟩, ?_⟩
    refine ⟨by first | exact acall_hit (c := c30t.to) ((o, rcl r) : List Int × Room) _ rfl hq | exact acall_hit (c := c30t.to) ((rl o.length (adR (rel o) (md i o.length) (md j o.length)), .full) : List Int × Room) _ rfl hqa | exact acall_hit (c := c30t.to) ((rl o.length (adR (rel o) (md j o.length) (md i o.length)), .full) : List Int × Room) _ rfl hqb, ?_⟩
    refine ⟨by first | exact acall_hit (c := c30t.to) ((o, rcl r) : List Int × Room) _ rfl hq | exact acall_hit (c := c30t.to) ((rl o.length (adR (rel o) (md i o.length) (md j o.length)), .full) : List Int × Room) _ rfl hqa | exact acall_hit (c := c30t.to) ((rl o.length (adR (rel o) (md j o.length) (md i o.length)), .full) : List Int × Room) _ rfl hqb, ?_⟩
    refine ⟨told_add (by with_reducible assumption), ?_⟩
    refine ⟨by first | with_reducible assumption | omega | assumption, ?_⟩
    refine ⟨by first | with_reducible assumption | omega | assumption, ?_⟩
    refine ⟨by first | with_reducible assumption | omega | assumption, ?_⟩
    refine ⟨acall_hit (c := c26.to) () _ rfl trivial, ?_⟩
    rfl
  · skip
    trivial
theorem ok10 : FokM Try.prog none1 10 Try.f10 := ⟨mixed, by kernel_rfl, by kernel_rfl, by kernel_rfl, by kernel_rfl⟩
theorem counts_ok (o : List Int) (q : RK) (i j : Int) (h1 : o.length ≤ Go.maxLen) (h2 : q.mt = true → o = []) (h3 : inI o) : CallOk Try.prog 10 [ls o (rr q), I i, I j] .nil (.bool true) .nil := by
  have hp : pJ o (rr q) := by
    refine ⟨⟨Nat.le_trans h1 (by decide), fun hl e => ?_, h3⟩, fun e => ?_⟩
    · cases q <;> simp_all [rr, RK.mt]
    · cases q <;> simp_all [rr, RK.mt]
  by_cases ho : OrdL o
  · by_cases hf : Fr (rel o) (md i o.length) (md j o.length)
    · exact (r10t o _ i j ⟨hp, ho⟩ hf).run ok10 (.pure _ (.pure _ (.pure _ (.pure _ (.pure _ (.pure _ .nil)))))) rfl
    · exact (r10s o _ i j ⟨hp, ho⟩ hf).run ok10 (.pure _ (.pure _ (.pure _ (.pure _ (.pure _ (.pure _ .nil)))))) rfl
  · exact (r10f o _ i j hp ho).run ok10 (.pure _ (.pure _ (.pure _ .nil))) rfl
end Go.Proofs.Ord

