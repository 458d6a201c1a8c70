/- Layer 4: sets of concepts: what their methods come to. -/
import Derived.Test.YtdnidpojcocklaaDoorVm7
import Derived.Test.YtdnidpojcocklaaDoorProg
import Derived.KernelRfl
set_option linter.unusedSimpArgs false
set_option linter.unusedVariables false
set_option linter.unnecessarySimpa false
set_option maxHeartbeats 4000000
set_option maxRecDepth 100000
namespace Go.Proofs.Lrn
open Go Go.VM

theorem mixed : Tryd.prog.follows .mixedOrders = true := by kernel_rfl
/-- the one package variable that is known here -/
abbrev havs : List Value := [.int .u32 2863311530, .int .u32 3435973836, .int .u32 4042322160, .int .u32 4278255360, .int .u32 4294901760]
instance : Inhabited Globs := ⟨⟨fun g => match g with | 0 => havs | _ => [], fun _ => false⟩⟩
abbrev U (b : BitVec 32) : AV := .int .u32 (b.toNat : Int)
abbrev cA (p : Int) (b : BitVec 32) : AV := .agg [I p, U b]
/-- the concepts with a point -/
def hv (x : Int) : BitVec 32 := if x = 0 then 2863311530#32 else if x = 1 then 3435973836#32 else if x = 2 then 4042322160#32 else if x = 3 then 4278255360#32 else 4294901760#32
def pt (b : BitVec 32) (x y : Int) : BitVec 32 := if y = 1 then b &&& hv x else b &&& ~~~ hv x
def dfb (b : BitVec 32) (x : Int) : Bool := (b &&& hv x != 0#32) && (b &&& hv x != b)
theorem ofInt_nat (b : BitVec 32) : BitVec.ofInt 32 (b.toNat : Int) = b := by simp
theorem wrap_nat (b : BitVec 32) : IntKind.u32.wrap (b.toNat : Int) = (b.toNat : Int) := by
  have := b.isLt
  simp only [IntKind.wrap, IntKind.bits, IntKind.signed]
  simp
  omega
@[simp] theorem u_inj (a b : BitVec 32) : ((a.toNat : Int) = (b.toNat : Int)) ↔ a = b := by
  constructor
  · intro h; exact BitVec.eq_of_toNat_eq (by omega)
  · rintro rfl; rfl
theorem u_eq0 (a : BitVec 32) : ((a.toNat : Int) = 0) ↔ a = 0#32 := by
  have := u_inj a 0#32
  simpa using this
theorem wrap_nat' {n : Nat} (h : n < 4294967296) : IntKind.u32.wrap (n : Int) = (n : Int) := by
  simp only [IntKind.wrap, IntKind.bits, IntKind.signed]
  simp
  omega
theorem u_and2 (a b : BitVec 32) : IntKind.u32.wrap ((BitVec.ofInt IntKind.u32.bits (a.toNat : Int) &&& BitVec.ofInt IntKind.u32.bits (b.toNat : Int)).toNat : Int) = ((a &&& b).toNat : Int) := by
  have e : (BitVec.ofInt IntKind.u32.bits (a.toNat : Int) &&& BitVec.ofInt IntKind.u32.bits (b.toNat : Int)).toNat = (a &&& b).toNat := by
    show (BitVec.ofInt 32 (a.toNat : Int) &&& BitVec.ofInt 32 (b.toNat : Int)).toNat = _
    rw [ofInt_nat, ofInt_nat]
  rw [e, wrap_nat]
theorem u_or2 (a b : BitVec 32) : IntKind.u32.wrap ((BitVec.ofInt IntKind.u32.bits (a.toNat : Int) ||| BitVec.ofInt IntKind.u32.bits (b.toNat : Int)).toNat : Int) = ((a ||| b).toNat : Int) := by
  have e : (BitVec.ofInt IntKind.u32.bits (a.toNat : Int) ||| BitVec.ofInt IntKind.u32.bits (b.toNat : Int)).toNat = (a ||| b).toNat := by
    show (BitVec.ofInt 32 (a.toNat : Int) ||| BitVec.ofInt 32 (b.toNat : Int)).toNat = _
    rw [ofInt_nat, ofInt_nat]
  rw [e, wrap_nat]
theorem u_andn2 (a b : BitVec 32) : IntKind.u32.wrap ((BitVec.ofInt IntKind.u32.bits (a.toNat : Int) &&& ~~~BitVec.ofInt IntKind.u32.bits (b.toNat : Int)).toNat : Int) = ((a &&& ~~~b).toNat : Int) := by
  have e : (BitVec.ofInt IntKind.u32.bits (a.toNat : Int) &&& ~~~BitVec.ofInt IntKind.u32.bits (b.toNat : Int)).toNat = (a &&& ~~~b).toNat := by
    show (BitVec.ofInt 32 (a.toNat : Int) &&& ~~~BitVec.ofInt 32 (b.toNat : Int)).toNat = _
    rw [ofInt_nat, ofInt_nat]
  rw [e, wrap_nat]
theorem hz0 (a : BitVec 32) : IntKind.u32.wrap ((BitVec.ofInt IntKind.u32.bits (a.toNat : Int) &&& BitVec.ofInt IntKind.u32.bits (2863311530 : Int)).toNat : Int) = ((a &&& hv 0).toNat : Int) := u_and2 a (hv 0)
theorem hn0 (a : BitVec 32) : IntKind.u32.wrap ((BitVec.ofInt IntKind.u32.bits (a.toNat : Int) &&& ~~~BitVec.ofInt IntKind.u32.bits (2863311530 : Int)).toNat : Int) = ((a &&& ~~~hv 0).toNat : Int) := u_andn2 a (hv 0)
theorem hz1 (a : BitVec 32) : IntKind.u32.wrap ((BitVec.ofInt IntKind.u32.bits (a.toNat : Int) &&& BitVec.ofInt IntKind.u32.bits (3435973836 : Int)).toNat : Int) = ((a &&& hv 1).toNat : Int) := u_and2 a (hv 1)
theorem hn1 (a : BitVec 32) : IntKind.u32.wrap ((BitVec.ofInt IntKind.u32.bits (a.toNat : Int) &&& ~~~BitVec.ofInt IntKind.u32.bits (3435973836 : Int)).toNat : Int) = ((a &&& ~~~hv 1).toNat : Int) := u_andn2 a (hv 1)
theorem hz2 (a : BitVec 32) : IntKind.u32.wrap ((BitVec.ofInt IntKind.u32.bits (a.toNat : Int) &&& BitVec.ofInt IntKind.u32.bits (4042322160 : Int)).toNat : Int) = ((a &&& hv 2).toNat : Int) := u_and2 a (hv 2)
theorem hn2 (a : BitVec 32) : IntKind.u32.wrap ((BitVec.ofInt IntKind.u32.bits (a.toNat : Int) &&& ~~~BitVec.ofInt IntKind.u32.bits (4042322160 : Int)).toNat : Int) = ((a &&& ~~~hv 2).toNat : Int) := u_andn2 a (hv 2)
theorem hz3 (a : BitVec 32) : IntKind.u32.wrap ((BitVec.ofInt IntKind.u32.bits (a.toNat : Int) &&& BitVec.ofInt IntKind.u32.bits (4278255360 : Int)).toNat : Int) = ((a &&& hv 3).toNat : Int) := u_and2 a (hv 3)
theorem hn3 (a : BitVec 32) : IntKind.u32.wrap ((BitVec.ofInt IntKind.u32.bits (a.toNat : Int) &&& ~~~BitVec.ofInt IntKind.u32.bits (4278255360 : Int)).toNat : Int) = ((a &&& ~~~hv 3).toNat : Int) := u_andn2 a (hv 3)
theorem hz4 (a : BitVec 32) : IntKind.u32.wrap ((BitVec.ofInt IntKind.u32.bits (a.toNat : Int) &&& BitVec.ofInt IntKind.u32.bits (4294901760 : Int)).toNat : Int) = ((a &&& hv 4).toNat : Int) := u_and2 a (hv 4)
theorem hn4 (a : BitVec 32) : IntKind.u32.wrap ((BitVec.ofInt IntKind.u32.bits (a.toNat : Int) &&& ~~~BitVec.ofInt IntKind.u32.bits (4294901760 : Int)).toNat : Int) = ((a &&& ~~~hv 4).toNat : Int) := u_andn2 a (hv 4)

abbrev is5 (x : Int) : Prop := 0 ≤ x ∧ x < 5
theorem ok75 : FokM Tryd.prog none1 75 Tryd.f75 := ⟨mixed, by kernel_rfl, by kernel_rfl, by kernel_rfl, by kernel_rfl⟩
theorem r75 (p : Int) (b : BitVec 32) (x : Int) (y : Int) (hp : is5 x ∧ (y = 0 ∨ y = 1)) : Body ⟨Tryd.prog, Sof (P := Tryd.prog) [], Pof (P := Tryd.prog) [], H.nil.base, 300⟩ none1 Tryd.f75 [cA p b, I x, I y] .nil (cA p (pt b x y), .nil) := by
  obtain ⟨hx, hy⟩ := hp
  have hx' : x = 0 ∨ x = 1 ∨ x = 2 ∨ x = 3 ∨ x = 4 := by omega
  rcases hy with rfl | rfl
  · rcases hx' with rfl | rfl | rfl | rfl | rfl
    · refine body_s ([Ans.o Orc.dflt]) ((AV.agg [I p, AV.int IntKind.u32 (IntKind.u32.wrap (↑(BitVec.ofInt IntKind.u32.bits (↑b.toNat : Int) &&& ~~~BitVec.ofInt IntKind.u32.bits (2863311530 : Int)).toNat : Int))], H.mk [] [] []) = (AV.agg [I p, AV.int IntKind.u32 (↑(pt b (0 : Int) (0 : Int)).toNat : Int)], H.mk [] [] [])) (by kernel_rfl) ?_
      (rw [hn0]; rfl)
    · refine body_s ([Ans.o Orc.dflt]) ((AV.agg [I p, AV.int IntKind.u32 (IntKind.u32.wrap (↑(BitVec.ofInt IntKind.u32.bits (↑b.toNat : Int) &&& ~~~BitVec.ofInt IntKind.u32.bits (3435973836 : Int)).toNat : Int))], H.mk [] [] []) = (AV.agg [I p, AV.int IntKind.u32 (↑(pt b (1 : Int) (0 : Int)).toNat : Int)], H.mk [] [] [])) (by kernel_rfl) ?_
      (rw [hn1]; rfl)
    · refine body_s ([Ans.o Orc.dflt]) ((AV.agg [I p, AV.int IntKind.u32 (IntKind.u32.wrap (↑(BitVec.ofInt IntKind.u32.bits (↑b.toNat : Int) &&& ~~~BitVec.ofInt IntKind.u32.bits (4042322160 : Int)).toNat : Int))], H.mk [] [] []) = (AV.agg [I p, AV.int IntKind.u32 (↑(pt b (2 : Int) (0 : Int)).toNat : Int)], H.mk [] [] [])) (by kernel_rfl) ?_
      (rw [hn2]; rfl)
    · refine body_s ([Ans.o Orc.dflt]) ((AV.agg [I p, AV.int IntKind.u32 (IntKind.u32.wrap (↑(BitVec.ofInt IntKind.u32.bits (↑b.toNat : Int) &&& ~~~BitVec.ofInt IntKind.u32.bits (4278255360 : Int)).toNat : Int))], H.mk [] [] []) = (AV.agg [I p, AV.int IntKind.u32 (↑(pt b (3 : Int) (0 : Int)).toNat : Int)], H.mk [] [] [])) (by kernel_rfl) ?_
      (rw [hn3]; rfl)
    · refine body_s ([Ans.o Orc.dflt]) ((AV.agg [I p, AV.int IntKind.u32 (IntKind.u32.wrap (↑(BitVec.ofInt IntKind.u32.bits (↑b.toNat : Int) &&& ~~~BitVec.ofInt IntKind.u32.bits (4294901760 : Int)).toNat : Int))], H.mk [] [] []) = (AV.agg [I p, AV.int IntKind.u32 (↑(pt b (4 : Int) (0 : Int)).toNat : Int)], H.mk [] [] [])) (by kernel_rfl) ?_
      (rw [hn4]; rfl)
  · rcases hx' with rfl | rfl | rfl | rfl | rfl
    · refine body_s ([Ans.o Orc.dflt]) ((AV.agg [I p, AV.int IntKind.u32 (IntKind.u32.wrap (↑(BitVec.ofInt IntKind.u32.bits (↑b.toNat : Int) &&& BitVec.ofInt IntKind.u32.bits (2863311530 : Int)).toNat : Int))], H.mk [] [] []) = (AV.agg [I p, AV.int IntKind.u32 (↑(pt b (0 : Int) (1 : Int)).toNat : Int)], H.mk [] [] [])) (by kernel_rfl) ?_
      (rw [hz0]; rfl)
    · refine body_s ([Ans.o Orc.dflt]) ((AV.agg [I p, AV.int IntKind.u32 (IntKind.u32.wrap (↑(BitVec.ofInt IntKind.u32.bits (↑b.toNat : Int) &&& BitVec.ofInt IntKind.u32.bits (3435973836 : Int)).toNat : Int))], H.mk [] [] []) = (AV.agg [I p, AV.int IntKind.u32 (↑(pt b (1 : Int) (1 : Int)).toNat : Int)], H.mk [] [] [])) (by kernel_rfl) ?_
      (rw [hz1]; rfl)
    · refine body_s ([Ans.o Orc.dflt]) ((AV.agg [I p, AV.int IntKind.u32 (IntKind.u32.wrap (↑(BitVec.ofInt IntKind.u32.bits (↑b.toNat : Int) &&& BitVec.ofInt IntKind.u32.bits (4042322160 : Int)).toNat : Int))], H.mk [] [] []) = (AV.agg [I p, AV.int IntKind.u32 (↑(pt b (2 : Int) (1 : Int)).toNat : Int)], H.mk [] [] [])) (by kernel_rfl) ?_
      (rw [hz2]; rfl)
    · refine body_s ([Ans.o Orc.dflt]) ((AV.agg [I p, AV.int IntKind.u32 (IntKind.u32.wrap (↑(BitVec.ofInt IntKind.u32.bits (↑b.toNat : Int) &&& BitVec.ofInt IntKind.u32.bits (4278255360 : Int)).toNat : Int))], H.mk [] [] []) = (AV.agg [I p, AV.int IntKind.u32 (↑(pt b (3 : Int) (1 : Int)).toNat : Int)], H.mk [] [] [])) (by kernel_rfl) ?_
      (rw [hz3]; rfl)
    · refine body_s ([Ans.o Orc.dflt]) ((AV.agg [I p, AV.int IntKind.u32 (IntKind.u32.wrap (↑(BitVec.ofInt IntKind.u32.bits (↑b.toNat : Int) &&& BitVec.ofInt IntKind.u32.bits (4294901760 : Int)).toNat : Int))], H.mk [] [] []) = (AV.agg [I p, AV.int IntKind.u32 (↑(pt b (4 : Int) (1 : Int)).toNat : Int)], H.mk [] [] [])) (by kernel_rfl) ?_
      (rw [hz4]; rfl)
noncomputable def c75 : PCtr Tryd.prog := sctr ok75 (X := Int × BitVec 32 × Int × Int) (fun x => [cA x.1 x.2.1, I x.2.2.1, I x.2.2.2]) (fun x => is5 x.2.2.1 ∧ (x.2.2.2 = 0 ∨ x.2.2.2 = 1)) (fun x => cA x.1 (pt x.2.1 x.2.2.1 x.2.2.2)) (by intro x y e _ _; simp at e; simp [e]) (fun x => by simp [AV.bnds, AV.bnd, AV.wk, rm_wk_bnd]) (fun x => by first | rfl | simp [AV.bnd, AV.bnds, Room.bnd, rm_wk_bnd]) (fun x hx => ⟨_, _, _, .nil, r75 (x.1) (x.2.1) (x.2.2.1) (x.2.2.2) hx⟩)
theorem dfb_t {a : BitVec 32} {x : Int} (h : a &&& hv x ≠ 0#32) (k : a &&& hv x ≠ a) : dfb a x = true := by simp [dfb, h, k]
theorem dfb_f {a : BitVec 32} {x : Int} (h : a &&& hv x = 0#32 ∨ a &&& hv x = a) : dfb a x = false := by rcases h with h | h <;> simp [dfb, h]
theorem ok77 : FokM Tryd.prog none1 77 Tryd.f77 := ⟨mixed, by kernel_rfl, by kernel_rfl, by kernel_rfl, by kernel_rfl⟩
theorem r77 (p : Int) (b : BitVec 32) (x : Int) (hp : is5 x) : Body ⟨Tryd.prog, Sof (P := Tryd.prog) [], Pof (P := Tryd.prog) [], H.nil.base, 300⟩ none1 Tryd.f77 [cA p b, I x] .nil (.bool (dfb b x), .nil) := by
  have hx' : x = 0 ∨ x = 1 ∨ x = 2 ∨ x = 3 ∨ x = 4 := by omega
  rcases hx' with rfl | rfl | rfl | rfl | rfl
  · refine body_s ([Ans.fork [Ans.fork [] []] []]) ((IntKind.u32.wrap (↑(BitVec.ofInt IntKind.u32.bits (↑b.toNat : Int) &&& BitVec.ofInt IntKind.u32.bits (2863311530 : Int)).toNat : Int) ≠ (0 : Int) → (IntKind.u32.wrap (↑(BitVec.ofInt IntKind.u32.bits (↑b.toNat : Int) &&& BitVec.ofInt IntKind.u32.bits (2863311530 : Int)).toNat : Int) ≠ (↑b.toNat : Int) → (AV.bool true, H.mk [] [] []) = (AV.bool (dfb b (0 : Int)), H.mk [] [] [])) ∧ (IntKind.u32.wrap (↑(BitVec.ofInt IntKind.u32.bits (↑b.toNat : Int) &&& BitVec.ofInt IntKind.u32.bits (2863311530 : Int)).toNat : Int) = (↑b.toNat : Int) → (AV.bool false, H.mk [] [] []) = (AV.bool (dfb b (0 : Int)), H.mk [] [] []))) ∧ (IntKind.u32.wrap (↑(BitVec.ofInt IntKind.u32.bits (↑b.toNat : Int) &&& BitVec.ofInt IntKind.u32.bits (2863311530 : Int)).toNat : Int) = (0 : Int) → (AV.bool false, H.mk [] [] []) = (AV.bool (dfb b (0 : Int)), H.mk [] [] []))) (by kernel_rfl) ?_
    refine And.intro ?_ ?_
    · skip
      intro w0
      refine And.intro ?_ ?_
      · skip
        intro w1
        (simp only [hz0, u_inj, u_eq0, ne_eq] at *; first | rw [dfb_t (by assumption) (by assumption)] | rw [dfb_f (.inl (by assumption))] | rw [dfb_f (.inr (by assumption))])
      · skip
        intro w1
        (simp only [hz0, u_inj, u_eq0, ne_eq] at *; first | rw [dfb_t (by assumption) (by assumption)] | rw [dfb_f (.inl (by assumption))] | rw [dfb_f (.inr (by assumption))])
    · skip
      intro w0
      (simp only [hz0, u_inj, u_eq0, ne_eq] at *; first | rw [dfb_t (by assumption) (by assumption)] | rw [dfb_f (.inl (by assumption))] | rw [dfb_f (.inr (by assumption))])
  · refine body_s ([Ans.fork [Ans.fork [] []] []]) ((IntKind.u32.wrap (↑(BitVec.ofInt IntKind.u32.bits (↑b.toNat : Int) &&& BitVec.ofInt IntKind.u32.bits (3435973836 : Int)).toNat : Int) ≠ (0 : Int) → (IntKind.u32.wrap (↑(BitVec.ofInt IntKind.u32.bits (↑b.toNat : Int) &&& BitVec.ofInt IntKind.u32.bits (3435973836 : Int)).toNat : Int) ≠ (↑b.toNat : Int) → (AV.bool true, H.mk [] [] []) = (AV.bool (dfb b (1 : Int)), H.mk [] [] [])) ∧ (IntKind.u32.wrap (↑(BitVec.ofInt IntKind.u32.bits (↑b.toNat : Int) &&& BitVec.ofInt IntKind.u32.bits (3435973836 : Int)).toNat : Int) = (↑b.toNat : Int) → (AV.bool false, H.mk [] [] []) = (AV.bool (dfb b (1 : Int)), H.mk [] [] []))) ∧ (IntKind.u32.wrap (↑(BitVec.ofInt IntKind.u32.bits (↑b.toNat : Int) &&& BitVec.ofInt IntKind.u32.bits (3435973836 : Int)).toNat : Int) = (0 : Int) → (AV.bool false, H.mk [] [] []) = (AV.bool (dfb b (1 : Int)), H.mk [] [] []))) (by kernel_rfl) ?_
    refine And.intro ?_ ?_
    · skip
      intro w0
      refine And.intro ?_ ?_
      · skip
        intro w1
        (simp only [hz1, u_inj, u_eq0, ne_eq] at *; first | rw [dfb_t (by assumption) (by assumption)] | rw [dfb_f (.inl (by assumption))] | rw [dfb_f (.inr (by assumption))])
      · skip
        intro w1
        (simp only [hz1, u_inj, u_eq0, ne_eq] at *; first | rw [dfb_t (by assumption) (by assumption)] | rw [dfb_f (.inl (by assumption))] | rw [dfb_f (.inr (by assumption))])
    · skip
      intro w0
      (simp only [hz1, u_inj, u_eq0, ne_eq] at *; first | rw [dfb_t (by assumption) (by assumption)] | rw [dfb_f (.inl (by assumption))] | rw [dfb_f (.inr (by assumption))])
  · refine body_s ([Ans.fork [Ans.fork [] []] []]) ((IntKind.u32.wrap (↑(BitVec.ofInt IntKind.u32.bits (↑b.toNat : Int) &&& BitVec.ofInt IntKind.u32.bits (4042322160 : Int)).toNat : Int) ≠ (0 : Int) → (IntKind.u32.wrap (↑(BitVec.ofInt IntKind.u32.bits (↑b.toNat : Int) &&& BitVec.ofInt IntKind.u32.bits (4042322160 : Int)).toNat : Int) ≠ (↑b.toNat : Int) → (AV.bool true, H.mk [] [] []) = (AV.bool (dfb b (2 : Int)), H.mk [] [] [])) ∧ (IntKind.u32.wrap (↑(BitVec.ofInt IntKind.u32.bits (↑b.toNat : Int) &&& BitVec.ofInt IntKind.u32.bits (4042322160 : Int)).toNat : Int) = (↑b.toNat : Int) → (AV.bool false, H.mk [] [] []) = (AV.bool (dfb b (2 : Int)), H.mk [] [] []))) ∧ (IntKind.u32.wrap (↑(BitVec.ofInt IntKind.u32.bits (↑b.toNat : Int) &&& BitVec.ofInt IntKind.u32.bits (4042322160 : Int)).toNat : Int) = (0 : Int) → (AV.bool false, H.mk [] [] []) = (AV.bool (dfb b (2 : Int)), H.mk [] [] []))) (by kernel_rfl) ?_
    refine And.intro ?_ ?_
    · skip
      intro w0
      refine And.intro ?_ ?_
      · skip
        intro w1
        (simp only [hz2, u_inj, u_eq0, ne_eq] at *; first | rw [dfb_t (by assumption) (by assumption)] | rw [dfb_f (.inl (by assumption))] | rw [dfb_f (.inr (by assumption))])
      · skip
        intro w1
        (simp only [hz2, u_inj, u_eq0, ne_eq] at *; first | rw [dfb_t (by assumption) (by assumption)] | rw [dfb_f (.inl (by assumption))] | rw [dfb_f (.inr (by assumption))])
    · skip
      intro w0
      (simp only [hz2, u_inj, u_eq0, ne_eq] at *; first | rw [dfb_t (by assumption) (by assumption)] | rw [dfb_f (.inl (by assumption))] | rw [dfb_f (.inr (by assumption))])
  · refine body_s ([Ans.fork [Ans.fork [] []] []]) ((IntKind.u32.wrap (↑(BitVec.ofInt IntKind.u32.bits (↑b.toNat : Int) &&& BitVec.ofInt IntKind.u32.bits (4278255360 : Int)).toNat : Int) ≠ (0 : Int) → (IntKind.u32.wrap (↑(BitVec.ofInt IntKind.u32.bits (↑b.toNat : Int) &&& BitVec.ofInt IntKind.u32.bits (4278255360 : Int)).toNat : Int) ≠ (↑b.toNat : Int) → (AV.bool true, H.mk [] [] []) = (AV.bool (dfb b (3 : Int)), H.mk [] [] [])) ∧ (IntKind.u32.wrap (↑(BitVec.ofInt IntKind.u32.bits (↑b.toNat : Int) &&& BitVec.ofInt IntKind.u32.bits (4278255360 : Int)).toNat : Int) = (↑b.toNat : Int) → (AV.bool false, H.mk [] [] []) = (AV.bool (dfb b (3 : Int)), H.mk [] [] []))) ∧ (IntKind.u32.wrap (↑(BitVec.ofInt IntKind.u32.bits (↑b.toNat : Int) &&& BitVec.ofInt IntKind.u32.bits (4278255360 : Int)).toNat : Int) = (0 : Int) → (AV.bool false, H.mk [] [] []) = (AV.bool (dfb b (3 : Int)), H.mk [] [] []))) (by kernel_rfl) ?_
    refine And.intro ?_ ?_
    · skip
      intro w0
      refine And.intro ?_ ?_
      · skip
        intro w1
        (simp only [hz3, u_inj, u_eq0, ne_eq] at *; first | rw [dfb_t (by assumption) (by assumption)] | rw [dfb_f (.inl (by assumption))] | rw [dfb_f (.inr (by assumption))])
      · skip
        intro w1
        (simp only [hz3, u_inj, u_eq0, ne_eq] at *; first | rw [dfb_t (by assumption) (by assumption)] | rw [dfb_f (.inl (by assumption))] | rw [dfb_f (.inr (by assumption))])
    · skip
      intro w0
      (simp only [hz3, u_inj, u_eq0, ne_eq] at *; first | rw [dfb_t (by assumption) (by assumption)] | rw [dfb_f (.inl (by assumption))] | rw [dfb_f (.inr (by assumption))])
  · refine body_s ([Ans.fork [Ans.fork [] []] []]) ((IntKind.u32.wrap (↑(BitVec.ofInt IntKind.u32.bits (↑b.toNat : Int) &&& BitVec.ofInt IntKind.u32.bits (4294901760 : Int)).toNat : Int) ≠ (0 : Int) → (IntKind.u32.wrap (↑(BitVec.ofInt IntKind.u32.bits (↑b.toNat : Int) &&& BitVec.ofInt IntKind.u32.bits (4294901760 : Int)).toNat : Int) ≠ (↑b.toNat : Int) → (AV.bool true, H.mk [] [] []) = (AV.bool (dfb b (4 : Int)), H.mk [] [] [])) ∧ (IntKind.u32.wrap (↑(BitVec.ofInt IntKind.u32.bits (↑b.toNat : Int) &&& BitVec.ofInt IntKind.u32.bits (4294901760 : Int)).toNat : Int) = (↑b.toNat : Int) → (AV.bool false, H.mk [] [] []) = (AV.bool (dfb b (4 : Int)), H.mk [] [] []))) ∧ (IntKind.u32.wrap (↑(BitVec.ofInt IntKind.u32.bits (↑b.toNat : Int) &&& BitVec.ofInt IntKind.u32.bits (4294901760 : Int)).toNat : Int) = (0 : Int) → (AV.bool false, H.mk [] [] []) = (AV.bool (dfb b (4 : Int)), H.mk [] [] []))) (by kernel_rfl) ?_
    refine And.intro ?_ ?_
    · skip
      intro w0
      refine And.intro ?_ ?_
      · skip
        intro w1
        (simp only [hz4, u_inj, u_eq0, ne_eq] at *; first | rw [dfb_t (by assumption) (by assumption)] | rw [dfb_f (.inl (by assumption))] | rw [dfb_f (.inr (by assumption))])
      · skip
        intro w1
        (simp only [hz4, u_inj, u_eq0, ne_eq] at *; first | rw [dfb_t (by assumption) (by assumption)] | rw [dfb_f (.inl (by assumption))] | rw [dfb_f (.inr (by assumption))])
    · skip
      intro w0
      (simp only [hz4, u_inj, u_eq0, ne_eq] at *; first | rw [dfb_t (by assumption) (by assumption)] | rw [dfb_f (.inl (by assumption))] | rw [dfb_f (.inr (by assumption))])
noncomputable def c77 : PCtr Tryd.prog := sctr ok77 (X := Int × BitVec 32 × Int) (fun x => [cA x.1 x.2.1, I x.2.2]) (fun x => is5 x.2.2) (fun x => .bool (dfb x.2.1 x.2.2)) (by intro x y e _ _; simp at e; simp [e]) (fun x => by simp [AV.bnds, AV.bnd, AV.wk, rm_wk_bnd]) (fun x => by first | rfl | simp [AV.bnd, AV.bnds, Room.bnd, rm_wk_bnd]) (fun x hx => ⟨_, _, _, .nil, r77 (x.1) (x.2.1) (x.2.2) hx⟩)
theorem ok74 : FokM Tryd.prog none1 74 Tryd.f74 := ⟨mixed, by kernel_rfl, by kernel_rfl, by kernel_rfl, by kernel_rfl⟩
theorem r74 (p : Int) (b : BitVec 32) (x : Int) (hp : True) : Body ⟨Tryd.prog, Sof (P := Tryd.prog) [], Pof (P := Tryd.prog) [], H.nil.base, 300⟩ none1 Tryd.f74 [cA p b, I x] .nil (.bool (decide (0 ≤ x ∧ x < p)), .nil) := by
  refine body_s ([Ans.fork [Ans.fork [] []] []]) (((0 : Int) ≤ x → (x < p → (AV.bool true, H.mk [] [] []) = (AV.bool (decide ((0 : Int) ≤ x ∧ x < p)), H.mk [] [] [])) ∧ (p ≤ x → (AV.bool false, H.mk [] [] []) = (AV.bool (decide ((0 : Int) ≤ x ∧ x < p)), H.mk [] [] []))) ∧ (x < (0 : Int) → (AV.bool false, H.mk [] [] []) = (AV.bool (decide ((0 : Int) ≤ x ∧ x < p)), H.mk [] [] []))) (by kernel_rfl) ?_
  refine And.intro ?_ ?_
  · skip
    intro w0
    refine And.intro ?_ ?_
    · skip
      intro w1
      first | with_reducible rfl | (refine bleaf_t ?_; first | omega | (simp only [small, tiny, rng, decide_eq_true_eq, decide_eq_false_iff_not, true_or, or_true, true_and, and_true, Int.reduceEq, Int.reduceNeg, eq_self, reduceIte, if_true, if_false] at *; omega)) | (refine bleaf_f ?_; first | omega | (simp only [small, tiny, rng, decide_eq_true_eq, decide_eq_false_iff_not, true_or, or_true, true_and, and_true, Int.reduceEq, Int.reduceNeg, eq_self, reduceIte, if_true, if_false] at *; omega)) | (refine ileaf ?_; first | omega | (simp only [small, tiny, rng, decide_eq_true_eq, decide_eq_false_iff_not, true_or, or_true, true_and, and_true, Int.reduceEq, Int.reduceNeg, eq_self, reduceIte, if_true, if_false] at *; omega)) | (exfalso; omega) | (simp only [Prod.mk.injEq, AV.agg.injEq, AV.tup.injEq, List.cons.injEq, AV.int.injEq, AV.bool.injEq, and_true, true_and]; (repeat' apply And.intro) <;> first | with_reducible rfl | (simp []; done) | (simp []; omega) | omega | (simp only [small, tiny, rng, decide_eq_true_eq, decide_eq_false_iff_not, true_or, or_true, true_and, and_true, Int.reduceEq, Int.reduceNeg, eq_self, reduceIte, if_true, if_false] at *; omega) | (simp [small, tiny, rng, decide_eq_true_eq, decide_eq_false_iff_not, true_or, or_true, true_and, and_true, Int.reduceEq, Int.reduceNeg, eq_self, reduceIte, if_true, if_false, *]; done) | (simp [small, tiny, rng, decide_eq_true_eq, decide_eq_false_iff_not, true_or, or_true, true_and, and_true, Int.reduceEq, Int.reduceNeg, eq_self, reduceIte, if_true, if_false, *]; omega)) | (exfalso; simp only [small, tiny, rng, decide_eq_true_eq, decide_eq_false_iff_not, true_or, or_true, true_and, and_true, Int.reduceEq, Int.reduceNeg, eq_self, reduceIte, if_true, if_false] at *; omega) | (simp [small, tiny, rng, decide_eq_true_eq, decide_eq_false_iff_not, true_or, or_true, true_and, and_true, Int.reduceEq, Int.reduceNeg, eq_self, reduceIte, if_true, if_false] at *; done) | (simp [small, tiny, rng, decide_eq_true_eq, decide_eq_false_iff_not, true_or, or_true, true_and, and_true, Int.reduceEq, Int.reduceNeg, eq_self, reduceIte, if_true, if_false] at *; omega)
    · skip
      intro w1
      first | with_reducible rfl | (refine bleaf_t ?_; first | omega | (simp only [small, tiny, rng, decide_eq_true_eq, decide_eq_false_iff_not, true_or, or_true, true_and, and_true, Int.reduceEq, Int.reduceNeg, eq_self, reduceIte, if_true, if_false] at *; omega)) | (refine bleaf_f ?_; first | omega | (simp only [small, tiny, rng, decide_eq_true_eq, decide_eq_false_iff_not, true_or, or_true, true_and, and_true, Int.reduceEq, Int.reduceNeg, eq_self, reduceIte, if_true, if_false] at *; omega)) | (refine ileaf ?_; first | omega | (simp only [small, tiny, rng, decide_eq_true_eq, decide_eq_false_iff_not, true_or, or_true, true_and, and_true, Int.reduceEq, Int.reduceNeg, eq_self, reduceIte, if_true, if_false] at *; omega)) | (exfalso; omega) | (simp only [Prod.mk.injEq, AV.agg.injEq, AV.tup.injEq, List.cons.injEq, AV.int.injEq, AV.bool.injEq, and_true, true_and]; (repeat' apply And.intro) <;> first | with_reducible rfl | (simp []; done) | (simp []; omega) | omega | (simp only [small, tiny, rng, decide_eq_true_eq, decide_eq_false_iff_not, true_or, or_true, true_and, and_true, Int.reduceEq, Int.reduceNeg, eq_self, reduceIte, if_true, if_false] at *; omega) | (simp [small, tiny, rng, decide_eq_true_eq, decide_eq_false_iff_not, true_or, or_true, true_and, and_true, Int.reduceEq, Int.reduceNeg, eq_self, reduceIte, if_true, if_false, *]; done) | (simp [small, tiny, rng, decide_eq_true_eq, decide_eq_false_iff_not, true_or, or_true, true_and, and_true, Int.reduceEq, Int.reduceNeg, eq_self, reduceIte, if_true, if_false, *]; omega)) | (exfalso; simp only [small, tiny, rng, decide_eq_true_eq, decide_eq_false_iff_not, true_or, or_true, true_and, and_true, Int.reduceEq, Int.reduceNeg, eq_self, reduceIte, if_true, if_false] at *; omega) | (simp [small, tiny, rng, decide_eq_true_eq, decide_eq_false_iff_not, true_or, or_true, true_and, and_true, Int.reduceEq, Int.reduceNeg, eq_self, reduceIte, if_true, if_false] at *; done) | (simp [small, tiny, rng, decide_eq_true_eq, decide_eq_false_iff_not, true_or, or_true, true_and, and_true, Int.reduceEq, Int.reduceNeg, eq_self, reduceIte, if_true, if_false] at *; omega)
  · skip
    intro w0
    first | with_reducible rfl | (refine bleaf_t ?_; first | omega | (simp only [small, tiny, rng, decide_eq_true_eq, decide_eq_false_iff_not, true_or, or_true, true_and, and_true, Int.reduceEq, Int.reduceNeg, eq_self, reduceIte, if_true, if_false] at *; omega)) | (refine bleaf_f ?_; first | omega | (simp only [small, tiny, rng, decide_eq_true_eq, decide_eq_false_iff_not, true_or, or_true, true_and, and_true, Int.reduceEq, Int.reduceNeg, eq_self, reduceIte, if_true, if_false] at *; omega)) | (refine ileaf ?_; first | omega | (simp only [small, tiny, rng, decide_eq_true_eq, decide_eq_false_iff_not, true_or, or_true, true_and, and_true, Int.reduceEq, Int.reduceNeg, eq_self, reduceIte, if_true, if_false] at *; omega)) | (exfalso; omega) | (simp only [Prod.mk.injEq, AV.agg.injEq, AV.tup.injEq, List.cons.injEq, AV.int.injEq, AV.bool.injEq, and_true, true_and]; (repeat' apply And.intro) <;> first | with_reducible rfl | (simp []; done) | (simp []; omega) | omega | (simp only [small, tiny, rng, decide_eq_true_eq, decide_eq_false_iff_not, true_or, or_true, true_and, and_true, Int.reduceEq, Int.reduceNeg, eq_self, reduceIte, if_true, if_false] at *; omega) | (simp [small, tiny, rng, decide_eq_true_eq, decide_eq_false_iff_not, true_or, or_true, true_and, and_true, Int.reduceEq, Int.reduceNeg, eq_self, reduceIte, if_true, if_false, *]; done) | (simp [small, tiny, rng, decide_eq_true_eq, decide_eq_false_iff_not, true_or, or_true, true_and, and_true, Int.reduceEq, Int.reduceNeg, eq_self, reduceIte, if_true, if_false, *]; omega)) | (exfalso; simp only [small, tiny, rng, decide_eq_true_eq, decide_eq_false_iff_not, true_or, or_true, true_and, and_true, Int.reduceEq, Int.reduceNeg, eq_self, reduceIte, if_true, if_false] at *; omega) | (simp [small, tiny, rng, decide_eq_true_eq, decide_eq_false_iff_not, true_or, or_true, true_and, and_true, Int.reduceEq, Int.reduceNeg, eq_self, reduceIte, if_true, if_false] at *; done) | (simp [small, tiny, rng, decide_eq_true_eq, decide_eq_false_iff_not, true_or, or_true, true_and, and_true, Int.reduceEq, Int.reduceNeg, eq_self, reduceIte, if_true, if_false] at *; omega)
noncomputable def c74 : PCtr Tryd.prog := sctr ok74 (X := Int × BitVec 32 × Int) (fun x => [cA x.1 x.2.1, I x.2.2]) (fun x => True) (fun x => .bool (decide (0 ≤ x.2.2 ∧ x.2.2 < x.1))) (by intro x y e _ _; simp at e; simp [e]) (fun x => by simp [AV.bnds, AV.bnd, AV.wk, rm_wk_bnd]) (fun x => by first | rfl | simp [AV.bnd, AV.bnds, Room.bnd, rm_wk_bnd]) (fun x hx => ⟨_, _, _, .nil, r74 (x.1) (x.2.1) (x.2.2) hx⟩)
end Go.Proofs.Lrn

