/- Layer 4: sets of concepts as lists; both ways to find a key are one. -/
import Derived.Test.YtdnidpojcocklaaDoorLnL
import Derived.Test.YtdnidpojcocklaaDoorLnM
import Derived.KernelRfl
set_option linter.unusedSimpArgs false
set_option linter.unusedVariables false
set_option linter.unnecessarySimpa false
set_option maxHeartbeats 4000000
set_option maxRecDepth 100000
namespace Go.Proofs.Lrn
open Go Go.VM

theorem kf_bit {b : BitVec 32} {s k : Nat} {c : Nat} (hc : c < 32) : ∀ j, j ≤ 5 → ((kf b s k j).getLsbD c = true ↔ b.getLsbD c = true ∧ ∀ x, x < j → s / 2 ^ x % 2 = 1 → c / 2 ^ x % 2 = k / 2 ^ x % 2)
  | 0, _ => by simp [kf]
  | j + 1, hj => by
    have ih := kf_bit (b := b) (s := s) (k := k) hc j (by omega)
    have hk2 : k / 2 ^ j % 2 < 2 := Nat.mod_lt _ (by decide)
    simp only [kf]
    split
    · rename_i hs
      rw [pt_bit (by omega) hc (by omega), Bool.and_eq_true, ih, decide_eq_true_eq]
      constructor
      · rintro ⟨⟨h1, h2⟩, h3⟩
        refine ⟨h1, fun x hx hsx => ?_⟩
        rcases Nat.lt_or_ge x j with h | h
        · exact h2 x h hsx
        · have : x = j := by omega
          subst this; omega
      · rintro ⟨h1, h2⟩
        exact ⟨⟨h1, fun x hx hsx => h2 x (by omega) hsx⟩, by have := h2 j (by omega) hs; omega⟩
    · rename_i hs
      rw [ih]
      constructor
      · rintro ⟨h1, h2⟩
        refine ⟨h1, fun x hx hsx => ?_⟩
        rcases Nat.lt_or_ge x j with h | h
        · exact h2 x h hsx
        · have : x = j := by omega
          subst this; exact absurd hsx hs
      · rintro ⟨h1, h2⟩
        exact ⟨h1, fun x hx hsx => h2 x (by omega) hsx⟩
theorem pc_one {b : BitVec 32} {k : Nat} (hk : k < 32) (hb : b.getLsbD k = true) : pc b = 1 ↔ ∀ i, i < 32 → b.getLsbD i = true → i = k := by
  constructor
  · intro h i hi hbi
    refine Classical.byContradiction fun hne => ?_
    have := cb_lt (f := fun i => decide (i = k)) (g := fun i => b.getLsbD i) 32 (fun j _ hj => by simp at hj; subst hj; exact hb) ⟨i, hi, hbi, by simp [hne]⟩
    rw [cb_one, if_pos hk] at this
    have e : cb (fun i => b.getLsbD i) 32 = 1 := h
    omega
  · intro h
    have : cb (fun i => b.getLsbD i) 32 = cb (fun i => decide (i = k)) 32 := cb_congr 32 (fun i hi => by
      by_cases e : i = k
      · subst e; simp [hb]
      · cases hq : b.getLsbD i
        · simp [e]
        · exact absurd (h i hi hq) e)
    show cb (fun i => b.getLsbD i) 32 = 1
    rw [this, cb_one, if_pos hk]
theorem ai_nat {c s : Nat} (hc : c < 32) (hs : s < 32) : ai (c : Int) (s : Int) = ((c &&& s : Nat) : Int) := by
  have e : (BitVec.ofInt 64 (c : Int) &&& BitVec.ofInt 64 (s : Int)).toNat = c &&& s := by
    have e1 : (BitVec.ofInt 64 (c : Int)).toNat = c := by simp; omega
    have e2 : (BitVec.ofInt 64 (s : Int)).toNat = s := by simp; omega
    rw [BitVec.toNat_and, e1, e2]
  show IntKind.i64.wrap ((BitVec.ofInt 64 (c : Int) &&& BitVec.ofInt 64 (s : Int)).toNat : Int) = _
  rw [e]
  have : c &&& s ≤ c := Nat.and_le_left
  exact wr _ (by omega) (by omega)
theorem bit_hi {c x : Nat} (hc : c < 32) (hx : 5 ≤ x) : c / 2 ^ x % 2 = 0 := by
  have : 2 ^ 5 ≤ 2 ^ x := Nat.pow_le_pow_right (by decide) hx
  rw [Nat.div_eq_of_lt (by omega)]
theorem and_eq {c k s : Nat} (hc : c < 32) (hk : k < 32) : (c &&& s) = (k &&& s) ↔ ∀ x, x < 5 → s / 2 ^ x % 2 = 1 → c / 2 ^ x % 2 = k / 2 ^ x % 2 := by
  constructor
  · intro h x _ hs
    have := congrArg (fun z => z.testBit x) h
    simp only [Nat.testBit_and] at this
    simp only [Nat.testBit_eq_decide_div_mod_eq, hs, decide_true, Bool.and_true] at this
    have h1 : c / 2 ^ x % 2 < 2 := Nat.mod_lt _ (by decide)
    have h2 : k / 2 ^ x % 2 < 2 := Nat.mod_lt _ (by decide)
    have := decide_eq_decide.1 this
    omega
  · intro h
    apply Nat.eq_of_testBit_eq
    intro x
    simp only [Nat.testBit_and]
    simp only [Nat.testBit_eq_decide_div_mod_eq]
    by_cases hs : s / 2 ^ x % 2 = 1
    · by_cases hx : x < 5
      · rw [h x hx hs]
      · rw [bit_hi hc (by omega), bit_hi hk (by omega)]
    · simp [hs]
theorem okA_iff {l : List Int} {k s : Int} : ∀ j, j ≤ l.length → (okA l k s j = true ↔ ∀ i, i < j → okq (l.getD i i0) k s = true)
  | 0, _ => by simp [okA]
  | j + 1, h => by
    simp only [okA, Bool.and_eq_true]
    rw [okA_iff j (by omega)]
    constructor
    · rintro ⟨h1, h2⟩; exact all_succ h1 h2
    · intro h1; exact ⟨fun i hi => h1 i (by omega), h1 j (by omega)⟩
theorem tw_bit {p : Int} (hp : p5 p) {s x : Nat} (hs : (s : Int) < tw p) (hx : p.toNat ≤ x) : s / 2 ^ x % 2 = 0 := by
  have e : tw p = ((2 ^ p.toNat : Nat) : Int) := by
    have : p = 1 ∨ p = 2 ∨ p = 3 ∨ p = 4 ∨ p = 5 := by obtain ⟨_, _⟩ := hp; omega
    rcases this with rfl | rfl | rfl | rfl | rfl <;> rfl
  rw [e] at hs
  have : 2 ^ p.toNat ≤ 2 ^ x := Nat.pow_le_pow_right (by decide) hx
  rw [Nat.div_eq_of_lt (by omega)]
/-- what the program asks of a key is what the reference asks -/
theorem isk_ok {p : Int} {l : List Int} {k : Int} {s : Nat} (hp : p5 p) (hin : ∀ c ∈ l, 0 ≤ c ∧ c < 32) (hk : k ∈ l) (hs : (s : Int) < tw p) : isk p (sOf l) (s : Int) k = okA l k (s : Int) l.length := by
  have ht := tw_bd (p := p)
  obtain ⟨k0, k1⟩ := hin k hk
  obtain ⟨kn, rfl⟩ : ∃ n : Nat, k = n := ⟨k.toNat, by omega⟩
  have hs5 : s < 32 := by omega
  have hp5 : p.toNat ≤ 5 := by obtain ⟨_, _⟩ := hp; omega
  have hkb : (kf (sOf l) s kn p.toNat).getLsbD kn = true := by
    rw [kf_bit (by omega) _ hp5]
    exact ⟨by rw [sOf_bit hin (by omega)]; simpa using hk, fun _ _ _ => rfl⟩
  have hA := okA_iff (l := l) (k := (kn : Int)) (s := (s : Int)) l.length (Nat.le_refl _)
  have key : pc (kf (sOf l) s kn p.toNat) = 1 ↔ okA l (kn : Int) (s : Int) l.length = true := by
    rw [pc_one (by omega) hkb, hA]
    constructor
    · intro h1 i hi
      have hc : l.getD i i0 ∈ l := mem_iff.2 ⟨i, hi, rfl⟩
      obtain ⟨c0, c1⟩ := hin _ hc
      obtain ⟨cn, hcn⟩ : ∃ n : Nat, l.getD i i0 = n := ⟨(l.getD i i0).toNat, by omega⟩
      rw [hcn] at hc c0 c1 ⊢
      rw [okq, decide_eq_true_eq]
      by_cases e : (cn : Int) = kn
      · exact .inl e
      · refine .inr fun ha => e ?_
        rw [ai_nat (by omega) hs5, ai_nat (by omega) hs5] at ha
        have ha : cn &&& s = kn &&& s := by omega
        have h3 := (and_eq (by omega) (by omega)).1 ha
        have := h1 cn (by omega) (by
          rw [kf_bit (by omega) _ hp5]
          exact ⟨by rw [sOf_bit hin (by omega)]; simpa using hc, fun x hx hsx => h3 x (by omega) hsx⟩)
        omega
    · intro h1 c hc hb
      rw [kf_bit hc _ hp5, sOf_bit hin hc, decide_eq_true_eq] at hb
      obtain ⟨hm, h2⟩ := hb
      obtain ⟨i, hi, e⟩ := mem_iff.1 hm
      have := h1 i hi
      rw [e, okq, decide_eq_true_eq] at this
      rcases this with h3 | h3
      · omega
      · exfalso; apply h3
        rw [ai_nat hc hs5, ai_nat (by omega) hs5]
        have : c &&& s = kn &&& s := (and_eq hc (by omega)).2 (fun x hx hsx => by
          rcases Nat.lt_or_ge x p.toNat with h4 | h4
          · exact h2 x h4 hsx
          · have := tw_bit hp hs h4; omega)
        rw [this]
  show decide ((pc (kf (sOf l) (s : Int).toNat ((kn : Int)).toNat p.toNat) : Int) = 1) = _
  simp only [Int.toNat_natCast]
  rw [Bool.eq_iff_iff, decide_eq_true_eq, ← key]
  omega
theorem kyLR {p : Int} {l : List Int} {k : Int} (hp : p5 p) (hin : ∀ c ∈ l, 0 ≤ c ∧ c < 32) (hk : k ∈ l) : ∀ j : Nat, (j : Int) ≤ tw p → kyL p (sOf l) k j = kyR p l k j
  | 0, _ => rfl
  | j + 1, hj => by
    simp only [kyL, kyR]
    rw [kyLR hp hin hk j (by omega), isk_ok hp hin hk (by omega)]
    by_cases h1 : okA l k (j : Int) l.length = true <;> by_cases h2 : pk (j : Int) < pk (kyR p l k j) <;> simp [h1, h2]
theorem pk_all : ((List.range 5).all fun q => (List.range 32).all fun b => decide ((b : Int) < tw ((q : Int) + 1)) == false || decide (pk (b : Int) ≤ pk (tw ((q : Int) + 1) - 1))) = true := by kernel_rfl
theorem pk_top {p : Int} (hp : p5 p) {b : Int} (hb : inC p b) : pk b ≤ pk (tw p - 1) := by
  have ht := tw_bd (p := p)
  obtain ⟨g1, g2⟩ := hp
  obtain ⟨b0, b1⟩ := hb
  obtain ⟨q, rfl⟩ : ∃ q : Nat, p = (q : Int) + 1 := ⟨(p - 1).toNat, by omega⟩
  obtain ⟨n, rfl⟩ : ∃ n : Nat, b = n := ⟨b.toNat, by omega⟩
  have := List.all_eq_true.1 (List.all_eq_true.1 pk_all q (List.mem_range.2 (by omega))) n (List.mem_range.2 (by omega))
  simpa [b1] using this
/-- both keys are one -/
theorem key_eq' {p : Int} {l : List Int} {k : Int} (hp : p5 p) (hin : ∀ c ∈ l, 0 ≤ c ∧ c < 32) (hk : k ∈ l) : kyV p (sOf l) k = kyW p l k := by
  have ht := tw_bd (p := p)
  have e : (tw p).toNat = (tw p - 1).toNat + 1 := by omega
  rw [kyV, kyW, e]
  simp only [kyR]
  rw [kyLR hp hin hk _ (by omega)]
  rw [if_neg]
  rintro ⟨_, h2⟩
  have e2 : (((tw p - 1).toNat : Nat) : Int) = tw p - 1 := by omega
  rw [e2] at h2
  have := pk_top hp (kyR_bd p l k (tw p - 1).toNat (by omega))
  omega
theorem key_eq {p : Int} {l : List Int} {k : Int} (h : cls p l) (hk : k ∈ l) : kyV p (sOf l) k = kyW p l k := key_eq' h.1 (cls_in h) hk
theorem teach_eq {p : Int} {l : List Int} (h : cls p l) : ∀ j, j ≤ l.length → teL p (sOf l) l j = teR p l j
  | 0, _ => rfl
  | j + 1, hj => by
    simp only [teL, teR]
    rw [teach_eq h j (by omega), key_eq h (mem_iff.2 ⟨j, by omega, rfl⟩)]
end Go.Proofs.Lrn
