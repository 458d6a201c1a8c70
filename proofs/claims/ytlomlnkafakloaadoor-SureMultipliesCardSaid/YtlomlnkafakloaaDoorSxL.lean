/- Layer 5: joined graphs, and graphs beside each other: what they are, and their codes. -/
import Derived.Test.YtlomlnkafakloaaDoorSxK
import Derived.Test.YtlomlnkafakloaaDoorSuZ
set_option linter.unusedSimpArgs false
set_option linter.unusedVariables false
set_option linter.unnecessarySimpa false
namespace Go.Proofs.Sur
open Go Go.VM
set_option maxHeartbeats 1000000
/-- the most words of one letter -/
def al (g : List Int) : Nat := msV (nrV g) (ful g.length)
theorem nrV_gs {g : List Int} (hg : Gr g) : gsW (nrV g) := by
  have := pwW_gs hg 0 (by have := hg.1.2; simp; omega)
  exact this
theorem al_le {g : List Int} (hg : Gr g) {S : List Nat} (h : Ind (nrV g) (ful g.length) S) : S.length ≤ al g := by
  have hgs := nrV_gs hg
  have := ms_le hgs.1.2.2 (by rw [nrV_len]; exact ful_sub (by have := hg.1.2; omega)) h
  exact this
theorem al_ex {g : List Int} (hg : Gr g) : ∃ S, Ind (nrV g) (ful g.length) S ∧ S.length = al g :=
  ms_get (nrV_gs hg) (by rw [nrV_len]; exact ful_sub (by have := hg.1.2; omega))
theorem ful_mem {n k : Nat} (h : n ≤ 64) : (ful n).getLsbD k = true ↔ k < n := by rw [ful_bit h, decide_eq_true_eq]
theorem jn_joined {g h : List Int} (e : jnE g h = 0) : Gr g ∧ Gr h ∧ Joined g h (jnV g h) ∧ nrV (jnV g h) = prV (nrV g) (nrV h) ∧ g.length * h.length ≤ 6 := by
  obtain ⟨hg, hh, h6, gd, sy⟩ := jn_ok e
  have hv : jnV g h = apV (prV (nrV g) (nrV h)) := if_pos e
  have hl : (prV (nrV g) (nrV h)).length = g.length * h.length := by rw [prV_len, nrV_len, nrV_len]
  have hn : nrV (jnV g h) = prV (nrV g) (nrV h) := by rw [hv]; exact nrV_ap gd (by rw [hl]; exact h6)
  have hn0 : 0 < h.length := hh.1.1
  refine ⟨hg, hh, ⟨by rw [hv]; exact apV_gr gd (by rw [hl]; exact h6) sy, by rw [hv, apV_len, hl], fun u v u' v' hu hv' hu' hv'' => ?_⟩, hn, h6⟩
  have ng := nrV_gd hg
  have nh := nrV_gd hh
  have e1 : (u * h.length + v) / h.length = u := by rw [Nat.mul_comm, Nat.mul_add_div hn0, Nat.div_eq_of_lt hv']; rfl
  have e2 : (u * h.length + v) % h.length = v := by rw [Nat.mul_comm, Nat.mul_add_mod, Nat.mod_eq_of_lt hv']
  have e3 : (u' * h.length + v') / h.length = u' := by rw [Nat.mul_comm, Nat.mul_add_div hn0, Nat.div_eq_of_lt hv'']; rfl
  have e4 : (u' * h.length + v') % h.length = v' := by rw [Nat.mul_comm, Nat.mul_add_mod, Nat.mod_eq_of_lt hv'']
  have s1 := ng.2.1 u (by rw [nrV_len]; exact hu)
  have s2 := nh.2.1 v (by rw [nrV_len]; exact hv')
  rw [nrV_len] at s1 s2
  rw [nr, hn, prV_get (nrV h) nh.1.1 (nrV g) _ (by rw [nrV_len, nrV_len]; exact ix_pair hu hv'), nrV_len, e1, e2, prW_iff (m := g.length) s1 s2 (by omega) (ix_pair hu' hv''), e3, e4]
  rfl
theorem jn_al {g h : List Int} (e : jnE g h = 0) : al g * al h ≤ al (jnV g h) := by
  obtain ⟨hg, hh, hJ, hn, h6⟩ := jn_joined e
  have gg := nrV_gs hg
  have gh := nrV_gs hh
  have gJ := nrV_gs hJ.gJ
  obtain ⟨a1, a2, a3⟩ := frV_ok gg
  obtain ⟨b1, b2, b3⟩ := frV_ok gh
  have c := bo_cd gg.1 gh.1 (by rw [nrV_len, nrV_len]; omega) ⟨a2, a3⟩ ⟨b2, b3⟩
  rw [← hn] at c
  have := cd_le gJ c
  rw [boV_len, (frV_ok gJ).1, a1, b1, nrV_len, nrV_len, nrV_len] at this
  exact this
/-! beside each other -/
theorem su_at1 {g h : List Int} {u : Nat} (hu : u < g.length) : at_ (suV g h) u = at_ g u := by
  simp only [suV, at_, List.getD_eq_getElem?_getD]
  rw [List.getElem?_append_left hu]
theorem su_at2 {g h : List Int} {v : Nat} (hv : v < h.length) : at_ (suV g h) (g.length + v) = at_ h v * ((2 ^ g.length : Nat) : Int) := by
  simp only [suV, at_, List.getD_eq_getElem?_getD]
  rw [List.getElem?_append_right (by omega), show g.length + v - g.length = v from by omega, List.getElem?_map, List.getElem?_eq_getElem hv]
  rfl
theorem bi_sh {x : Int} (h0 : 0 ≤ x) (a k : Nat) : bi (x * ((2 ^ a : Nat) : Int)) k = (decide (a ≤ k) && bi x (k - a)) := by
  obtain ⟨n, rfl⟩ : ∃ n : Nat, x = n := ⟨x.toNat, by omega⟩
  have : ((n : Int) * ((2 ^ a : Nat) : Int)).toNat = n <<< a := by rw [← Int.natCast_mul, Int.toNat_natCast, Nat.shiftLeft_eq]
  simp only [bi]
  rw [this, Nat.testBit_shiftLeft, Int.toNat_natCast]
theorem su_beside {g h : List Int} (hg : Gr g) (hh : Gr h) (h6 : g.length + h.length ≤ 6) : Beside g h (suV g h) := by
  have len := suV_len g h
  have p2 : (2 ^ (g.length + h.length) : Nat) = 2 ^ h.length * 2 ^ g.length := by rw [Nat.pow_add, Nat.mul_comm]
  have pg := Nat.two_pow_pos g.length
  have ph := Nat.two_pow_pos h.length
  have hle : (2 ^ g.length : Nat) ≤ 2 ^ (g.length + h.length) := Nat.pow_le_pow_right (by decide) (by omega)
  have b11 : ∀ u u', u < g.length → bi (at_ (suV g h) u) u' = bi (at_ g u) u' := fun u u' hu => by rw [su_at1 hu]
  have b2 : ∀ v k, v < h.length → bi (at_ (suV g h) (g.length + v)) k = (decide (g.length ≤ k) && bi (at_ h v) (k - g.length)) := fun v k hv => by
    rw [su_at2 hv, bi_sh (hh.2.1 v hv).1]
  have hout : ∀ u k, u < g.length → g.length ≤ k → bi (at_ g u) k = false := fun u k hu hk => by
    cases hq : bi (at_ g u) k
    · rfl
    · have := bi_lt hg.1 hg.2.1 hu hq; omega
  have gJ : Gr (suV g h) := by
    refine ⟨⟨by rw [len]; have := hg.1.1; omega, by rw [len]; exact h6⟩, fun i hi => ?_, fun i hi j hj => ?_⟩
    · rw [len] at hi
      show 0 ≤ at_ (suV g h) i ∧ at_ (suV g h) i < ((2 ^ (suV g h).length : Nat) : Int)
      rw [len]
      by_cases hig : i < g.length
      · rw [su_at1 hig]
        have := hg.2.1 i hig
        have h0 : 0 ≤ at_ g i ∧ at_ g i < ((2 ^ g.length : Nat) : Int) := this
        omega
      · obtain ⟨v, rfl⟩ : ∃ v, i = g.length + v := ⟨i - g.length, by omega⟩
        have hv : v < h.length := by omega
        rw [su_at2 hv]
        have h0 : 0 ≤ at_ h v ∧ at_ h v < ((2 ^ h.length : Nat) : Int) := hh.2.1 v hv
        refine ⟨Int.mul_nonneg h0.1 (by omega), ?_⟩
        rw [p2, Int.natCast_mul]
        exact Int.mul_lt_mul_of_pos_right h0.2 (by omega)
    · rw [len] at hi hj
      show bi (at_ (suV g h) i) j = bi (at_ (suV g h) j) i ∧ (i = j → bi (at_ (suV g h) i) j = false)
      by_cases hig : i < g.length
      · rw [b11 i j hig]
        by_cases hjg : j < g.length
        · rw [b11 j i hjg]; exact hg.2.2 i hig j hjg
        · obtain ⟨v, rfl⟩ : ∃ v, j = g.length + v := ⟨j - g.length, by omega⟩
          have hv : v < h.length := by omega
          rw [b2 v i hv, hout i _ hig (by omega)]
          have : ¬ g.length ≤ i := by omega
          simp [this]
      · obtain ⟨v, rfl⟩ : ∃ v, i = g.length + v := ⟨i - g.length, by omega⟩
        have hv : v < h.length := by omega
        rw [b2 v j hv]
        by_cases hjg : j < g.length
        · rw [b11 j _ hjg, hout j _ hjg (by omega)]
          have : ¬ g.length ≤ j := by omega
          simp [this]
        · obtain ⟨v', rfl⟩ : ∃ v', j = g.length + v' := ⟨j - g.length, by omega⟩
          have hv' : v' < h.length := by omega
          rw [b2 v' _ hv']
          have e1 : g.length + v' - g.length = v' := by omega
          have e2 : g.length + v - g.length = v := by omega
          have q := hh.2.2 v hv v' hv'
          have q : bi (at_ h v) v' = bi (at_ h v') v ∧ (v = v' → bi (at_ h v) v' = false) := q
          rw [e1, e2, q.1]
          have d1 : decide (g.length ≤ g.length + v') = true := by simp
          have d2 : decide (g.length ≤ g.length + v) = true := by simp
          rw [d1, d2]
          exact ⟨rfl, fun h => by rw [Bool.true_and, ← q.1]; exact q.2 (by omega)⟩
  refine ⟨gJ, len, fun u u' hu hu' => ?_, fun v v' hv hv' => ?_, fun u v hu hv => ?_⟩
  · rw [nr_eq gJ (by rw [len]; omega) (by rw [len]; omega), nr_eq hg hu hu', b11 u u' hu]
  · rw [nr_eq gJ (by rw [len]; omega) (by rw [len]; omega), nr_eq hh hv hv', b2 v _ hv]
    have e1 : g.length + v' - g.length = v' := by omega
    have d1 : decide (g.length ≤ g.length + v') = true := by simp
    have d2 : decide (g.length + v' = g.length + v) = decide (v' = v) := by simp
    rw [e1, d1, d2, Bool.true_and]
  · rw [nr_eq gJ (by rw [len]; omega) (by rw [len]; omega), b11 u _ hu, hout u _ hu (by omega)]
    have : ¬ g.length + v = u := by omega
    simp [this]
theorem su_al {g h J : List Int} (hg : Gr g) (hh : Gr h) (hJ : Beside g h J) : al J = al g + al h := by
  have l6 : J.length ≤ 64 := by have := hJ.gJ.1.2; omega
  have g6 : g.length ≤ 64 := by have := hg.1.2; omega
  have h6 : h.length ≤ 64 := by have := hh.1.2; omega
  refine Nat.le_antisymm ?_ ?_
  · obtain ⟨S, hS, hl⟩ := al_ex hJ.gJ
    have hlt : ∀ x, x ∈ S → x < g.length + h.length := fun x hx => by
      have := (ful_mem l6).1 (hS.ins x hx); rw [hJ.len] at this; exact this
    have i1 : Ind (nrV g) (ful g.length) (S.filter fun x => decide (x < g.length)) := by
      refine ⟨hS.nd.filter _, fun x hx => ?_, fun x hx y hy hne => ?_⟩
      · have := (List.mem_filter.1 hx).2
        exact (ful_mem g6).2 (by simpa using this)
      · obtain ⟨x1, x2⟩ := List.mem_filter.1 hx
        obtain ⟨y1, y2⟩ := List.mem_filter.1 hy
        simp only [decide_eq_true_eq] at x2 y2
        have := hS.far x x1 y y1 hne
        have e := hJ.n1 x y x2 y2
        simp only [nr] at e
        rw [← e]; exact this
    have i2 : Ind (nrV h) (ful h.length) ((S.filter fun x => !decide (x < g.length)).map (· - g.length)) := by
      have hm : ∀ x, x ∈ S.filter (fun x => !decide (x < g.length)) → x ∈ S ∧ g.length ≤ x ∧ x - g.length < h.length := fun x hx => by
        obtain ⟨x1, x2⟩ := List.mem_filter.1 hx
        simp only [Bool.not_eq_true', decide_eq_false_iff_not] at x2
        have := hlt x x1
        exact ⟨x1, by omega, by omega⟩
      refine ⟨?_, fun k hk => ?_, fun k hk k' hk' hne => ?_⟩
      · rw [List.Nodup, List.pairwise_map]
        refine (List.Pairwise.and_mem.1 (hS.nd.filter (fun x => !decide (x < g.length)))).imp ?_
        rintro x y ⟨hx, hy, hne⟩ e
        have := hm x hx
        have := hm y hy
        exact hne (by omega)
      · obtain ⟨x, hx, rfl⟩ := List.mem_map.1 hk
        exact (ful_mem h6).2 (hm x hx).2.2
      · obtain ⟨x, hx, rfl⟩ := List.mem_map.1 hk
        obtain ⟨y, hy, rfl⟩ := List.mem_map.1 hk'
        obtain ⟨x1, x2, x3⟩ := hm x hx
        obtain ⟨y1, y2, y3⟩ := hm y hy
        have := hS.far x x1 y y1 (fun e => hne (by rw [e]))
        have e := hJ.n2 _ _ x3 y3
        simp only [nr] at e
        rw [← e, show g.length + (x - g.length) = x from by omega, show g.length + (y - g.length) = y from by omega]; exact this
    have := al_le hg i1
    have := al_le hh i2
    rw [List.length_map] at this
    have := filt_len (fun x => decide (x < g.length)) S
    omega
  · obtain ⟨S, hS, hl⟩ := al_ex hg
    obtain ⟨T, hT, ht⟩ := al_ex hh
    have s1 : ∀ x, x ∈ S → x < g.length := fun x hx => (ful_mem g6).1 (hS.ins x hx)
    have t1 : ∀ x, x ∈ T → x < h.length := fun x hx => (ful_mem h6).1 (hT.ins x hx)
    have hI : Ind (nrV J) (ful J.length) (S ++ T.map (g.length + ·)) := by
      refine ⟨?_, fun k hk => ?_, fun k hk k' hk' hne => ?_⟩
      · rw [List.nodup_append]
        refine ⟨hS.nd, ?_, fun a ha b hb e => ?_⟩
        · rw [List.Nodup, List.pairwise_map]
          exact hT.nd.imp (fun hne e => hne (by omega))
        · obtain ⟨y, hy, rfl⟩ := List.mem_map.1 hb
          have := s1 a ha; omega
      · refine (ful_mem l6).2 ?_
        rw [hJ.len]
        rcases List.mem_append.1 hk with hk | hk
        · have := s1 k hk; omega
        · obtain ⟨y, hy, rfl⟩ := List.mem_map.1 hk
          have := t1 y hy; omega
      · show nr J k k' = false
        rcases List.mem_append.1 hk with hk | hk <;> rcases List.mem_append.1 hk' with hk' | hk'
        · rw [hJ.n1 k k' (s1 k hk) (s1 k' hk')]; exact hS.far k hk k' hk' hne
        · obtain ⟨y, hy, rfl⟩ := List.mem_map.1 hk'
          exact hJ.n3 k y (s1 k hk) (t1 y hy)
        · obtain ⟨y, hy, rfl⟩ := List.mem_map.1 hk
          have hs := (nrV_gs hJ.gJ).2 (g.length + y) k' (by rw [nrV_len, hJ.len]; have := t1 y hy; omega) (by rw [nrV_len, hJ.len]; have := s1 k' hk'; omega)
          have := hJ.n3 k' y (s1 k' hk') (t1 y hy)
          simp only [nr] at this ⊢
          rw [hs]; exact this
        · obtain ⟨y, hy, rfl⟩ := List.mem_map.1 hk
          obtain ⟨y', hy', rfl⟩ := List.mem_map.1 hk'
          rw [hJ.n2 y y' (t1 y hy) (t1 y' hy')]
          exact hT.far y hy y' hy' (fun e => hne (by rw [e]))
    have := al_le hJ.gJ hI
    rw [List.length_append, List.length_map] at this
    omega
end Go.Proofs.Sur

