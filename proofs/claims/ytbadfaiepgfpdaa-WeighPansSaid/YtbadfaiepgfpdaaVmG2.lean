/- Making, slicing, addressing: the rest. -/
import Derived.Test.YtbadfaiepgfpdaaVmG
namespace Go.VM
section
variable {P : Program} {G : Ghost} {h : H} {w : World}

theorem make_ok (s : SRel G h w) {t : TypeId} {l c : Int} {x : AV} {h' : H} (hm : aMake P t l c h = some (x, h')) : RunOk P G h w (Instr.makeSlice t (.int .i64 l) (.int .i64 c)) x h' := by
  unfold aMake at hm
  split at hm
  · rename_i e he
    split at hm
    · rename_i i z hi hz
      obtain ⟨i', v, hi', hv, hrun, hrel⟩ := run_zero (w := w) hz
      rw [hi] at hi'; cases hi'
      split at hm
      · rename_i hc
        obtain ⟨c1, c2, c3, c4, c5, c6⟩ := hc
        simp only [Option.some.injEq, Prod.mk.injEq] at hm
        obtain ⟨rfl, rfl⟩ := hm
        have hvz := hrel G
        have hl := hvz.length
        simp only [Array.length_toList] at hl
        have hzs : v.cells.size = i.size := by omega
        have hmax : (maxLen : Int) = 9223372036854775807 := by simp [maxLen]
        rw [hmax] at c6
        have hwl : IntKind.i64.wrap l = l := by simp only [IntKind.wrap, IntKind.bits, IntKind.signed]; simp; omega
        have hwc : IntKind.i64.wrap c = c := by simp only [IntKind.wrap, IntKind.bits, IntKind.signed]; simp; omega
        have hinit : VRels G (List.replicate c.toNat z).flatten ((Array.range (c.toNat * i.size)).map fun j => v.cells[j % v.cells.size]!).toList := by
          rw [← hzs, rows_eq]; exact rels_flat hvz _
        obtain ⟨G', s', st, hφ⟩ := s.alloc e hinit
        refine ⟨.slice (some ⟨w.heap.size, 0, none⟩) l.toNat c.toNat, _, G', ?_, st, s', ?_⟩
        · have n1 : ¬ c < 0 := by omega
          have n2 : ¬ (281474976710656 < (i.bytes : Int) * c) := by omega
          have n3 : ¬ l < 0 := by omega
          have n4 : ¬ c < l := by omega
          by_cases h0 : c.toNat * i.size = 0
          · have hc0 : c.toNat = 0 := by
              rcases Nat.mul_eq_zero.1 h0 with h | h
              · exact h
              · omega
            have hr0 : Array.range 0 = #[] := rfl
            simp [Instr.makeSlice, run_underlying (elemT_eq he), asInt, asIntOf, run_typeInfo hi, run_sizeOf hi, hwl, hwc, n1, n2, n3, n4, hc0, newRow, hr0]
          · simp [Instr.makeSlice, run_underlying (elemT_eq he), asInt, asIntOf, run_typeInfo hi, run_sizeOf hi, hwl, hwc, n1, n2, n3, n4, h0, hrun, newRow]
        · simp only [VRel]
          exact ⟨_, hφ, rfl, by omega, by unfold maxLen; omega⟩
      · cases hm
    · cases hm
  · cases hm

theorem fieldT_eq {t : TypeId} {f : Nat} {fd : Field} (hf : fieldT P t f = some fd) : ∃ fs, P.underlying t = some (.struct fs) ∧ fs[f]? = some fd := by
  unfold fieldT at hf; split at hf
  · exact ⟨_, by assumption, hf⟩
  · cases hf

theorem cptr_drop {cs : List AV} {v : Value} (hx : VRel G (.cptr cs) v) (n : Nat) : ∃ c o, v = .pointer (some ⟨c, o, none⟩) ∧ VRel G (.cptr (cs.drop n)) (.pointer (some ⟨c, o + n, none⟩)) := by
  simp only [VRel] at hx ⊢
  obtain ⟨c, o, vs, rfl, h1, h2⟩ := hx
  refine ⟨c, o, rfl, c, o + n, vs.drop n, rfl, h1.drop n, fun i u hu => ?_⟩
  rw [List.getElem?_drop] at hu
  have := h2 (n + i) u hu
  rwa [show o + n + i = o + (n + i) from by omega]

theorem fieldAddr_ok {t : TypeId} {f : Nat} {x y : AV} (hf : aFieldAddr P t x f = some y) {v : Value} (hx : VRel G x v) : ∃ u, (Instr.fieldAt t v f).run P w = .ok u w ∧ VRel G y u := by
  unfold aFieldAddr at hf
  split at hf
  · rename_i fd hfd
    obtain ⟨fs, hu, hg⟩ := fieldT_eq hfd
    split at hf
    · rename_i z hz
      split at hf
      · cases hf
      · rename_i hz0
        split at hf
        · rename_i b o
          simp only [Option.some.injEq] at hf; subst hf
          simp only [VRel] at hx
          obtain ⟨c, hc, rfl⟩ := hx
          refine ⟨.pointer (some ⟨c, o + fd.offset, none⟩), ?_, by simp only [VRel]; exact ⟨c, hc, rfl⟩⟩
          simp [Instr.fieldAt, run_underlying hu, hg, Instr.sureAddr, fieldPlace, run_sizeT hz, hz0, addr_add]
        · rename_i cs
          simp only [Option.some.injEq] at hf; subst hf
          obtain ⟨c, o, rfl, hr⟩ := cptr_drop hx fd.offset
          refine ⟨.pointer (some ⟨c, o + fd.offset, none⟩), ?_, hr⟩
          simp [Instr.fieldAt, run_underlying hu, hg, Instr.sureAddr, fieldPlace, run_sizeT hz, hz0, addr_add]
        · cases hf
    · cases hf
  · cases hf

theorem indexAddr_ok {t : TypeId} {x ix y : AV} (hi : aIndexAddr P t x ix = some y) {v vi : Value} (hx : VRel G x v) (hix : VRel G ix vi) : ∃ u, (Instr.indexAt t v vi).run P w = .ok u w ∧ VRel G y u := by
  unfold aIndexAddr at hi
  split at hi
  · rename_i k i
    simp only [VRel] at hix; subst hix
    split at hi
    · rename_i h0
      split at hi
      · rename_i cs n r e hu
        split at hi
        · rename_i z hz
          split at hi
          · rename_i hc
            simp only [Option.some.injEq] at hi; subst hi
            simp only [VRel] at hx
            rcases hx with ⟨rfl, _⟩ | ⟨c, o, cap, vs, rfl, h1, h2, h3, h4, h5⟩
            · exact absurd rfl hc.2
            · refine ⟨.pointer (some ⟨c, o + i.toNat * z, none⟩), ?_, ?_⟩
              · simp [Instr.indexAt, asIntOf, run_underlying hu, h0, hc.1, run_sizeT hz, addr_add]
              · simp only [VRel]
                refine ⟨c, _, vs.drop (i.toNat * z), rfl, h4.drop _, fun j u hu => ?_⟩
                rw [List.getElem?_drop] at hu
                have := h5 _ u hu
                rwa [show o + i.toNat * z + j = o + (i.toNat * z + j) from by omega]
          · cases hi
        · cases hi
      · rename_i b o n cap z0 e hu
        split at hi
        · rename_i z hz
          split at hi
          · rename_i hc
            simp only [Option.some.injEq] at hi; subst hi
            simp only [VRel] at hx
            obtain ⟨c, h1, rfl, _⟩ := hx
            refine ⟨.pointer (some ⟨c, o + i.toNat * z, none⟩), ?_, by simp only [VRel]; exact ⟨c, h1, rfl⟩⟩
            simp [Instr.indexAt, asIntOf, run_underlying hu, h0, hc, run_sizeT hz, addr_add]
          · cases hi
        · cases hi
      · rename_i b o n e hu
        split at hi
        · rename_i z hz
          split at hi
          · rename_i hc
            simp only [Option.some.injEq] at hi; subst hi
            simp only [VRel] at hx
            obtain ⟨c, h1, rfl⟩ := hx
            refine ⟨.pointer (some ⟨c, o + i.toNat * z, none⟩), ?_, by simp only [VRel]; exact ⟨c, h1, rfl⟩⟩
            simp [Instr.indexAt, asIntOf, run_underlying hu, h0, hc, run_sizeT hz, addr_add, Instr.sureAddr]
          · cases hi
        · cases hi
      · rename_i cs n e hu
        split at hi
        · rename_i z hz
          split at hi
          · rename_i hc
            simp only [Option.some.injEq] at hi; subst hi
            obtain ⟨c, o, rfl, hr⟩ := cptr_drop hx (i.toNat * z)
            refine ⟨.pointer (some ⟨c, o + i.toNat * z, none⟩), ?_, hr⟩
            simp [Instr.indexAt, asIntOf, run_underlying hu, h0, hc, run_sizeT hz, addr_add, Instr.sureAddr]
          · cases hi
        · cases hi
      · cases hi
    · cases hi
  · cases hi

theorem aLoad_part {e : TypeId} {cs : List AV} {x : AV} {arr : Array Value} {off : Nat} (hr : VRels G cs (arr.toList.drop off)) (hl : aLoad P e cs = some x) (hoff : off ≤ arr.size) :
    ∃ u, (part e arr off).run P w = .ok u w ∧ VRel G x u := by
  unfold aLoad at hl
  split at hl
  · cases hl
  · rename_i d hd
    have hlen := hr.length
    simp only [List.length_drop, Array.length_toList] at hlen
    split at hl
    · rename_i ha
      split at hl
      · rename_i n hn
        split at hl
        · rename_i hle
          simp only [Option.some.injEq] at hl; subst hl
          refine ⟨_, part_run hd hn arr off (by omega) (by simp [ha]), ?_⟩
          simp only [ha, if_true, VRel]
          refine ⟨_, rfl, ?_⟩
          rw [extract_toList]
          simpa using hr.take n
        · cases hl
      · cases hl
    · rename_i ha
      obtain ⟨u, hu, hrel⟩ := hr.get 0 x hl
      refine ⟨u, ?_, hrel⟩
      simp only [List.getElem?_drop, Nat.add_zero] at hu
      simp only [part, Sem.run_bind, run_isAgg hd, Result.andThen_ok, ha, Bool.false_eq_true, if_false]
      have hu' : arr[off]? = some u := by simpa using hu
      simp [hu']

theorem field_ok {t : TypeId} {f : Nat} {x y : AV} (hf : aField P t x f = some y) {v : Value} (hx : VRel G x v) : ∃ u, (Instr.field t v f).run P w = .ok u w ∧ VRel G y u := by
  unfold aField at hf
  split at hf
  · rename_i fd cs hfd
    obtain ⟨fs, hu, hg⟩ := fieldT_eq hfd
    simp only [VRel] at hx
    obtain ⟨arr, rfl, hr⟩ := hx
    by_cases hoff : fd.offset ≤ arr.size
    · obtain ⟨u, h1, h2⟩ := aLoad_part (w := w) (hr.drop fd.offset) hf hoff
      refine ⟨u, ?_, h2⟩
      simp only [Instr.field, Sem.run_bind, run_underlying hu, Result.andThen_ok, hg, asAgg, Sem.run_pure, h1]
    · have hl := hr.length
      simp only [Array.length_toList] at hl
      have hd : cs.drop fd.offset = [] := List.drop_eq_nil_of_le (by omega)
      rw [hd] at hf
      have he : VRels G ([] : List AV) (((#[] : Array Value)).toList.drop 0) := by simp [VRels]
      unfold aLoad at hf
      split at hf
      · cases hf
      · rename_i d hdd
        split at hf
        · rename_i ha
          split at hf
          · rename_i n hn
            split at hf
            · rename_i hle
              simp only [Option.some.injEq] at hf; subst hf
              simp at hle; subst hle
              refine ⟨.agg #[], ?_, by simp only [VRel]; exact ⟨#[], rfl, by simp [VRels]⟩⟩
              simp only [Instr.field, Sem.run_bind, run_underlying hu, Result.andThen_ok, hg, asAgg, Sem.run_pure, part, run_isAgg hdd, ha, if_true, run_sizeT hn]
              congr 2
              apply Array.ext'
              simp
            · cases hf
          · cases hf
        · simp at hf
  · cases hf

theorem index_ok {t : TypeId} {x ix y : AV} (hi : aIndex P t x ix = some y) {v vi : Value} (hx : VRel G x v) (hix : VRel G ix vi) : ∃ u, (Instr.index t v vi).run P w = .ok u w ∧ VRel G y u := by
  unfold aIndex at hi
  split at hi
  · rename_i k i cs n e hu
    simp only [VRel] at hix hx; subst hix
    obtain ⟨arr, rfl, hr⟩ := hx
    split at hi
    · rename_i z hz
      split at hi
      · rename_i hc
        by_cases hoff : i.toNat * z ≤ arr.size
        · obtain ⟨u, h1, h2⟩ := aLoad_part (w := w) (hr.drop (i.toNat * z)) hi hoff
          refine ⟨u, ?_, h2⟩
          simp [Instr.index, asIntOf, run_underlying hu, hc.1, hc.2, run_sizeT hz, h1]
        · have hl := hr.length
          simp only [Array.length_toList] at hl
          have hd : cs.drop (i.toNat * z) = [] := List.drop_eq_nil_of_le (by omega)
          rw [hd] at hi
          unfold aLoad at hi
          split at hi
          · cases hi
          · split at hi
            · split at hi
              · rename_i n0 hn0
                rw [hz] at hn0; cases hn0
                split at hi
                · rename_i hle
                  simp at hle; subst hle; simp at hoff
                · cases hi
              · cases hi
            · simp at hi
      · cases hi
    · cases hi
  · rename_i k i s hu
    simp only [VRel] at hix hx; subst hix hx
    split at hi
    · rename_i hc
      simp only [Option.some.injEq] at hi; subst hi
      have hlt : i.toNat < s.size := by omega
      refine ⟨.int .u8 (s[i.toNat]!).toNat, ?_, by simp [VRel]⟩
      simp [Instr.index, asIntOf, run_underlying hu, hc.1, hlt]
    · cases hi
  · cases hi
end
end Go.VM
