/- Abstract values, their relation to the model's values, and its laws. -/
import Derived.Laws.AppendOwn
import Derived.Laws.MakeOwn
import Derived.Laws.Small
import Derived.Calls
namespace Go.VM

inductive Room where
  | nil | full | no
  | tok (t z : Nat)
  deriving DecidableEq, Inhabited

inductive AV where
  | bool (b : Bool)
  | int (k : IntKind) (n : Int)
  | str (s : ByteArray)
  | nilP | nilM | nilF | nilI
  | agg (cs : List AV)
  | tup (cs : List AV)
  | ptr (b o : Nat)
  | cptr (cs : List AV)
  | sl (cs : List AV) (n : Nat) (r : Room)
  | msl (b o n cap z : Nat)
  | map (m : Nat)
  | fn (f : Fn) (first cap : List AV)
  | top
  deriving Inhabited

abbrev AV.undef : AV := .tup []

structure Ghost where
  φ : Nat → Option Nat
  fr : Nat → Nat → Option Value
  tk : Nat → Nat → Option (Nat × Nat × Nat)
  mp : Nat → Option Nat
  bases : List (Nat × Nat × Nat)

def RoomOk (G : Ghost) (r : Room) (c o n cap : Nat) : Prop :=
  match r with
  | .nil => False
  | .full => cap = n
  | .no => True
  | .tok t z => o = 0 ∧ G.tk t n = some (c, cap, z)

mutual
def VRel (G : Ghost) : AV → Value → Prop
  | .bool b, v => v = .bool b
  | .int k n, v => v = .int k n
  | .str s, v => v = .string s
  | .nilP, v => v = .pointer none
  | .nilM, v => v = .map none
  | .nilF, v => v = .nilFunc
  | .nilI, v => v = .nilIface
  | .agg cs, v => ∃ vs, v = .agg vs ∧ VRels G cs vs.toList
  | .tup cs, v => ∃ vs, v = .tuple vs ∧ VRels G cs vs.toList
  | .ptr b o, v => ∃ c, G.φ b = some c ∧ v = .pointer (some ⟨c, o, none⟩)
  | .cptr cs, v => ∃ c o vs, v = .pointer (some ⟨c, o, none⟩) ∧ VRels G cs vs ∧ ∀ i u, vs[i]? = some u → G.fr c (o + i) = some u
  | .sl cs n r, v => (r = .nil ∧ cs = [] ∧ n = 0 ∧ v = .slice none 0 0) ∨
      (∃ c o cap vs, v = .slice (some ⟨c, o, none⟩) n cap ∧ n ≤ cap ∧ cap ≤ maxLen ∧ RoomOk G r c o n cap ∧ VRels G cs vs ∧ ∀ i u, vs[i]? = some u → G.fr c (o + i) = some u)
  | .msl b o n cap z, v => ∃ c, G.φ b = some c ∧ v = .slice (some ⟨c, o, none⟩) n cap ∧ n ≤ cap ∧ cap ≤ maxLen
  | .map m, v => ∃ c, G.mp m = some c ∧ v = .map (some c)
  | .fn f first cap, v => ∃ fs cs, v = .func f fs cs ∧ VRels G first fs.toList ∧ VRels G cap cs.toList
  | .top, _ => True
def VRels (G : Ghost) : List AV → List Value → Prop
  | [], vs => vs = []
  | a :: as, vs => ∃ v vs', vs = v :: vs' ∧ VRel G a v ∧ VRels G as vs'
end

structure Ghost.Le (G G' : Ghost) : Prop where
  φ : ∀ b c, G.φ b = some c → G'.φ b = some c
  fr : ∀ c o v, G.fr c o = some v → G'.fr c o = some v
  tk : ∀ t n x, G.tk t n = some x → G'.tk t n = some x
  mp : ∀ m c, G.mp m = some c → G'.mp m = some c

theorem Ghost.Le.refl (G : Ghost) : G.Le G := ⟨fun _ _ h => h, fun _ _ _ h => h, fun _ _ _ h => h, fun _ _ h => h⟩
theorem Ghost.Le.trans {A B C : Ghost} (h : A.Le B) (k : B.Le C) : A.Le C :=
  ⟨fun _ _ x => k.φ _ _ (h.φ _ _ x), fun _ _ _ x => k.fr _ _ _ (h.fr _ _ _ x), fun _ _ _ x => k.tk _ _ _ (h.tk _ _ _ x), fun _ _ x => k.mp _ _ (h.mp _ _ x)⟩

theorem RoomOk.mono {G G' : Ghost} (h : G.Le G') {r : Room} {c o n cap : Nat} (hr : RoomOk G r c o n cap) : RoomOk G' r c o n cap := by
  cases r <;> simp only [RoomOk] at *
  · exact hr
  · exact ⟨hr.1, h.tk _ _ _ hr.2⟩

mutual
theorem VRel.mono {G G' : Ghost} (h : G.Le G') : ∀ (a : AV) (v : Value), VRel G a v → VRel G' a v
  | .bool _, _, hv | .int _ _, _, hv | .str _, _, hv | .nilP, _, hv | .nilM, _, hv | .nilF, _, hv | .nilI, _, hv => by simpa only [VRel] using hv
  | .top, _, _ => by simp only [VRel]
  | .agg cs, v, hv => by
    simp only [VRel] at *
    obtain ⟨vs, e, hs⟩ := hv; exact ⟨vs, e, VRels.mono h cs _ hs⟩
  | .tup cs, v, hv => by
    simp only [VRel] at *
    obtain ⟨vs, e, hs⟩ := hv; exact ⟨vs, e, VRels.mono h cs _ hs⟩
  | .ptr b o, v, hv => by
    simp only [VRel] at *
    obtain ⟨c, e, hs⟩ := hv; exact ⟨c, h.φ _ _ e, hs⟩
  | .cptr cs, v, hv => by
    simp only [VRel] at *
    obtain ⟨c, o, vs, e, hs, hf⟩ := hv; exact ⟨c, o, vs, e, VRels.mono h cs _ hs, fun i u hu => h.fr _ _ _ (hf i u hu)⟩
  | .sl cs n r, v, hv => by
    simp only [VRel] at *
    rcases hv with hv | ⟨c, o, cap, vs, e, h1, h2, h3, hs, hf⟩
    · exact .inl hv
    · exact .inr ⟨c, o, cap, vs, e, h1, h2, h3.mono h, VRels.mono h cs _ hs, fun i u hu => h.fr _ _ _ (hf i u hu)⟩
  | .msl b o n cap z, v, hv => by
    simp only [VRel] at *
    obtain ⟨c, e, hs⟩ := hv; exact ⟨c, h.φ _ _ e, hs⟩
  | .map m, v, hv => by
    simp only [VRel] at *
    obtain ⟨c, e, hs⟩ := hv; exact ⟨c, h.mp _ _ e, hs⟩
  | .fn f a b, v, hv => by
    simp only [VRel] at *
    obtain ⟨fs, cs, e, h1, h2⟩ := hv; exact ⟨fs, cs, e, VRels.mono h a _ h1, VRels.mono h b _ h2⟩
theorem VRels.mono {G G' : Ghost} (h : G.Le G') : ∀ (as : List AV) (vs : List Value), VRels G as vs → VRels G' as vs
  | [], _, hv => by simpa only [VRels] using hv
  | a :: as, vs, hv => by
    simp only [VRels] at *
    obtain ⟨v, vs', e, h1, h2⟩ := hv; exact ⟨v, vs', e, VRel.mono h a v h1, VRels.mono h as vs' h2⟩
end
end Go.VM
