/- The abstract operations. -/
import Derived.Test.YtbadfaiepgfpdaaVmC
namespace Go.VM

def ofConst1 : Value → AV
  | .bool b => .bool b
  | .int k n => .int k n
  | .string s => .str s
  | .pointer none => .nilP
  | .map none => .nilM
  | .nilFunc => .nilF
  | .nilIface => .nilI
  | .slice none 0 0 => .sl [] 0 .nil
  | _ => .top
def ofConst : Value → AV
  | .agg cs => .agg (cs.toList.map ofConst1)
  | .tuple ⟨[]⟩ => .tup []
  | v => ofConst1 v

def aev (A : List AV) : Operand → AV
  | .tmp t => A.getD t .undef
  | .const v => ofConst v
  | .global _ => .top
  | .func f => .fn (.func f) [] []

def AV.cells? : AV → Option (List AV)
  | .top | .tup _ => none
  | .agg cs => some cs
  | a => some [a]

def isAggT (P : Program) (t : TypeId) : Bool :=
  match P.underlying t with
  | some (.struct _) | some (.array _ _) => true
  | _ => false
def sizeT (P : Program) (t : TypeId) : Option Nat := (P.info? t).map (·.size)

/-- what a variable of type t reads as, its cells standing at the head of the list -/
def aLoad (P : Program) (t : TypeId) (cs : List AV) : Option AV :=
  match P.underlying t with
  | none => none
  | some _ =>
    if isAggT P t then
      match sizeT P t with
      | some n => if n ≤ cs.length then some (.agg (cs.take n)) else none
      | none => none
    else cs[0]?

def H.target (h : H) : AV → Option (List AV)
  | .ptr b o => (h.blk[b]?).map (·.drop o)
  | .cptr cs => some cs
  | _ => none

structure Base where
  nb : Nat
  nt : Nat
  nm : Nat

def Base.tri (β : Base) : Nat × Nat × Nat := (β.nb, β.nt, β.nm)

def putAt (old : List AV) (o : Nat) (cs : List AV) : List AV := old.take o ++ cs ++ old.drop (o + cs.length)

def aStore (P : Program) (β : Base) (t : TypeId) (p v : AV) (h : H) : Option H :=
  match p, v.cells?, sizeT P t with
  | .ptr b o, some cs, some n =>
    match h.blk[b]? with
    | some old =>
      if cs.length = n && decide (o + cs.length ≤ old.length) && cs.all AV.one && (decide (β.nb ≤ b) || AV.bnds 0 0 0 cs) then some { h with blk := h.blk.set b (putAt old o cs) } else none
    | none => none
  | _, _, _ => none

/-- the plain cells that a comparable type consists of -/
inductive Kd where
  | bool | int | str
  deriving DecidableEq
def flatStep (P : Program) (fl : TypeId → Option (List Kd)) (acc : Option (List Kd)) (f : Field) : Option (List Kd) :=
  match acc, fl f.type with
  | some l, some m => if f.name ≠ "_" ∧ f.offset = l.length ∧ sizeT P f.type = some m.length ∧ (P.info? f.type).isSome then some (l ++ m) else none
  | _, _ => none
def flat (P : Program) : Nat → TypeId → Option (List Kd)
  | 0, _ => none
  | d + 1, t =>
    match P.underlying t with
    | some .bool => some [.bool]
    | some (.int _) => some [.int]
    | some .string => some [.str]
    | some (.struct fs) =>
      if P.stoodInHeld t then none
      else fs.toList.foldl (flatStep P fun t => flat P d t) (some [])
    | some (.array n e) =>
      match flat P d e with
      | some m => if sizeT P e = some m.length then some (List.replicate n m).flatten else none
      | none => none
    | _ => none

def eq1 : Kd → AV → AV → Option Bool
  | .bool, .bool a, .bool b => some (a == b)
  | .int, .int k a, .int k' b => if k = k' then some (a == b) else none
  | .str, .str a, .str b => some (a == b)
  | _, _, _ => none
def eqs : List Kd → List AV → List AV → Option Bool
  | [], [], [] => some true
  | k :: ks, x :: xs, y :: ys =>
    match eq1 k x y, eqs ks xs ys with
    | some a, some b => some (a && b)
    | _, _ => none
  | _, _, _ => none
def AV.isAgg : AV → Bool
  | .agg _ => true
  | _ => false
/-- equality at a type -/
def aEq (P : Program) (t : TypeId) (x y : AV) : Option Bool :=
  match flat P 20 t, x.cells?, y.cells? with
  | some ks, some xs, some ys => if isAggT P t = x.isAgg ∧ isAggT P t = y.isAgg then eqs ks xs ys else none
  | _, _, _ => none

def aIntOp (op : BinOp) (k : IntKind) (a b : Int) : Option AV :=
  match op with
  | .add => some (.int k (k.wrap (a + b)))
  | .sub => some (.int k (k.wrap (a - b)))
  | .mul => some (.int k (k.wrap (a * b)))
  | .quo => if b = 0 then none else some (.int k (k.wrap (a.tdiv b)))
  | .rem => if b = 0 then none else some (.int k (a.tmod b))
  | .eql => some (.bool (a == b))
  | .neq => some (.bool (a != b))
  | .lss => some (.bool (decide (a < b)))
  | .leq => some (.bool (decide (a ≤ b)))
  | .gtr => some (.bool (decide (a > b)))
  | .geq => some (.bool (decide (a ≥ b)))
  | .and => some (.int k (k.wrap (BitVec.ofInt k.bits a &&& BitVec.ofInt k.bits b).toNat))
  | .or => some (.int k (k.wrap (BitVec.ofInt k.bits a ||| BitVec.ofInt k.bits b).toNat))
  | .xor => some (.int k (k.wrap (BitVec.ofInt k.bits a ^^^ BitVec.ofInt k.bits b).toNat))
  | .andNot => some (.int k (k.wrap (BitVec.ofInt k.bits a &&& ~~~BitVec.ofInt k.bits b).toNat))
  | .shl | .shr => none
def aShift (op : BinOp) (k : IntKind) (x y : Int) : Option AV :=
  if y < 0 then none
  else match op with
    | .shl => some (.int k (k.wrap (x * 2 ^ (min y.toNat k.bits))))
    | .shr => some (.int k (x.fdiv (2 ^ (min y.toNat k.bits))))
    | _ => none

def isBoolT (P : Program) (t : TypeId) : Bool :=
  match P.underlying t with
  | some .bool => true
  | _ => false
def isSliceT (P : Program) (t : TypeId) : Bool :=
  match P.underlying t with
  | some (.slice _) => true
  | _ => false
def eqOnly (op : BinOp) (b : Bool) : Option AV :=
  match op with
  | .eql => some (.bool b)
  | .neq => some (.bool (!b))
  | _ => none

def aBin (P : Program) (op : BinOp) (t : TypeId) (x y : AV) : Option AV :=
  match x, y with
  | .int k a, .int k' b => if op = .shl ∨ op = .shr then aShift op k a b else if k = k' then aIntOp op k a b else none
  | .bool a, .bool b => if isBoolT P t then eqOnly op (a == b) else none
  | .str a, .str b => eqOnly op (a.toList == b.toList)
  | .agg xs, .agg ys => if P.eqGuardType P.depth t then none else (aEq P t (.agg xs) (.agg ys)).bind (eqOnly op)
  | .sl _ _ r, .sl _ _ r' => if isSliceT P t && (r == .nil || r' == .nil) then eqOnly op (r == .nil && r' == .nil) else none
  | _, _ => none

def aUn (op : UnOp) (x : AV) : Option AV :=
  match op, x with
  | .not, .bool b => some (.bool !b)
  | .neg, .int k n => some (.int k (k.wrap (0 - n)))
  | _, _ => none

def afill (place : Nat → Option (Nat × Nat)) (cs : List AV) : List (Nat × AV) → Option (List AV)
  | [] => some cs
  | (i, v) :: rest =>
    match place i, v.cells? with
    | some (off, size), some vc => if vc.length ≠ size ∨ off + vc.length > cs.length then none else afill place (putAt cs off vc) rest
    | _, _ => none

def zeroCs (P : Program) (t : TypeId) : Option (List AV) :=
  match P.info? t with
  | some i => match i.zero with
    | some z => (ofConst z).cells?
    | none => none
  | none => none

def aBuild (P : Program) (t : TypeId) (parts : List (Nat × AV)) : Option AV :=
  match zeroCs P t, P.underlying t with
  | some z, some (.struct fs) =>
    if fs.toList.all (fun f => (P.info? f.type).isSome) then
      (afill (fun i => (fs.toList[i]?).map fun f => (f.offset, (sizeT P f.type).getD 0)) z parts).map .agg
    else none
  | some z, some (.array _ e) =>
    match sizeT P e with
    | some n => (afill (fun i => some (i * n, n)) z parts).map .agg
    | none => none
  | _, _ => none

def elemT (P : Program) (t : TypeId) : Option TypeId :=
  match P.underlying t with
  | some (.slice e) => some e
  | _ => none

def aBuildSlice (P : Program) (t : TypeId) (len : Nat) (parts : List (Nat × AV)) : Option AV :=
  match elemT P t with
  | some e =>
    match sizeT P e, zeroCs P e with
    | some n, some z =>
      if z.length = n ∧ 0 < n ∧ len * n ≤ 2 ^ 24 then
        (afill (fun i => some (i * n, n)) (List.replicate len z).flatten parts).map fun cs => .sl cs len .full
      else none
    | _, _ => none
  | none => none

def aMake (P : Program) (t : TypeId) (l c : Int) (h : H) : Option (AV × H) :=
  match elemT P t with
  | some e =>
    match P.info? e, zeroCs P e with
    | some i, some z =>
      if z.length = i.size ∧ 0 < i.size ∧ 0 ≤ l ∧ l ≤ c ∧ i.bytes * c ≤ 2 ^ 48 ∧ c ≤ (maxLen : Int) then
        some (.msl h.blk.length 0 l.toNat c.toNat i.size, { h with blk := h.blk ++ [(List.replicate c.toNat z).flatten] })
      else none
    | _, _ => none
  | none => none

def intOf? : Option AV → Option (Option Int)
  | none => some none
  | some (.int _ n) => some (some n)
  | _ => none

/-- the bounds of a slice expression: len, what the capacity is known to be at least, and the three bounds (m: none where there is no max) -/
def aBounds (len : Nat) (lo hi : Option Int) : Option (Nat × Nat) :=
  match lo.getD 0, hi.getD len with
  | l, h => if 0 ≤ l ∧ l ≤ h ∧ h ≤ len then some (l.toNat, h.toNat) else none

def aSlice (P : Program) (t : TypeId) (x : AV) (lo hi mx : Option AV) (h : H) : Option AV :=
  match intOf? lo, intOf? hi, intOf? mx with
  | some lo, some hi, some mx =>
    match x with
    | .sl cs n r =>
      match elemT P t with
      | some e =>
        match sizeT P e, aBounds n lo hi with
        | some z, some (l, k) =>
          match mx with
          | none =>
            if r = .nil then (if l = 0 ∧ k = 0 then some (.sl [] 0 .nil) else none)
            else some (.sl ((cs.drop (l * z)).take ((k - l) * z)) (k - l) (if l = 0 ∧ k = n then r else if r = .full ∧ k = n then .full else .no))
          | some m => if r ≠ .nil ∧ hi.isSome ∧ (k : Int) ≤ m ∧ m ≤ n then some (.sl ((cs.drop (l * z)).take ((k - l) * z)) (k - l) (if m = k then .full else .no)) else none
        | _, _ => none
      | none => none
    | .msl b o n cap _ =>
      match elemT P t, mx with
      | some e, none =>
        match sizeT P e, aBounds (if hi.isSome then cap else n) lo (some (hi.getD n)) with
        | some z, some (l, k) => some (.msl b (if cap = l then o else o + l * z) (k - l) (cap - l) z)
        | _, _ => none
      | _, _ => none
    | .ptr b o =>
      match P.underlying t, mx with
      | some (.array n e), none =>
        match sizeT P e, aBounds n lo hi with
        | some z, some (l, k) => if n ≤ maxLen then some (.msl b (if n = l then o else o + l * z) (k - l) (n - l) z) else none
        | _, _ => none
      | _, _ => none
    | .str s =>
      match P.underlying t, mx, aBounds s.size lo hi with
      | some .string, none, some (l, k) => some (.str (s.extract l k))
      | _, _, _ => none
    | _ => none
  | _, _, _ => none

def aIndexAddr (P : Program) (t : TypeId) (x ix : AV) : Option AV :=
  match ix with
  | .int _ i =>
    if 0 ≤ i then
      match x, P.underlying t with
      | .sl cs n r, some (.slice e) => match sizeT P e with
        | some z => if i < n ∧ r ≠ .nil then some (.cptr (cs.drop (i.toNat * z))) else none
        | none => none
      | .msl b o n _ _, some (.slice e) => match sizeT P e with
        | some z => if i < n then some (.ptr b (o + i.toNat * z)) else none
        | none => none
      | .ptr b o, some (.array n e) => match sizeT P e with
        | some z => if i < n then some (.ptr b (o + i.toNat * z)) else none
        | none => none
      | .cptr cs, some (.array n e) => match sizeT P e with
        | some z => if i < n then some (.cptr (cs.drop (i.toNat * z))) else none
        | none => none
      | _, _ => none
    else none
  | _ => none

def aIndex (P : Program) (t : TypeId) (x ix : AV) : Option AV :=
  match ix, x, P.underlying t with
  | .int _ i, .agg cs, some (.array n e) => match sizeT P e with
    | some z => if 0 ≤ i ∧ i < n then aLoad P e (cs.drop (i.toNat * z)) else none
    | none => none
  | .int _ i, .str s, some .string => if 0 ≤ i ∧ i < s.size then some (.int .u8 (s[i.toNat]!).toNat) else none
  | _, _, _ => none

def fieldT (P : Program) (t : TypeId) (f : Nat) : Option Field :=
  match P.underlying t with
  | some (.struct fs) => fs[f]?
  | _ => none

def aFieldAddr (P : Program) (t : TypeId) (x : AV) (f : Nat) : Option AV :=
  match fieldT P t f with
  | some fd =>
    match sizeT P fd.type with
    | some z => if z = 0 then none else
      match x with
      | .ptr b o => some (.ptr b (o + fd.offset))
      | .cptr cs => some (.cptr (cs.drop fd.offset))
      | _ => none
    | none => none
  | none => none

def aField (P : Program) (t : TypeId) (x : AV) (f : Nat) : Option AV :=
  match fieldT P t f, x with
  | some fd, .agg cs => aLoad P fd.type (cs.drop fd.offset)
  | _, _ => none

def aConvert (P : Program) (src dst : TypeId) (x : AV) : Option AV :=
  match P.underlying src, P.underlying dst, x with
  | some _, some (.int k), .int _ n => some (.int k (k.wrap n))
  | _, _, _ => none

def mapT (P : Program) (t : TypeId) : Option (TypeId × TypeId) :=
  match P.underlying t with
  | some (.map k e) => some (k, e)
  | _ => none

def keyIs (P : Program) (kt : TypeId) (k : AV) (kv : AV × AV) : Bool := aEq P kt k kv.1 == some true
def keyOk (P : Program) (kt : TypeId) (k : AV) (M : List (AV × AV)) : Bool := (aEq P kt k k == some true) && k.key && M.all fun kv => (aEq P kt k kv.1).isSome
def mfind (P : Program) (kt : TypeId) (k : AV) (M : List (AV × AV)) : Option AV := (M.find? (keyIs P kt k)).map (·.2)
def mput (P : Program) (kt : TypeId) (k v : AV) (M : List (AV × AV)) : List (AV × AV) :=
  if M.any (keyIs P kt k) then M.map fun kv => if keyIs P kt k kv then (k, v) else kv else M ++ [(k, v)]

def H.theMap (h : H) : AV → Option (List (AV × AV))
  | .nilM => some []
  | .map i => h.maps[i]?
  | _ => none

def zeroA (P : Program) (t : TypeId) : Option AV :=
  match P.info? t with
  | some i => match i.zero with
    | some z => some (ofConst z)
    | none => none
  | none => none

def aLookup (P : Program) (t : TypeId) (m k : AV) (ok : Bool) (h : H) : Option AV :=
  match mapT P t, h.theMap m with
  | some (kt, et), some M =>
    match zeroA P et with
    | some z =>
      if keyOk P kt k M then
        match mfind P kt k M with
        | some v => some (if ok then .tup [v, .bool true] else v)
        | none => some (if ok then .tup [z, .bool false] else z)
      else none
    | none => none
  | _, _ => none

def aMapUpdate (P : Program) (t : TypeId) (m k v : AV) (h : H) : Option H :=
  match mapT P t, m with
  | some (kt, _), .map i =>
    match h.maps[i]? with
    | some M => if keyOk P kt k M && v.bnd 0 0 0 then some { h with maps := h.maps.set i (mput P kt k v M) } else none
    | none => none
  | _, _ => none

def aLen (P : Program) (t : TypeId) (x : AV) (h : H) : Option AV :=
  match P.underlying t, x with
  | some .string, .str s => some (.int .i64 s.size)
  | some (.array n _), _ => some (.int .i64 n)
  | some (.slice _), .sl _ n _ => some (.int .i64 n)
  | some (.slice _), .msl _ _ n _ _ => some (.int .i64 n)
  | some (.map _ _), .nilM => some (.int .i64 0)
  | some (.map _ _), .map m => (h.maps[m]?).map fun M => .int .i64 M.length
  | _, _ => none

def pick2 (mx : Bool) (x y : Int) : Int := if mx then (if y > x then y else x) else (if y < x then y else x)
def minOf (mx : Bool) (k : IntKind) : Int → List AV → Option Int
  | x, [] => some x
  | x, .int k' y :: rest => if k = k' then minOf mx k (pick2 mx x y) rest else none
  | _, _ => none
def aMin (mx : Bool) : List AV → Option AV
  | .int k x :: rest => (minOf mx k x rest).map (AV.int k)
  | _ => none

/-- what a slice holds: its cells -/
def slCells (h : H) (z : Nat) : AV → Option (List AV × Nat)
  | .sl cs n _ => some (cs, n)
  | .msl b o n _ _ => match h.blk[b]? with
    | some old => if o + n * z ≤ old.length then some ((old.drop o).take (n * z), n) else none
    | none => none
  | _ => none

def aAppend (P : Program) (t t' : TypeId) (x y : AV) (h : H) : Option (AV × H) :=
  if t ≠ t' then none else
  match elemT P t with
  | some e =>
    match P.info? e, zeroCs P e with
    | some i, some z =>
      match slCells h i.size y, x with
      | some (ys, m), .sl xs n r =>
        if z.length = i.size ∧ 0 < i.size ∧ ys.length = m * i.size ∧ xs.length = n * i.size ∧ ys.all AV.one ∧ (n + m) * i.bytes ≤ 2 ^ 47 ∧ n + m ≤ maxLen then
          if m = 0 then some (x, h) else
          match r with
          | .nil | .full => some (.sl (xs ++ ys) (n + m) (.tok h.toks.length i.size), { h with toks := h.toks ++ [n + m] })
          | .tok k z => if h.toks[k]? = some n ∧ z = i.size then some (.sl (xs ++ ys) (n + m) (.tok k i.size), { h with toks := h.toks.set k (n + m) }) else none
          | .no => none
        else none
      | _, _ => none
    | _, _ => none
  | none => none

abbrev Summ := FuncId → List AV → H → Option (AV × H)

def aCall (S : Summ) (f : AV) (args : List AV) (h : H) : Option (AV × H) :=
  match f with
  | .fn (.func i) first cap => S i (first ++ args ++ cap) h
  | _ => none

/-- one operation: its value, the heap behind it -/
def aop (P : Program) (S : Summ) (β : Base) (o : Oper) (A : List AV) (h : H) : Option (AV × H) :=
  let ρ := aev A
  let v (x : Option AV) : Option (AV × H) := x.map fun x => (x, h)
  let u (x : Option H) : Option (AV × H) := x.map fun h => (.undef, h)
  match o.op with
  | .move x | .assign x => some (ρ x, h)
  | .pick c a b => match ρ c with | .bool t => some (if t then ρ a else ρ b, h) | _ => none
  | .alloc e => (zeroCs P e).map fun z => (.ptr h.blk.length 0, { h with blk := h.blk ++ [z] })
  | .box _ x => ((ρ x).cells?).map fun z => (.ptr h.blk.length 0, { h with blk := h.blk ++ [z] })
  | .build t parts => v (aBuild P t (parts.toList.map fun (i, x) => (i, ρ x)))
  | .buildSlice t len parts => v (aBuildSlice P t len (parts.toList.map fun (i, x) => (i, ρ x)))
  | .load t a => match h.target (ρ a) with | some cs => v (aLoad P t cs) | none => none
  | .store t a x => u (aStore P β t (ρ a) (ρ x) h)
  | .nilCheck x => match ρ x with | .ptr b k => some (.ptr b k, h) | .cptr cs => some (.cptr cs, h) | _ => none
  | .binOp op t x y _ => v (aBin P op t (ρ x) (ρ y))
  | .unOp op _ x => v (aUn op (ρ x))
  | .convert src dst x => v (aConvert P src dst (ρ x))
  | .makeMap t r => match mapT P t, intOf? (r.map ρ) with | some _, some _ => some (.map h.maps.length, { h with maps := h.maps ++ [[]] }) | _, _ => none
  | .makeSlice t l c => match ρ l, ρ c with | .int .i64 l, .int .i64 c => aMake P t l c h | _, _ => none
  | .slice t x lo hi mx => v (aSlice P t (ρ x) (lo.map ρ) (hi.map ρ) (mx.map ρ) h)
  | .fieldAddr t x f => v (aFieldAddr P t (ρ x) f)
  | .field t x f => v (aField P t (ρ x) f)
  | .indexAddr t x ix => v (aIndexAddr P t (ρ x) (ρ ix))
  | .index t x ix => v (aIndex P t (ρ x) (ρ ix))
  | .lookup t x ix ok => v (aLookup P t (ρ x) (ρ ix) ok h)
  | .mapUpdate t m k x | .insert t m k x => u (aMapUpdate P t (ρ m) (ρ k) (ρ x) h)
  | .extract t i => match ρ t with | .tup vs => v vs[i]? | _ => none
  | .makeFunc f a b => some (.fn f (a.toList.map ρ) (b.toList.map ρ), h)
  | .call c =>
    match c.callee with
    | .value f => aCall S (ρ f) (c.args.toList.map ρ) h
    | .builtin b =>
      match b, c.args.toList.map ρ, c.argTypes.toList with
      | .len, [x], t :: _ => v (aLen P t x h)
      | .min, xs, _ => v (aMin false xs)
      | .max, xs, _ => v (aMin true xs)
      | .append, [x, y], [t, t'] => aAppend P t t' x y h
      | _, _, _ => none
    | _ => none
  | _ => none
end Go.VM
