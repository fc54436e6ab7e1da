/- Packed: Sx SxD. -/
import Derived.Orders
import Derived.Scope
import Derived.Below
import Derived.KernelRfl
set_option linter.unusedVariables false
set_option linter.unusedSimpArgs false
namespace Go.Proofs.Ytfgfnjckklldbaa
section
namespace SX
inductive AO | add | sub | mul | quo | rem | and | or | xor | andNot | shl | shr
 deriving Repr, BEq, ReflBEq, LawfulBEq
inductive CO | eql | neq | lss | leq | gtr | geq
 deriving Repr, BEq, ReflBEq, LawfulBEq
inductive E
 | lit (n : Int) | var (i : Nat) | slen (i : Nat) | el (i m off : Nat) (x : E) | ar (op : AO) (k : IntKind) (x y : E) | cv (k : IntKind) (x : E) | mx (x y : E) | mn (x y : E)
 | ite (c x y : E)
 | blit (b : Bool) | bvar (i : Nat) | cmp (op : CO) (x y : E) | not (x : E) | same (x y : E)
 deriving Repr, BEq, ReflBEq, LawfulBEq
structure Env where
 i : Nat → Int
 b : Nat → Bool
 sa : Nat → Option Addr
 sn : Nat → Nat
 sc : Nat → Nat
 st : Nat → ByteArray
 el : Nat → Nat → Int := fun _ _ => 0
def clmp (x : Int) : Int := if -9223372036854775808 ≤ x ∧ x ≤ 9223372036854775807 then x else 0
def AO.den (k : IntKind) (x y : Int) : AO → Int
 | .add => k.wrap (x + y)
 | .sub => k.wrap (x - y)
 | .mul => k.wrap (x * y)
 | .quo => k.wrap (x.tdiv y)
 | .rem => x.tmod y
 | .and => k.wrap (BitVec.ofInt k.bits x &&& BitVec.ofInt k.bits y).toNat
 | .or => k.wrap (BitVec.ofInt k.bits x ||| BitVec.ofInt k.bits y).toNat
 | .xor => k.wrap (BitVec.ofInt k.bits x ^^^ BitVec.ofInt k.bits y).toNat
 | .andNot => k.wrap (BitVec.ofInt k.bits x &&& ~~~ BitVec.ofInt k.bits y).toNat
 | .shl => k.wrap (x * 2 ^ min y.toNat k.bits)
 | .shr => x.fdiv (2 ^ min y.toNat k.bits)
def CO.den (x y : Int) : CO → Bool
 | .eql => x == y
 | .neq => x != y
 | .lss => x < y
 | .leq => x ≤ y
 | .gtr => x > y
 | .geq => x ≥ y
def E.den (ε : Env) : E → Int × Bool
 | .lit n => (n, false)
 | .var i => (ε.i i, false)
 | .slen i => ((ε.sn i : Int), false)
 | .el i m off x => (clmp (ε.el i ((x.den ε).1.toNat * m + off)), false)
 | .ar op k x y => (op.den k (x.den ε).1 (y.den ε).1, false)
 | .cv k x => (k.wrap (x.den ε).1, false)
 | .mx x y => (if (y.den ε).1 > (x.den ε).1 then (y.den ε).1 else (x.den ε).1, false)
 | .mn x y => (if (y.den ε).1 < (x.den ε).1 then (y.den ε).1 else (x.den ε).1, false)
 | .ite c x y => (if (c.den ε).2 then (x.den ε).1 else (y.den ε).1, if (c.den ε).2 then (x.den ε).2 else (y.den ε).2)
 | .blit b => (0, b)
 | .bvar i => (0, ε.b i)
 | .cmp op x y => (0, op.den (x.den ε).1 (y.den ε).1)
 | .not x => (0, !(x.den ε).2)
 | .same x y => (0, (x.den ε).2 == (y.den ε).2)
def mkAr (op : AO) (k : IntKind) (x y : E) : E := match x, y with
 | .lit a, .lit b => .lit (op.den k a b)
 | x, y => .ar op k x y
def notB : E → E
 | .blit b => .blit !b
 | x => .not x
def asB (c : E) (b : Bool) : E → E
 | .not x => if .not x == c then .blit b else notB (asB c b x)
 | .ite d x y => if d == c then (if b then asB c b x else asB c b y) else if asB c b x == asB c b y then asB c b x else .ite d (asB c b x) (asB c b y)
 | e => if e == c then .blit b else e
def asI (c : E) (b : Bool) : E → E
 | .ite d x y => if d == c then (if b then asI c b x else asI c b y) else if asI c b x == asI c b y then asI c b x else .ite d (asI c b x) (asI c b y)
 | e => e
def mkNot (x : E) : E := match x with
 | .blit b => .blit !b
 | .not y => y
 | .ite d p q => .ite d (mkNot p) (mkNot q)
 | x => .not x
def isB : E → Bool
 | .blit _ => true
 | _ => false
def ifB (c x y : E) : E := if x == y then x else match x, y with
 | .blit true, .blit false => c
 | .blit false, .blit true => mkNot c
 | _, _ => .ite c x y
def mkIf (c x y : E) : E := match c with
 | .blit b => if b then x else y
 | .not d => mkIf d y x
 | .ite d p q => if isB p || isB q then mkIf d (mkIf p x y) (mkIf q x y) else ifB (.ite d p q) (asB (.ite d p q) true x) (asB (.ite d p q) false y)
 | c => ifB c (asB c true x) (asB c false y)
def iteI (c x y : E) : E := if x == y then x else .ite c x y
def mkIte (c x y : E) : E := match c with
 | .blit b => if b then x else y
 | .not d => mkIte d y x
 | .ite d p q => if isB p || isB q then mkIte d (mkIte p x y) (mkIte q x y) else iteI (.ite d p q) (asI (.ite d p q) true x) (asI (.ite d p q) false y)
 | c => iteI c (asI c true x) (asI c false y)
def mkEq : Nat → E → E → E
 | 0, x, y => .cmp .eql x y
 | n + 1, x, y => if x == y then .blit true else match x, y with
  | .lit a, .lit b => .blit (a == b)
  | .ite c p q, y => mkIf c (mkEq n p (asI c true y)) (mkEq n q (asI c false y))
  | x, .ite c p q => mkIf c (mkEq n (asI c true x) p) (mkEq n (asI c false x) q)
  | .lit a, y => .cmp .eql y (.lit a)
  | x, y => .cmp .eql x y
def mkLs (x y : E) : E := match x, y with
 | .lit a, .lit b => .blit (a < b)
 | x, y => .cmp .lss x y
def mkCmp (op : CO) (x y : E) : E := match op with
 | .eql => mkEq 200 x y
 | .neq => mkNot (mkEq 200 x y)
 | .lss => mkLs x y
 | .gtr => mkLs y x
 | .leq => mkNot (mkLs y x)
 | .geq => mkNot (mkLs x y)
def mkMx (x y : E) : E := match x, y with
 | .lit a, .lit b => .lit (if b > a then b else a)
 | x, y => .mx x y
def mkMn (x y : E) : E := match x, y with
 | .lit a, .lit b => .lit (if b < a then b else a)
 | x, y => .mn x y
def mkSame (x y : E) : E := mkIf x y (mkNot y)
def known : E → E → Option Bool
 | .ite c x (.blit false), e => if c == e then some true else known x e
 | .ite c (.blit false) y, e => if c == e then some false else known y e
 | .not c, e => if c == e then some false else none
 | c, e => if c == e then some true else none
def under (pc : E) : E → E
 | .ite d x y => match known pc d with
  | some true => under pc x
  | some false => under pc y
  | none => mkIf d (under pc x) (under pc y)
 | .not x => mkNot (under pc x)
 | e => match known pc e with
  | some b => .blit b
  | none => e
def underI (pc : E) : E → E
 | .ite d x y => match known pc d with
  | some true => underI pc x
  | some false => underI pc y
  | none => mkIte d (underI pc x) (underI pc y)
 | e => e
def mix (a b : Nat) : Nat := (a * 6364136223846793005 + b * 1442695040888963407 + 1013904223) % 2305843009213693951
def AO.h : AO → Nat
 | .add => 1 | .sub => 2 | .mul => 3 | .quo => 4 | .rem => 5 | .and => 6 | .or => 7 | .xor => 8 | .andNot => 9 | .shl => 10 | .shr => 11
def CO.h : CO → Nat
 | .eql => 1 | .neq => 2 | .lss => 3 | .leq => 4 | .gtr => 5 | .geq => 6
def kH (k : IntKind) : Nat := 2 * k.bits + (if k.signed then 1 else 0)
def iH : Int → Nat
 | .ofNat n => 2 * n
 | .negSucc n => 2 * n + 1
def E.h : E → Nat
 | .lit n => mix 1 (iH n)
 | .var i => mix 2 i
 | .slen i => mix 3 i
 | .el i m off x => mix (mix 14 (mix i (mix m off))) x.h
 | .ar op k x y => mix (mix (4 + 16 * op.h) (kH k)) (mix x.h y.h)
 | .cv k x => mix (5 + 16 * kH k) x.h
 | .mx x y => mix 6 (mix x.h y.h)
 | .mn x y => mix 7 (mix x.h y.h)
 | .ite c x y => mix (mix 8 c.h) (mix x.h y.h)
 | .blit b => mix 9 (if b then 1 else 0)
 | .bvar i => mix 10 i
 | .cmp op x y => mix (11 + 16 * op.h) (mix x.h y.h)
 | .not x => mix 12 x.h
 | .same x y => mix 13 (mix x.h y.h)
inductive AV
 | int (k : IntKind) (e : E) | bool (e : E) | ptr (b off : Nat) | nilp | sl (b off len cap : Nat) | nils | fsl (i : Nat) | fptr (i m off : Nat) (x : E) | str (i : Nat) | gsl (b off len c d o2 : Nat)
 deriving Repr, BEq, ReflBEq, LawfulBEq
inductive SV
 | a (x : AV) | fn (f : FuncId) (fi cap : List AV) | nilf | row (c m : Nat)
 deriving Repr, BEq, ReflBEq, LawfulBEq
inductive V1
 | s (x : SV) | agg (l : List SV)
 deriving Repr, BEq, ReflBEq, LawfulBEq
inductive LV
 | v (x : V1) | tup (l : List V1) | bad
 deriving Repr, BEq, ReflBEq, LawfulBEq
def AV.den (ε : Env) (ρ : Nat → Nat) : AV → Value
 | .int k e => .int k (e.den ε).1
 | .bool e => .bool (e.den ε).2
 | .ptr b off => .pointer (some ⟨ρ b, off, none⟩)
 | .nilp => .pointer none
 | .sl b off len cap => .slice (some ⟨ρ b, off, none⟩) len cap
 | .nils => .slice none 0 0
 | .fsl i => .slice (ε.sa i) (ε.sn i) (ε.sc i)
 | .fptr i m off x => .pointer ((ε.sa i).map fun ad => (ad.add ((x.den ε).1.toNat * m)).add off)
 | .str i => .string (ε.st i)
 | .gsl b off len c d o2 => .slice (some ⟨ρ b, if len = 0 ∧ ρ c = d then o2 else off, none⟩) len (ρ c - d)
def SV.den (ε : Env) (ρ : Nat → Nat) : SV → Value
 | .a x => x.den ε ρ
 | .fn f fi cap => .func (.func f) (fi.map (AV.den ε ρ)).toArray (cap.map (AV.den ε ρ)).toArray
 | .nilf => .nilFunc
 | .row _ _ => .bool false
def V1.den (ε : Env) (ρ : Nat → Nat) : V1 → Value
 | .s x => x.den ε ρ
 | .agg l => .agg (l.map (SV.den ε ρ)).toArray
def LV.den (ε : Env) (ρ : Nat → Nat) : LV → Value
 | .v x => x.den ε ρ
 | .tup l => .tuple (l.map (V1.den ε ρ)).toArray
 | .bad => undef
def AV.ids : AV → List Nat
 | .ptr b _ => [b]
 | .sl b _ _ _ => [b]
 | .gsl b _ _ c _ _ => [b, c]
 | _ => []
def SV.ids : SV → List Nat
 | .a x => x.ids
 | .fn _ fi cap => fi.flatMap AV.ids ++ cap.flatMap AV.ids
 | .nilf => []
 | .row c _ => [c]
def V1.ids : V1 → List Nat
 | .s x => x.ids
 | .agg l => l.flatMap SV.ids
def LV.ids : LV → List Nat
 | .v x => x.ids
 | .tup l => l.flatMap V1.ids
 | .bad => []
abbrev Cells := List (Option SV)
def isRow : SV → Bool
 | .row _ _ => true
 | _ => false
def isRowC : Option SV → Bool
 | some s => isRow s
 | none => false
def Cells.ids (l : Cells) : List Nat := l.flatMap fun | some s => s.ids | none => []
def AV.merge (c : E) (x y : AV) : Option AV := if x == y then some x else match x, y with
 | .int k a, .int k' b => if k == k' then some (.int k (mkIte c a b)) else none
 | .bool a, .bool b => some (.bool (mkIf c a b))
 | _, _ => none
def SV.merge (c : E) (x y : SV) : Option SV := if x == y then some x else match x, y with
 | .a x, .a y => (AV.merge c x y).map .a
 | _, _ => none
def mergeL (c : E) : List SV → List SV → Option (List SV)
 | [], [] => some []
 | x :: xs, y :: ys => match SV.merge c x y, mergeL c xs ys with
  | some z, some zs => some (z :: zs)
  | _, _ => none
 | _, _ => none
def V1.merge (c : E) (x y : V1) : Option V1 := match x, y with
 | .s x, .s y => (SV.merge c x y).map .s
 | .agg x, .agg y => (mergeL c x y).map .agg
 | _, _ => none
def mergeT (c : E) : List V1 → List V1 → Option (List V1)
 | [], [] => some []
 | x :: xs, y :: ys => match V1.merge c x y, mergeT c xs ys with
  | some z, some zs => some (z :: zs)
  | _, _ => none
 | _, _ => none
def LV.merge (c : E) (x y : LV) : LV := match x, y with
 | .v x, .v y => match V1.merge c x y with | some z => .v z | none => .bad
 | .tup x, .tup y => match mergeT c x y with | some z => .tup z | none => .bad
 | _, _ => .bad
def mergeO (c : E) : Option SV → Option SV → Option SV
 | some x, some y => SV.merge c x y
 | _, _ => none
def mergeC (c : E) : Cells → Cells → Option Cells
 | [], [] => some []
 | x :: xs, y :: ys => match mergeC c xs ys with
  | some zs => if isRowC x || isRowC y then (if x == y then some (x :: zs) else none) else some (mergeO c x y :: zs)
  | none => none
 | _, _ => none
structure St where
 tmps : List LV
 mem : List (Nat × Cells)
 wr : List Nat
 deriving Repr, BEq, ReflBEq, LawfulBEq
def insL (b : Nat) (l : List Nat) : List Nat := if l.contains b then l else b :: l
def addL (m l : List Nat) : List Nat := m.foldr insL l
def St.look (s : St) (t : Nat) : LV := s.tmps.getD t .bad
def St.at (s : St) (b : Nat) : Option Cells := match s.mem.lookup b with
 | some [] => none
 | x => x
def mergeTmps (c : E) : List LV → List LV → List LV
 | x :: xs, y :: ys => LV.merge c x y :: mergeTmps c xs ys
 | _, _ => []
def mergeMem (c : E) (s m : List (Nat × Cells)) : List Nat → List (Nat × Cells)
 | [] => []
 | b :: rest => match s.lookup b, m.lookup b with
  | some x, some y => match mergeC c x y with
   | some z => (b, z) :: mergeMem c s m rest
   | none => mergeMem c s m rest
  | _, _ => mergeMem c s m rest
def keysOf (m : List (Nat × Cells)) : List Nat := (m.map (·.1)).eraseDups
def St.merge (c : E) (s t : St) : St := ⟨mergeTmps c s.tmps t.tmps, mergeMem c s.mem t.mem (keysOf s.mem), addL s.wr t.wr⟩
def ofCell : Value → Option SV
 | .int k n => some (.a (.int k (.lit n)))
 | .bool b => some (.a (.bool (.blit b)))
 | .pointer none => some (.a .nilp)
 | .slice none 0 0 => some (.a .nils)
 | .nilFunc => some .nilf
 | _ => none
def ofCells : List Value → Option (List SV)
 | [] => some []
 | v :: vs => match ofCell v, ofCells vs with
  | some x, some xs => some (x :: xs)
  | _, _ => none
def ofVal : Value → LV
 | .agg cs => match ofCells cs.toList with | some l => .v (.agg l) | none => .bad
 | .tuple cs => if cs.size = 0 then .tup [] else .bad
 | v => match ofCell v with | some x => .v (.s x) | none => .bad
def opnd (look : Nat → LV) : Operand → LV
 | .tmp t => look t
 | .const v => ofVal v
 | .global _ => .bad
 | .func f => .v (.s (.fn f [] []))
def V1.cells : V1 → List SV
 | .s x => [x]
 | .agg l => l
abbrev Way := List Nat
inductive Ex | normal | exit (id : Nat) | ret
 deriving Repr, BEq, ReflBEq, LawfulBEq
inductive Tr
 | leaf (k : Ex) (s : St)
 | node (c : E) (x y : Tr)
 deriving Repr, BEq, ReflBEq, LawfulBEq
inductive Ob
 | req (pc c : E)
 | call (pc : E) (f : FuncId) (args : List LV) (mem : List (Nat × Cells)) (res : LV) (upd : List (Nat × Cells))
 | eq (v : Nat) (e : E)
 | eqb (v : Nat) (e : E)
 | lst (i m off : Nat) (ks : List IntKind)
 | loop (s : Nat) (ins : List LV) (at_ : Way) (pc : E) (st : St) (nid : Nat) (tr : Tr)
 deriving Repr, BEq, ReflBEq, LawfulBEq
def top : Nat := 4611686018427387904
def flatE : E → Bool
 | .lit _ => true
 | .var _ => true
 | .slen _ => true
 | .el _ _ _ (.var _) => true
 | .el _ _ _ (.lit _) => true
 | .ite (.cmp .eql (.var _) (.lit _)) (.var _) (.lit _) => true
 | _ => false
def nameI (e : E) : E × List Ob := if flatE e then (e, []) else (.var (top + e.h), [.eq (top + e.h) e])
def E.fits : Nat → E → Option Nat
 | 0, _ => none
 | n + 1, .ite c x y => match E.fits n c with
  | some m => match E.fits m x with
   | some m => E.fits m y
   | none => none
  | none => none
 | n + 1, .not x => E.fits n x
 | n + 1, _ => some n
def nameB (e : E) : E × List Ob := match E.fits 48 e with
 | some _ => (e, [])
 | none => (.bvar (top + e.h), [.eqb (top + e.h) e])
def nameSV (o : Option E) : SV → SV × List Ob
 | .a (.int k x) => match o with
  | none => (.a (.int k (nameI x).1), (nameI x).2)
  | some e => if flatE x then (.a (.int k x), []) else if mkIte (mkEq 200 e (.lit 0)) x (.lit 0) == x then
      (.a (.int k (.ite (.cmp .eql (nameI e).1 (.lit 0)) (.var (top + x.h)) (.lit 0))), (nameI e).2 ++ [.eq (top + x.h) x])
     else (.a (.int k (nameI x).1), (nameI x).2)
 | .a (.bool e) => (.a (.bool (nameB e).1), (nameB e).2)
 | x => (x, [])
def nameSVs (o : Option E) : List SV → List SV × List Ob
 | [] => ([], [])
 | x :: xs => ((nameSV o x).1 :: (nameSVs o xs).1, (nameSV o x).2 ++ (nameSVs o xs).2)
def nameV1 (o : Option E) : V1 → V1 × List Ob
 | .s x => (.s (nameSV o x).1, (nameSV o x).2)
 | .agg l => (.agg (nameSVs o l).1, (nameSVs o l).2)
def nameV1s (o : Option E) : List V1 → List V1 × List Ob
 | [] => ([], [])
 | x :: xs => ((nameV1 o x).1 :: (nameV1s o xs).1, (nameV1 o x).2 ++ (nameV1s o xs).2)
def nameLV (o : Option E) : LV → LV × List Ob
 | .v x => (.v (nameV1 o x).1, (nameV1 o x).2)
 | .tup l => (.tup (nameV1s o l).1, (nameV1s o l).2)
 | .bad => (.bad, [])
def nameC (o : Option E) : Cells → Cells × List Ob
 | [] => ([], [])
 | some x :: xs => (some (nameSV o x).1 :: (nameC o xs).1, (nameSV o x).2 ++ (nameC o xs).2)
 | none :: xs => (none :: (nameC o xs).1, (nameC o xs).2)
def nameM (o : Option E) : List (Nat × Cells) → List (Nat × Cells) × List Ob
 | [] => ([], [])
 | (b, c) :: rest => ((b, (nameC o c).1) :: (nameM o rest).1, (nameC o c).2 ++ (nameM o rest).2)
def errOf (v : LV) (upd : List (Nat × Cells)) : Option E := match v with
 | .tup vs => match vs.getLast? with
  | some (.s (.a (.int _ e))) => some e
  | _ => none
 | _ => match upd with
  | [(_, [some (.a (.int _ e))])] => some e
  | _ => none
def underSV (pc : E) : SV → SV
 | .a (.int k x) => .a (.int k (underI pc x))
 | .a (.bool x) => .a (.bool (under pc x))
 | x => x
def underV1 (pc : E) : V1 → V1
 | .s x => .s (underSV pc x)
 | .agg l => .agg (l.map (underSV pc))
def underLV (pc : E) : LV → LV
 | .v x => .v (underV1 pc x)
 | .tup l => .tup (l.map (underV1 pc))
 | .bad => .bad
structure Cfg where
 inl : FuncId → Bool
 cut : FuncId → Bool
 res : FuncId → List LV → List (Nat × Cells) → Option (LV × List (Nat × Cells))
 lp : Way → St → Option (Nat × List LV × Tr) := fun _ _ => none
def fN {β : Type} (n : Nat) (k : Nat → β) : β := match n with
 | 0 => k 0
 | m + 1 => k (Nat.succ m)
def fZ {β : Type} (n : Int) (k : Int → β) : β := match n with
 | .ofNat m => fN m fun m => k (.ofNat m)
 | .negSucc m => fN m fun m => k (.negSucc m)
def fB {β : Type} (b : Bool) (k : Bool → β) : β := match b with
 | true => k true
 | false => k false
def fE {β : Type} : E → (E → β) → β
 | .lit n, k => fZ n fun n => k (.lit n)
 | .var i, k => fN i fun i => k (.var i)
 | .slen i, k => fN i fun i => k (.slen i)
 | .el i m o x, k => fN i fun i => fN m fun m => fN o fun o => fE x fun x => k (.el i m o x)
 | .ar op q x y, k => fE x fun x => fE y fun y => k (.ar op q x y)
 | .cv q x, k => fE x fun x => k (.cv q x)
 | .mx x y, k => fE x fun x => fE y fun y => k (.mx x y)
 | .mn x y, k => fE x fun x => fE y fun y => k (.mn x y)
 | .ite c x y, k => fE c fun c => fE x fun x => fE y fun y => k (.ite c x y)
 | .blit b, k => fB b fun b => k (.blit b)
 | .bvar i, k => fN i fun i => k (.bvar i)
 | .cmp op x y, k => fE x fun x => fE y fun y => k (.cmp op x y)
 | .not x, k => fE x fun x => k (.not x)
 | .same x y, k => fE x fun x => fE y fun y => k (.same x y)
def fNs {β : Type} : List Nat → (List Nat → β) → β
 | [], k => k []
 | x :: xs, k => fN x fun x => fNs xs fun xs => k (x :: xs)
def fAV {β : Type} : AV → (AV → β) → β
 | .int q e, k => fE e fun e => k (.int q e)
 | .bool e, k => fE e fun e => k (.bool e)
 | .ptr b o, k => fN b fun b => fN o fun o => k (.ptr b o)
 | .nilp, k => k .nilp
 | .sl b o l c, k => fN b fun b => fN o fun o => fN l fun l => fN c fun c => k (.sl b o l c)
 | .nils, k => k .nils
 | .fsl i, k => fN i fun i => k (.fsl i)
 | .fptr i m o x, k => fN i fun i => fN m fun m => fN o fun o => fE x fun x => k (.fptr i m o x)
 | .str i, k => fN i fun i => k (.str i)
 | .gsl b o l c d e, k => fN b fun b => fN o fun o => fN l fun l => fN c fun c => fN d fun d => fN e fun e => k (.gsl b o l c d e)
def fAVs {β : Type} : List AV → (List AV → β) → β
 | [], k => k []
 | x :: xs, k => fAV x fun x => fAVs xs fun xs => k (x :: xs)
def fSV {β : Type} : SV → (SV → β) → β
 | .a x, k => fAV x fun x => k (.a x)
 | .fn f fi cap, k => fN f fun f => fAVs fi fun fi => fAVs cap fun cap => k (.fn f fi cap)
 | .nilf, k => k .nilf
 | .row c m, k => fN c fun c => fN m fun m => k (.row c m)
def fSVs {β : Type} : List SV → (List SV → β) → β
 | [], k => k []
 | x :: xs, k => fSV x fun x => fSVs xs fun xs => k (x :: xs)
def fV1 {β : Type} : V1 → (V1 → β) → β
 | .s x, k => fSV x fun x => k (.s x)
 | .agg l, k => fSVs l fun l => k (.agg l)
def fV1s {β : Type} : List V1 → (List V1 → β) → β
 | [], k => k []
 | x :: xs, k => fV1 x fun x => fV1s xs fun xs => k (x :: xs)
def fLV {β : Type} : LV → (LV → β) → β
 | .v x, k => fV1 x fun x => k (.v x)
 | .tup l, k => fV1s l fun l => k (.tup l)
 | .bad, k => k .bad
def fLVs {β : Type} : List LV → (List LV → β) → β
 | [], k => k []
 | x :: xs, k => fLV x fun x => fLVs xs fun xs => k (x :: xs)
def fC {β : Type} : Cells → (Cells → β) → β
 | [], k => k []
 | some x :: xs, k => fSV x fun x => fC xs fun xs => k (some x :: xs)
 | none :: xs, k => fC xs fun xs => k (none :: xs)
def fM {β : Type} : List (Nat × Cells) → (List (Nat × Cells) → β) → β
 | [], k => k []
 | (b, c) :: xs, k => fN b fun b => fC c fun c => fM xs fun xs => k ((b, c) :: xs)
def fSt {β : Type} (s : St) (k : St → β) : β := match s with
 | ⟨t, m, w⟩ => fLVs t fun t => fM m fun m => fNs w fun w => k ⟨t, m, w⟩
def fTr {β : Type} : Tr → (Tr → β) → β
 | .leaf e s, k => fSt s fun s => k (.leaf e s)
 | .node c x y, k => fE c fun c => fTr x fun x => fTr y fun y => k (.node c x y)
def setK {β : Type} : List LV → Nat → LV → (List LV → β) → β
 | [], _, _, k => k []
 | _ :: xs, 0, v, k => k (v :: xs)
 | x :: xs, d + 1, v, k => setK xs d v fun ys => k (x :: ys)
def appK {α β : Type} : List α → List α → (List α → β) → β
 | [], m, k => match m with
  | [] => k []
  | y :: ys => k (y :: ys)
 | x :: xs, m, k => appK xs m fun ys => k (x :: ys)
def allSome : Cells → Option (List SV)
 | [] => some []
 | some x :: xs => if isRow x then none else (allSome xs).map (x :: ·)
 | none :: _ => none
structure Op1 where
 val : LV
 fp : List Nat := []
 upd : List (Nat × Cells) := []
 nv : Nat
 obs : List Ob := []
 deriving Repr
def aggT (P : Program) (t : TypeId) : Bool := match P.underlying t with
 | some (.struct _) | some (.array _ _) => true
 | _ => false
def boolT (P : Program) (t : TypeId) : Bool := match P.underlying t with
 | some .bool => true
 | _ => false
def getPart (P : Program) (t : TypeId) (cs : List SV) (off : Nat) : Option V1 :=
 match P.underlying t, P.info? t with
 | some d, some i => match d with
  | .struct _ | .array _ _ => if off + i.size ≤ cs.length then some (.agg ((cs.drop off).take i.size)) else none
  | _ => (cs[off]?).map .s
 | _, _ => none
def setL : Cells → Nat → List SV → Cells
 | cs, _, [] => cs
 | cs, off, x :: xs => setL (cs.set off (some x)) (off + 1) xs
def fillL (place : Nat → Option (Nat × Nat)) (cells : List SV) : List (Nat × V1) → Option (List SV)
 | [] => some cells
 | (i, v) :: rest => match place i with
  | none => none
  | some (off, size) => if v.cells.length ≠ size || off + v.cells.length > cells.length then none
   else fillL place (cells.take off ++ v.cells ++ cells.drop (off + v.cells.length)) rest
def partsOf (look : Nat → LV) : List (Nat × Operand) → Option (List (Nat × V1))
 | [] => some []
 | (i, x) :: rest => match opnd look x, partsOf look rest with
  | .v v, some vs => some ((i, v) :: vs)
  | _, _ => none
def avs : List LV → Option (List AV)
 | [] => some []
 | .v (.s (.a x)) :: rest => (avs rest).map (x :: ·)
 | _ => none
def arithOf : BinOp → Option AO
 | .add => some .add | .sub => some .sub | .mul => some .mul | .quo => some .quo | .rem => some .rem
 | .and => some .and | .or => some .or | .xor => some .xor | .andNot => some .andNot | .shl => some .shl | .shr => some .shr
 | _ => none
def cmpOf : BinOp → Option CO
 | .eql => some .eql | .neq => some .neq | .lss => some .lss | .leq => some .leq | .gtr => some .gtr | .geq => some .geq
 | _ => none
def noIds (l : List LV) : Bool := l.all fun x => x.ids.isEmpty && (match x with | .bad => false | _ => true)
abbrev Sub := Nat → FuncId → List LV → (Nat → Option Cells) → E → Nat → Nat → Option Op1
def reach (mem : Nat → Option Cells) : Nat → List Nat → List Nat → List Nat
 | 0, _, seen => seen
 | n + 1, todo, seen => match todo with
  | [] => seen
  | b :: rest => if seen.contains b then reach mem n rest seen else match mem b with
   | some c => reach mem n (c.ids ++ rest) (b :: seen)
   | none => reach mem n rest seen
def foldMM (mk : E → E → E) (x : LV) : List LV → LV
 | [] => x
 | y :: rest => match x, y with
  | .v (.s (.a (.int k a))), .v (.s (.a (.int k' b))) => if k == k' then foldMM mk (.v (.s (.a (.int k (mk a b))))) rest else .bad
  | _, _ => .bad
def eqT (P : Program) : Nat → TypeId → V1 → V1 → Option E
 | 0, _, _, _ => none
 | n + 1, t, x, y => match P.underlying t, x, y with
  | some (.int _), .s (.a (.int k a)), .s (.a (.int k' b)) => if k == k' then some (mkCmp .eql a b) else none
  | some .bool, .s (.a (.bool a)), .s (.a (.bool b)) => some (mkSame a b)
  | some (.struct fs), .agg xs, .agg ys => if P.stoodInHeld t then none else
    fs.toList.foldr (fun f acc => match acc with
     | none => none
     | some r => if f.name == "_" then some r else match getPart P f.type xs f.offset, getPart P f.type ys f.offset with
      | some a, some b => (eqT P n f.type a b).map fun c => mkIf c r (.blit false)
      | _, _ => none) (some (.blit true))
  | some (.array len e), .agg xs, .agg ys => match P.info? e with
   | some i => (List.range len).foldr (fun j acc => match acc with
     | none => none
     | some r => match getPart P e xs (j * i.size), getPart P e ys (j * i.size) with
      | some a, some b => (eqT P n e a b).map fun c => mkIf c r (.blit false)
      | _, _ => none) (some (.blit true))
   | none => none
  | _, _, _ => none
section
variable (P : Program) (sub : Sub) (sp : Nat) (id : Nat) (pc : E) (look : Nat → LV) (mem : Nat → Option Cells) (nv : Nat)
def need (c : E) : List Ob := match under pc c with
 | .blit true => []
 | _ => [.req pc c]
def inB (i : Nat) (x : E) : List Ob := need pc (mkNot (mkLs x (.lit 0))) ++ need pc (mkLs x (.slen i))
def kindsOf : List Value → Option (List IntKind)
 | [] => some []
 | .int k _ :: rest => (kindsOf rest).map (k :: ·)
 | _ => none
def elems (i m : Nat) (x : E) : Nat → List IntKind → List SV
 | _, [] => []
 | off, k :: ks => .a (.int k (.el i m off x)) :: elems i m x (off + 1) ks
def evLoadL (t : TypeId) (i m off : Nat) (x : E) : Option Op1 := match P.info? t with
 | some inf => if (P.underlying t).isSome then match inf.zero with
   | some (.agg cs) => if aggT P t then (match kindsOf cs.toList with
    | some ks => if ks.length = inf.size && off + ks.length ≤ m then some { val := .v (.agg (elems i m x off ks)), nv, obs := .lst i m off ks :: inB pc i x } else none
    | none => none) else none
   | some (.int k _) => if aggT P t || m ≤ off then none else some { val := .v (.s (.a (.int k (.el i m off x)))), nv, obs := .lst i m off [k] :: inB pc i x }
   | _ => none
  else none
 | none => none
def pureOp (v : LV) : Option Op1 := match v with
 | .bad => none
 | v => some { val := v, nv }
def evBin (op : BinOp) (t : TypeId) (x y : LV) : Option Op1 := match x, y with
 | .v (.s (.a (.int k a))), .v (.s (.a (.int k' b))) => match op with
  | .shl | .shr => match arithOf op, b with
   | some f, .lit n => if 0 ≤ n then some { val := .v (.s (.a (.int k (mkAr f k a b)))), nv } else none
   | some f, b => some { val := .v (.s (.a (.int k (.ar f k a b)))), nv, obs := [.req pc (.cmp .geq b (.lit 0))] }
   | none, _ => none
  | _ => if k == k' then match cmpOf op with
    | some f => some { val := .v (.s (.a (.bool (mkCmp f a b)))), nv }
    | none => match arithOf op with
     | some .quo => (match b with
      | .lit n => if n = 0 then none else some { val := .v (.s (.a (.int k (mkAr .quo k a b)))), nv }
      | b => some { val := .v (.s (.a (.int k (.ar .quo k a b)))), nv, obs := [.req pc (.cmp .neq b (.lit 0))] })
     | some .rem => (match b with
      | .lit n => if n = 0 then none else some { val := .v (.s (.a (.int k (mkAr .rem k a b)))), nv }
      | b => some { val := .v (.s (.a (.int k (.ar .rem k a b)))), nv, obs := [.req pc (.cmp .neq b (.lit 0))] })
     | some f => some { val := .v (.s (.a (.int k (mkAr f k a b)))), nv }
     | none => none
   else none
 | .v (.s (.a (.bool a))), .v (.s (.a (.bool b))) => if boolT P t then match op with
  | .eql => some { val := .v (.s (.a (.bool (mkSame a b)))), nv }
  | .neq => some { val := .v (.s (.a (.bool (mkNot (mkSame a b))))), nv }
  | _ => none
  else none
 | .v (.agg xs), .v (.agg ys) => if P.eqGuardType P.depth t then none else match eqT P 20 t (.agg xs) (.agg ys) with
  | some e => (match op with
   | .eql => some { val := .v (.s (.a (.bool e))), nv }
   | .neq => some { val := .v (.s (.a (.bool (mkNot e)))), nv }
   | _ => none)
  | none => none
 | _, _ => none
def evUn (op : UnOp) (x : LV) : Option Op1 := match op, x with
 | .neg, .v (.s (.a (.int k a))) => some { val := .v (.s (.a (.int k (mkAr .sub k (.lit 0) a)))), nv }
 | .xor, .v (.s (.a (.int k a))) => some { val := .v (.s (.a (.int k (mkAr .xor k (.lit (if k.signed then -1 else k.max)) a)))), nv }
 | .not, .v (.s (.a (.bool a))) => some { val := .v (.s (.a (.bool (mkNot a)))), nv }
 | _, _ => none
def newBlock (cs : List SV) : Option Op1 :=
 if (cs.flatMap SV.ids).contains id || cs.any isRow then none else some { val := .v (.s (.a (.ptr id 0))), upd := [(id, cs.map some)], nv }
def growBlock (m : Nat) (cs : List SV) (fp : List Nat) (kill : List Nat) : Option Op1 :=
 if (cs.flatMap SV.ids).contains id || (cs.flatMap SV.ids).contains (id + 1) || kill.contains id || sp < 2 || cs.isEmpty || cs.any isRow then none
 else some { val := .v (.s (.a (.gsl id 0 (cs.length / m) (id + 1) 0 0))), fp, upd := (id, cs.map some ++ [some (.row (id + 1) m)]) :: kill.map fun b => (b, []), nv }
def slCells (m : Nat) : LV → Option (Nat × List SV × List Nat)
 | .v (.s (.a .nils)) => some (0, [], [])
 | .v (.s (.a (.sl b off len _))) => match mem b with
  | some cs => if off + len * m ≤ cs.length then (allSome ((cs.drop off).take (len * m))).map fun l => (len, l, [b]) else none
  | none => if len = 0 then some (0, [], []) else none
 | .v (.s (.a (.gsl b off len _ _ _))) => match mem b with
  | some cs => if off + len * m ≤ cs.length then (allSome ((cs.drop off).take (len * m))).map fun l => (len, l, [b]) else none
  | none => none
 | _ => none
def roomOf (m b n c : Nat) : Bool := match mem b with
 | some cs => cs.length == n * m + 1 && cs[n * m]? == some (some (.row c m))
 | none => false
def evAppend (tys : Array TypeId) (args : List LV) : Option Op1 := match tys.toList, args with
 | [t, u], [s, x] => if t != u then none else match P.underlying t with
  | some (.slice e) => match P.info? e with
   | some i => match i.zero.map ofVal, slCells mem i.size x with
    | some (.v z), some (k, new, fp) => if i.size = 0 || z.cells.length ≠ i.size then none else match s with
     | .v (.s (.a .nils)) => if k = 0 then some { val := s, fp, nv } else if k * i.bytes > 1099511627776 || k > 16777216 then none else growBlock sp id nv i.size new fp []
     | .v (.s (.a (.sl b off n cap))) =>
      if n + k ≤ cap then
       (if k = 0 then some { val := s, fp, nv } else match mem b with
        | some cs => if off + (n + k) * i.size ≤ cs.length && ((cs.drop (off + n * i.size)).take (k * i.size)).all (fun c => !isRowC c) then
          some { val := .v (.s (.a (.sl b off (n + k) cap))), fp := b :: fp, upd := [(b, setL cs (off + n * i.size) new)], nv } else none
        | none => none)
      else if k = 0 || (n + k) * i.bytes > 1099511627776 || n + k > 16777216 then none else (match slCells mem i.size s with
       | some (_, old, fp') => growBlock sp id nv i.size (old ++ new) (fp' ++ fp) []
       | none => none)
     | .v (.s (.a (.gsl b off n c d o2))) => if !(off == 0 && d == 0 && o2 == 0 && roomOf mem i.size b n c) then none else if k = 0 then some { val := s, fp := b :: fp, nv } else if (n + k) * i.bytes > 1099511627776 || n + k > 16777216 then none else (match slCells mem i.size s with
       | some (_, old, fp') => growBlock sp id nv i.size (old ++ new) (fp' ++ fp) [b]
       | none => none)
     | _ => none
    | _, _ => none
   | none => none
  | _ => none
 | _, _ => none
def evMake (t : TypeId) (l c : LV) : Option Op1 := match P.underlying t, l, c with
 | some (.slice e), .v (.s (.a (.int _ (.lit l)))), .v (.s (.a (.int _ (.lit c)))) => match P.info? e with
  | some i => match i.zero.map ofVal with
   | some (.v z) => if l < 0 || c < l || c.toNat * i.size > 16777216 || (i.bytes : Int) * c > 1099511627776 || c > 16777216 || z.cells.length ≠ i.size || i.size = 0 then none
    else (newBlock id nv ((List.replicate c.toNat z.cells).flatten)).map fun r => { r with val := .v (.s (.a (.sl id 0 l.toNat c.toNat))) }
   | _ => none
  | none => none
 | _, _, _ => none
def evLoad (t : TypeId) (a : LV) : Option Op1 := match a with
 | .v (.s (.a (.ptr b off))) => match mem b, P.info? t with
  | some cs, some i => if (P.underlying t).isSome then
    if aggT P t then
     if off + i.size ≤ cs.length then (allSome ((cs.drop off).take i.size)).map fun l => { val := .v (.agg l), fp := [b], nv } else none
    else (match cs[off]? with
     | some (some x) => if isRow x then none else some { val := .v (.s x), fp := [b], nv }
     | _ => none)
   else none
  | _, _ => none
 | _ => none
def evStore (t : TypeId) (a x : LV) : Option Op1 := match a, x with
 | .v (.s (.a (.ptr b off))), .v v => match mem b, P.info? t with
  | some cs, some i => if v.cells.length = i.size && off + i.size ≤ cs.length && ((cs.drop off).take i.size).all (fun c => !isRowC c) && v.cells.all (fun s => !isRow s) then some { val := .tup [], fp := [b], upd := [(b, setL cs off v.cells)], nv } else none
  | _, _ => none
 | _, _ => none
def notBad : LV → Bool
 | .bad => false
 | _ => true
def evExt (fn : Func) (args : List LV) : Option Op1 := match args with
 | [.v (.s (.a (.int .u64 (.lit x)))), .v (.s (.a (.int .u64 (.lit y)))), .v (.s (.a (.int .u64 (.lit c))))] =>
  if fn.name == "math/bits.Add64" && (Extern.findNext fn).isNone && 0 ≤ x && 0 ≤ y && 0 ≤ c && c ≤ 1 then
   some { val := .tup [.s (.a (.int .u64 (.lit ((x + y + c) % 18446744073709551616)))), .s (.a (.int .u64 (.lit ((x + y + c) / 18446744073709551616))))], nv } else none
 | _ => none
def evCallTo (f : FuncId) (args : List LV) : Option Op1 := match P.funcs[f]? with
 | some fn => if fn.body.isNone then evExt nv fn args else if !args.all notBad || fn.body.isNone || fn.name == "runtime.NumGoroutine" then none else fLVs args fun args => sub sp f args mem pc nv id
 | none => none
def boundOf (look : Nat → LV) (x : Option Operand) (d : Nat) : Option Nat := match x with
 | none => some d
 | some y => match opnd look y with
  | .v (.s (.a (.int _ (.lit i)))) => if 0 ≤ i then some i.toNat else none
  | _ => none
def decided (dec : List (E × Bool)) : E → Option Bool
 | .blit b => some b
 | e => dec.lookup e
def evOp (dec : List (E × Bool)) (o : Oper) : Option Op1 := match o.op with
 | .move x | .assign x => pureOp nv (opnd look x)
 | .pick c a b => match opnd look c with
  | .v (.s (.a (.bool e))) => match decided dec e with
   | some true => pureOp nv (opnd look a)
   | some false => pureOp nv (opnd look b)
   | none => pureOp nv (LV.merge e (opnd look a) (opnd look b))
  | _ => none
 | .alloc t => match (P.info? t).bind (·.zero) with
  | some z => match ofVal z with
   | .v v => newBlock id nv v.cells
   | _ => none
  | none => none
 | .box t x => match opnd look x with
  | .v v => newBlock id nv v.cells
  | _ => none
 | .build t parts => match (P.info? t).bind (·.zero), P.underlying t, partsOf look parts.toList with
  | some z, some d, some ps => match ofVal z with
   | .v v => (match d with
    | .struct fields => match fillL (fun i => (fields[i]?).bind fun f => (P.info? f.type).map fun n => (f.offset, n.size)) v.cells ps with
     | some cs => if fields.all (fun f => (P.info? f.type).isSome) then some { val := .v (.agg cs), nv } else none
     | none => none
    | .array _ elem => match P.info? elem with
     | some n => (fillL (fun i => some (i * n.size, n.size)) v.cells ps).map fun cs => { val := .v (.agg cs), nv }
     | none => none
    | _ => none)
   | _ => none
  | _, _, _ => none
 | .buildSlice t len parts => match P.underlying t, partsOf look parts.toList with
  | some (.slice elem), some ps => match P.info? elem with
   | some n => match n.zero.map ofVal with
    | some (.v v) => if len * n.size > 2 ^ 24 || len * n.size == 0 || v.cells.length ≠ n.size then none else
     match fillL (fun i => some (i * n.size, n.size)) ((List.replicate len v.cells).flatten) ps with
     | some cs => (newBlock id nv cs).map fun r => { r with val := .v (.s (.a (.sl id 0 len len))) }
     | none => none
    | _ => none
   | none => none
  | _, _ => none
 | .makeSlice t l c => evMake P id nv t (opnd look l) (opnd look c)
 | .load t a => match opnd look a with
  | .v (.s (.a (.fptr i m off x))) => evLoadL P pc nv t i m off x
  | a => evLoad P mem nv t a
 | .store t a x => evStore P mem nv t (opnd look a) (opnd look x)
 | .nilCheck x => match opnd look x with
  | .v (.s (.a (.ptr b off))) => some { val := .v (.s (.a (.ptr b off))), nv }
  | .v (.s (.fn f fi cap)) => some { val := .v (.s (.fn f fi cap)), nv }
  | _ => none
 | .binOp op t x y _ => evBin P pc nv op t (opnd look x) (opnd look y)
 | .unOp op _ x => evUn nv op (opnd look x)
 | .convert src dst x => match P.underlying src, P.underlying dst, opnd look x with
  | some _, some (.int k), .v (.s (.a (.int k' e))) => match e with
   | .lit n => some { val := .v (.s (.a (.int k (.lit (k.wrap n))))), nv }
   | e => if k == k' then some { val := .v (.s (.a (.int k e))), nv, obs := [.req pc (.cmp .eql (.cv k e) e)] } else some { val := .v (.s (.a (.int k (.cv k e)))), nv }
  | _, _, _ => none
 | .makeFunc (.func f) first captured => match avs (first.toList.map (opnd look)), avs (captured.toList.map (opnd look)) with
   | some fi, some cap => some { val := .v (.s (.fn f fi cap)), nv }
   | _, _ => none
 | .fieldAddr s x f => match P.underlying s, opnd look x with
  | some (.struct fields), .v (.s (.a (.ptr b off))) => match fields[f]? with
   | some fd => match P.info? fd.type with
    | some n => if n.size = 0 then none else some { val := .v (.s (.a (.ptr b (off + fd.offset)))), nv }
    | none => none
   | none => none
  | some (.struct fields), .v (.s (.a (.fptr i m off e))) => match fields[f]? with
   | some fd => match P.info? fd.type with
    | some n => if n.size = 0 then none else some { val := .v (.s (.a (.fptr i m (off + fd.offset) e))), nv, obs := .lst i m 0 [] :: inB pc i e }
    | none => none
   | none => none
  | _, _ => none
 | .field s x f => match P.underlying s, opnd look x with
  | some (.struct fields), .v (.agg cs) => match fields[f]? with
   | some fd => (getPart P fd.type cs fd.offset).map fun v => { val := .v v, nv }
   | none => none
  | _, _ => none
 | .indexAddr t x ix => match P.underlying t, opnd look x, opnd look ix with
  | some (.array len elem), .v (.s (.a (.ptr b off))), .v (.s (.a (.int _ (.lit i)))) => match P.info? elem with
   | some n => if 0 ≤ i ∧ i < len then some { val := .v (.s (.a (.ptr b (off + i.toNat * n.size)))), nv } else none
   | none => none
  | some (.slice elem), .v (.s (.a (.sl b off len _))), .v (.s (.a (.int _ (.lit i)))) => match P.info? elem with
   | some n => if 0 ≤ i ∧ i < len then some { val := .v (.s (.a (.ptr b (off + i.toNat * n.size)))), nv } else none
   | none => none
  | some (.slice elem), .v (.s (.a (.gsl b off len _ _ _))), .v (.s (.a (.int _ (.lit i)))) => match P.info? elem with
   | some n => if 0 ≤ i ∧ i < len then some { val := .v (.s (.a (.ptr b (off + i.toNat * n.size)))), nv } else none
   | none => none
  | some (.array len elem), .v (.s (.a (.fptr s m off e))), .v (.s (.a (.int _ (.lit i)))) => match P.info? elem with
   | some n => if 0 ≤ i ∧ i < len then some { val := .v (.s (.a (.fptr s m (off + i.toNat * n.size) e))), nv, obs := .lst s m 0 [] :: inB pc s e } else none
   | none => none
  | some (.slice elem), .v (.s (.a (.fsl i))), .v (.s (.a (.int _ e))) => match P.info? elem with
   | some n => some { val := .v (.s (.a (.fptr i n.size 0 e))), nv, obs := .lst i n.size 0 [] :: inB pc i e }
   | none => none
  | _, _, _ => none
 | .index t x ix => match P.underlying t, opnd look x, opnd look ix with
  | some (.array len elem), .v (.agg cs), .v (.s (.a (.int _ (.lit i)))) => match P.info? elem with
   | some n => if 0 ≤ i ∧ i < len then (getPart P elem cs (i.toNat * n.size)).map fun v => { val := .v v, nv } else none
   | none => none
  | _, _, _ => none
 | .slice t x lo hi mx => if mx.isSome then none else match P.underlying t, opnd look x with
  | some (.array n elem), .v (.s (.a (.ptr b off))) => match P.info? elem, boundOf look hi n, boundOf look lo 0 with
   | some e, some h, some l => if l ≤ h ∧ h ≤ n then some { val := .v (.s (.a (.sl b (if n = l then off else off + l * e.size) (h - l) (n - l)))), nv } else none
   | _, _, _ => none
  | some (.slice elem), .v (.s (.a (.sl b off len cap))) => match P.info? elem, boundOf look hi len, boundOf look lo 0 with
   | some e, some h, some l => if l ≤ h ∧ h ≤ cap then some { val := .v (.s (.a (.sl b (if cap = l then off else off + l * e.size) (h - l) (cap - l)))), nv } else none
   | _, _, _ => none
  | some (.slice elem), .v (.s (.a (.gsl b off len c d o2))) => match P.info? elem, boundOf look hi len, boundOf look lo 0, mem b with
   | some e, some h, some l, some cs => if l ≤ h ∧ h ≤ len ∧ 0 < e.size ∧ (cs.length - 1) % e.size = 0 ∧ (cs[cs.length - 1]? == some (some (.row c e.size))) = true ∧ (d + len) * e.size ≤ cs.length - 1 then
     some { val := .v (.s (.a (.gsl b (off + l * e.size) (h - l) c (d + l) (if l = 0 then o2 else off)))), fp := [b], nv } else none
   | _, _, _, _ => none
  | _, _ => none
 | .extract t i => match opnd look t with
  | .tup vs => (vs[i]?).map fun v => { val := .v v, nv }
  | _ => none
 | .call c => match c.callee with
  | .builtin .len => match c.argTypes[0]?, c.args[0]? with
   | some t, some x => match P.underlying t, opnd look x with
    | some (.slice _), .v (.s (.a (.sl _ _ n _))) => some { val := .v (.s (.a (.int .i64 (.lit n)))), nv }
    | some (.slice _), .v (.s (.a .nils)) => some { val := .v (.s (.a (.int .i64 (.lit 0)))), nv }
    | some (.slice _), .v (.s (.a (.fsl i))) => some { val := .v (.s (.a (.int .i64 (.slen i)))), nv }
    | some (.slice _), .v (.s (.a (.gsl _ _ n _ _ _))) => some { val := .v (.s (.a (.int .i64 (.lit n)))), nv }
    | some (.array n _), .v _ => some { val := .v (.s (.a (.int .i64 (.lit n)))), nv }
    | _, _ => none
   | _, _ => none
  | .builtin .append => evAppend P sp id mem nv c.argTypes (c.args.toList.map (opnd look))
  | .builtin .max => match c.args.toList.map (opnd look) with
   | x :: rest => pureOp nv (foldMM mkMx x rest)
   | [] => none
  | .builtin .min => match c.args.toList.map (opnd look) with
   | x :: rest => pureOp nv (foldMM mkMn x rest)
   | [] => none
  | .value f => match opnd look f with
   | .v (.s (.fn g fi cap)) => evCallTo P sub sp id pc mem nv g ((fi.map fun x => .v (.s (.a x))) ++ (c.args.toList.map (opnd look) ++ cap.map fun x => .v (.s (.a x))))
   | _ => none
  | _ => none
 | _ => none
end
structure Rec where
 dst : Option Nat
 val : LV
 fp : List Nat
 upd : List (Nat × Cells)
 deriving Repr
def St.put (s : St) (dst : Option Nat) (v : LV) : St := match dst with
 | some d => { s with tmps := s.tmps.set d v }
 | none => s
def St.applyK {β : Type} (s : St) (r : Rec) (k : St → β) : β := match s with
 | ⟨t, m, w⟩ => match r.upd with
  | [] => (match r.dst with
   | some d => setK t d r.val fun t => k ⟨t, m, w⟩
   | none => k ⟨t, m, w⟩)
  | u :: us => appK (u :: us) m fun m => fNs (addL ((u :: us).map (·.1)) w) fun w => (match r.dst with
   | some d => setK t d r.val fun t => k ⟨t, m, w⟩
   | none => k ⟨t, m, w⟩)
def St.apply (s : St) (r : Rec) : St := { (s.put r.dst r.val) with mem := r.upd ++ s.mem, wr := addL (r.upd.map (·.1)) s.wr }
inductive Ops
 | done (st : St) (nv : Nat)
 | op (r : Rec) (obs : List Ob) (rest : Ops)
 | fork (e : E) (x y : Ops)
 | none
def Ops.nv : Ops → Nat
 | .done _ n => n
 | .op _ _ rest => rest.nv
 | .fork _ _ y => y.nv
 | .none => 0
def Ops.obs : Ops → List Ob
 | .done _ _ => []
 | .op _ obs rest => obs ++ rest.obs
 | .fork _ x y => x.obs ++ y.obs
 | .none => []
def evOps (P : Program) (sub : Sub) (sp : Nat) (ops : Array Oper) : List Oper → Nat → E → List (E × Bool) → St → Nat → Ops
 | [], _, _, _, st, nv => .done st nv
 | o :: rest, id, pc, dec, st, nv =>
  let run (pc : E) (dec : List (E × Bool)) (nv : Nat) : Ops := match evOp P sub sp id pc st.look st.at nv dec o with
   | some r => fLV r.val fun v => fM r.upd fun u => fNs r.fp fun fp => St.applyK st ⟨o.dst, v, fp, u⟩ fun st' =>
     .op ⟨o.dst, v, fp, u⟩ r.obs (evOps P sub sp ops rest (id + sp) pc dec st' r.nv)
   | none => .none
  let skip (pc : E) (dec : List (E × Bool)) (nv : Nat) : Ops := St.applyK st ⟨o.dst, .tup [], [], []⟩ fun st' => .op ⟨o.dst, .tup [], [], []⟩ [] (evOps P sub sp ops rest (id + sp) pc dec st' nv)
  match o.guard with
  | none => run pc dec nv
  | some (j, want) => match ((ops[j]?).bind (·.dst)).map st.look with
   | some (.v (.s (.a (.bool e0)))) => match decided dec e0 with
    | some b => if b == want then run pc dec nv else skip pc dec nv
    | none => fE (under pc e0) fun e => match e with
     | .blit b => if b == want then run pc dec nv else skip pc dec nv
     | e => fE (mkIf e pc (.blit false)) fun pt => fE (mkIf e (.blit false) pc) fun pf => if want then
      let x := run pt ((e0, true) :: dec) nv
      .fork e x (skip pf ((e0, false) :: dec) x.nv)
     else
      let x := skip pt ((e0, true) :: dec) nv
      .fork e x (run pf ((e0, false) :: dec) x.nv)
   | some (.tup []) => skip pc dec nv
   | _ => .none
def Oper.looks (ops : Array Oper) (o : Oper) : List Nat := Go.Oper.looksAt ops o
def footprint (ops : Array Oper) (o : Oper) (r : Rec) : List Nat :=
 (Oper.looks ops o).map (2 * ·) ++ r.dst.toList.map (2 * ·) ++ r.fp.map (2 * · + 1) ++ r.upd.map (2 * ·.1 + 1)
def changes (r : Rec) : List Nat := r.dst.toList.map (2 * ·) ++ r.upd.map (2 * ·.1 + 1)
def mentions (r : Rec) : List Nat := r.val.ids ++ r.upd.flatMap fun u => Cells.ids u.2
def ownB (base sp i b : Nat) : Bool := base + i * sp ≤ b && b < base + i * sp + sp
def squeeze (k : Nat) : Nat := if k % 2 == 0 then k else 2 * ((k / 2) % 1021) + 1
def maskS (l : List Nat) : Nat := l.foldl (fun m k => m ||| 1 <<< squeeze k) 0
def bmOf (bm : List Nat) (o : Oper) : Nat := o.after.toList.foldl (fun m e => if Region.binds .any e then m ||| (1 <<< e.on) ||| bm.getD e.on 0 else m) 0
def befores (ops : List Oper) : List Nat := ops.foldl (fun acc o => acc ++ [bmOf acc o]) []
def apartFrom (bi : Nat) : Nat → Nat → List Nat → List Nat → Nat → Nat → Nat × Nat
 | j, k + 1, c :: cs, f :: fs, c', f' => if bi.testBit j then apartFrom bi (j + 1) k cs fs c' f' else apartFrom bi (j + 1) k cs fs (c' ||| c) (f' ||| f)
 | _, _, _, _, c', f' => (c', f')
def pairOk (x : Nat × Nat) (c f : Nat) : Bool := x.1 &&& f == 0 && x.2 &&& c == 0
def blockOk (base sp i bi b : Nat) : Bool := b < base || ownB base sp i b || (ownB base sp ((b - base) / sp) b && bi.testBit ((b - base) / sp))
def regionOk (ops : Array Oper) (recs : List Rec) (bs : List Nat) (base sp : Nat) : Bool :=
 let n := ops.size
 recs.length == n && bs.length == n &&
 fNs (recs.map fun r => maskS (changes r)) fun cm => fNs ((ops.toList.zip recs).map fun x => maskS (footprint ops x.1 x.2)) fun fm =>
 (List.range n).all fun i => match ops[i]?, recs[i]? with
  | some o, some r =>
   (match o.op with | .select _ _ => false | _ => true) &&
   fN (bs.getD i 0) fun bi => bi >>> i == 0 && bmOf bs o == bi &&
   (mentions r).all (blockOk base sp i bi) &&
   r.upd.all (fun u => blockOk base sp i bi u.1) &&
   (i == 0 || pairOk (apartFrom bi 0 i cm fm 0 0) (cm.getD i 0) (fm.getD i 0))
  | _, _ => false
structure Res where
 tr : Tr
 nv : Nat
 nid : Nat
 obs : List Ob
 deriving Repr
def gather (k : Ex) : Tr → Option (E × St)
 | .leaf k' s => if k == k' then some (.blit true, s) else none
 | .node c x y => match gather k x, gather k y with
  | some (g, s), some (h, t) => some (mkIf c g h, St.merge c s t)
  | some (g, s), none => some (mkIf c g (.blit false), s)
  | none, some (h, t) => some (mkIf c (.blit false) h, t)
  | none, none => none
def prune (k : Ex) : Tr → Option Tr
 | .leaf k' s => if k == k' then none else some (.leaf k' s)
 | .node c x y => match prune k x, prune k y with
  | some x, some y => some (.node c x y)
  | some x, none => some x
  | none, some y => some y
  | none, none => none
def count (k : Ex) : Tr → Nat
 | .leaf k' _ => if k == k' then 1 else 0
 | .node _ x y => count k x + count k y
def firstLen (k : Ex) : Tr → Option Nat
 | .leaf k' s => if k == k' then some s.tmps.length else none
 | .node _ x y => match firstLen k x with
  | some n => some n
  | none => firstLen k y
def allLen (k : Ex) (n : Nat) : Tr → Bool
 | .leaf k' s => !(k == k') || s.tmps.length == n
 | .node _ x y => allLen k n x && allLen k n y
def norm (k : Ex) (t : Tr) : Tr := if count k t ≤ 1 || !allLen k ((firstLen k t).getD 0) t then t else match gather k t, prune k t with
 | some (_, s), none => fSt s fun s => .leaf k s
 | some (g, s), some t' => fE g fun g => fSt s fun s => .node g (.leaf k s) t'
 | none, _ => t
def unExit (id : Nat) : Tr → Tr
 | .leaf (.exit id') s => if id' = id then .leaf .normal s else .leaf (.exit id') s
 | .leaf k s => .leaf k s
 | .node c x y => .node c (unExit id x) (unExit id y)
def stIds (s : St) : List Nat := s.tmps.flatMap LV.ids ++ s.mem.flatMap fun u => u.1 :: Cells.ids u.2
def recsK {β : Type} : List Rec → List Rec → (List Rec → β) → β
 | [], acc, k => k acc
 | r :: rs, acc, k => recsK rs (r :: acc) k
def flat (ops : Array Oper) (bs : List Nat) (nid sp : Nat) : Ops → List Rec → Option Tr
 | .done st _, acc => if recsK acc [] fun l => regionOk ops l bs nid sp then some (.leaf .normal st) else none
 | .op r _ rest, acc => flat ops bs nid sp rest (r :: acc)
 | .fork e x y, acc => match flat ops bs nid sp x acc, flat ops bs nid sp y acc with
  | some a, some b => some (.node e a b)
  | _, _ => none
 | .none, _ => none
def evRegion (P : Program) (sub : Sub) (sp : Nat) (ops : Array Oper) (st : St) (nid : Nat) (pc : E) (nv : Nat) : Option Res :=
 let t := evOps P sub sp ops ops.toList nid pc [] st nv
 if (stIds st).all (· < nid) then match fNs (befores ops.toList) fun bs => flat ops bs nid sp t [] with
  | some tr => some ⟨tr, t.nv, nid + ops.size * sp, t.obs⟩
  | none => none
 else none
def behind (f : E → St → Nat → Nat → Option Res) : Tr → E → Nat → Nat → Option Res
 | .leaf .normal s, pc, nv, nid => f pc s nv nid
 | .leaf k s, _, nv, nid => some ⟨.leaf k s, nv, nid, []⟩
 | .node c x y, pc, nv, nid => match fE (mkIf c pc (.blit false)) fun pc => behind f x pc nv nid with
  | some r => match fE (mkIf c (.blit false) pc) fun pc => behind f y pc r.nv r.nid with
   | some q => some ⟨.node c r.tr q.tr, q.nv, q.nid, r.obs ++ q.obs⟩
   | none => none
  | none => none
def nameLVs : List LV → List LV × List Ob
 | [] => ([], [])
 | x :: xs => ((nameLV none x).1 :: (nameLVs xs).1, (nameLV none x).2 ++ (nameLVs xs).2)
def nameSt (s : St) : St × List Ob := ({ s with tmps := (nameLVs s.tmps).1, mem := (nameM none s.mem).1 }, (nameLVs s.tmps).2 ++ (nameM none s.mem).2)
def nameK (k : Ex) : Tr → Tr × List Ob
 | .leaf k' s => if k == k' then fSt (nameSt s).1 fun s' => (.leaf k' s', (nameSt s).2) else (.leaf k' s, [])
 | .node c x y => (.node c (nameK k x).1 (nameK k y).1, (nameK k x).2 ++ (nameK k y).2)
def Res.norm (nm : Bool) (k : Ex) (r : Res) : Res :=
 if nm && 2 ≤ count k r.tr then { r with tr := (nameK k (SX.norm k r.tr)).1, obs := r.obs ++ (nameK k (SX.norm k r.tr)).2 }
 else { r with tr := SX.norm k r.tr }
def toRet : Tr → Tr
 | .leaf .normal s => .leaf .ret s
 | .leaf k s => .leaf k s
 | .node c x y => .node c (toRet x) (toRet y)
def resultsOf (P : Program) (s : St) : List ResultVar → Option (List V1)
 | [] => some []
 | .tmp t :: rest => match s.look t, resultsOf P s rest with
  | .v v, some vs => some (v :: vs)
  | _, _ => none
 | .cell a t :: rest => match evLoad P s.at 0 t (s.look a), resultsOf P s rest with
  | some { val := .v v, .. }, some vs => some (v :: vs)
  | _, _ => none
def domT (nid : Nat) : Tr → Bool
 | .leaf _ s => s.mem.all fun u => decide (u.1 < nid)
 | .node _ x y => domT nid x && domT nid y
def child : Code → Nat → Option Code
 | .seq a b, d => if d = 0 then some a else if d = 1 then some b else none
 | .cond _ a b, d => if d = 0 then some a else if d = 1 then some b else none
 | .block _ b, d => if d = 0 then some b else none
 | .loop b, d => if d = 0 then some b else none
 | .scope b, d => if d = 0 then some b else none
 | _, _ => none
def codeAt (P : Program) : Way → Option Code
 | [] => none
 | [f] => (P.funcs[f]?).bind (·.body)
 | d :: rest => (codeAt P rest).bind fun c => child c d
mutual
def evCode (P : Program) (K : Cfg) : Nat → Bool → Nat → Way → Code → E → St → Nat → Nat → Option Res
 | 0, _, _, _, _, _, _, _, _ => none
 | n + 1, nm, sp, wy, c, pc, st, nv, nid => match c with
  | .skip => some ⟨.leaf .normal st, nv, nid, []⟩
  | .label _ => some ⟨.leaf .normal st, nv, nid, []⟩
  | .region _ ops _ => (evRegion P (evSub P K n) sp ops st nid pc nv).map (Res.norm nm .normal)
  | .seq a b => match evCode P K n nm sp (0 :: wy) a pc st nv nid with
   | some r => match behind (fun pc s nv nid => evCode P K n nm sp (1 :: wy) b pc s nv nid) r.tr pc r.nv r.nid with
    | some q => some (Res.norm nm .normal { q with obs := r.obs ++ q.obs })
    | none => none
   | none => none
  | .cond c a b => match opnd st.look c with
   | .v (.s (.a (.bool e0))) => fE (under pc e0) fun e => match e with
    | .blit true => evCode P K n nm sp (0 :: wy) a pc st nv nid
    | .blit false => evCode P K n nm sp (1 :: wy) b pc st nv nid
    | e => match fE (mkIf e pc (.blit false)) fun pc => evCode P K n nm sp (0 :: wy) a pc st nv nid with
     | some r => match fE (mkIf e (.blit false) pc) fun pc => evCode P K n nm sp (1 :: wy) b pc st r.nv r.nid with
      | some q => some (Res.norm nm .normal ⟨.node e r.tr q.tr, q.nv, q.nid, r.obs ++ q.obs⟩)
      | none => none
     | none => none
   | _ => none
  | .block id body => (evCode P K n nm sp (0 :: wy) body pc st nv nid).map fun r => Res.norm nm .normal { r with tr := unExit id r.tr }
  | .loop body => match K.lp wy st with
   | some (s, ins, tr) => fLVs ins fun ins => fTr tr fun tr => if domT nid tr then some ⟨tr, nv, nid, [.loop s ins wy pc st nid tr]⟩ else none
   | none => evLoop P K n nm sp (0 :: wy) body pc st nv nid
  | .exit id => some ⟨.leaf (.exit id) st, nv, nid, []⟩
  | .ret => some ⟨.leaf .ret st, nv, nid, []⟩
  | .scope body => evCode P K n nm sp (0 :: wy) body pc st nv nid
  | _ => none
def evLoop (P : Program) (K : Cfg) : Nat → Bool → Nat → Way → Code → E → St → Nat → Nat → Option Res
 | 0, _, _, _, _, _, _, _, _ => none
 | n + 1, nm, sp, wy, c, pc, st, nv, nid => match evCode P K n nm sp wy c pc st nv nid with
  | some r => match behind (fun pc s nv nid => evLoop P K n nm sp wy c pc s nv nid) r.tr pc r.nv r.nid with
   | some q => some { q with obs := r.obs ++ q.obs }
   | none => none
  | none => none
def evFn (P : Program) (K : Cfg) : Nat → Nat → FuncId → List LV → List (Nat × Cells) → E → Nat → Nat → Option (LV × St × Nat × List Ob)
 | 0, _, _, _, _, _, _, _ => none
 | n + 1, sp, f, args, mem, pc, nv, nid => match P.funcs[f]? with
  | none => none
  | some fn => match fn.body with
   | none => none
   | some c => match evCode P K n (K.cut f) sp [f] c pc ⟨args ++ List.replicate (fn.ntmps - args.length) (.tup []), mem, []⟩ nv nid with
    | none => none
    | some r => match norm .ret (toRet r.tr) with
     | .leaf .ret s => match resultsOf P s fn.results.toList with
      | some [v] => some (.v v, s, r.nv, r.obs)
      | some vs => some (.tup vs, s, r.nv, r.obs)
      | none => none
     | _ => none
def evSub (P : Program) (K : Cfg) : Nat → Sub
 | 0, _, _, _, _, _, _, _ => none
 | n + 1, sp, f, args, mem, pc, nv, id =>
  fNs (reach mem 100 (args.flatMap LV.ids) []) fun bs =>
  if K.inl f then
   if sp / 1048576 == 0 then none else
   match fM (bs.filterMap fun b => (mem b).map fun c => (b, c)) fun m => evFn P K n (sp / 1048576) f args m pc nv id with
   | none => none
   | some (v, s, nv', obs) =>
    fLV v fun v =>
    fNs (bs.filter s.wr.contains) fun old =>
    fNs ((reach s.at 100 (v.ids ++ old.flatMap fun b => Cells.ids ((s.at b).getD [])) []).filter fun b => !bs.contains b) fun new =>
    fM ((old.map fun b => (b, (s.at b).getD [])) ++ new.filterMap fun b => (s.at b).map fun c => (b, c)) fun upd =>
    if bs.all (· < id) && new.all (fun b => id ≤ b && b < id + sp) && args.all notBad && v.ids.all (· < id + sp) && upd.all (fun u => (Cells.ids u.2).all (· < id + sp)) then
     if K.cut f then some { val := (nameLV (errOf v upd) v).1, fp := bs, upd := (nameM (errOf v upd) upd).1, nv := nv', obs := obs ++ (nameLV (errOf v upd) v).2 ++ (nameM (errOf v upd) upd).2 }
     else some { val := v, fp := bs, upd, nv := nv', obs }
    else none
  else if bs.all (· < id) && args.all notBad then
   fM (bs.filterMap fun b => (mem b).map fun c => (b, c)) fun m =>
   match K.res f args m with
   | some (v, upd) => fLV v fun v => fM upd fun upd => if notBad v && upd.all (fun u => bs.contains u.1) then some { val := underLV pc v, fp := bs, upd, nv, obs := [.call (.blit true) f args m v upd] } else none
   | none => none
  else none
end
end SX
end
section
namespace SX
variable {ε : Env} {ρ ρ' : Nat → Nat}
theorem mkAr_den (op : AO) (k : IntKind) (x y : E) : ((mkAr op k x y).den ε).1 = op.den k (x.den ε).1 (y.den ε).1 := by
 unfold mkAr; split <;> simp [E.den]
theorem asB_den (c : E) (b : Bool) (hc : (c.den ε).2 = b) : ∀ x : E, ((asB c b x).den ε).2 = (x.den ε).2
 | .ite d x y => by
  have hx := asB_den c b hc x
  have hy := asB_den c b hc y
  unfold asB
  split
  ·rename_i h; rw [eq_of_beq h]
   cases b
   ·simp only [Bool.false_eq_true, if_false, hy, E.den, hc]
   ·simp only [if_true, hx, E.den, hc]
  ·split
   ·rename_i h; have e := eq_of_beq h
    simp only [E.den, hx]
    rw [← e, hx] at hy
    rw [← hy]; split <;> rfl
   ·simp only [E.den, hx, hy]
 | .lit _ => by unfold asB; split <;> rename_i h <;> first | (rw [eq_of_beq h]; simp [E.den, hc]) | rfl
 | .var _ => by unfold asB; split <;> rename_i h <;> first | (rw [eq_of_beq h]; simp [E.den, hc]) | rfl
 | .slen _ | .el _ _ _ _ => by unfold asB; split <;> rename_i h <;> first | (rw [eq_of_beq h]; simp [E.den, hc]) | rfl
 | .ar _ _ _ _ => by unfold asB; split <;> rename_i h <;> first | (rw [eq_of_beq h]; simp [E.den, hc]) | rfl
 | .cv _ _ => by unfold asB; split <;> rename_i h <;> first | (rw [eq_of_beq h]; simp [E.den, hc]) | rfl
 | .mx _ _ => by unfold asB; split <;> rename_i h <;> first | (rw [eq_of_beq h]; simp [E.den, hc]) | rfl
 | .mn _ _ => by unfold asB; split <;> rename_i h <;> first | (rw [eq_of_beq h]; simp [E.den, hc]) | rfl
 | .blit _ => by unfold asB; split <;> rename_i h <;> first | (rw [eq_of_beq h]; simp [E.den, hc]) | rfl
 | .bvar _ => by unfold asB; split <;> rename_i h <;> first | (rw [eq_of_beq h]; simp [E.den, hc]) | rfl
 | .cmp _ _ _ => by unfold asB; split <;> rename_i h <;> first | (rw [eq_of_beq h]; simp [E.den, hc]) | rfl
 | .not x => by
  have hx := asB_den c b hc x
  unfold asB
  split
  ·rename_i h; rw [eq_of_beq h]; simp [E.den, hc]
  ·unfold notB
   split
   ·rename_i h; rw [h] at hx; simp only [E.den] at hx ⊢; rw [hx]
   ·simp only [E.den, hx]
 | .same _ _ => by unfold asB; split <;> rename_i h <;> first | (rw [eq_of_beq h]; simp [E.den, hc]) | rfl
theorem asI_den (c : E) (b : Bool) (hc : (c.den ε).2 = b) : ∀ x : E, ((asI c b x).den ε).1 = (x.den ε).1
 | .ite d x y => by
  have hx := asI_den c b hc x
  have hy := asI_den c b hc y
  unfold asI
  split
  ·rename_i h; rw [eq_of_beq h]
   cases b
   ·simp only [Bool.false_eq_true, if_false, hy, E.den, hc]
   ·simp only [if_true, hx, E.den, hc]
  ·split
   ·rename_i h; have e := eq_of_beq h
    simp only [E.den, hx]
    rw [← e, hx] at hy
    rw [← hy]; split <;> rfl
   ·simp only [E.den, hx, hy]
 | .lit _ | .var _ | .slen _ | .el _ _ _ _ | .ar _ _ _ _ | .cv _ _ | .mx _ _ | .mn _ _ | .blit _ | .bvar _ | .cmp _ _ _ | .not _ | .same _ _ => rfl
theorem mkNot_den : ∀ (x : E), ((mkNot x).den ε).2 = !(x.den ε).2
 | .ite d p q => by
  unfold mkNot
  simp only [E.den, mkNot_den p, mkNot_den q]
  split <;> rfl
 | .blit _ | .not _ | .lit _ | .var _ | .slen _ | .el _ _ _ _ | .ar _ _ _ _ | .cv _ _ | .mx _ _ | .mn _ _ | .bvar _ | .cmp _ _ _ | .same _ _ => by
  unfold mkNot; simp [E.den]
theorem ifB_den (c x y : E) : ((ifB c x y).den ε).2 = if (c.den ε).2 then (x.den ε).2 else (y.den ε).2 := by
 unfold ifB
 split
 ·rename_i h; rw [eq_of_beq h]; simp
 ·split
  ·simp [E.den]
  ·rw [mkNot_den]; simp [E.den]
  ·simp [E.den]
theorem ifB_as (c x y : E) : ((ifB c (asB c true x) (asB c false y)).den ε).2 = if (c.den ε).2 then (x.den ε).2 else (y.den ε).2 := by
 rw [ifB_den]
 cases hc : (c.den ε).2
 ·simp only [Bool.false_eq_true, if_false]; exact asB_den c false hc y
 ·simp only [if_true]; exact asB_den c true hc x
theorem mkIf_den : ∀ (c x y : E), ((mkIf c x y).den ε).2 = if (c.den ε).2 then (x.den ε).2 else (y.den ε).2
 | .blit b, x, y => by unfold mkIf; cases b <;> simp [E.den]
 | .not d, x, y => by
  unfold mkIf; rw [mkIf_den d y x]
  simp only [E.den]; by_cases hd : (d.den ε).2 = true <;> simp [hd]
 | .ite d p q, x, y => by
  unfold mkIf
  split
  ·rw [mkIf_den d, mkIf_den p, mkIf_den q]
   simp only [E.den]
   by_cases hd : (d.den ε).2 = true <;> simp [hd]
  ·exact ifB_as _ x y
 | .lit _, x, y | .var _, x, y | .slen _, x, y | .el _ _ _ _, x, y | .ar _ _ _ _, x, y | .cv _ _, x, y | .mx _ _, x, y | .mn _ _, x, y | .bvar _, x, y | .cmp _ _ _, x, y | .same _ _, x, y => by
  unfold mkIf; exact ifB_as _ x y
theorem iteI_den (c x y : E) : ((iteI c x y).den ε).1 = if (c.den ε).2 then (x.den ε).1 else (y.den ε).1 := by
 unfold iteI
 split
 ·rename_i h; rw [eq_of_beq h]; simp
 ·simp [E.den]
theorem iteI_as (c x y : E) : ((iteI c (asI c true x) (asI c false y)).den ε).1 = if (c.den ε).2 then (x.den ε).1 else (y.den ε).1 := by
 rw [iteI_den]
 cases hc : (c.den ε).2
 ·simp only [Bool.false_eq_true, if_false]; exact asI_den c false hc y
 ·simp only [if_true]; exact asI_den c true hc x
theorem mkIte_den : ∀ (c x y : E), ((mkIte c x y).den ε).1 = if (c.den ε).2 then (x.den ε).1 else (y.den ε).1
 | .blit b, x, y => by unfold mkIte; cases b <;> simp [E.den]
 | .not d, x, y => by
  unfold mkIte; rw [mkIte_den d y x]
  simp only [E.den]; by_cases hd : (d.den ε).2 = true <;> simp [hd]
 | .ite d p q, x, y => by
  unfold mkIte
  split
  ·rw [mkIte_den d, mkIte_den p, mkIte_den q]
   simp only [E.den]
   by_cases hd : (d.den ε).2 = true <;> simp [hd]
  ·exact iteI_as _ x y
 | .lit _, x, y | .var _, x, y | .slen _, x, y | .el _ _ _ _, x, y | .ar _ _ _ _, x, y | .cv _ _, x, y | .mx _ _, x, y | .mn _ _, x, y | .bvar _, x, y | .cmp _ _ _, x, y | .same _ _, x, y => by
  unfold mkIte; exact iteI_as _ x y
theorem mkEq_den : ∀ (n : Nat) (x y : E), ((mkEq n x y).den ε).2 = ((x.den ε).1 == (y.den ε).1)
 | 0, x, y => rfl
 | n + 1, x, y => by
  unfold mkEq
  split
  ·rename_i h; rw [eq_of_beq h]; simp [E.den]
  ·split
   ·rfl
   ·rename_i c p q _
    rw [mkIf_den, mkEq_den n, mkEq_den n]
    simp only [E.den]
    by_cases hc : (c.den ε).2 = true
    ·rw [if_pos hc, if_pos hc, asI_den c true hc]
    ·rw [if_neg hc, if_neg hc, asI_den c false (by simpa using hc)]
   ·rename_i c p q _ _
    rw [mkIf_den, mkEq_den n, mkEq_den n]
    simp only [E.den]
    by_cases hc : (c.den ε).2 = true
    ·rw [if_pos hc, if_pos hc, asI_den c true hc]
    ·rw [if_neg hc, if_neg hc, asI_den c false (by simpa using hc)]
   ·simp only [E.den, CO.den]
    exact Bool.beq_comm
   ·rfl
theorem mkLs_den (x y : E) : ((mkLs x y).den ε).2 = decide ((x.den ε).1 < (y.den ε).1) := by
 unfold mkLs; split <;> first | rfl | simp [E.den, CO.den]
theorem mkCmp_den (op : CO) (x y : E) : ((mkCmp op x y).den ε).2 = op.den (x.den ε).1 (y.den ε).1 := by
 unfold mkCmp
 cases op <;> simp only [mkNot_den, mkEq_den, mkLs_den, CO.den]
 ·rfl
 ·rw [← decide_not, decide_eq_decide]; omega
 ·rw [← decide_not, decide_eq_decide]; omega
theorem mkMx_den (x y : E) : ((mkMx x y).den ε).1 = if (y.den ε).1 > (x.den ε).1 then (y.den ε).1 else (x.den ε).1 := by
 unfold mkMx; split <;> rfl
theorem mkMn_den (x y : E) : ((mkMn x y).den ε).1 = if (y.den ε).1 < (x.den ε).1 then (y.den ε).1 else (x.den ε).1 := by
 unfold mkMn; split <;> rfl
theorem mkSame_den (x y : E) : ((mkSame x y).den ε).2 = ((x.den ε).2 == (y.den ε).2) := by
 unfold mkSame; rw [mkIf_den, mkNot_den]
 cases (x.den ε).2 <;> cases (y.den ε).2 <;> rfl
theorem known_atom {pc e : E} {b : Bool} (h : (if pc == e then some true else none) = some b) (hp : (pc.den ε).2 = true) : (e.den ε).2 = b := by
 split at h
 ·rename_i he; cases h; rw [← eq_of_beq he]; exact hp
 ·cases h
theorem known_spec : ∀ {pc e : E} {b : Bool}, known pc e = some b → (pc.den ε).2 = true → (e.den ε).2 = b := by
 intro pc
 induction pc with
 | ite c x y ihc ihx ihy =>
  intro e b h hp
  simp only [E.den] at hp
  unfold known at h
  split at h
  ·rename_i heq
   cases heq
   have hc : (c.den ε).2 = true := by
    cases hc : (c.den ε).2
    ·rw [hc] at hp; simp [E.den] at hp
    ·rfl
   rw [hc, if_pos rfl] at hp
   split at h
   ·rename_i he; cases h; rw [← eq_of_beq he]; exact hc
   ·exact ihx h hp
  ·rename_i heq
   cases heq
   have hc : (c.den ε).2 = false := by
    cases hc : (c.den ε).2
    ·rfl
    ·rw [hc] at hp; simp [E.den] at hp
   rw [hc, if_neg (by simp)] at hp
   split at h
   ·rename_i he; cases h; rw [← eq_of_beq he]; exact hc
   ·exact ihy h hp
  ·rename_i heq; cases heq
  ·exact known_atom h (by simpa only [E.den] using hp)
 | not c ih =>
  intro e b h hp
  unfold known at h
  simp only [E.den, Bool.not_eq_true'] at hp
  split at h
  ·rename_i he; cases h; rw [← eq_of_beq he]; exact hp
  ·cases h
 | _ => intro e b h hp; exact known_atom h hp
theorem under_atom {pc e : E} (hp : (pc.den ε).2 = true) : ((match known pc e with | some b => E.blit b | none => e).den ε).2 = (e.den ε).2 := by
 split
 ·rename_i b hb; simp only [E.den]; exact (known_spec hb hp).symm
 ·rfl
theorem under_den {pc : E} (hp : (pc.den ε).2 = true) : ∀ x : E, ((under pc x).den ε).2 = (x.den ε).2 := by
 intro x
 induction x with
 | ite d x y ihd ihx ihy =>
  unfold under
  split
  ·rename_i h; simp only [E.den, known_spec h hp, if_true, ihx]
  ·rename_i h; simp only [E.den, known_spec h hp, Bool.false_eq_true, if_false, ihy]
  ·rw [mkIf_den, ihx, ihy]; simp only [E.den]
 | not x ih => unfold under; rw [mkNot_den, ih]; rfl
 | _ => exact under_atom hp
theorem AV.den_congr {x : AV} (h : ∀ b ∈ x.ids, ρ b = ρ' b) : x.den ε ρ = x.den ε ρ' := by
 cases x <;> simp_all [AV.den, AV.ids]
theorem SV.den_congr {x : SV} (h : ∀ b ∈ x.ids, ρ b = ρ' b) : x.den ε ρ = x.den ε ρ' := by
 cases x with
 | a x => exact AV.den_congr h
 | fn f fi cap =>
  simp only [SV.den]
  rw [List.map_congr_left (l := fi) fun y hy => AV.den_congr fun b hb => h b (List.mem_append_left _ (List.mem_flatMap.2 ⟨y, hy, hb⟩)), List.map_congr_left (l := cap) fun y hy => AV.den_congr fun b hb => h b (List.mem_append_right _ (List.mem_flatMap.2 ⟨y, hy, hb⟩))]
 | nilf => rfl
 | row c m => rfl
theorem V1.den_congr {x : V1} (h : ∀ b ∈ x.ids, ρ b = ρ' b) : x.den ε ρ = x.den ε ρ' := by
 cases x with
 | s x => exact SV.den_congr h
 | agg l =>
  simp only [V1.den]
  rw [List.map_congr_left fun y hy => SV.den_congr fun b hb => h b (List.mem_flatMap.2 ⟨y, hy, hb⟩)]
theorem LV.den_congr {x : LV} (h : ∀ b ∈ x.ids, ρ b = ρ' b) : x.den ε ρ = x.den ε ρ' := by
 cases x with
 | v x => exact V1.den_congr h
 | tup l =>
  simp only [LV.den]
  rw [List.map_congr_left fun y hy => V1.den_congr fun b hb => h b (List.mem_flatMap.2 ⟨y, hy, hb⟩)]
 | bad => rfl
theorem AV.merge_den {c : E} {x y z : AV} (h : AV.merge c x y = some z) : z.den ε ρ = if (c.den ε).2 then x.den ε ρ else y.den ε ρ := by
 unfold AV.merge at h
 split at h
 ·rename_i he; cases h; rw [eq_of_beq he]; simp
 ·split at h
  ·split at h
   ·rename_i hk; cases h; rw [eq_of_beq hk]; simp only [AV.den, mkIte_den]; split <;> rfl
   ·cases h
  ·cases h; simp only [AV.den, mkIf_den]; split <;> rfl
  ·cases h
theorem SV.merge_den {c : E} {x y z : SV} (h : SV.merge c x y = some z) : z.den ε ρ = if (c.den ε).2 then x.den ε ρ else y.den ε ρ := by
 unfold SV.merge at h
 split at h
 ·rename_i he; cases h; rw [eq_of_beq he]; simp
 ·split at h
  ·obtain ⟨w, hw, rfl⟩ := Option.map_eq_some_iff.1 h
   simp only [SV.den]; exact AV.merge_den hw
  ·cases h
theorem mergeL_den {c : E} : ∀ {x y z : List SV}, mergeL c x y = some z → z.map (SV.den ε ρ) = if (c.den ε).2 then x.map (SV.den ε ρ) else y.map (SV.den ε ρ)
 | [], [], z, h => by simp [mergeL] at h; subst h; simp
 | x :: xs, y :: ys, z, h => by
  simp only [mergeL] at h
  split at h
  ·rename_i a as h1 h2
   cases h
   simp only [List.map_cons, SV.merge_den h1, mergeL_den h2]
   split <;> rfl
  ·cases h
 | [], _ :: _, _, h => by simp [mergeL] at h
 | _ :: _, [], _, h => by simp [mergeL] at h
theorem V1.merge_den {c : E} {x y z : V1} (h : V1.merge c x y = some z) : z.den ε ρ = if (c.den ε).2 then x.den ε ρ else y.den ε ρ := by
 unfold V1.merge at h
 split at h
 ·obtain ⟨w, hw, rfl⟩ := Option.map_eq_some_iff.1 h
  simp only [V1.den]; exact SV.merge_den hw
 ·obtain ⟨w, hw, rfl⟩ := Option.map_eq_some_iff.1 h
  simp only [V1.den, mergeL_den hw]; split <;> rfl
 ·cases h
theorem mergeT_den {c : E} : ∀ {x y z : List V1}, mergeT c x y = some z → z.map (V1.den ε ρ) = if (c.den ε).2 then x.map (V1.den ε ρ) else y.map (V1.den ε ρ)
 | [], [], z, h => by simp [mergeT] at h; subst h; simp
 | x :: xs, y :: ys, z, h => by
  simp only [mergeT] at h
  split at h
  ·rename_i a as h1 h2
   cases h
   simp only [List.map_cons, V1.merge_den h1, mergeT_den h2]
   split <;> rfl
  ·cases h
 | [], _ :: _, _, h => by simp [mergeT] at h
 | _ :: _, [], _, h => by simp [mergeT] at h
theorem underI_den {pc : E} (hp : (pc.den ε).2 = true) : ∀ x : E, ((underI pc x).den ε).1 = (x.den ε).1 := by
 intro x
 induction x with
 | ite d x y ihd ihx ihy =>
  unfold underI
  split
  ·rename_i h; simp only [E.den, known_spec h hp, if_true, ihx]
  ·rename_i h; simp only [E.den, known_spec h hp, Bool.false_eq_true, if_false, ihy]
  ·rw [mkIte_den, ihx, ihy]; simp only [E.den]
 | _ => rfl
theorem underSV_den {pc : E} (hp : (pc.den ε).2 = true) (x : SV) : (underSV pc x).den ε ρ = x.den ε ρ := by
 unfold underSV
 split
 ·simp only [SV.den, AV.den, underI_den hp]
 ·simp only [SV.den, AV.den, under_den hp]
 ·rfl
theorem underV1_den {pc : E} (hp : (pc.den ε).2 = true) (x : V1) : (underV1 pc x).den ε ρ = x.den ε ρ := by
 cases x with
 | s x => exact underSV_den hp x
 | agg l =>
  simp only [underV1, V1.den, List.map_map]
  rw [show SV.den ε ρ ∘ underSV pc = SV.den ε ρ from funext fun y => underSV_den hp y]
theorem underLV_den {pc : E} (hp : (pc.den ε).2 = true) (x : LV) : (underLV pc x).den ε ρ = x.den ε ρ := by
 cases x with
 | v x => exact underV1_den hp x
 | tup l =>
  simp only [underLV, LV.den, List.map_map]
  rw [show V1.den ε ρ ∘ underV1 pc = V1.den ε ρ from funext fun y => underV1_den hp y]
 | bad => rfl
section
variable {β : Type}
theorem fN_eq (n : Nat) (k : Nat → β) : fN n k = k n := by cases n <;> rfl
theorem fZ_eq (n : Int) (k : Int → β) : fZ n k = k n := by cases n <;> simp only [fZ, fN_eq]
theorem fB_eq (b : Bool) (k : Bool → β) : fB b k = k b := by cases b <;> rfl
theorem fE_eq : ∀ (e : E) (k : E → β), fE e k = k e := by
 intro e
 induction e with
 | lit n => intro k; simp only [fE, fZ_eq]
 | var i => intro k; simp only [fE, fN_eq]
 | slen i => intro k; simp only [fE, fN_eq]
 | el i m o x ih => intro k; simp only [fE, fN_eq, ih]
 | ar op q x y hx hy => intro k; simp only [fE, hx, hy]
 | cv q x hx => intro k; simp only [fE, hx]
 | mx x y hx hy => intro k; simp only [fE, hx, hy]
 | mn x y hx hy => intro k; simp only [fE, hx, hy]
 | ite c x y hc hx hy => intro k; simp only [fE, hc, hx, hy]
 | blit b => intro k; simp only [fE, fB_eq]
 | bvar i => intro k; simp only [fE, fN_eq]
 | cmp op x y hx hy => intro k; simp only [fE, hx, hy]
 | not x hx => intro k; simp only [fE, hx]
 | same x y hx hy => intro k; simp only [fE, hx, hy]
theorem fNs_eq : ∀ (l : List Nat) (k : List Nat → β), fNs l k = k l
 | [], k => rfl
 | x :: xs, k => by simp only [fNs, fN_eq, fNs_eq xs]
theorem fAV_eq (x : AV) (k : AV → β) : fAV x k = k x := by cases x <;> simp only [fAV, fE_eq, fN_eq]
theorem fAVs_eq : ∀ (l : List AV) (k : List AV → β), fAVs l k = k l
 | [], k => rfl
 | x :: xs, k => by simp only [fAVs, fAV_eq, fAVs_eq xs]
theorem fSV_eq (x : SV) (k : SV → β) : fSV x k = k x := by cases x <;> simp only [fSV, fAV_eq, fN_eq, fAVs_eq]
theorem fSVs_eq : ∀ (l : List SV) (k : List SV → β), fSVs l k = k l
 | [], k => rfl
 | x :: xs, k => by simp only [fSVs, fSV_eq, fSVs_eq xs]
theorem fV1_eq (x : V1) (k : V1 → β) : fV1 x k = k x := by cases x <;> simp only [fV1, fSV_eq, fSVs_eq]
theorem fV1s_eq : ∀ (l : List V1) (k : List V1 → β), fV1s l k = k l
 | [], k => rfl
 | x :: xs, k => by simp only [fV1s, fV1_eq, fV1s_eq xs]
theorem fLV_eq (x : LV) (k : LV → β) : fLV x k = k x := by cases x <;> simp only [fLV, fV1_eq, fV1s_eq]
theorem fLVs_eq : ∀ (l : List LV) (k : List LV → β), fLVs l k = k l
 | [], k => rfl
 | x :: xs, k => by simp only [fLVs, fLV_eq, fLVs_eq xs]
theorem fC_eq : ∀ (l : Cells) (k : Cells → β), fC l k = k l
 | [], k => rfl
 | some x :: xs, k => by simp only [fC, fSV_eq, fC_eq xs]
 | none :: xs, k => by simp only [fC, fC_eq xs]
theorem fM_eq : ∀ (l : List (Nat × Cells)) (k : List (Nat × Cells) → β), fM l k = k l
 | [], k => rfl
 | (b, c) :: xs, k => by simp only [fM, fN_eq, fC_eq, fM_eq xs]
theorem fSt_eq (s : St) (k : St → β) : fSt s k = k s := by cases s; simp only [fSt, fLVs_eq, fM_eq, fNs_eq]
theorem fTr_eq : ∀ (x : Tr) (k : Tr → β), fTr x k = k x
 | .leaf e s, k => by simp only [fTr, fSt_eq]
 | .node c x y, k => by simp only [fTr, fE_eq, fTr_eq x, fTr_eq y]
theorem setK_eq : ∀ (l : List LV) (d : Nat) (v : LV) (k : List LV → β), setK l d v k = k (l.set d v)
 | [], d, v, k => by simp [setK]
 | _ :: xs, 0, v, k => rfl
 | x :: xs, d + 1, v, k => by simp only [setK, setK_eq xs, List.set_cons_succ]
theorem appK_eq {α : Type} : ∀ (l m : List α) (k : List α → β), appK l m k = k (l ++ m)
 | [], [], k => rfl
 | [], _ :: _, k => rfl
 | x :: xs, m, k => by simp only [appK, appK_eq xs, List.cons_append]
theorem recsK_eq : ∀ (l acc : List Rec) (k : List Rec → β), recsK l acc k = k (l.reverse ++ acc)
 | [], acc, k => rfl
 | r :: rs, acc, k => by simp only [recsK, recsK_eq rs, List.reverse_cons, List.append_assoc, List.cons_append, List.nil_append]
theorem applyK_eq (s : St) (r : Rec) (k : St → β) : St.applyK s r k = k (s.apply r) := by
 obtain ⟨t, m, w⟩ := s
 obtain ⟨dst, val, fp, upd⟩ := r
 unfold St.applyK St.apply St.put
 cases upd with
 | nil => cases dst <;> simp [setK_eq, addL]
 | cons u us => cases dst <;> simp [setK_eq, appK_eq, fNs_eq]
end
def Ob.nm (ε : Env) : Ob → Prop
 | .eq v e => (e.den ε).1 = ε.i v
 | .eqb v e => (e.den ε).2 = ε.b v
 | _ => True
theorem nameI_den {e : E} (h : ∀ ob ∈ (nameI e).2, ob.nm ε) : ((nameI e).1.den ε).1 = (e.den ε).1 := by
 unfold nameI at h ⊢
 split
 ·rfl
 ·rename_i hn
  rw [if_neg hn] at h
  exact (h _ (List.mem_singleton.2 rfl)).symm
theorem nameB_den {e : E} (h : ∀ ob ∈ (nameB e).2, ob.nm ε) : ((nameB e).1.den ε).2 = (e.den ε).2 := by
 unfold nameB at h ⊢
 split at h
 ·rename_i h1; simp only [h1]
 ·rename_i h1
  simp only [h1]
  exact (h _ (List.mem_singleton.2 rfl)).symm
theorem nameSV_den {o : Option E} {x : SV} (h : ∀ ob ∈ (nameSV o x).2, ob.nm ε) : (nameSV o x).1.den ε ρ = x.den ε ρ ∧ (nameSV o x).1.ids = x.ids := by
 have base : ∀ (k : IntKind) (x : E), (∀ ob ∈ (nameI x).2, ob.nm ε) → (SV.a (.int k (nameI x).1)).den ε ρ = (SV.a (.int k x)).den ε ρ ∧ (SV.a (.int k (nameI x).1)).ids = (SV.a (.int k x)).ids := fun k x h =>
  ⟨by simp only [SV.den, AV.den, nameI_den h], rfl⟩
 unfold nameSV at h ⊢
 split
 ·rename_i k x
  split
  ·exact base k x h
  ·rename_i e
   dsimp only at h
   split
   ·exact ⟨rfl, rfl⟩
   ·rename_i hf
    rw [if_neg hf] at h
    split
    ·rename_i hm
     rw [if_pos hm] at h
     refine ⟨?_, rfl⟩
     have h1 := nameI_den (ε := ε) (e := e) fun ob hb => h ob (List.mem_append_left _ hb)
     have h2 : (x.den ε).1 = ε.i (top + x.h) := h _ (List.mem_append_right _ (List.mem_singleton.2 rfl))
     have h3 := congrArg (fun x => (E.den ε x).1) (eq_of_beq hm)
     simp only [mkIte_den, mkEq_den] at h3
     have key : ((E.ite (.cmp .eql (nameI e).1 (.lit 0)) (.var (top + x.h)) (.lit 0)).den ε).1 = (x.den ε).1 := by
      rw [← h3]
      simp only [E.den, CO.den, h1]
      rw [← h2]
      rfl
     simp only [SV.den, AV.den, key]
    ·rename_i hm
     rw [if_neg hm] at h
     exact base _ _ h
 ·rename_i e
  exact ⟨by simp only [SV.den, AV.den, nameB_den h], rfl⟩
 ·exact ⟨rfl, rfl⟩
theorem nameSVs_den {o : Option E} : ∀ {l : List SV}, (∀ ob ∈ (nameSVs o l).2, ob.nm ε) → (nameSVs o l).1.map (SV.den ε ρ) = l.map (SV.den ε ρ) ∧ (nameSVs o l).1.flatMap SV.ids = l.flatMap SV.ids
 | [], _ => ⟨rfl, rfl⟩
 | x :: xs, h => by
  obtain ⟨a, b⟩ := nameSV_den (ρ := ρ) fun ob hb => h ob (List.mem_append_left _ hb)
  obtain ⟨c, d⟩ := nameSVs_den (l := xs) fun ob hb => h ob (List.mem_append_right _ hb)
  simp only [nameSVs, List.map_cons, List.flatMap_cons, a, b, c, d, and_self]
theorem nameV1_den {o : Option E} {x : V1} (h : ∀ ob ∈ (nameV1 o x).2, ob.nm ε) : (nameV1 o x).1.den ε ρ = x.den ε ρ ∧ (nameV1 o x).1.ids = x.ids := by
 cases x with
 | s x => exact nameSV_den h
 | agg l =>
  obtain ⟨a, b⟩ := nameSVs_den (ρ := ρ) (l := l) h
  simp only [nameV1, V1.den, V1.ids, a, b, and_self]
theorem nameV1s_den {o : Option E} : ∀ {l : List V1}, (∀ ob ∈ (nameV1s o l).2, ob.nm ε) → (nameV1s o l).1.map (V1.den ε ρ) = l.map (V1.den ε ρ) ∧ (nameV1s o l).1.flatMap V1.ids = l.flatMap V1.ids
 | [], _ => ⟨rfl, rfl⟩
 | x :: xs, h => by
  obtain ⟨a, b⟩ := nameV1_den (ρ := ρ) fun ob hb => h ob (List.mem_append_left _ hb)
  obtain ⟨c, d⟩ := nameV1s_den (l := xs) fun ob hb => h ob (List.mem_append_right _ hb)
  simp only [nameV1s, List.map_cons, List.flatMap_cons, a, b, c, d, and_self]
theorem nameLV_den {o : Option E} {x : LV} (h : ∀ ob ∈ (nameLV o x).2, ob.nm ε) : (nameLV o x).1.den ε ρ = x.den ε ρ ∧ (nameLV o x).1.ids = x.ids := by
 cases x with
 | v x => exact nameV1_den h
 | tup l =>
  obtain ⟨a, b⟩ := nameV1s_den (ρ := ρ) (l := l) h
  simp only [nameLV, LV.den, LV.ids, a, b, and_self]
 | bad => exact ⟨rfl, rfl⟩
theorem nameLV_bad {o : Option E} {x : LV} : (nameLV o x).1 = .bad ↔ x = .bad := by
 cases x <;> simp [nameLV]
def CEq (ε : Env) (c d : Cells) : Prop := ∀ (j : Nat) x, d[j]? = some x → ∃ y, c[j]? = some y ∧ (isRowC y = true ∨ isRowC x = true → y = x) ∧ ∀ s, x = some s → ∃ s', y = some s' ∧ ∀ ρ, s.den ε ρ = s'.den ε ρ
theorem nameSV_row {o : Option E} {x : SV} (h : isRow x = true ∨ isRow (nameSV o x).1 = true) : x = (nameSV o x).1 := by
 cases x with
 | fn f fi cap => rfl
 | nilf => rfl
 | row c m => rfl
 | a x =>
  have key : ∀ y : SV, (∃ q, y = .a q) → isRow y = true → False := fun y ⟨q, hq⟩ hr => by subst hq; cases hr
  cases x with
  | int k e =>
   rcases h with h | h
   ·cases h
   ·refine (key _ ?_ h).elim
    unfold nameSV
    cases o with
    | none => exact ⟨_, rfl⟩
    | some e0 =>
     dsimp only
     split
     ·exact ⟨_, rfl⟩
     ·split <;> exact ⟨_, rfl⟩
  | bool e => rcases h with h | h <;> cases h
  | _ => rfl
theorem nameC_den {o : Option E} : ∀ {c : Cells}, (∀ ob ∈ (nameC o c).2, ob.nm ε) → CEq ε c (nameC o c).1 ∧ Cells.ids (nameC o c).1 = Cells.ids c
 | [], _ => ⟨fun j x h => by simp [nameC] at h, rfl⟩
 | some x :: xs, h => by
  have ha := fun ρ => nameSV_den (ε := ε) (ρ := ρ) (o := o) (x := x) fun ob hb => h ob (List.mem_append_left _ hb)
  obtain ⟨c, d⟩ := nameC_den (c := xs) fun ob hb => h ob (List.mem_append_right _ hb)
  refine ⟨fun j y hj => ?_, ?_⟩
  ·cases j with
   | zero =>
    simp only [nameC, List.getElem?_cons_zero, Option.some.injEq] at hj
    subst hj
    exact ⟨some x, rfl, fun hr => congrArg some (nameSV_row hr), fun s hs => by cases hs; exact ⟨x, rfl, fun ρ => (ha ρ).1⟩⟩
   | succ j => exact c j y (by simpa [nameC] using hj)
  ·have e := (ha (fun _ => 0)).2
   unfold Cells.ids at d ⊢
   simp only [nameC, List.flatMap_cons, e, d]
 | none :: xs, h => by
  obtain ⟨c, d⟩ := nameC_den (c := xs) fun ob hb => h ob hb
  refine ⟨fun j y hj => ?_, ?_⟩
  ·cases j with
   | zero =>
    simp only [nameC, List.getElem?_cons_zero, Option.some.injEq] at hj
    subst hj
    exact ⟨none, rfl, fun _ => rfl, fun s hs => by cases hs⟩
   | succ j => exact c j y (by simpa [nameC] using hj)
  ·unfold Cells.ids at d ⊢
   simp only [nameC, List.flatMap_cons, d]
theorem nameM_den {o : Option E} : ∀ {m : List (Nat × Cells)}, (∀ ob ∈ (nameM o m).2, ob.nm ε) → ∀ b, ((nameM o m).1.lookup b = none ↔ m.lookup b = none) ∧
  ∀ d, (nameM o m).1.lookup b = some d → ∃ c, m.lookup b = some c ∧ CEq ε c d ∧ Cells.ids d = Cells.ids c
 | [], _, b => ⟨by simp [nameM], fun d h => by simp [nameM] at h⟩
 | (b', c) :: rest, h, b => by
  have hc := nameC_den (ε := ε) (o := o) (c := c) fun ob hb => h ob (List.mem_append_left _ hb)
  have ih := nameM_den (o := o) (m := rest) (fun ob hb => h ob (List.mem_append_right _ hb)) b
  simp only [nameM, List.lookup]
  split
  ·exact ⟨by simp, fun d hd => by cases hd; exact ⟨c, rfl, hc⟩⟩
  ·exact ih
theorem nameM_keys {o : Option E} : ∀ (m : List (Nat × Cells)), (nameM o m).1.map (·.1) = m.map (·.1)
 | [] => rfl
 | (b', c) :: rest => by simp only [nameM, List.map_cons, nameM_keys rest]
theorem nameM_mem {o : Option E} : ∀ {m : List (Nat × Cells)}, (∀ ob ∈ (nameM o m).2, ob.nm ε) → ∀ u ∈ (nameM o m).1, ∃ c, (u.1, c) ∈ m ∧ CEq ε c u.2 ∧ Cells.ids u.2 = Cells.ids c
 | [], _, u, hu => by simp [nameM] at hu
 | (b', c) :: rest, h, u, hu => by
  simp only [nameM, List.mem_cons] at hu
  rcases hu with rfl | hu
  ·exact ⟨c, List.mem_cons_self, nameC_den (ε := ε) (o := o) (c := c) fun ob hb => h ob (List.mem_append_left _ hb)⟩
  ·obtain ⟨c', h1, h2⟩ := nameM_mem (o := o) (m := rest) (fun ob hb => h ob (List.mem_append_right _ hb)) u hu
   exact ⟨c', List.mem_cons_of_mem _ h1, h2⟩
def RV (ε : Env) (ρ : Nat → Nat) (x : LV) (v : Value) : Prop := x = .bad ∨ v = x.den ε ρ
theorem RV.congr {x : LV} {v : Value} (h : RV ε ρ x v) (hc : ∀ b ∈ x.ids, ρ b = ρ' b) : RV ε ρ' x v :=
 h.imp id fun h => h.trans (LV.den_congr hc)
theorem RV.get {x : LV} {v : Value} (h : RV ε ρ x v) (hb : x ≠ .bad) : v = x.den ε ρ := h.resolve_left hb
theorem LV.merge_t {c : E} {x y : LV} {v : Value} (hc : (c.den ε).2 = true) (h : RV ε ρ x v) : RV ε ρ (LV.merge c x y) v := by
 unfold LV.merge
 split
 ·split
  ·rename_i h1
   refine .inr ?_
   rw [h.get (by simp)]
   simp only [LV.den, V1.merge_den h1, hc, if_true]
  ·exact .inl rfl
 ·split
  ·rename_i h1
   refine .inr ?_
   rw [h.get (by simp)]
   simp only [LV.den, mergeT_den h1, hc, if_true]
  ·exact .inl rfl
 ·exact .inl rfl
theorem LV.merge_f {c : E} {x y : LV} {v : Value} (hc : (c.den ε).2 = false) (h : RV ε ρ y v) : RV ε ρ (LV.merge c x y) v := by
 unfold LV.merge
 split
 ·split
  ·rename_i h1
   refine .inr ?_
   rw [h.get (by simp)]
   simp [LV.den, V1.merge_den h1, hc]
  ·exact .inl rfl
 ·split
  ·rename_i h1
   refine .inr ?_
   rw [h.get (by simp)]
   simp [LV.den, mergeT_den h1, hc]
  ·exact .inl rfl
 ·exact .inl rfl
theorem ofCell_den {v : Value} {x : SV} (h : ofCell v = some x) : x.den ε ρ = v ∧ x.ids = [] := by
 unfold ofCell at h
 split at h <;> cases h <;> simp [SV.den, AV.den, E.den, SV.ids, AV.ids]
theorem ofCells_den : ∀ {l : List Value} {x : List SV}, ofCells l = some x → x.map (SV.den ε ρ) = l ∧ x.flatMap SV.ids = []
 | [], x, h => by simp [ofCells] at h; subst h; simp
 | v :: vs, x, h => by
  simp only [ofCells] at h
  split at h
  ·rename_i a as h1 h2
   cases h
   obtain ⟨e1, e2⟩ := ofCell_den (ε := ε) (ρ := ρ) h1
   obtain ⟨e3, e4⟩ := ofCells_den h2
   simp [e1, e2, e3, e4]
  ·cases h
theorem ofVal_den {v : Value} (h : ofVal v ≠ .bad) : (ofVal v).den ε ρ = v ∧ (ofVal v).ids = [] := by
 unfold ofVal at h ⊢
 split
 ·rename_i cs
  split
  ·rename_i l hl
   obtain ⟨e1, e2⟩ := ofCells_den (ε := ε) (ρ := ρ) hl
   exact ⟨by simp [LV.den, V1.den, e1], by simp [LV.ids, V1.ids, e2]⟩
  ·rename_i hn; simp [hn] at h
 ·rename_i cs
  split
  ·rename_i hs
   have : cs = #[] := by simpa using hs
   subst this
   exact ⟨rfl, rfl⟩
  ·rename_i hs; simp [hs] at h
 ·split
  ·rename_i x hx
   exact ofCell_den hx
  ·rename_i hn
   exfalso
   apply h
   split <;> simp_all
end SX
end
end Go.Proofs.Ytfgfnjckklldbaa
