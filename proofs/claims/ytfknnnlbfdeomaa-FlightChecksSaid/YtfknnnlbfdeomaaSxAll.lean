/- A reading of functions by symbols. -/
import Derived.Orders
import Derived.Scope
import Derived.Below
import Derived.KernelRfl
import Derived.Laws.Sem
import Derived.Laws.Cells
import Derived.Laws.World
import Derived.Laws.NewBlocks
import Derived.Laws.StructEq
/- A reading of functions by symbols: what a function without loops of unknown length answers, as an expression in its arguments and in the answers of the functions that it calls. The definitions. -/
set_option linter.unusedVariables false
set_option linter.unusedSimpArgs false
namespace Go.Proofs.Ytfknnnlbfdeomaa
namespace SX
inductive AO | add | sub | mul | quo | rem | and | or | xor | andNot | shl | shr
  deriving Repr, BEq, ReflBEq, LawfulBEq
inductive CO | eql | neq | lss | leq | gtr | geq
  deriving Repr, BEq, ReflBEq, LawfulBEq
inductive E
  | lit (n : Int) | var (i : Nat) | slen (i : Nat) | ar (op : AO) (k : IntKind) (x y : E) | cv (k : IntKind) (x : E) | mx (x y : E) | mn (x y : E)
  | ite (c x y : E)
  | blit (b : Bool) | bvar (i : Nat) | cmp (op : CO) (x y : E) | not (x : E) | same (x y : E)
  deriving Repr, BEq, ReflBEq, LawfulBEq
structure Env where
  i : Nat → Int
  b : Nat → Bool
  sa : Nat → Option Addr
  sn : Nat → Nat
  sc : Nat → Nat
  st : Nat → ByteArray
def AO.den (k : IntKind) (x y : Int) : AO → Int
  | .add => k.wrap (x + y)
  | .sub => k.wrap (x - y)
  | .mul => k.wrap (x * y)
  | .quo => k.wrap (x.tdiv y)
  | .rem => x.tmod y
  | .and => k.wrap (BitVec.ofInt k.bits x &&& BitVec.ofInt k.bits y).toNat
  | .or => k.wrap (BitVec.ofInt k.bits x ||| BitVec.ofInt k.bits y).toNat
  | .xor => k.wrap (BitVec.ofInt k.bits x ^^^ BitVec.ofInt k.bits y).toNat
  | .andNot => k.wrap (BitVec.ofInt k.bits x &&& ~~~ BitVec.ofInt k.bits y).toNat
  | .shl => k.wrap (x * 2 ^ min y.toNat k.bits)
  | .shr => x.fdiv (2 ^ min y.toNat k.bits)
def CO.den (x y : Int) : CO → Bool
  | .eql => x == y
  | .neq => x != y
  | .lss => x < y
  | .leq => x ≤ y
  | .gtr => x > y
  | .geq => x ≥ y
def E.den (ε : Env) : E → Int × Bool
  | .lit n => (n, false)
  | .var i => (ε.i i, false)
  | .slen i => ((ε.sn i : Int), false)
  | .ar op k x y => (op.den k (x.den ε).1 (y.den ε).1, false)
  | .cv k x => (k.wrap (x.den ε).1, false)
  | .mx x y => (if (y.den ε).1 > (x.den ε).1 then (y.den ε).1 else (x.den ε).1, false)
  | .mn x y => (if (y.den ε).1 < (x.den ε).1 then (y.den ε).1 else (x.den ε).1, false)
  | .ite c x y => (if (c.den ε).2 then (x.den ε).1 else (y.den ε).1, if (c.den ε).2 then (x.den ε).2 else (y.den ε).2)
  | .blit b => (0, b)
  | .bvar i => (0, ε.b i)
  | .cmp op x y => (0, op.den (x.den ε).1 (y.den ε).1)
  | .not x => (0, !(x.den ε).2)
  | .same x y => (0, (x.den ε).2 == (y.den ε).2)
def mkAr (op : AO) (k : IntKind) (x y : E) : E := match x, y with
  | .lit a, .lit b => .lit (op.den k a b)
  | x, y => .ar op k x y
def mkCmp (op : CO) (x y : E) : E := match x, y with
  | .lit a, .lit b => .blit (op.den a b)
  | x, y => .cmp op x y
def mkCv (k : IntKind) (x : E) : E := match x with
  | .lit a => .lit (k.wrap a)
  | x => .cv k x
def mkMx (x y : E) : E := match x, y with
  | .lit a, .lit b => .lit (if b > a then b else a)
  | x, y => .mx x y
def mkMn (x y : E) : E := match x, y with
  | .lit a, .lit b => .lit (if b < a then b else a)
  | x, y => .mn x y
def mkNot (x : E) : E := match x with
  | .blit b => .blit !b
  | .not y => y
  | x => .not x
def mkSame (x y : E) : E := match x, y with
  | .blit a, .blit b => .blit (a == b)
  | x, y => .same x y
/-- For integers. -/
def mkIte (c x y : E) : E := if x == y then x else match c with
  | .blit b => if b then x else y
  | c => .ite c x y
/-- For conditions. -/
def mkIf (c x y : E) : E := if x == y then x else match c, x, y with
  | .blit b, x, y => if b then x else y
  | c, .blit true, .blit false => c
  | c, .blit false, .blit true => mkNot c
  | c, x, y => .ite c x y
inductive AV
  | int (k : IntKind) (e : E) | bool (e : E) | ptr (b off : Nat) | nilp | sl (b off len cap : Nat) | nils | fsl (i : Nat) | str (i : Nat)
  deriving Repr, BEq, ReflBEq, LawfulBEq
inductive SV
  | a (x : AV) | fn (f : FuncId) (cap : List AV) | nilf
  deriving Repr, BEq, ReflBEq, LawfulBEq
inductive V1
  | s (x : SV) | agg (l : List SV)
  deriving Repr, BEq, ReflBEq, LawfulBEq
inductive LV
  | v (x : V1) | tup (l : List V1) | bad
  deriving Repr, BEq, ReflBEq, LawfulBEq
def AV.den (ε : Env) (ρ : Nat → Nat) : AV → Value
  | .int k e => .int k (e.den ε).1
  | .bool e => .bool (e.den ε).2
  | .ptr b off => .pointer (some ⟨ρ b, off, none⟩)
  | .nilp => .pointer none
  | .sl b off len cap => .slice (some ⟨ρ b, off, none⟩) len cap
  | .nils => .slice none 0 0
  | .fsl i => .slice (ε.sa i) (ε.sn i) (ε.sc i)
  | .str i => .string (ε.st i)
def SV.den (ε : Env) (ρ : Nat → Nat) : SV → Value
  | .a x => x.den ε ρ
  | .fn f cap => .func (.func f) #[] (cap.map (AV.den ε ρ)).toArray
  | .nilf => .nilFunc
def V1.den (ε : Env) (ρ : Nat → Nat) : V1 → Value
  | .s x => x.den ε ρ
  | .agg l => .agg (l.map (SV.den ε ρ)).toArray
def LV.den (ε : Env) (ρ : Nat → Nat) : LV → Value
  | .v x => x.den ε ρ
  | .tup l => .tuple (l.map (V1.den ε ρ)).toArray
  | .bad => undef
def AV.ids : AV → List Nat
  | .ptr b _ => [b]
  | .sl b _ _ _ => [b]
  | _ => []
def SV.ids : SV → List Nat
  | .a x => x.ids
  | .fn _ cap => cap.flatMap AV.ids
  | .nilf => []
def V1.ids : V1 → List Nat
  | .s x => x.ids
  | .agg l => l.flatMap SV.ids
def LV.ids : LV → List Nat
  | .v x => x.ids
  | .tup l => l.flatMap V1.ids
  | .bad => []
abbrev Cells := List (Option SV)
def Cells.ids (l : Cells) : List Nat := l.flatMap fun | some s => s.ids | none => []
def AV.merge (c : E) (x y : AV) : Option AV := if x == y then some x else match x, y with
  | .int k a, .int k' b => if k == k' then some (.int k (mkIte c a b)) else none
  | .bool a, .bool b => some (.bool (mkIf c a b))
  | _, _ => none
def SV.merge (c : E) (x y : SV) : Option SV := if x == y then some x else match x, y with
  | .a x, .a y => (AV.merge c x y).map .a
  | _, _ => none
def mergeL (c : E) : List SV → List SV → Option (List SV)
  | [], [] => some []
  | x :: xs, y :: ys => match SV.merge c x y, mergeL c xs ys with
    | some z, some zs => some (z :: zs)
    | _, _ => none
  | _, _ => none
def V1.merge (c : E) (x y : V1) : Option V1 := match x, y with
  | .s x, .s y => (SV.merge c x y).map .s
  | .agg x, .agg y => (mergeL c x y).map .agg
  | _, _ => none
def mergeT (c : E) : List V1 → List V1 → Option (List V1)
  | [], [] => some []
  | x :: xs, y :: ys => match V1.merge c x y, mergeT c xs ys with
    | some z, some zs => some (z :: zs)
    | _, _ => none
  | _, _ => none
def LV.merge (c : E) (x y : LV) : LV := match x, y with
  | .v x, .v y => match V1.merge c x y with | some z => .v z | none => .bad
  | .tup x, .tup y => match mergeT c x y with | some z => .tup z | none => .bad
  | _, _ => .bad
def mergeC (c : E) : Cells → Cells → Option Cells
  | [], [] => some []
  | x :: xs, y :: ys => match mergeC c xs ys with
    | some zs => some ((match x, y with | some x, some y => SV.merge c x y | _, _ => none) :: zs)
    | none => none
  | _, _ => none
structure St where
  tmps : List LV
  mem : List (Nat × Cells)
  deriving Repr
def St.look (s : St) (t : Nat) : LV := s.tmps.getD t .bad
def St.at (s : St) (b : Nat) : Option Cells := s.mem.lookup b
def mergeTmps (c : E) : List LV → List LV → List LV
  | x :: xs, y :: ys => LV.merge c x y :: mergeTmps c xs ys
  | _, _ => []
/-- The blocks that both know. -/
def mergeMem (c : E) (s m : List (Nat × Cells)) : List Nat → List (Nat × Cells)
  | [] => []
  | b :: rest => match s.lookup b, m.lookup b with
    | some x, some y => match mergeC c x y with
      | some z => (b, z) :: mergeMem c s m rest
      | none => mergeMem c s m rest
    | _, _ => mergeMem c s m rest
def keysOf (m : List (Nat × Cells)) : List Nat := (m.map (·.1)).eraseDups
def St.merge (c : E) (s t : St) : St := ⟨mergeTmps c s.tmps t.tmps, mergeMem c s.mem t.mem (keysOf s.mem)⟩
def ofCell : Value → Option SV
  | .int k n => some (.a (.int k (.lit n)))
  | .bool b => some (.a (.bool (.blit b)))
  | .pointer none => some (.a .nilp)
  | .slice none 0 0 => some (.a .nils)
  | .nilFunc => some .nilf
  | _ => none
def ofCells : List Value → Option (List SV)
  | [] => some []
  | v :: vs => match ofCell v, ofCells vs with
    | some x, some xs => some (x :: xs)
    | _, _ => none
def ofVal : Value → LV
  | .agg cs => match ofCells cs.toList with | some l => .v (.agg l) | none => .bad
  | .tuple cs => if cs.size = 0 then .tup [] else .bad
  | v => match ofCell v with | some x => .v (.s x) | none => .bad
def opnd (look : Nat → LV) : Operand → LV
  | .tmp t => look t
  | .const v => ofVal v
  | .global _ => .bad
  | .func f => .v (.s (.fn f []))
def V1.cells : V1 → List SV
  | .s x => [x]
  | .agg l => l
/-- What has to be shown by itself: a condition, wherever 'pc' is true; a call. -/
inductive Ob
  | req (pc c : E)
  | call (pc : E) (f : FuncId) (args : List LV) (res : LV)
  deriving Repr, BEq, ReflBEq, LawfulBEq
structure Op1 where
  val : LV
  fp : List Nat := []
  upd : List (Nat × Cells) := []
  nv : Nat
  obs : List Ob := []
  deriving Repr
def aggT (P : Program) (t : TypeId) : Bool := match P.underlying t with
  | some (.struct _) | some (.array _ _) => true
  | _ => false
def boolT (P : Program) (t : TypeId) : Bool := match P.underlying t with
  | some .bool => true
  | _ => false
def allSome : Cells → Option (List SV)
  | [] => some []
  | some x :: xs => (allSome xs).map (x :: ·)
  | none :: _ => none
def getPart (P : Program) (t : TypeId) (cs : List SV) (off : Nat) : Option V1 :=
  match P.underlying t, P.info? t with
  | some d, some i => match d with
    | .struct _ | .array _ _ => if off + i.size ≤ cs.length then some (.agg ((cs.drop off).take i.size)) else none
    | _ => (cs[off]?).map .s
  | _, _ => none
def setL : Cells → Nat → List SV → Cells
  | cs, _, [] => cs
  | cs, off, x :: xs => setL (cs.set off (some x)) (off + 1) xs
def fillL (place : Nat → Option (Nat × Nat)) (cells : List SV) : List (Nat × V1) → Option (List SV)
  | [] => some cells
  | (i, v) :: rest => match place i with
    | none => none
    | some (off, size) => if v.cells.length ≠ size || off + v.cells.length > cells.length then none
      else fillL place (cells.take off ++ v.cells ++ cells.drop (off + v.cells.length)) rest
def partsOf (look : Nat → LV) : List (Nat × Operand) → Option (List (Nat × V1))
  | [] => some []
  | (i, x) :: rest => match opnd look x, partsOf look rest with
    | .v v, some vs => some ((i, v) :: vs)
    | _, _ => none
def avs : List LV → Option (List AV)
  | [] => some []
  | .v (.s (.a x)) :: rest => (avs rest).map (x :: ·)
  | _ => none
def arithOf : BinOp → Option AO
  | .add => some .add | .sub => some .sub | .mul => some .mul | .quo => some .quo | .rem => some .rem
  | .and => some .and | .or => some .or | .xor => some .xor | .andNot => some .andNot | .shl => some .shl | .shr => some .shr
  | _ => none
def cmpOf : BinOp → Option CO
  | .eql => some .eql | .neq => some .neq | .lss => some .lss | .leq => some .leq | .gtr => some .gtr | .geq => some .geq
  | _ => none
/-- New names for what a call hands back. -/
def nameCells : List Value → Nat → Option (List SV × Nat)
  | [], n => some ([], n)
  | .int k _ :: rest, n => (nameCells rest (n + 1)).map fun r => (.a (.int k (.var n)) :: r.1, r.2)
  | .bool _ :: rest, n => (nameCells rest (n + 1)).map fun r => (.a (.bool (.bvar n)) :: r.1, r.2)
  | .string _ :: rest, n => (nameCells rest (n + 1)).map fun r => (.a (.str n) :: r.1, r.2)
  | .slice _ _ _ :: rest, n => (nameCells rest (n + 1)).map fun r => (.a (.fsl n) :: r.1, r.2)
  | _, _ => none
def nameT (P : Program) (t : TypeId) (n : Nat) : Option (V1 × Nat) := match (P.info? t).bind (·.zero) with
  | some (.agg cs) => (nameCells cs.toList n).map fun r => (.agg r.1, r.2)
  | some (.int k _) => some (.s (.a (.int k (.var n))), n + 1)
  | some (.bool _) => some (.s (.a (.bool (.bvar n))), n + 1)
  | some (.string _) => some (.s (.a (.str n)), n + 1)
  | some (.slice _ _ _) => some (.s (.a (.fsl n)), n + 1)
  | _ => none
def nameTs (P : Program) : List TypeId → Nat → Option (List V1 × Nat)
  | [], n => some ([], n)
  | t :: ts, n => match nameT P t n with
    | some (v, n) => (nameTs P ts n).map fun r => (v :: r.1, r.2)
    | none => none
def nameRes (P : Program) (fn : Func) (n : Nat) : Option (LV × Nat) := match nameTs P fn.resultTypes.toList n with
  | some ([v], n) => some (.v v, n)
  | some (vs, n) => some (.tup vs, n)
  | none => none
def noIds (l : List LV) : Bool := l.all fun x => x.ids.isEmpty && (match x with | .bad => false | _ => true)
abbrev Sub := FuncId → List LV → (Nat → Option Cells) → E → Nat → Nat → Option Op1
/-- The blocks that are reached from some. -/
def reach (mem : Nat → Option Cells) : Nat → List Nat → List Nat → List Nat
  | 0, _, seen => seen
  | n + 1, todo, seen => match todo with
    | [] => seen
    | b :: rest => if seen.contains b then reach mem n rest seen else match mem b with
      | some c => reach mem n (c.ids ++ rest) (b :: seen)
      | none => reach mem n rest seen
def foldMM (mk : E → E → E) (x : LV) : List LV → LV
  | [] => x
  | y :: rest => match x, y with
    | .v (.s (.a (.int k a))), .v (.s (.a (.int k' b))) => if k == k' then foldMM mk (.v (.s (.a (.int k (mk a b))))) rest else .bad
    | _, _ => .bad
/-- Are two values of a type equal? -/
def eqT (P : Program) : Nat → TypeId → V1 → V1 → Option E
  | 0, _, _, _ => none
  | n + 1, t, x, y => match P.underlying t, x, y with
    | some (.int _), .s (.a (.int k a)), .s (.a (.int k' b)) => if k == k' then some (mkCmp .eql a b) else none
    | some .bool, .s (.a (.bool a)), .s (.a (.bool b)) => some (mkSame a b)
    | some (.struct fs), .agg xs, .agg ys => if P.stoodInHeld t then none else
        fs.toList.foldr (fun f acc => match acc with
          | none => none
          | some r => if f.name == "_" then some r else match getPart P f.type xs f.offset, getPart P f.type ys f.offset with
            | some a, some b => (eqT P n f.type a b).map fun c => mkIf c r (.blit false)
            | _, _ => none) (some (.blit true))
    | some (.array len e), .agg xs, .agg ys => match P.info? e with
      | some i => (List.range len).foldr (fun j acc => match acc with
          | none => none
          | some r => match getPart P e xs (j * i.size), getPart P e ys (j * i.size) with
            | some a, some b => (eqT P n e a b).map fun c => mkIf c r (.blit false)
            | _, _ => none) (some (.blit true))
      | none => none
    | _, _, _ => none
section
variable (P : Program) (sub : Sub) (id : Nat) (pc : E) (look : Nat → LV) (mem : Nat → Option Cells) (nv : Nat)
def pureOp (v : LV) : Option Op1 := match v with
  | .bad => none
  | v => some { val := v, nv }
def evBin (op : BinOp) (t : TypeId) (x y : LV) : Option Op1 := match x, y with
  | .v (.s (.a (.int k a))), .v (.s (.a (.int k' b))) => match op with
    | .shl | .shr => match arithOf op, b with
      | some f, .lit n => if 0 ≤ n then some { val := .v (.s (.a (.int k (mkAr f k a b)))), nv } else none
      | some f, b => some { val := .v (.s (.a (.int k (.ar f k a b)))), nv, obs := [.req pc (.cmp .geq b (.lit 0))] }
      | none, _ => none
    | _ => if k == k' then match cmpOf op with
        | some f => some { val := .v (.s (.a (.bool (mkCmp f a b)))), nv }
        | none => match arithOf op with
          | some .quo => (match b with
            | .lit n => if n = 0 then none else some { val := .v (.s (.a (.int k (mkAr .quo k a b)))), nv }
            | b => some { val := .v (.s (.a (.int k (.ar .quo k a b)))), nv, obs := [.req pc (.cmp .neq b (.lit 0))] })
          | some .rem => (match b with
            | .lit n => if n = 0 then none else some { val := .v (.s (.a (.int k (mkAr .rem k a b)))), nv }
            | b => some { val := .v (.s (.a (.int k (.ar .rem k a b)))), nv, obs := [.req pc (.cmp .neq b (.lit 0))] })
          | some f => some { val := .v (.s (.a (.int k (mkAr f k a b)))), nv }
          | none => none
      else none
  | .v (.s (.a (.bool a))), .v (.s (.a (.bool b))) => if boolT P t then match op with
    | .eql => some { val := .v (.s (.a (.bool (mkSame a b)))), nv }
    | .neq => some { val := .v (.s (.a (.bool (mkNot (mkSame a b))))), nv }
    | _ => none
    else none
  | .v (.agg xs), .v (.agg ys) => if P.eqGuardType P.depth t then none else match eqT P 20 t (.agg xs) (.agg ys) with
    | some e => (match op with
      | .eql => some { val := .v (.s (.a (.bool e))), nv }
      | .neq => some { val := .v (.s (.a (.bool (mkNot e)))), nv }
      | _ => none)
    | none => none
  | _, _ => none
def evUn (op : UnOp) (x : LV) : Option Op1 := match op, x with
  | .neg, .v (.s (.a (.int k a))) => some { val := .v (.s (.a (.int k (mkAr .sub k (.lit 0) a)))), nv }
  | .xor, .v (.s (.a (.int k a))) => some { val := .v (.s (.a (.int k (mkAr .xor k (.lit (if k.signed then -1 else k.max)) a)))), nv }
  | .not, .v (.s (.a (.bool a))) => some { val := .v (.s (.a (.bool (mkNot a)))), nv }
  | _, _ => none
def newBlock (cs : List SV) : Option Op1 :=
  if (cs.flatMap SV.ids).contains id then none else some { val := .v (.s (.a (.ptr id 0))), upd := [(id, cs.map some)], nv }
def evLoad (t : TypeId) (a : LV) : Option Op1 := match a with
  | .v (.s (.a (.ptr b off))) => match mem b, P.info? t with
    | some cs, some i => if (P.underlying t).isSome then
        if aggT P t then
          if off + i.size ≤ cs.length then (allSome ((cs.drop off).take i.size)).map fun l => { val := .v (.agg l), fp := [b], nv } else none
        else (match cs[off]? with
          | some (some x) => some { val := .v (.s x), fp := [b], nv }
          | _ => none)
      else none
    | _, _ => none
  | _ => none
def evStore (t : TypeId) (a x : LV) : Option Op1 := match a, x with
  | .v (.s (.a (.ptr b off))), .v v => match mem b, P.info? t with
    | some cs, some i => if v.cells.length = i.size && off + i.size ≤ cs.length then some { val := .tup [], fp := [b], upd := [(b, setL cs off v.cells)], nv } else none
    | _, _ => none
  | _, _ => none
def notBad : LV → Bool
  | .bad => false
  | _ => true
def evCallTo (f : FuncId) (args : List LV) : Option Op1 := match P.funcs[f]? with
  | some fn => if !args.all notBad || fn.body.isNone || fn.name == "runtime.NumGoroutine" then none else sub f args mem pc nv id
  | none => none
def boundOf (look : Nat → LV) (x : Option Operand) (d : Nat) : Option Nat := match x with
  | none => some d
  | some y => match opnd look y with
    | .v (.s (.a (.int _ (.lit i)))) => if 0 ≤ i then some i.toNat else none
    | _ => none
def decided (dec : List (E × Bool)) : E → Option Bool
  | .blit b => some b
  | e => dec.lookup e
def evOp (dec : List (E × Bool)) (o : Oper) : Option Op1 := match o.op with
  | .move x | .assign x => pureOp nv (opnd look x)
  | .pick c a b => match opnd look c with
    | .v (.s (.a (.bool e))) => match decided dec e with
      | some true => pureOp nv (opnd look a)
      | some false => pureOp nv (opnd look b)
      | none => pureOp nv (LV.merge e (opnd look a) (opnd look b))
    | _ => none
  | .alloc t => match (P.info? t).bind (·.zero) with
    | some z => match ofVal z with
      | .v v => newBlock id nv v.cells
      | _ => none
    | none => none
  | .box t x => match opnd look x with
    | .v v => newBlock id nv v.cells
    | _ => none
  | .build t parts => match (P.info? t).bind (·.zero), P.underlying t, partsOf look parts.toList with
    | some z, some d, some ps => match ofVal z with
      | .v v => (match d with
        | .struct fields => match fillL (fun i => (fields[i]?).bind fun f => (P.info? f.type).map fun n => (f.offset, n.size)) v.cells ps with
          | some cs => if fields.all (fun f => (P.info? f.type).isSome) then some { val := .v (.agg cs), nv } else none
          | none => none
        | .array _ elem => match P.info? elem with
          | some n => (fillL (fun i => some (i * n.size, n.size)) v.cells ps).map fun cs => { val := .v (.agg cs), nv }
          | none => none
        | _ => none)
      | _ => none
    | _, _, _ => none
  | .buildSlice t len parts => match P.underlying t, partsOf look parts.toList with
    | some (.slice elem), some ps => match P.info? elem with
      | some n => match n.zero.map ofVal with
        | some (.v v) => if len * n.size > 2 ^ 24 || len * n.size == 0 || v.cells.length ≠ n.size then none else
          match fillL (fun i => some (i * n.size, n.size)) ((List.replicate len v.cells).flatten) ps with
          | some cs => (newBlock id nv cs).map fun r => { r with val := .v (.s (.a (.sl id 0 len len))) }
          | none => none
        | _ => none
      | none => none
    | _, _ => none
  | .load t a => evLoad P mem nv t (opnd look a)
  | .store t a x => evStore P mem nv t (opnd look a) (opnd look x)
  | .nilCheck x => match opnd look x with
    | .v (.s (.a (.ptr b off))) => some { val := .v (.s (.a (.ptr b off))), nv }
    | .v (.s (.fn f cap)) => some { val := .v (.s (.fn f cap)), nv }
    | _ => none
  | .binOp op t x y _ => evBin P pc nv op t (opnd look x) (opnd look y)
  | .unOp op _ x => evUn nv op (opnd look x)
  | .convert src dst x => match P.underlying src, P.underlying dst, opnd look x with
    | some _, some (.int k), .v (.s (.a (.int _ e))) => some { val := .v (.s (.a (.int k (mkCv k e)))), nv }
    | _, _, _ => none
  | .makeFunc (.func f) first captured => if first.size = 0 then match avs (captured.toList.map (opnd look)) with
      | some cap => some { val := .v (.s (.fn f cap)), nv }
      | none => none
    else none
  | .fieldAddr s x f => match P.underlying s, opnd look x with
    | some (.struct fields), .v (.s (.a (.ptr b off))) => match fields[f]? with
      | some fd => match P.info? fd.type with
        | some n => if n.size = 0 then none else some { val := .v (.s (.a (.ptr b (off + fd.offset)))), nv }
        | none => none
      | none => none
    | _, _ => none
  | .field s x f => match P.underlying s, opnd look x with
    | some (.struct fields), .v (.agg cs) => match fields[f]? with
      | some fd => (getPart P fd.type cs fd.offset).map fun v => { val := .v v, nv }
      | none => none
    | _, _ => none
  | .indexAddr t x ix => match P.underlying t, opnd look x, opnd look ix with
    | some (.array len elem), .v (.s (.a (.ptr b off))), .v (.s (.a (.int _ (.lit i)))) => match P.info? elem with
      | some n => if 0 ≤ i ∧ i < len then some { val := .v (.s (.a (.ptr b (off + i.toNat * n.size)))), nv } else none
      | none => none
    | some (.slice elem), .v (.s (.a (.sl b off len _))), .v (.s (.a (.int _ (.lit i)))) => match P.info? elem with
      | some n => if 0 ≤ i ∧ i < len then some { val := .v (.s (.a (.ptr b (off + i.toNat * n.size)))), nv } else none
      | none => none
    | _, _, _ => none
  | .index t x ix => match P.underlying t, opnd look x, opnd look ix with
    | some (.array len elem), .v (.agg cs), .v (.s (.a (.int _ (.lit i)))) => match P.info? elem with
      | some n => if 0 ≤ i ∧ i < len then (getPart P elem cs (i.toNat * n.size)).map fun v => { val := .v v, nv } else none
      | none => none
    | _, _, _ => none
  | .slice t x lo hi mx => if mx.isSome then none else match P.underlying t, opnd look x with
    | some (.array n elem), .v (.s (.a (.ptr b off))) => match P.info? elem, boundOf look hi n, boundOf look lo 0 with
      | some e, some h, some l => if l ≤ h ∧ h ≤ n then some { val := .v (.s (.a (.sl b (if n = l then off else off + l * e.size) (h - l) (n - l)))), nv } else none
      | _, _, _ => none
    | some (.slice elem), .v (.s (.a (.sl b off len cap))) => match P.info? elem, boundOf look hi len, boundOf look lo 0 with
      | some e, some h, some l => if l ≤ h ∧ h ≤ cap then some { val := .v (.s (.a (.sl b (if cap = l then off else off + l * e.size) (h - l) (cap - l)))), nv } else none
      | _, _, _ => none
    | _, _ => none
  | .extract t i => match opnd look t with
    | .tup vs => (vs[i]?).map fun v => { val := .v v, nv }
    | _ => none
  | .call c => match c.callee with
    | .builtin .len => match c.argTypes[0]?, c.args[0]? with
      | some t, some x => match P.underlying t, opnd look x with
        | some (.slice _), .v (.s (.a (.sl _ _ n _))) => some { val := .v (.s (.a (.int .i64 (.lit n)))), nv }
        | some (.slice _), .v (.s (.a .nils)) => some { val := .v (.s (.a (.int .i64 (.lit 0)))), nv }
        | some (.slice _), .v (.s (.a (.fsl i))) => some { val := .v (.s (.a (.int .i64 (.slen i)))), nv }
        | some (.array n _), .v _ => some { val := .v (.s (.a (.int .i64 (.lit n)))), nv }
        | _, _ => none
      | _, _ => none
    | .builtin .max => match c.args.toList.map (opnd look) with
      | x :: rest => pureOp nv (foldMM mkMx x rest)
      | [] => none
    | .builtin .min => match c.args.toList.map (opnd look) with
      | x :: rest => pureOp nv (foldMM mkMn x rest)
      | [] => none
    | .value f => match opnd look f with
      | .v (.s (.fn g cap)) => evCallTo P sub id pc mem nv g (c.args.toList.map (opnd look) ++ cap.map fun x => .v (.s (.a x)))
      | _ => none
    | _ => none
  | _ => none
end
structure Rec where
  dst : Option Nat
  val : LV
  fp : List Nat
  upd : List (Nat × Cells)
  deriving Repr
def St.put (s : St) (dst : Option Nat) (v : LV) : St := match dst with
  | some d => { s with tmps := s.tmps.set d v }
  | none => s
def St.apply (s : St) (r : Rec) : St := { (s.put r.dst r.val) with mem := r.upd ++ s.mem }
inductive Ops
  | done (st : St) (nv : Nat)
  | op (r : Rec) (obs : List Ob) (rest : Ops)
  | fork (e : E) (x y : Ops)
  | none
def Ops.nv : Ops → Nat
  | .done _ n => n
  | .op _ _ rest => rest.nv
  | .fork _ _ y => y.nv
  | .none => 0
def Ops.obs : Ops → List Ob
  | .done _ _ => []
  | .op _ obs rest => obs ++ rest.obs
  | .fork _ x y => x.obs ++ y.obs
  | .none => []
/-- The operations in their order. 'dec': what is taken for true or false. -/
def evOps (P : Program) (sub : Sub) (ops : Array Oper) : List Oper → Nat → E → List (E × Bool) → St → Nat → Ops
  | [], _, _, _, st, nv => .done st nv
  | o :: rest, id, pc, dec, st, nv =>
    let run (pc : E) (dec : List (E × Bool)) (nv : Nat) : Ops := match evOp P sub id pc st.look st.at nv dec o with
      | some r => .op ⟨o.dst, r.val, r.fp, r.upd⟩ r.obs (evOps P sub ops rest (id + 1) pc dec (st.apply ⟨o.dst, r.val, r.fp, r.upd⟩) r.nv)
      | none => .none
    let skip (pc : E) (dec : List (E × Bool)) (nv : Nat) : Ops := .op ⟨o.dst, .tup [], [], []⟩ [] (evOps P sub ops rest (id + 1) pc dec (st.apply ⟨o.dst, .tup [], [], []⟩) nv)
    match o.guard with
    | none => run pc dec nv
    | some (j, want) => match ((ops[j]?).bind (·.dst)).map st.look with
      | some (.v (.s (.a (.bool e)))) => match decided dec e with
        | some b => if b == want then run pc dec nv else skip pc dec nv
        | none => if want then
            let x := run (mkIf e pc (.blit false)) ((e, true) :: dec) nv
            .fork e x (skip (mkIf e (.blit false) pc) ((e, false) :: dec) x.nv)
          else
            let x := skip (mkIf e pc (.blit false)) ((e, true) :: dec) nv
            .fork e x (run (mkIf e (.blit false) pc) ((e, false) :: dec) x.nv)
      | some (.tup []) => skip pc dec nv
      | _ => .none
/-- What waits for what, with all that this waits for. -/
def befores (ops : List Oper) : List (List Nat) :=
  ops.foldl (fun acc o => acc ++ [(o.after.toList.filter (fun e => Region.binds .any e)).flatMap fun e => e.on :: acc.getD e.on []]) []
def Oper.looks (ops : Array Oper) (o : Oper) : List Nat := Go.Oper.looksAt ops o
/-- All that an operation looks at: slots (even numbers) and blocks (odd ones). -/
def footprint (ops : Array Oper) (o : Oper) (r : Rec) : List Nat :=
  (Oper.looks ops o).map (2 * ·) ++ r.dst.toList.map (2 * ·) ++ r.fp.map (2 * · + 1) ++ r.upd.map (2 * ·.1 + 1)
def changes (r : Rec) : List Nat := r.dst.toList.map (2 * ·) ++ r.upd.map (2 * ·.1 + 1)
def ordered (bs : List (List Nat)) (i j : Nat) : Bool := (bs.getD i []).contains j || (bs.getD j []).contains i
def mentions (r : Rec) : List Nat := r.val.ids ++ r.upd.flatMap fun u => Cells.ids u.2
def regionOk (ops : Array Oper) (recs : List Rec) (bs : List (List Nat)) (base : Nat) : Bool :=
  let n := ops.size
  recs.length == n && bs.length == n &&
  (List.range n).all fun i => match ops[i]?, recs[i]? with
    | some o, some r =>
      (match o.op with | .select _ _ => false | _ => true) &&
      (bs.getD i []).all (· < i) && (o.after.all fun e => !Region.binds .any e || ((bs.getD i []).contains e.on && (bs.getD e.on []).all (bs.getD i []).contains)) &&
      (bs.getD i []).all (fun j => o.after.any fun e => Region.binds .any e && (e.on == j || (bs.getD e.on []).contains j)) &&
      (let fp := footprint ops o r
       (List.range n).all fun j => j == i || ordered bs i j || (match recs[j]? with | some q => (changes q).all fun k => !fp.contains k | none => false)) &&
      (mentions r).all (fun b => b < base || b == base + i || (bs.getD i []).any fun j => b == base + j) &&
      r.upd.all (fun u => u.1 < base || u.1 == base + i || (bs.getD i []).any fun j => u.1 == base + j)
    | _, _ => false
inductive Ex | normal | exit (id : Nat) | ret
  deriving Repr, BEq, ReflBEq, LawfulBEq
inductive Tr
  | leaf (k : Ex) (s : St)
  | node (c : E) (x y : Tr)
  deriving Repr
structure Res where
  tr : Tr
  nv : Nat
  nid : Nat
  obs : List Ob
  deriving Repr
def gather (k : Ex) : Tr → Option (E × St)
  | .leaf k' s => if k == k' then some (.blit true, s) else none
  | .node c x y => match gather k x, gather k y with
    | some (g, s), some (h, t) => some (mkIf c g h, St.merge c s t)
    | some (g, s), none => some (mkIf c g (.blit false), s)
    | none, some (h, t) => some (mkIf c (.blit false) h, t)
    | none, none => none
def prune (k : Ex) : Tr → Option Tr
  | .leaf k' s => if k == k' then none else some (.leaf k' s)
  | .node c x y => match prune k x, prune k y with
    | some x, some y => some (.node c x y)
    | some x, none => some x
    | none, some y => some y
    | none, none => none
def count (k : Ex) : Tr → Nat
  | .leaf k' _ => if k == k' then 1 else 0
  | .node _ x y => count k x + count k y
def firstLen (k : Ex) : Tr → Option Nat
  | .leaf k' s => if k == k' then some s.tmps.length else none
  | .node _ x y => match firstLen k x with
    | some n => some n
    | none => firstLen k y
def allLen (k : Ex) (n : Nat) : Tr → Bool
  | .leaf k' s => !(k == k') || s.tmps.length == n
  | .node _ x y => allLen k n x && allLen k n y
def norm (k : Ex) (t : Tr) : Tr := if count k t ≤ 1 || !allLen k ((firstLen k t).getD 0) t then t else match gather k t, prune k t with
  | some (_, s), none => .leaf k s
  | some (g, s), some t' => .node g (.leaf k s) t'
  | none, _ => t
def unExit (id : Nat) : Tr → Tr
  | .leaf (.exit id') s => if id' = id then .leaf .normal s else .leaf (.exit id') s
  | .leaf k s => .leaf k s
  | .node c x y => .node c (unExit id x) (unExit id y)
def stIds (s : St) : List Nat := s.tmps.flatMap LV.ids ++ s.mem.flatMap fun u => u.1 :: Cells.ids u.2
/-- The ways through a region's guards. -/
def flat (ops : Array Oper) (bs : List (List Nat)) (nid : Nat) : Ops → List Rec → Option Tr
  | .done st _, acc => if regionOk ops acc.reverse bs nid then some (.leaf .normal st) else none
  | .op r _ rest, acc => flat ops bs nid rest (r :: acc)
  | .fork e x y, acc => match flat ops bs nid x acc, flat ops bs nid y acc with
    | some a, some b => some (.node e a b)
    | _, _ => none
  | .none, _ => none
/-- A region: all the ways through its guards. -/
def evRegion (P : Program) (sub : Sub) (ops : Array Oper) (st : St) (nid : Nat) (pc : E) (nv : Nat) : Option Res :=
  let t := evOps P sub ops ops.toList nid pc [] st nv
  if (stIds st).all (· < nid) then match flat ops (befores ops.toList) nid t [] with
    | some tr => some ⟨tr, t.nv, nid + ops.size, t.obs⟩
    | none => none
  else none
/-- What follows behind the leaves that end normally. -/
def behind (f : E → St → Nat → Nat → Option Res) : Tr → E → Nat → Nat → Option Res
  | .leaf .normal s, pc, nv, nid => f pc s nv nid
  | .leaf k s, _, nv, nid => some ⟨.leaf k s, nv, nid, []⟩
  | .node c x y, pc, nv, nid => match behind f x (mkIf c pc (.blit false)) nv nid with
    | some r => match behind f y (mkIf c (.blit false) pc) r.nv r.nid with
      | some q => some ⟨.node c r.tr q.tr, q.nv, q.nid, r.obs ++ q.obs⟩
      | none => none
    | none => none
def Res.norm (k : Ex) (r : Res) : Res := { r with tr := SX.norm k r.tr }
def toRet : Tr → Tr
  | .leaf .normal s => .leaf .ret s
  | .leaf k s => .leaf k s
  | .node c x y => .node c (toRet x) (toRet y)
def resultsOf (P : Program) (s : St) : List ResultVar → Option (List V1)
  | [] => some []
  | .tmp t :: rest => match s.look t, resultsOf P s rest with
    | .v v, some vs => some (v :: vs)
    | _, _ => none
  | .cell a t :: rest => match evLoad P s.at 0 t (s.look a), resultsOf P s rest with
    | some { val := .v v, .. }, some vs => some (v :: vs)
    | _, _ => none
mutual
def evCode (P : Program) (inl : FuncId → Bool) : Nat → Code → E → St → Nat → Nat → Option Res
  | 0, _, _, _, _, _ => none
  | n + 1, c, pc, st, nv, nid => match c with
    | .skip => some ⟨.leaf .normal st, nv, nid, []⟩
    | .label _ => some ⟨.leaf .normal st, nv, nid, []⟩
    | .region _ ops _ => (evRegion P (evSub P inl n) ops st nid pc nv).map (Res.norm .normal)
    | .seq a b => match evCode P inl n a pc st nv nid with
      | some r => match behind (fun pc s nv nid => evCode P inl n b pc s nv nid) r.tr pc r.nv r.nid with
        | some q => some { q with obs := r.obs ++ q.obs, tr := norm .normal q.tr }
        | none => none
      | none => none
    | .cond c a b => match opnd st.look c with
      | .v (.s (.a (.bool (.blit true)))) => evCode P inl n a pc st nv nid
      | .v (.s (.a (.bool (.blit false)))) => evCode P inl n b pc st nv nid
      | .v (.s (.a (.bool e))) => match evCode P inl n a (mkIf e pc (.blit false)) st nv nid with
        | some r => match evCode P inl n b (mkIf e (.blit false) pc) st r.nv r.nid with
          | some q => some ⟨norm .normal (.node e r.tr q.tr), q.nv, q.nid, r.obs ++ q.obs⟩
          | none => none
        | none => none
      | _ => none
    | .block id body => (evCode P inl n body pc st nv nid).map fun r => { r with tr := norm .normal (unExit id r.tr) }
    | .loop body => evLoop P inl n body pc st nv nid
    | .exit id => some ⟨.leaf (.exit id) st, nv, nid, []⟩
    | .ret => some ⟨.leaf .ret st, nv, nid, []⟩
    | .scope body => evCode P inl n body pc st nv nid
    | _ => none
def evLoop (P : Program) (inl : FuncId → Bool) : Nat → Code → E → St → Nat → Nat → Option Res
  | 0, _, _, _, _, _ => none
  | n + 1, c, pc, st, nv, nid => match evCode P inl n c pc st nv nid with
    | some r => match behind (fun pc s nv nid => evLoop P inl n c pc s nv nid) r.tr pc r.nv r.nid with
      | some q => some { q with obs := r.obs ++ q.obs }
      | none => none
    | none => none
/-- A function, read whole: what it hands back, and the blocks that it was given, as they are then. -/
def evFn (P : Program) (inl : FuncId → Bool) : Nat → FuncId → List LV → List (Nat × Cells) → E → Nat → Nat → Option (LV × List (Nat × Cells) × Nat × List Ob)
  | 0, _, _, _, _, _, _ => none
  | n + 1, f, args, mem, pc, nv, nid => match P.funcs[f]? with
    | none => none
    | some fn => match fn.body with
      | none => none
      | some c => match evCode P inl n c pc ⟨args ++ List.replicate (fn.ntmps - args.length) (.tup []), mem⟩ nv nid with
        | none => none
        | some r => match norm .ret (toRet r.tr) with
          | .leaf .ret s => match resultsOf P s fn.results.toList with
            | some [v] => some (.v v, s.mem, r.nv, r.obs)
            | some vs => some (.tup vs, s.mem, r.nv, r.obs)
            | none => none
          | _ => none
def evSub (P : Program) (inl : FuncId → Bool) : Nat → Sub
  | 0, _, _, _, _, _, _ => none
  | n + 1, f, args, mem, pc, nv, id =>
    if inl f then
      let bs := reach mem 100 (args.flatMap LV.ids) []
      match evFn P inl n f args (bs.filterMap fun b => (mem b).map fun c => (b, c)) pc nv (id + 1000) with
      | none => none
      | some (v, m, nv', obs) =>
        let upd := bs.filterMap fun b => (m.lookup b).map fun c => (b, c)
        if bs.all (· < id + 1000) && args.all notBad && v.ids.all bs.contains && upd.all (fun u => (Cells.ids u.2).all bs.contains) && upd.length == bs.length then
          some { val := v, fp := bs, upd, nv := nv', obs } else none
    else if noIds args then match P.funcs[f]? with
      | some fn => match nameRes P fn nv with
        | some (v, nv') => if v.ids.isEmpty then some { val := v, nv := nv', obs := [.call pc f args v] } else none
        | none => none
      | none => none
    else none
end
end SX
end Go.Proofs.Ytfknnnlbfdeomaa
/- The reading by symbols: what the symbols stand for is kept by the short forms, by merging, and by new names. -/
set_option linter.unusedVariables false
set_option linter.unusedSimpArgs false
namespace Go.Proofs.Ytfknnnlbfdeomaa
namespace SX
variable {ε : Env} {ρ ρ' : Nat → Nat}
theorem mkAr_den (op : AO) (k : IntKind) (x y : E) : ((mkAr op k x y).den ε).1 = op.den k (x.den ε).1 (y.den ε).1 := by
  unfold mkAr; split <;> simp [E.den]
theorem mkCmp_den (op : CO) (x y : E) : ((mkCmp op x y).den ε).2 = op.den (x.den ε).1 (y.den ε).1 := by
  unfold mkCmp; split <;> simp [E.den]
theorem mkCv_den (k : IntKind) (x : E) : ((mkCv k x).den ε).1 = k.wrap (x.den ε).1 := by
  unfold mkCv; split <;> simp [E.den]
theorem mkMx_den (x y : E) : ((mkMx x y).den ε).1 = if (y.den ε).1 > (x.den ε).1 then (y.den ε).1 else (x.den ε).1 := by
  unfold mkMx; split <;> rfl
theorem mkMn_den (x y : E) : ((mkMn x y).den ε).1 = if (y.den ε).1 < (x.den ε).1 then (y.den ε).1 else (x.den ε).1 := by
  unfold mkMn; split <;> rfl
theorem mkNot_den (x : E) : ((mkNot x).den ε).2 = !(x.den ε).2 := by
  unfold mkNot; split <;> simp [E.den]
theorem mkSame_den (x y : E) : ((mkSame x y).den ε).2 = ((x.den ε).2 == (y.den ε).2) := by
  unfold mkSame; split <;> simp [E.den]
theorem mkIte_den (c x y : E) : ((mkIte c x y).den ε).1 = if (c.den ε).2 then (x.den ε).1 else (y.den ε).1 := by
  unfold mkIte
  split
  · rename_i h; rw [eq_of_beq h]; simp
  · cases c with
    | blit b => cases b <;> simp [E.den]
    | _ => simp [E.den]
theorem mkIf_den (c x y : E) : ((mkIf c x y).den ε).2 = if (c.den ε).2 then (x.den ε).2 else (y.den ε).2 := by
  unfold mkIf
  split
  · rename_i h; rw [eq_of_beq h]; simp
  · split
    · rename_i hb; split <;> simp_all [E.den]
    · simp [E.den]
    · rw [mkNot_den]; simp [E.den]
    · simp [E.den]
theorem AV.den_congr {x : AV} (h : ∀ b ∈ x.ids, ρ b = ρ' b) : x.den ε ρ = x.den ε ρ' := by
  cases x <;> simp_all [AV.den, AV.ids]
theorem SV.den_congr {x : SV} (h : ∀ b ∈ x.ids, ρ b = ρ' b) : x.den ε ρ = x.den ε ρ' := by
  cases x with
  | a x => exact AV.den_congr h
  | fn f cap =>
    simp only [SV.den]
    rw [List.map_congr_left fun y hy => AV.den_congr fun b hb => h b (List.mem_flatMap.2 ⟨y, hy, hb⟩)]
  | nilf => rfl
theorem V1.den_congr {x : V1} (h : ∀ b ∈ x.ids, ρ b = ρ' b) : x.den ε ρ = x.den ε ρ' := by
  cases x with
  | s x => exact SV.den_congr h
  | agg l =>
    simp only [V1.den]
    rw [List.map_congr_left fun y hy => SV.den_congr fun b hb => h b (List.mem_flatMap.2 ⟨y, hy, hb⟩)]
theorem LV.den_congr {x : LV} (h : ∀ b ∈ x.ids, ρ b = ρ' b) : x.den ε ρ = x.den ε ρ' := by
  cases x with
  | v x => exact V1.den_congr h
  | tup l =>
    simp only [LV.den]
    rw [List.map_congr_left fun y hy => V1.den_congr fun b hb => h b (List.mem_flatMap.2 ⟨y, hy, hb⟩)]
  | bad => rfl
theorem AV.merge_den {c : E} {x y z : AV} (h : AV.merge c x y = some z) : z.den ε ρ = if (c.den ε).2 then x.den ε ρ else y.den ε ρ := by
  unfold AV.merge at h
  split at h
  · rename_i he; cases h; rw [eq_of_beq he]; simp
  · split at h
    · split at h
      · rename_i hk; cases h; rw [eq_of_beq hk]; simp only [AV.den, mkIte_den]; split <;> rfl
      · cases h
    · cases h; simp only [AV.den, mkIf_den]; split <;> rfl
    · cases h
theorem SV.merge_den {c : E} {x y z : SV} (h : SV.merge c x y = some z) : z.den ε ρ = if (c.den ε).2 then x.den ε ρ else y.den ε ρ := by
  unfold SV.merge at h
  split at h
  · rename_i he; cases h; rw [eq_of_beq he]; simp
  · split at h
    · obtain ⟨w, hw, rfl⟩ := Option.map_eq_some_iff.1 h
      simp only [SV.den]; exact AV.merge_den hw
    · cases h
theorem mergeL_den {c : E} : ∀ {x y z : List SV}, mergeL c x y = some z → z.map (SV.den ε ρ) = if (c.den ε).2 then x.map (SV.den ε ρ) else y.map (SV.den ε ρ)
  | [], [], z, h => by simp [mergeL] at h; subst h; simp
  | x :: xs, y :: ys, z, h => by
    simp only [mergeL] at h
    split at h
    · rename_i a as h1 h2
      cases h
      simp only [List.map_cons, SV.merge_den h1, mergeL_den h2]
      split <;> rfl
    · cases h
  | [], _ :: _, _, h => by simp [mergeL] at h
  | _ :: _, [], _, h => by simp [mergeL] at h
theorem V1.merge_den {c : E} {x y z : V1} (h : V1.merge c x y = some z) : z.den ε ρ = if (c.den ε).2 then x.den ε ρ else y.den ε ρ := by
  unfold V1.merge at h
  split at h
  · obtain ⟨w, hw, rfl⟩ := Option.map_eq_some_iff.1 h
    simp only [V1.den]; exact SV.merge_den hw
  · obtain ⟨w, hw, rfl⟩ := Option.map_eq_some_iff.1 h
    simp only [V1.den, mergeL_den hw]; split <;> rfl
  · cases h
theorem mergeT_den {c : E} : ∀ {x y z : List V1}, mergeT c x y = some z → z.map (V1.den ε ρ) = if (c.den ε).2 then x.map (V1.den ε ρ) else y.map (V1.den ε ρ)
  | [], [], z, h => by simp [mergeT] at h; subst h; simp
  | x :: xs, y :: ys, z, h => by
    simp only [mergeT] at h
    split at h
    · rename_i a as h1 h2
      cases h
      simp only [List.map_cons, V1.merge_den h1, mergeT_den h2]
      split <;> rfl
    · cases h
  | [], _ :: _, _, h => by simp [mergeT] at h
  | _ :: _, [], _, h => by simp [mergeT] at h
/-- A value is what a symbol stands for, unless nothing is known. -/
def RV (ε : Env) (ρ : Nat → Nat) (x : LV) (v : Value) : Prop := x = .bad ∨ v = x.den ε ρ
theorem RV.congr {x : LV} {v : Value} (h : RV ε ρ x v) (hc : ∀ b ∈ x.ids, ρ b = ρ' b) : RV ε ρ' x v :=
  h.imp id fun h => h.trans (LV.den_congr hc)
theorem RV.get {x : LV} {v : Value} (h : RV ε ρ x v) (hb : x ≠ .bad) : v = x.den ε ρ := h.resolve_left hb
theorem LV.merge_t {c : E} {x y : LV} {v : Value} (hc : (c.den ε).2 = true) (h : RV ε ρ x v) : RV ε ρ (LV.merge c x y) v := by
  unfold LV.merge
  split
  · split
    · rename_i h1
      refine .inr ?_
      rw [h.get (by simp)]
      simp only [LV.den, V1.merge_den h1, hc, if_true]
    · exact .inl rfl
  · split
    · rename_i h1
      refine .inr ?_
      rw [h.get (by simp)]
      simp only [LV.den, mergeT_den h1, hc, if_true]
    · exact .inl rfl
  · exact .inl rfl
theorem LV.merge_f {c : E} {x y : LV} {v : Value} (hc : (c.den ε).2 = false) (h : RV ε ρ y v) : RV ε ρ (LV.merge c x y) v := by
  unfold LV.merge
  split
  · split
    · rename_i h1
      refine .inr ?_
      rw [h.get (by simp)]
      simp [LV.den, V1.merge_den h1, hc]
    · exact .inl rfl
  · split
    · rename_i h1
      refine .inr ?_
      rw [h.get (by simp)]
      simp [LV.den, mergeT_den h1, hc]
    · exact .inl rfl
  · exact .inl rfl
theorem ofCell_den {v : Value} {x : SV} (h : ofCell v = some x) : x.den ε ρ = v ∧ x.ids = [] := by
  unfold ofCell at h
  split at h <;> cases h <;> simp [SV.den, AV.den, E.den, SV.ids, AV.ids]
theorem ofCells_den : ∀ {l : List Value} {x : List SV}, ofCells l = some x → x.map (SV.den ε ρ) = l ∧ x.flatMap SV.ids = []
  | [], x, h => by simp [ofCells] at h; subst h; simp
  | v :: vs, x, h => by
    simp only [ofCells] at h
    split at h
    · rename_i a as h1 h2
      cases h
      obtain ⟨e1, e2⟩ := ofCell_den (ε := ε) (ρ := ρ) h1
      obtain ⟨e3, e4⟩ := ofCells_den h2
      simp [e1, e2, e3, e4]
    · cases h
theorem ofVal_den {v : Value} (h : ofVal v ≠ .bad) : (ofVal v).den ε ρ = v ∧ (ofVal v).ids = [] := by
  unfold ofVal at h ⊢
  split
  · rename_i cs
    split
    · rename_i l hl
      obtain ⟨e1, e2⟩ := ofCells_den (ε := ε) (ρ := ρ) hl
      exact ⟨by simp [LV.den, V1.den, e1], by simp [LV.ids, V1.ids, e2]⟩
    · rename_i hn; simp [hn] at h
  · rename_i cs
    split
    · rename_i hs
      have : cs = #[] := by simpa using hs
      subst this
      exact ⟨rfl, rfl⟩
    · rename_i hs; simp [hs] at h
  · split
    · rename_i x hx
      exact ofCell_den hx
    · rename_i hn
      exfalso
      apply h
      split <;> simp_all
end SX
end Go.Proofs.Ytfknnnlbfdeomaa
/- The reading by symbols: each operation. -/
set_option linter.unusedVariables false
set_option linter.unusedSimpArgs false
namespace Go.Proofs.Ytfknnnlbfdeomaa
namespace SX
open Go.RowKit
variable {P : Program} {ε : Env} {ρ ρ' : Nat → Nat}
/-- What the world holds of a block. -/
def Blk (ε : Env) (ρ : Nat → Nat) (base : Nat) (w : World) (b : Nat) (cs : Cells) : Prop :=
  base ≤ ρ b ∧ ρ b < w.heap.size ∧ ∀ j c, cs[j]? = some c → ∃ v, w.cell? ⟨ρ b, j, none⟩ = some v ∧ w.frozen? ⟨ρ b, j, none⟩ = false ∧ ∀ s, c = some s → v = s.den ε ρ
/-- Nothing has turned but the blocks X and what is new. -/
structure Ext (w w' : World) (X : Nat → Prop) : Prop where
  os : w'.os = w.os
  tape : w'.tape = w.tape
  output : w'.output = w.output
  size : w.heap.size ≤ w'.heap.size
  block : ∀ b, b < w.heap.size → ¬ X b → w'.heap[b]? = w.heap[b]?
theorem Ext.refl (w : World) (X : Nat → Prop) : Ext w w X := ⟨rfl, rfl, rfl, Nat.le_refl _, fun _ _ _ => rfl⟩
theorem Ext.trans {w w' w'' : World} {X Y : Nat → Prop} (h : Ext w w' X) (k : Ext w' w'' Y) : Ext w w'' (fun b => X b ∨ Y b) :=
  ⟨k.os.trans h.os, k.tape.trans h.tape, k.output.trans h.output, Nat.le_trans h.size k.size, fun b hb hn =>
    (k.block b (Nat.lt_of_lt_of_le hb h.size) fun hy => hn (.inr hy)).trans (h.block b hb fun hx => hn (.inl hx))⟩
theorem Ext.mono {w w' : World} {X Y : Nat → Prop} (h : Ext w w' X) (hx : ∀ b, b < w.heap.size → X b → Y b) : Ext w w' Y :=
  ⟨h.os, h.tape, h.output, h.size, fun b hb hn => h.block b hb fun hX => hn (hx b hb hX)⟩
theorem Ext.below {w w' w0 : World} {X : Nat → Prop} {base : Nat} (h : Ext w w' X) (hx : ∀ b, X b → base ≤ b) (hs : base ≤ w.heap.size) (h0 : Below base w0 w) : Below base w0 w' :=
  ⟨h.os.trans h0.os, h.tape.trans h0.tape, h.output.trans h0.output, Nat.le_trans h0.size h.size, fun k hk =>
    (h.block k (Nat.lt_of_lt_of_le hk hs) fun hX => absurd (hx k hX) (by omega)).trans (h0.block k hk)⟩
theorem Ext.of_below {w w' : World} (h : Below w.heap.size w w') (X : Nat → Prop) : Ext w w' X := ⟨h.os, h.tape, h.output, h.size, fun b hb _ => h.block b hb⟩
theorem Blk.ext {base b : Nat} {w w' : World} {cs : Cells} {X : Nat → Prop} (h : Blk ε ρ base w b cs) (hx : Ext w w' X) (hn : ¬ X (ρ b)) : Blk ε ρ base w' b cs := by
  obtain ⟨h1, h2, h3⟩ := h
  have hb := hx.block _ h2 hn
  refine ⟨h1, Nat.lt_of_lt_of_le h2 hx.size, fun j c hj => ?_⟩
  obtain ⟨v, e1, e2, e3⟩ := h3 j c hj
  exact ⟨v, (World.cell?_of_block (w := w) (a := ⟨ρ b, j, none⟩) hb).trans e1, (World.frozen?_of_block (w := w) (a := ⟨ρ b, j, none⟩) hb).trans e2, e3⟩
theorem Blk.congr {base b : Nat} {w : World} {cs : Cells} (h : Blk ε ρ base w b cs) (hb : ρ b = ρ' b) (hc : ∀ i ∈ Cells.ids cs, ρ i = ρ' i) : Blk ε ρ' base w b cs := by
  obtain ⟨h1, h2, h3⟩ := h
  refine ⟨hb ▸ h1, hb ▸ h2, fun j c hj => ?_⟩
  obtain ⟨v, e1, e2, e3⟩ := h3 j c hj
  refine ⟨v, hb ▸ e1, hb ▸ e2, fun s hs => (e3 s hs).trans (SV.den_congr fun i hi => hc i ?_)⟩
  subst hs
  exact List.mem_flatMap.2 ⟨some s, List.mem_of_getElem? hj, hi⟩
def OpOk (P : Program) (o : Oper) (a : Act) (w : World) (R : Value → World → Prop) : Prop :=
  ∀ (next : Act → World → Prop) (Q : Exit → Act → World → Prop), (∀ v w', R v w' → next (a.put o.dst v) w') → o.wp P a w next Q
section
variable {o : Oper} {a : Act} {w w' : World} {R : Value → World → Prop} {v : Value}
theorem OpOk.value (h : (execOp a.eval o).run P w = .ok (.value v) w') (hr : R v w') : OpOk P o a w R := fun next Q hn => by
  unfold Oper.wp; rw [h]; exact hn _ _ hr
theorem OpOk.skip (h : (execOp a.eval o).run P w = .ok .skip w') (hr : R undef w') : OpOk P o a w R := fun next Q hn => by
  unfold Oper.wp; rw [h]; exact hn _ _ hr
theorem OpOk.enter {f : FuncId} {args : Array Value} (h : (execOp a.eval o).run P w = .ok (.enter f args) w) (hc : Calls P f args w (fun e w' => ∃ v, e = .returned v ∧ R v w')) : OpOk P o a w R := fun next Q hn => by
  unfold Oper.wp; rw [h]
  exact hc.mono fun e w' ⟨v, he, hr⟩ => by subst he; exact hn _ _ hr
end
/-- What is asked of the world behind an operation. -/
def Out1 (ε : Env) (ρ : Nat → Nat) (base id : Nat) (w : World) (val : LV) (upd : List (Nat × Cells)) (v : Value) (w' : World) : Prop :=
  ∃ ρ', (∀ b, b ≠ id → ρ' b = ρ b) ∧ v = val.den ε ρ' ∧ (∀ u ∈ upd, Blk ε ρ' base w' u.1 u.2) ∧ ((∀ u ∈ upd, u.1 ≠ id) → ρ' = ρ) ∧
    ((∃ u ∈ upd, u.1 = id) → w.heap.size ≤ ρ' id) ∧ Ext w w' (fun x => ∃ u ∈ upd, u.1 ≠ id ∧ ρ u.1 = x)
theorem Out1.pure {base id : Nat} {w : World} {val : LV} {v : Value} (h : v = val.den ε ρ) : Out1 ε ρ base id w val [] v w :=
  ⟨ρ, fun _ _ => rfl, h, by simp, fun _ => rfl, by simp, Ext.refl _ _⟩
/-- What is asked of the slots. -/
def Slots (ε : Env) (ρ : Nat → Nat) (look : Nat → LV) (o : Oper) (a : Act) : Prop := ∀ t, Operand.tmp t ∈ o.op.operands → RV ε ρ (look t) (a.tmps.getD t undef)
theorem opnd_den {look : Nat → LV} {a : Act} {x : Operand} (h : ∀ t, x = .tmp t → RV ε ρ (look t) (a.tmps.getD t undef)) (hb : opnd look x ≠ .bad) : a.eval x = (opnd look x).den ε ρ := by
  cases x with
  | tmp t => exact (h t rfl).get hb
  | const v => exact (ofVal_den hb).1.symm
  | global g => exact absurd rfl hb
  | func f => rfl
theorem opnd_eq {look : Nat → LV} {a : Act} {x : Operand} {y : LV} (h : ∀ t, x = .tmp t → RV ε ρ (look t) (a.tmps.getD t undef)) (hy : opnd look x = y) (hb : y ≠ .bad) : a.eval x = y.den ε ρ := by
  subst hy; exact opnd_den h hb
theorem V1.den_cells (v : V1) : (v.den ε ρ).cells = (v.cells.map (SV.den ε ρ)).toArray := by
  cases v with
  | s x =>
    have : ∀ x : SV, ∀ c, x.den ε ρ ≠ .agg c := by intro x c; cases x with
      | a y => cases y <;> simp [SV.den, AV.den]
      | fn f cap => simp [SV.den]
      | nilf => simp [SV.den]
    simp only [V1.den, V1.cells, List.map_cons, List.map_nil, Value.cells]
    split
    · rename_i c hc; exact absurd hc (this x c)
    · rfl
  | agg l => simp [V1.den, V1.cells, Value.cells]
theorem oneCell_den (s : SV) : (s.den ε ρ).oneCell' = true := by
  cases s with
  | a y => cases y <;> rfl
  | fn f cap => rfl
  | nilf => rfl
theorem run_newRow (w : World) (t : TypeId) (cs : Array Value) : (newRow t cs).run P w = .ok ⟨w.heap.size, 0, none⟩ (w.alloc (.cells cs t)) := by
  simp [newRow, Result.andThen]
theorem ext_alloc (w : World) (o : Obj) (X : Nat → Prop) : Ext w (w.alloc o) X := ⟨rfl, rfl, rfl, by simp, fun b hb _ => Below.heap_alloc _ _ _ hb⟩
/-- A new block. -/
theorem out_new {base id nv : Nat} {w : World} {t : TypeId} {cs : List SV} {r : Op1} {val : LV} {f : Nat → Value} (h : newBlock id nv cs = some r) (hb : base ≤ w.heap.size)
    (hv : ∀ ρ' : Nat → Nat, ρ' id = w.heap.size → val.den ε ρ' = f w.heap.size) :
    Out1 ε ρ base id w val r.upd (f w.heap.size) (w.alloc (.cells (cs.map (SV.den ε ρ)).toArray t)) := by
  unfold newBlock at h
  split at h
  · cases h
  · rename_i hn
    cases h
    have hid : ∀ i ∈ cs.flatMap SV.ids, ρ i = (fun b => if b = id then w.heap.size else ρ b) i := fun i hi => by
      have : i ≠ id := fun e => hn (by subst e; simpa using hi)
      simp [this]
    refine ⟨fun b => if b = id then w.heap.size else ρ b, fun b hb => by simp [hb], ?_, ?_, ?_, ?_, ?_⟩
    · exact (hv _ (by simp)).symm
    · simp only [List.mem_singleton, forall_eq]
      refine ⟨by simpa using hb, by simp, fun j c hj => ?_⟩
      simp only [if_true, List.getElem?_map, Option.map_eq_some_iff] at hj ⊢
      obtain ⟨s, hs, rfl⟩ := hj
      refine ⟨s.den ε ρ, ?_, ?_, fun s' h' => ?_⟩
      · rw [World.cell?_alloc_new]; simp [hs]
      · rw [World.frozen?_alloc_new]
      · cases h'
        exact SV.den_congr fun i hi => hid i (List.mem_flatMap.2 ⟨s, List.mem_of_getElem? hs, hi⟩)
    · simp
    · simp
    · exact ext_alloc _ _ _
end SX
end Go.Proofs.Ytfknnnlbfdeomaa
/- The reading by symbols: the operations that only look. -/
set_option linter.unusedVariables false
set_option linter.unusedSimpArgs false
namespace Go.Proofs.Ytfknnnlbfdeomaa
namespace SX
open Go.RowKit
variable {P : Program} {ε : Env} {ρ : Nat → Nat}
section
variable {w : World}
theorem run_underlying {t : TypeId} {d : TypeDesc} (h : P.underlying t = some d) : (underlying t).run P w = .ok d w := by
  simp [underlying, h, Result.andThen]
theorem run_typeInfo {t : TypeId} {i : TypeInfo} (h : P.info? t = some i) : (typeInfo t).run P w = .ok i w := by
  simp [typeInfo, h, Result.andThen]
theorem run_sizeOf {t : TypeId} {i : TypeInfo} (h : P.info? t = some i) : (sizeOf t).run P w = .ok i.size w := by
  simp [sizeOf, run_typeInfo h, Result.andThen]
theorem run_zeroValue {t : TypeId} {z : Value} (h : (P.info? t).bind (·.zero) = some z) : (zeroValue t).run P w = .ok z w := by
  obtain ⟨i, hi, hz⟩ := Option.bind_eq_some_iff.1 h
  simp [zeroValue, run_typeInfo hi, hz, Result.andThen]
theorem run_isAgg {t : TypeId} (h : (P.underlying t).isSome = true) : (isAgg t).run P w = .ok (aggT P t) w := by
  obtain ⟨d, hd⟩ := Option.isSome_iff_exists.1 h
  unfold isAgg aggT
  simp only [Sem.run_bind, run_underlying hd, Result.andThen, hd]
  cases d <;> rfl
/-- A part of a struct or an array. -/
theorem run_part {t : TypeId} {cs : List SV} {off : Nat} {v : V1} (h : getPart P t cs off = some v) : (part t (cs.map (SV.den ε ρ)).toArray off).run P w = .ok (v.den ε ρ) w := by
  unfold getPart at h
  split at h
  · rename_i d i hd hi
    unfold part
    simp only [Sem.run_bind, run_isAgg (w := w) (show (P.underlying t).isSome = true by simp [hd]), Result.andThen, aggT, hd]
    split at h
    · split at h
      · cases h
        simp [run_sizeOf hi, Result.andThen, V1.den, List.map_take, List.map_drop]
      · cases h
    · split at h
      · cases h
        simp [run_sizeOf hi, Result.andThen, V1.den, List.map_take, List.map_drop]
      · cases h
    · rename_i h1 h2
      obtain ⟨s, hs, rfl⟩ := Option.map_eq_some_iff.1 h
      have : aggT P t = false := by
        unfold aggT; rw [hd]
        split
        · rename_i x hx; cases hx; exact absurd rfl (h1 _)
        · rename_i x y hx; cases hx; exact absurd rfl (h2 _ _)
        · rfl
      have e := this
      unfold aggT at e
      rw [hd] at e
      simp only [e]
      simp [hs, V1.den]
  · cases h
end
end SX
end Go.Proofs.Ytfknnnlbfdeomaa
/- The reading by symbols: memory is read and written. -/
set_option linter.unusedVariables false
set_option linter.unusedSimpArgs false
namespace Go.Proofs.Ytfknnnlbfdeomaa
namespace SX
open Go.RowKit
variable {P : Program} {ε : Env} {ρ : Nat → Nat}
theorem add_none (b off n : Nat) : (⟨b, off, none⟩ : Addr).add n = ⟨b, off + n, none⟩ := by
  unfold Addr.add; split
  · rename_i h; subst h; rfl
  · rfl
theorem allSome_spec : ∀ {cs : Cells} {l : List SV}, allSome cs = some l → cs = l.map some
  | [], l, h => by simp [allSome] at h; subst h; rfl
  | some x :: xs, l, h => by
    simp only [allSome, Option.map_eq_some_iff] at h
    obtain ⟨l', h', rfl⟩ := h
    rw [allSome_spec h']; rfl
  | none :: xs, l, h => by simp [allSome] at h
theorem load_out {base nv : Nat} {t : TypeId} {mem : Nat → Option Cells} {w : World} {r : Op1} {a : LV} (h : evLoad P mem nv t a = some r)
    (hm : ∀ b ∈ r.fp, ∀ cs, mem b = some cs → Blk ε ρ base w b cs) : r.upd = [] ∧ r.obs = [] ∧ (Instr.loadAt t (a.den ε ρ)).run P w = .ok (r.val.den ε ρ) w := by
  unfold evLoad at h
  split at h
  · rename_i b off
    split at h
    · rename_i cs i hcs hi
      split at h
      · rename_i hu
        have run0 : (Instr.loadAt t ((LV.v (.s (.a (.ptr b off)))).den ε ρ)).run P w = (loadVar t ⟨ρ b, off, none⟩).run P w := by
          simp [Instr.loadAt, Instr.sureAddr, LV.den, V1.den, SV.den, AV.den, Result.andThen]
        split at h
        · rename_i hag
          split at h
          · rename_i hle
            obtain ⟨l, hl, rfl⟩ := Option.map_eq_some_iff.1 h
            refine ⟨rfl, rfl, ?_⟩
            obtain ⟨h1, h2, h3⟩ := hm b (by simp) cs hcs
            have hs := allSome_spec hl
            have hlen : l.length = i.size := by
              have := congrArg List.length hs
              simp at this
              omega
            have key : (loadCells ⟨ρ b, off, none⟩ i.size).run P w = .ok (l.map (SV.den ε ρ)).toArray w := by
              have := run_loadCells_list (P := P) (w := w) ⟨ρ b, off, none⟩ (l.map (SV.den ε ρ)) (fun j v hj => by
                simp only [List.getElem?_map, Option.map_eq_some_iff] at hj
                obtain ⟨s, hs', rfl⟩ := hj
                have hj2 : cs[off + j]? = some (some s) := by
                  have hj3 : ((cs.drop off).take i.size)[j]? = some (some s) := by rw [hs]; simp [hs']
                  have hlt : j < i.size := by
                    have := (List.getElem?_eq_some_iff.1 hs').1
                    omega
                  rw [List.getElem?_take_of_lt hlt, List.getElem?_drop] at hj3
                  exact hj3
                obtain ⟨v, e1, e2, e3⟩ := h3 _ _ hj2
                rw [add_none, e1, e3 s rfl])
              rw [List.length_map, hlen] at this
              exact this
            rw [run0]
            unfold loadVar
            simp only [Sem.run_bind, run_isAgg hu, Result.andThen, hag, if_true, run_sizeOf hi, key, Sem.run_pure]
            rfl
          · cases h
        · rename_i hag
          split at h
          · rename_i x hx
            cases h
            refine ⟨rfl, rfl, ?_⟩
            obtain ⟨h1, h2, h3⟩ := hm b (by simp) cs hcs
            obtain ⟨v, e1, e2, e3⟩ := h3 _ _ hx
            rw [run0]
            unfold loadVar
            simp only [Sem.run_bind, run_isAgg hu, Result.andThen, hag, Bool.false_eq_true, if_false, run_load, e1, e3 x rfl]
            rfl
          · cases h
      · cases h
    · cases h
  · cases h
theorem setL_length : ∀ (xs : List SV) (cs : Cells) (off : Nat), (setL cs off xs).length = cs.length
  | [], cs, off => rfl
  | x :: xs, cs, off => by simp [setL, setL_length xs]
theorem setL_get : ∀ (xs : List SV) (cs : Cells) (off j : Nat), off + xs.length ≤ cs.length →
    (setL cs off xs)[j]? = if off ≤ j ∧ j < off + xs.length then (xs[j - off]?).map some else cs[j]?
  | [], cs, off, j, _ => by rw [if_neg (by simp only [List.length_nil]; omega)]; rfl
  | x :: xs, cs, off, j, h => by
    simp only [List.length_cons] at h
    rw [setL, setL_get xs _ _ j (by simp; omega)]
    by_cases h1 : off + 1 ≤ j ∧ j < off + 1 + xs.length
    · rw [if_pos h1, if_pos (by simp only [List.length_cons]; omega)]
      rw [show j - off = (j - (off + 1)) + 1 by omega]; simp
    · rw [if_neg h1]
      by_cases h2 : j = off
      · subst h2
        rw [if_pos (by simp only [List.length_cons]; omega), List.getElem?_set_self (by omega)]
        simp
      · rw [if_neg (by simp only [List.length_cons]; omega), List.getElem?_set_ne (by omega)]
theorem run_storeAt_ptr {t : TypeId} {a : Addr} {v : Value} {w : World} : (Instr.storeAt t (.pointer (some a)) v).run P w = (storeVar t a v).run P w := by
  simp [Instr.storeAt, Instr.sureAddr, Result.andThen]
theorem run_storeCells (b off : Nat) : ∀ (vs : List Value) (i : Nat) (w : World), (∀ v ∈ vs, v.oneCell' = true) →
    (∀ j, j < vs.length → ∃ v, w.cell? ⟨b, off + i + j, none⟩ = some v ∧ w.frozen? ⟨b, off + i + j, none⟩ = false) →
    ∃ w', (storeCells ⟨b, off, none⟩ vs i).run P w = .ok () w' ∧ Ext w w' (fun x => x = b) ∧ (∀ j, w'.frozen? ⟨b, j, none⟩ = w.frozen? ⟨b, j, none⟩) ∧
      ∀ j, w'.cell? ⟨b, j, none⟩ = if off + i ≤ j ∧ j < off + i + vs.length then vs[j - (off + i)]? else w.cell? ⟨b, j, none⟩
  | [], i, w, _, _ => ⟨w, by simp [storeCells], Ext.refl _ _, fun _ => rfl, fun j => by rw [if_neg (by simp only [List.length_nil]; omega)]⟩
  | v :: vs, i, w, hv, hc => by
    obtain ⟨u, hu, hf⟩ := hc 0 (by simp)
    simp only [Nat.add_zero] at hu hf
    let w1 := w.setCell ⟨b, off + i, none⟩ v
    have hc1 : ∀ j, w1.cell? ⟨b, j, none⟩ = if j = off + i then some v else w.cell? ⟨b, j, none⟩ := fun j => by
      by_cases h : j = off + i
      · subst h; rw [if_pos rfl]; exact World.cell?_setCell_same _ _ _ hu
      · rw [if_neg h]; exact World.cell?_setCell_other _ _ _ _ (by intro e; exact h (by simpa using (congrArg Addr.off e).symm))
    obtain ⟨w', h1, h2, h3, h4⟩ := run_storeCells b off vs (i + 1) w1 (fun x hx => hv x (by simp [hx])) (fun j hj => by
      obtain ⟨x, hx, hfx⟩ := hc (j + 1) (by simpa using hj)
      refine ⟨x, ?_, ?_⟩
      · rw [hc1, if_neg (by omega)]; rw [← hx]; congr 2; omega
      · rw [World.frozen?_setCell, ← hfx]; congr 2; omega)
    refine ⟨w', ?_, ?_, fun j => by rw [h3, World.frozen?_setCell], fun j => ?_⟩
    · rw [storeCells, add_none]
      simp only [Sem.run_bind, run_store P w _ v _ (hv v (by simp)), hu, hf, Bool.false_eq_true, if_false, Result.andThen]
      exact h1
    · have e0 : Ext w w1 (fun x => x = b) := ⟨rfl, rfl, rfl, by simp [w1], fun k hk hn => Below.heap_setCell _ _ _ _ (by simpa using hn)⟩
      exact (e0.trans h2).mono fun _ _ hx => hx.elim id id
    · rw [h4, hc1]
      by_cases h : j = off + i
      · subst h
        rw [if_neg (by omega), if_pos rfl, if_pos (by simp)]
        simp
      · rw [if_neg h]
        by_cases h' : off + (i + 1) ≤ j ∧ j < off + (i + 1) + vs.length
        · rw [if_pos h', if_pos (by simp only [List.length_cons]; omega), show j - (off + i) = (j - (off + (i + 1))) + 1 by omega]; simp
        · rw [if_neg h', if_neg (by simp only [List.length_cons]; omega)]
theorem store_out {base id nv : Nat} {t : TypeId} {mem : Nat → Option Cells} {w : World} {r : Op1} {a x : LV} (h : evStore P mem nv t a x = some r) (hid : mem id = none)
    (hm : ∀ b ∈ r.fp, ∀ cs, mem b = some cs → Blk ε ρ base w b cs) : r.obs = [] ∧ (∀ u ∈ r.upd, u.1 ∈ r.fp ∧ (mem u.1).isSome = true) ∧
      ∃ w', (Instr.storeAt t (a.den ε ρ) (x.den ε ρ)).run P w = .ok () w' ∧ Out1 ε ρ base id w r.val r.upd undef w' := by
  unfold evStore at h
  split at h
  · rename_i b off v
    split at h
    · rename_i cs i hcs hi
      split at h
      · rename_i hsz
        simp only [Bool.and_eq_true, decide_eq_true_eq] at hsz
        cases h
        obtain ⟨h1, h2, h3⟩ := hm b (by simp) cs hcs
        have hne : b ≠ id := fun e => by subst e; rw [hcs] at hid; cases hid
        refine ⟨rfl, by simp [hcs], ?_⟩
        obtain ⟨w', e1, e2, e3, e4⟩ := run_storeCells (P := P) (ρ b) off (v.cells.map (SV.den ε ρ)) 0 w (fun y hy => by
          obtain ⟨s, _, rfl⟩ := List.mem_map.1 hy; exact oneCell_den s) (fun j hj => by
          have hj' : off + j < cs.length := by simp at hj; omega
          obtain ⟨y, f1, f2, _⟩ := h3 (off + j) _ (List.getElem?_eq_getElem hj')
          exact ⟨y, by simpa using f1, by simpa using f2⟩)
        refine ⟨w', ?_, ρ, fun _ _ => rfl, rfl, ?_, fun _ => rfl, ?_, ?_⟩
        · show (Instr.storeAt t (.pointer (some ⟨ρ b, off, none⟩)) (v.den ε ρ)).run P w = _
          rw [run_storeAt_ptr]
          unfold storeVar
          have hcz : (v.den ε ρ).cells.size = i.size := by rw [V1.den_cells]; simp [hsz.1]
          simp only [Sem.run_bind, run_sizeOf hi, Result.andThen, hcz, ne_eq, not_true_eq_false, if_false, Sem.run_pure]
          rw [V1.den_cells]
          simpa using e1
        · simp only [List.mem_singleton, forall_eq]
          refine ⟨h1, Nat.lt_of_lt_of_le h2 e2.size, fun j c hj => ?_⟩
          rw [setL_get _ _ _ _ (by omega)] at hj
          rw [e3, e4]
          simp only [List.length_map, Nat.add_zero]
          by_cases hr : off ≤ j ∧ j < off + v.cells.length
          · rw [if_pos hr] at hj
            rw [if_pos hr]
            obtain ⟨s, hs, rfl⟩ := Option.map_eq_some_iff.1 hj
            have hjl : j < cs.length := by omega
            obtain ⟨y, f1, f2, _⟩ := h3 j _ (List.getElem?_eq_getElem hjl)
            refine ⟨s.den ε ρ, by simp [hs], f2, fun s' hs' => by cases hs'; rfl⟩
          · rw [if_neg hr] at hj
            rw [if_neg hr]
            exact h3 j c hj
        · simp [hne]
        · exact e2.mono fun x _ hx => by simp [hne, hx]
      · cases h
    · cases h
  · cases h
end SX
end Go.Proofs.Ytfknnnlbfdeomaa
/- The reading by symbols: arithmetic, builtins. -/
set_option linter.unusedVariables false
set_option linter.unusedSimpArgs false
namespace Go.Proofs.Ytfknnnlbfdeomaa
namespace SX
open Go.RowKit
variable {P : Program} {ε : Env} {ρ : Nat → Nat}
/-- A condition to be shown, or a call. -/
def Ob.ok (P : Program) (ε : Env) (w0 : World) : Ob → Prop
  | .req pc c => (pc.den ε).2 = true → (c.den ε).2 = true
  | .call pc f args res => (pc.den ε).2 = true → ∀ w, Below w0.heap.size w0 w → Calls P f (args.map (LV.den ε fun _ => 0)).toArray w (fun e w' => e = .returned (res.den ε fun _ => 0) ∧ Below w.heap.size w w')
section
variable {o : Oper} {a : Act} {w w' : World} {v : Value}
theorem ex_value {s : Sem Value} (he : execOp a.eval o = (do pure (.value (← s)))) (hs : s.run P w = .ok v w') : (execOp a.eval o).run P w = .ok (.value v) w' := by
  rw [he]; simp [hs, Result.andThen]
theorem ex_unit {s : Sem Unit} (he : execOp a.eval o = (do s; pure .skip)) (hs : s.run P w = .ok () w') : (execOp a.eval o).run P w = .ok .skip w' := by
  rw [he]; simp [hs, Result.andThen]
end
section
variable {w : World}
theorem run_eqGuard_int {op : BinOp} {t : TypeId} {x y : Operand} {k k' : IntKind} {a b : Int} : (eqGuard op t x y (.int k a) (.int k' b)).run P w = .ok () w := by
  unfold eqGuard; cases op <;> simp [Result.andThen]
theorem run_eqGuard_bool {op : BinOp} {t : TypeId} {x y : Operand} {a b : Bool} : (eqGuard op t x y (.bool a) (.bool b)).run P w = .ok () w := by
  unfold eqGuard; cases op <;> simp [Result.andThen]
theorem run_bin {op : BinOp} {t : TypeId} {x y : Operand} {u v r : Value} (h1 : (eqGuard op t x y u v).run P w = .ok () w) (h2 : (binOp op t u v).run P w = .ok r w) :
    (do eqGuard op t x y u v; binOp op t u v : Sem Value).run P w = .ok r w := by
  simp [h1, h2, Result.andThen]
theorem bin_cmp {op : BinOp} {f : CO} (h : cmpOf op = some f) {t : TypeId} {k : IntKind} {a b : Int} : (binOp op t (.int k a) (.int k b)).run P w = .ok (.bool (f.den a b)) w := by
  cases op <;> simp [cmpOf] at h <;> subst h <;> simp [binOp, Op.intCmp, CO.den]
theorem bin_ar {op : BinOp} {f : AO} (h : arithOf op = some f) (h1 : f ≠ .quo) (h2 : f ≠ .rem) (h3 : f ≠ .shl) (h4 : f ≠ .shr) {t : TypeId} {k : IntKind} {a b : Int} :
    (binOp op t (.int k a) (.int k b)).run P w = .ok (.int k (f.den k a b)) w := by
  cases op <;> simp [arithOf] at h <;> subst h <;> simp_all [binOp, Op.intArith, Op.intBits, AO.den]
theorem bin_div {op : BinOp} {f : AO} (h : arithOf op = some f) (h1 : f = .quo ∨ f = .rem) {t : TypeId} {k : IntKind} {a b : Int} (hb : b ≠ 0) :
    (binOp op t (.int k a) (.int k b)).run P w = .ok (.int k (f.den k a b)) w := by
  cases op <;> simp [arithOf] at h <;> subst h <;> simp_all [binOp, Op.intDiv, AO.den]
theorem bin_sh {op : BinOp} {f : AO} (h : arithOf op = some f) (h1 : op = .shl ∨ op = .shr) {t : TypeId} {k k' : IntKind} {a b : Int} (hb : 0 ≤ b) :
    (binOp op t (.int k a) (.int k' b)).run P w = .ok (.int k (f.den k a b)) w := by
  have : ¬ b < 0 := by omega
  cases op <;> simp [arithOf] at h <;> subst h <;> simp_all [binOp, Op.shift, AO.den] <;> (intro h9; omega)
theorem run_equal_bool {t : TypeId} (ht : P.underlying t = some .bool) {a b : Bool} : (Op.equal t (.bool a) (.bool b)).run P w = .ok (a == b) w := by
  unfold Op.equal
  show (Op.equalIn (9999 + 1) t (.bool a) (.bool b)).run P w = _
  rw [Op.equalIn]
  simp only [Sem.run_bind, run_underlying ht, Result.andThen]
  rfl
theorem bin_bool {t : TypeId} (ht : P.underlying t = some .bool) {a b : Bool} : (binOp .eql t (.bool a) (.bool b)).run P w = .ok (.bool (a == b)) w := by
  have e : binOp .eql t (.bool a) (.bool b) = (do pure (.bool (← Op.equal t (.bool a) (.bool b)))) := by unfold binOp; rfl
  rw [e]; simp only [Sem.run_bind, run_equal_bool ht, Result.andThen, Sem.run_pure]
theorem bin_nbool {t : TypeId} (ht : P.underlying t = some .bool) {a b : Bool} : (binOp .neq t (.bool a) (.bool b)).run P w = .ok (.bool (!(a == b))) w := by
  have e : binOp .neq t (.bool a) (.bool b) = (do pure (.bool (!(← Op.equal t (.bool a) (.bool b))))) := by unfold binOp; rfl
  rw [e]; simp only [Sem.run_bind, run_equal_bool ht, Result.andThen, Sem.run_pure]
end
def eqElems (d : Nat) (e : TypeId) (n : Nat) (xs ys : Array Value) : List Nat → Sem Bool
  | [] => pure true
  | i :: is => do
      let a ← part e xs (i * n)
      let b ← part e ys (i * n)
      let r ← Op.equalIn d e a b
      if (!r) = true then pure false else eqElems d e n xs ys is
theorem run_equalIn_array (w : World) (d : Nat) (t e : TypeId) (len n : Nat) (xs ys : Array Value) (ht : P.underlying t = some (.array len e)) (hn : (Go.sizeOf e).run P w = Result.ok n w) :
    (Op.equalIn (d + 1) t (.agg xs) (.agg ys)).run P w = (eqElems d e n xs ys (List.range' 0 len)).run P w := by
  have hu : (underlying t).run P w = Result.ok (.array len e) w := by simp [underlying, ht, Result.andThen]
  simp only [Op.equalIn, Sem.run_bind, hu, Result.andThen_ok, hn]
  rw [Std.Legacy.Range.forIn_eq_forIn_range']
  simp only [Std.Legacy.Range.size, Nat.sub_zero, Nat.add_sub_cancel, Nat.div_one]
  generalize List.range' 0 len = is
  clear hu ht hn
  induction is generalizing w with
  | nil => simp [eqElems]
  | cons i is ih =>
    simp only [List.forIn_cons, eqElems, Sem.run_bind, Sem.run_ite]
    generalize (part e xs (i * n)).run P w = r1
    cases r1 with
    | ok a w1 =>
      simp only [Result.andThen_ok]
      generalize (part e ys (i * n)).run P w1 = r2
      cases r2 with
      | ok b w2 =>
        simp only [Result.andThen_ok]
        generalize (Op.equalIn d e a b).run P w2 = r3
        cases r3 with
        | ok r w3 =>
          cases r
          · simp only [Result.andThen_ok, Bool.not_false, if_true, Sem.run_pure]
          · simp only [Result.andThen_ok, Bool.not_true, Bool.false_eq_true, if_false, Sem.run_pure]
            exact ih w3
        | halt x w3 => simp [Result.andThen]
      | halt x w2 => simp [Result.andThen]
    | halt x w1 => simp [Result.andThen]
theorem run_eqT {w : World} : ∀ (n d : Nat), n ≤ d → ∀ {t : TypeId} {x y : V1} {e : E}, eqT P n t x y = some e → (Op.equalIn d t (x.den ε ρ) (y.den ε ρ)).run P w = .ok (e.den ε).2 w
  | 0, _, _, _, _, _, _, h => by cases h
  | n + 1, d, hd, t, x, y, e, h => by
    obtain ⟨d, rfl⟩ : ∃ d', d = d' + 1 := ⟨d - 1, by omega⟩
    simp only [eqT] at h
    split at h
    · rename_i q k a k' b hu
      split at h
      · rename_i hk
        obtain rfl := eq_of_beq hk
        cases h
        rw [mkCmp_den]
        exact run_equalIn_int w d t k q (a.den ε).1 (b.den ε).1 hu
      · cases h
    · rename_i a b hu
      cases h
      rw [mkSame_den]
      exact run_equalIn_bool' w d t (a.den ε).2 (b.den ε).2 hu
    · rename_i fs xs ys hu
      split at h
      · cases h
      · rename_i hp
        have hf : P.fieldsOf t = fs := by unfold Program.fieldsOf; rw [hu]
        have key : ∀ (l : List Field) (e : E), l.foldr (fun f acc => match acc with
            | none => none
            | some r => if f.name == "_" then some r else match getPart P f.type xs f.offset, getPart P f.type ys f.offset with
              | some a, some b => (eqT P n f.type a b).map fun c => mkIf c r (.blit false)
              | _, _ => none) (some (.blit true)) = some e →
            (Op.eqFields d (xs.map (SV.den ε ρ)).toArray (ys.map (SV.den ε ρ)).toArray l).run P w = .ok (e.den ε).2 w := by
          intro l
          induction l with
          | nil => intro e h; simp at h; subst h; rfl
          | cons f l ih =>
            intro e h
            rw [List.foldr_cons] at h
            split at h
            · cases h
            · rename_i r hr
              have ihr := ih r hr
              unfold Op.eqFields
              split at h
              · rename_i hn
                cases h
                rw [if_neg (by simpa using hn)]
                exact ihr
              · rename_i hn
                rw [if_pos (by simpa using hn)]
                split at h
                · rename_i a b ha hb
                  obtain ⟨c, hc, rfl⟩ := Option.map_eq_some_iff.1 h
                  have hq : (Op.equalIn d f.type (a.den ε ρ) (b.den ε ρ)).run P w = .ok (c.den ε).2 w := run_eqT n d (by omega) hc
                  simp only [Sem.run_bind, run_part ha, run_part hb, hq, Result.andThen, Sem.run_ite]
                  rw [mkIf_den]
                  cases (c.den ε).2
                  · simp [E.den]
                  · simpa using ihr
                · cases h
        have := run_equalIn_struct w d t (xs.map (SV.den ε ρ)).toArray (ys.map (SV.den ε ρ)).toArray (by rw [hf]; exact hu) (by simpa using hp)
        rw [hf, key _ _ h] at this
        exact this
    · rename_i len el xs ys hu
      split at h
      · rename_i i hi
        have key : ∀ (l : List Nat) (e : E), l.foldr (fun j acc => match acc with
            | none => none
            | some r => match getPart P el xs (j * i.size), getPart P el ys (j * i.size) with
              | some a, some b => (eqT P n el a b).map fun c => mkIf c r (.blit false)
              | _, _ => none) (some (.blit true)) = some e →
            (eqElems d el i.size (xs.map (SV.den ε ρ)).toArray (ys.map (SV.den ε ρ)).toArray l).run P w = .ok (e.den ε).2 w := by
          intro l
          induction l with
          | nil => intro e h; simp at h; subst h; rfl
          | cons j l ih =>
            intro e h
            rw [List.foldr_cons] at h
            split at h
            · cases h
            · rename_i r hr
              have ihr := ih r hr
              unfold eqElems
              split at h
              · rename_i a b ha hb
                obtain ⟨c, hc, rfl⟩ := Option.map_eq_some_iff.1 h
                have hq : (Op.equalIn d el (a.den ε ρ) (b.den ε ρ)).run P w = .ok (c.den ε).2 w := run_eqT n d (by omega) hc
                simp only [Sem.run_bind, run_part ha, run_part hb, hq, Result.andThen, Sem.run_ite]
                rw [mkIf_den]
                cases (c.den ε).2
                · simp [E.den]
                · simpa using ihr
              · cases h
        have := run_equalIn_array w d t el len i.size (xs.map (SV.den ε ρ)).toArray (ys.map (SV.den ε ρ)).toArray hu (run_sizeOf hi)
        rw [List.range_eq_range'] at h
        rw [key _ _ h] at this
        exact this
      · cases h
    · cases h
/-- Two operands. -/
theorem evBin_out {pc : E} {nv : Nat} {op : BinOp} {t : TypeId} {x y : LV} {r : Op1} {w w0 : World} {xo yo : Operand} (h : evBin P pc nv op t x y = some r)
    (hob : ∀ ob ∈ r.obs, ob.ok P ε w0) (hpc : (pc.den ε).2 = true) :
    r.upd = [] ∧ r.fp = [] ∧ (do eqGuard op t xo yo (x.den ε ρ) (y.den ε ρ); binOp op t (x.den ε ρ) (y.den ε ρ) : Sem Value).run P w = .ok (r.val.den ε ρ) w := by
  unfold evBin at h
  split at h
  · rename_i k a k' b
    have g := @run_eqGuard_int P w op t xo yo k k' (a.den ε).1 (b.den ε).1
    split at h
    · rename_i h1
      split at h
      · rename_i f n hf
        split at h
        · rename_i hn
          cases h
          refine ⟨rfl, rfl, run_bin g ?_⟩
          have := bin_sh (P := P) (w := w) hf (.inl rfl) (t := t) (k := k) (k' := k') (a := (a.den ε).1) (b := n) hn
          simpa [LV.den, V1.den, SV.den, AV.den, mkAr_den, E.den] using this
        · cases h
      · rename_i f b' hf _
        cases h
        have hb := hob _ (List.mem_singleton.2 rfl) hpc
        simp only [E.den, CO.den, ge_iff_le, decide_eq_true_eq] at hb
        exact ⟨rfl, rfl, run_bin g (bin_sh hf (.inl rfl) hb)⟩
      · cases h
    · rename_i h1
      split at h
      · rename_i f n hf
        split at h
        · rename_i hn
          cases h
          refine ⟨rfl, rfl, run_bin g ?_⟩
          have := bin_sh (P := P) (w := w) hf (.inr rfl) (t := t) (k := k) (k' := k') (a := (a.den ε).1) (b := n) hn
          simpa [LV.den, V1.den, SV.den, AV.den, mkAr_den, E.den] using this
        · cases h
      · rename_i f b' hf _
        cases h
        have hb := hob _ (List.mem_singleton.2 rfl) hpc
        simp only [E.den, CO.den, ge_iff_le, decide_eq_true_eq] at hb
        exact ⟨rfl, rfl, run_bin g (bin_sh hf (.inr rfl) hb)⟩
      · cases h
    · rename_i hs1 hs2
      split at h
      · rename_i hk
        obtain rfl := eq_of_beq hk
        split at h
        · rename_i f hf
          cases h
          refine ⟨rfl, rfl, run_bin g ?_⟩
          simpa [LV.den, V1.den, SV.den, AV.den, mkCmp_den] using bin_cmp (P := P) (w := w) hf (t := t) (k := k) (a := (a.den ε).1) (b := (b.den ε).1)
        · split at h
          · rename_i hf
            split at h
            · rename_i n
              split at h
              · cases h
              · rename_i hn
                cases h
                refine ⟨rfl, rfl, run_bin g ?_⟩
                simpa [LV.den, V1.den, SV.den, AV.den, mkAr_den, E.den] using bin_div (P := P) (w := w) hf (.inl rfl) (t := t) (k := k) (a := (a.den ε).1) (b := n) hn
            · cases h
              have hb := hob _ (List.mem_singleton.2 rfl) hpc
              simp only [E.den, CO.den, bne_iff_ne, ne_eq] at hb
              exact ⟨rfl, rfl, run_bin g (bin_div hf (.inl rfl) hb)⟩
          · rename_i hf
            split at h
            · rename_i n
              split at h
              · cases h
              · rename_i hn
                cases h
                refine ⟨rfl, rfl, run_bin g ?_⟩
                simpa [LV.den, V1.den, SV.den, AV.den, mkAr_den, E.den] using bin_div (P := P) (w := w) hf (.inr rfl) (t := t) (k := k) (a := (a.den ε).1) (b := n) hn
            · cases h
              have hb := hob _ (List.mem_singleton.2 rfl) hpc
              simp only [E.den, CO.den, bne_iff_ne, ne_eq] at hb
              exact ⟨rfl, rfl, run_bin g (bin_div hf (.inr rfl) hb)⟩
          · rename_i f h1 h2 hf
            cases h
            refine ⟨rfl, rfl, run_bin g ?_⟩
            have n3 : f ≠ .shl := fun e => hs1 (by subst e; cases op <;> simp_all [arithOf])
            have n4 : f ≠ .shr := fun e => hs2 (by subst e; cases op <;> simp_all [arithOf])
            simpa [LV.den, V1.den, SV.den, AV.den, mkAr_den] using bin_ar (P := P) (w := w) hf (fun e => h1 (by rw [e])) (fun e => h2 (by rw [e])) n3 n4 (t := t) (k := k) (a := (a.den ε).1) (b := (b.den ε).1)
          · cases h
      · cases h
  · rename_i a b
    have g := @run_eqGuard_bool P w op t xo yo (a.den ε).2 (b.den ε).2
    split at h
    · rename_i hu
      have ht : P.underlying t = some .bool := by
        unfold boolT at hu
        split at hu
        · assumption
        · cases hu
      split at h
      · cases h
        refine ⟨rfl, rfl, run_bin g ?_⟩
        simpa [LV.den, V1.den, SV.den, AV.den, mkSame_den] using bin_bool (P := P) (w := w) ht (a := (a.den ε).2) (b := (b.den ε).2)
      · cases h
        refine ⟨rfl, rfl, run_bin g ?_⟩
        simpa [LV.den, V1.den, SV.den, AV.den, mkNot_den, mkSame_den] using bin_nbool (P := P) (w := w) ht (a := (a.den ε).2) (b := (b.den ε).2)
      · cases h
    · cases h
  · rename_i xs ys
    split at h
    · cases h
    · rename_i hg
      have g := run_eqGuard_agg (P := P) w op t xo yo (xs.map (SV.den ε ρ)).toArray (ys.map (SV.den ε ρ)).toArray (by simpa using hg)
      split at h
      · rename_i e he
        have hq := run_eqT (ε := ε) (ρ := ρ) (w := w) 20 10000 (by omega) he
        split at h
        · cases h
          refine ⟨rfl, rfl, run_bin g ?_⟩
          show (binOp .eql t (.agg (xs.map (SV.den ε ρ)).toArray) (.agg (ys.map (SV.den ε ρ)).toArray)).run P w = _
          rw [run_eql_struct]
          have hq' : (Op.equalIn 10000 t (.agg (xs.map (SV.den ε ρ)).toArray) (.agg (ys.map (SV.den ε ρ)).toArray)).run P w = .ok (e.den ε).2 w := hq
          rw [hq']; rfl
        · cases h
          refine ⟨rfl, rfl, run_bin g ?_⟩
          show (binOp .neq t (.agg (xs.map (SV.den ε ρ)).toArray) (.agg (ys.map (SV.den ε ρ)).toArray)).run P w = _
          rw [run_neq_struct]
          have hq' : (Op.equalIn 10000 t (.agg (xs.map (SV.den ε ρ)).toArray) (.agg (ys.map (SV.den ε ρ)).toArray)).run P w = .ok (e.den ε).2 w := hq
          rw [hq']
          simp [Result.andThen, LV.den, V1.den, SV.den, AV.den, mkNot_den]
        · cases h
      · cases h
  · cases h
theorem evBin_bad {pc : E} {nv : Nat} {op : BinOp} {t : TypeId} {x y : LV} {r : Op1} (h : evBin P pc nv op t x y = some r) : x ≠ .bad ∧ y ≠ .bad := by
  unfold evBin at h
  split at h
  · exact ⟨by simp, by simp⟩
  · exact ⟨by simp, by simp⟩
  · exact ⟨by simp, by simp⟩
  · cases h
theorem evUn_out {nv : Nat} {op : UnOp} {x : LV} {r : Op1} {w : World} (h : evUn nv op x = some r) :
    r.upd = [] ∧ r.obs = [] ∧ (Op.unary op (x.den ε ρ)).run P w = .ok (r.val.den ε ρ) w := by
  unfold evUn at h
  split at h
  · cases h; exact ⟨rfl, rfl, by simp [Op.unary, Op.intArith, LV.den, V1.den, SV.den, AV.den, mkAr_den, E.den, AO.den]⟩
  · cases h; exact ⟨rfl, rfl, by simp [Op.unary, Op.intBits, LV.den, V1.den, SV.den, AV.den, mkAr_den, E.den, AO.den]⟩
  · cases h; exact ⟨rfl, rfl, by simp [Op.unary, LV.den, V1.den, SV.den, AV.den, mkNot_den]⟩
  · cases h
end SX
end Go.Proofs.Ytfknnnlbfdeomaa
/- The reading by symbols: structs and arrays are built. -/
set_option linter.unusedVariables false
set_option linter.unusedSimpArgs false
namespace Go.Proofs.Ytfknnnlbfdeomaa
namespace SX
open Go.RowKit
variable {P : Program} {ε : Env} {ρ : Nat → Nat}
theorem foldl_set (off : Nat) : ∀ (vs : List Value) (k : Nat) (cells : Array Value), off + k + vs.length ≤ cells.size →
    ((vs.zipIdx k).foldl (fun cs (x : Value × Nat) => cs.setIfInBounds (off + x.2) x.1) cells).toList = cells.toList.take (off + k) ++ vs ++ cells.toList.drop (off + k + vs.length)
  | [], k, cells, _ => by simp
  | v :: vs, k, cells, h => by
    simp only [List.length_cons] at h
    rw [List.zipIdx_cons, List.foldl_cons, foldl_set off vs (k + 1) _ (by simp; omega)]
    simp only [Array.toList_setIfInBounds]
    have e1 : (cells.toList.set (off + k) v).take (off + (k + 1)) = cells.toList.take (off + k) ++ [v] := by
      rw [show off + (k + 1) = off + k + 1 by omega, List.take_add_one, List.take_set_of_le (by omega), List.getElem?_set_self (by simp; omega)]
      rfl
    have e2 : (cells.toList.set (off + k) v).drop (off + (k + 1) + vs.length) = cells.toList.drop (off + k + (v :: vs).length) := by
      rw [List.drop_set_of_lt (by omega)]
      congr 1
      simp only [List.length_cons]; omega
    rw [e1, e2]
    simp
theorem fill_den {pl pl' : Nat → Option (Nat × Nat)} : ∀ (ps : List (Nat × V1)) (cells r : List SV), (∀ i x, pl i = some x → pl' i = some x) → fillL pl cells ps = some r →
    Instr.fill pl' (cells.map (SV.den ε ρ)).toArray (ps.map fun p => (p.1, p.2.den ε ρ)) = some (r.map (SV.den ε ρ)).toArray
  | [], cells, r, _, h => by simp [fillL] at h; subst h; rfl
  | (i, v) :: rest, cells, r, hp, h => by
    simp only [fillL] at h
    split at h
    · cases h
    · rename_i off size hq
      split at h
      · cases h
      · rename_i hn
        simp only [ne_eq, gt_iff_lt, Bool.or_eq_true, decide_eq_true_eq, not_or, Decidable.not_not, Nat.not_lt] at hn
        have hcz : (v.den ε ρ).cells.size = v.cells.length := by rw [V1.den_cells]; simp
        simp only [List.map_cons, Instr.fill, hp _ _ hq]
        rw [if_neg (by rw [hcz]; simp only [ne_eq, List.size_toArray, List.length_map, gt_iff_lt, Bool.or_eq_true, decide_eq_true_eq, not_or, Decidable.not_not, Nat.not_lt]; exact hn)]
        have key : (v.den ε ρ).cells.zipIdx.foldl (fun cs (x : Value × Nat) => cs.setIfInBounds (off + x.2) x.1) (cells.map (SV.den ε ρ)).toArray =
            ((cells.take off ++ v.cells ++ cells.drop (off + v.cells.length)).map (SV.den ε ρ)).toArray := by
          apply Array.ext'
          rw [V1.den_cells]
          have := foldl_set off (v.cells.map (SV.den ε ρ)) 0 (cells.map (SV.den ε ρ)).toArray (by simp; omega)
          simp only [Nat.add_zero, List.length_map] at this
          rw [← Array.foldl_toList, Array.toList_zipIdx]
          simpa [List.map_take, List.map_drop] using this
        have := fill_den rest _ _ hp h
        rw [← this]
        congr 1
theorem partsOf_den {look : Nat → LV} {a : Act} : ∀ {l : List (Nat × Operand)} {ps : List (Nat × V1)}, (∀ x ∈ l, ∀ t, x.2 = .tmp t → RV ε ρ (look t) (a.tmps.getD t undef)) → partsOf look l = some ps →
    l.map (fun p => (p.1, a.eval p.2)) = ps.map fun p => (p.1, p.2.den ε ρ)
  | [], ps, _, h => by simp [partsOf] at h; subst h; rfl
  | (i, x) :: rest, ps, hl, h => by
    simp only [partsOf] at h
    split at h
    · rename_i v vs h1 h2
      cases h
      simp only [List.map_cons]
      have e : a.eval x = (LV.v v).den ε ρ := opnd_eq (fun t ht => hl (i, x) (by simp) t ht) h1 (by simp)
      rw [partsOf_den (fun y hy => hl y (by simp [hy])) h2, e]
      rfl
    · cases h
end SX
end Go.Proofs.Ytfknnnlbfdeomaa
/- The reading by symbols: every operation that it reads does what it reads. -/
set_option linter.unusedVariables false
set_option linter.unusedSimpArgs false
namespace Go.Proofs.Ytfknnnlbfdeomaa
namespace SX
open Go.RowKit
variable {P : Program} {ε : Env} {ρ : Nat → Nat}
/-- What is asked of the reading of calls. -/
def SubOk (P : Program) (ε : Env) (w0 : World) (sub : Sub) : Prop :=
  ∀ f args mem pc nv id r, sub f args mem pc nv id = some r → mem id = none → (∀ ob ∈ r.obs, ob.ok P ε w0) → (pc.den ε).2 = true → (∀ x ∈ args, x ≠ .bad) →
    (∀ u ∈ r.upd, u.1 ∈ r.fp ∧ (mem u.1).isSome = true) ∧
    ∀ (w : World) (ρ : Nat → Nat), Below w0.heap.size w0 w → (∀ b ∈ r.fp, ∀ cs, mem b = some cs → Blk ε ρ w0.heap.size w b cs) →
      (∀ b ∈ r.fp, ∀ b' ∈ r.fp, (mem b).isSome = true → (mem b').isSome = true → ρ b = ρ b' → b = b') →
      Calls P f (args.map (LV.den ε ρ)).toArray w (fun e w' => ∃ v, e = .returned v ∧ Out1 ε ρ w0.heap.size id w r.val r.upd v w')
section
variable {sub : Sub} {id : Nat} {pc : E} {look : Nat → LV} {mem : Nat → Option Cells} {nv base : Nat} {dec : List (E × Bool)} {o : Oper} {a : Act} {w w0 : World} {r : Op1}
theorem pureOp_spec {x : LV} (h : pureOp nv x = some r) : x ≠ .bad ∧ r.val = x ∧ r.upd = [] ∧ r.obs = [] := by
  unfold pureOp at h
  split at h
  · cases h
  · rename_i hb; cases h; exact ⟨fun e => hb e, rfl, rfl, rfl⟩
theorem val_out {v : Value} (h : (execOp a.eval o).run P w = .ok (.value v) w) (hu : r.upd = []) (hv : v = r.val.den ε ρ) : OpOk P o a w (Out1 ε ρ base id w r.val r.upd) := by
  rw [hu]; exact OpOk.value h (Out1.pure hv)
theorem decided_spec (hdec : ∀ p ∈ dec, (p.1.den ε).2 = p.2) {e : E} {b : Bool} (h : decided dec e = some b) : (e.den ε).2 = b := by
  unfold decided at h
  split at h
  · cases h; rfl
  · have key : ∀ (e : E) (l : List (E × Bool)), (∀ p ∈ l, (p.1.den ε).2 = p.2) → l.lookup e = some b → (e.den ε).2 = b := by
      intro e l
      induction l with
      | nil => intro _ h; cases h
      | cons p l ih =>
        intro hl h
        obtain ⟨k, c⟩ := p
        simp only [List.lookup] at h
        split at h
        · rename_i he
          cases h
          rw [eq_of_beq he]
          exact hl _ (List.mem_cons_self)
        · exact ih (fun p hp => hl p (List.mem_cons_of_mem _ hp)) h
    exact key _ dec hdec h
theorem operand_slots (hl : Slots ε ρ look o a) {x : Operand} (hx : x ∈ o.op.operands) : ∀ t, x = .tmp t → RV ε ρ (look t) (a.tmps.getD t undef) := fun t ht => hl t (ht ▸ hx)
theorem foldMM_spec {mk : E → E → E} {m2 : Value → Value → Sem Value} {f : Int → Int → Int} (hmk : ∀ x y, ((mk x y).den ε).1 = f (x.den ε).1 (y.den ε).1)
    (hm : ∀ k k' x y (w : World), (m2 (.int k x) (.int k' y)).run P w = .ok (.int k (f x y)) w) :
    ∀ (l : List LV) (x : LV), foldMM mk x l ≠ .bad → (List.foldlM m2 (x.den ε ρ) (l.map (LV.den ε ρ))).run P w = .ok ((foldMM mk x l).den ε ρ) w
  | [], x, h => by simp [foldMM]
  | y :: rest, x, h => by
    unfold foldMM at h ⊢
    split at h
    · rename_i k a k' b
      split at h
      · rename_i hk
        simp only [hk, if_true]
        rw [List.map_cons, List.foldlM_cons]
        simp only [Sem.run_bind]
        have e1 : (m2 ((LV.v (.s (.a (.int k a)))).den ε ρ) ((LV.v (.s (.a (.int k' b)))).den ε ρ)).run P w = .ok (.int k (f (a.den ε).1 (b.den ε).1)) w := hm _ _ _ _ _
        rw [e1]
        have := foldMM_spec hmk hm rest _ h
        simpa [Result.andThen, LV.den, V1.den, SV.den, AV.den, hmk] using this
      · exact absurd rfl h
    · exact absurd rfl h
theorem foldMM_bad {mk : E → E → E} : ∀ (l : List LV) (x : LV), foldMM mk x l ≠ .bad → x ≠ .bad ∧ ∀ y ∈ l, y ≠ .bad
  | [], x, h => ⟨h, by simp⟩
  | y :: rest, x, h => by
    unfold foldMM at h
    split at h
    · rename_i k a k' b
      split at h
      · obtain ⟨_, h2⟩ := foldMM_bad rest _ h
        refine ⟨by simp, fun z hz => ?_⟩
        rcases List.mem_cons.1 hz with rfl | hz
        · simp
        · exact h2 z hz
      · exact absurd rfl h
    · exact absurd rfl h
theorem map_opnd : ∀ (l : List Operand), (∀ x ∈ l, ∀ t, x = .tmp t → RV ε ρ (look t) (a.tmps.getD t undef)) → (∀ y ∈ l.map (opnd look), y ≠ .bad) → l.map a.eval = (l.map (opnd look)).map (LV.den ε ρ)
  | [], _, _ => rfl
  | x :: l, h1, h2 => by
    simp only [List.map_cons]
    rw [map_opnd l (fun y hy => h1 y (by simp [hy])) (fun y hy => h2 y (by simp at hy ⊢; exact .inr hy)), opnd_den (h1 x (by simp)) (h2 _ (by simp))]
theorem avs_spec : ∀ {l : List LV} {c : List AV}, avs l = some c → l = c.map fun x => .v (.s (.a x))
  | [], c, h => by simp [avs] at h; subst h; rfl
  | .v (.s (.a x)) :: rest, c, h => by
    simp only [avs, Option.map_eq_some_iff] at h
    obtain ⟨c', h', rfl⟩ := h
    rw [avs_spec h']; rfl
  | .v (.s (.fn _ _)) :: _, _, h => by simp [avs] at h
  | .v (.s .nilf) :: _, _, h => by simp [avs] at h
  | .v (.agg _) :: _, _, h => by simp [avs] at h
  | .tup _ :: _, _, h => by simp [avs] at h
  | .bad :: _, _, h => by simp [avs] at h
/-- A call. -/
theorem call_out {f : FuncId} {args : List LV} (hsub : SubOk P ε w0 sub) (h : evCallTo P sub id pc mem nv f args = some r) (hid : mem id = none)
    (hob : ∀ ob ∈ r.obs, ob.ok P ε w0) (hpc : (pc.den ε).2 = true) (hw : Below w0.heap.size w0 w)
    (hm : ∀ b ∈ r.fp, ∀ cs, mem b = some cs → Blk ε ρ w0.heap.size w b cs) (hi : ∀ b ∈ r.fp, ∀ b' ∈ r.fp, (mem b).isSome = true → (mem b').isSome = true → ρ b = ρ b' → b = b')
    (he : (∀ x ∈ args, x ≠ .bad) → (execOp a.eval o).run P w = (callFunc f (args.map (LV.den ε ρ)).toArray).run P w) :
    (∀ u ∈ r.upd, u.1 ∈ r.fp ∧ (mem u.1).isSome = true) ∧ OpOk P o a w (Out1 ε ρ w0.heap.size id w r.val r.upd) := by
  unfold evCallTo at h
  split at h
  · rename_i fn hfn
    split at h
    · cases h
    · rename_i hn
      simp only [Bool.or_eq_true, not_or, Bool.not_eq_true, Bool.not_eq_false'] at hn
      obtain ⟨⟨hn0, hn1⟩, hn2⟩ := hn
      have hn : fn.body.isNone = false ∧ (fn.name == "runtime.NumGoroutine") = false := ⟨hn1, hn2⟩
      have hargs : ∀ x ∈ args, x ≠ .bad := fun x hx e => by
        have := List.all_eq_true.1 hn0 x hx
        subst e; cases this
      obtain ⟨h1, h2⟩ := hsub _ _ _ _ _ _ _ h hid hob hpc hargs
      refine ⟨h1, OpOk.enter ?_ (h2 w ρ hw hm hi)⟩
      rw [he hargs]
      have n1 : ¬ fn.name = "runtime.NumGoroutine" := by simpa using hn.2
      have n2 : ¬ fn.body = none := by intro e; simp [e] at hn
      simp [callFunc, hfn, n1, n2, Result.andThen]
  · cases h
end
end SX
end Go.Proofs.Ytfknnnlbfdeomaa
/- The reading by symbols: the theorem about one operation. -/
set_option linter.unusedVariables false
set_option linter.unusedSimpArgs false
namespace Go.Proofs.Ytfknnnlbfdeomaa
namespace SX
open Go.RowKit
variable {P : Program} {ε : Env} {ρ : Nat → Nat}
theorem run_len_sl {w : World} {t e : TypeId} {rt : TypeId} {x : Option Addr} {n c : Nat} (ht : P.underlying t = some (.slice e)) (tys : Array TypeId) (args : Array Value) (h0 : tys[0]? = some t) (h1 : args[0]? = some (.slice x n c)) :
    (Builtin.len_ tys rt args).run P w = .ok (.int .i64 n) w := by
  unfold Builtin.len_
  simp only [h0, h1, Sem.run_bind, run_underlying ht, Result.andThen]
  rfl
theorem run_len_arr {w : World} {t e : TypeId} {rt : TypeId} {n : Nat} {v : Value} (ht : P.underlying t = some (.array n e)) (tys : Array TypeId) (args : Array Value) (h0 : tys[0]? = some t) (h1 : args[0]? = some v) :
    (Builtin.len_ tys rt args).run P w = .ok (.int .i64 n) w := by
  unfold Builtin.len_
  simp only [h0, h1, Sem.run_bind, run_underlying ht, Result.andThen]
  cases v <;> rfl
theorem run_convert {w : World} {s d : TypeId} {sd : TypeDesc} {k k' : IntKind} {n : Int} (hs : P.underlying s = some sd) (hd : P.underlying d = some (.int k)) :
    (convert s d (.int k' n)).run P w = .ok (.int k (k.wrap n)) w := by
  unfold convert
  simp only [Sem.run_bind, run_underlying hs, run_underlying hd, Result.andThen]
  cases sd <;> rfl
theorem getD_map0 {l : List LV} {x : LV} (h : l[0]? = some x) : ((l.map (LV.den ε ρ)).toArray)[0]? = some (x.den ε ρ) := by
  simp [h]
theorem mapM_places {fields : Array Field} {w : World} (h : fields.all (fun (f : Field) => (P.info? f.type).isSome) = true) :
    ∃ pl : Array (Nat × Nat), (fields.mapM (fun (f : Field) => (do pure (f.offset, ← sizeOf f.type) : Sem (Nat × Nat)))).run P w = .ok pl w ∧
      ∀ (i : Nat) x, ((fields[i]?).bind fun (f : Field) => (P.info? f.type).map fun n => (f.offset, n.size)) = some x → pl[i]? = some x := by
  have key : ∀ l : List Field, (∀ f ∈ l, (P.info? f.type).isSome = true) → ∃ pl : List (Nat × Nat), (l.mapM (fun (f : Field) => (do pure (f.offset, ← sizeOf f.type) : Sem (Nat × Nat)))).run P w = .ok pl w ∧
      ∀ (i : Nat) x, ((l[i]?).bind fun (f : Field) => (P.info? f.type).map fun n => (f.offset, n.size)) = some x → pl[i]? = some x := by
    intro l
    induction l with
    | nil => intro _; exact ⟨[], by simp, by simp⟩
    | cons f l ih =>
      intro hf
      obtain ⟨pl, h1, h2⟩ := ih fun g hg => hf g (by simp [hg])
      obtain ⟨n, hn⟩ := Option.isSome_iff_exists.1 (hf f (by simp))
      refine ⟨(f.offset, n.size) :: pl, ?_, ?_⟩
      · rw [List.mapM_cons]
        simp only [Sem.run_bind, run_sizeOf hn, Result.andThen, Sem.run_pure, h1]
      · intro i x hx
        cases i with
        | zero => simpa [hn] using hx
        | succ i => simpa using h2 i x (by simpa using hx)
  obtain ⟨pl, h1, h2⟩ := key fields.toList (fun f hf => by
    have := Array.all_eq_true.1 h
    obtain ⟨i, hi, rfl⟩ := List.getElem_of_mem hf
    exact this i (by simpa using hi))
  refine ⟨pl.toArray, ?_, by simpa using h2⟩
  rw [← Array.toList_mapM] at h1
  simp only [Sem.run_map] at h1
  generalize hr : (fields.mapM (fun (f : Field) => (do pure (f.offset, ← sizeOf f.type) : Sem (Nat × Nat)))).run P w = rr at h1 ⊢
  cases rr with
  | ok a w' => simp [Result.andThen] at h1; obtain ⟨rfl, rfl⟩ := h1; rfl
  | halt x w' => simp [Result.andThen] at h1
section
variable {sub : Sub} {id : Nat} {pc : E} {look : Nat → LV} {mem : Nat → Option Cells} {nv : Nat} {dec : List (E × Bool)} {o : Oper} {a : Act} {w w0 : World} {r : Op1}
set_option maxHeartbeats 2000000 in
theorem evOp_sound (hsub : SubOk P ε w0 sub) (h : evOp P sub id pc look mem nv dec o = some r) (hid : mem id = none)
    (hob : ∀ ob ∈ r.obs, ob.ok P ε w0) (hpc : (pc.den ε).2 = true) (hdec : ∀ p ∈ dec, (p.1.den ε).2 = p.2)
    (hl : Slots ε ρ look o a) (hw : Below w0.heap.size w0 w)
    (hm : ∀ b ∈ r.fp, ∀ cs, mem b = some cs → Blk ε ρ w0.heap.size w b cs) (hi : ∀ b ∈ r.fp, ∀ b' ∈ r.fp, (mem b).isSome = true → (mem b').isSome = true → ρ b = ρ b' → b = b') :
    (∀ u ∈ r.upd, u.1 = id ∨ (u.1 ∈ r.fp ∧ (mem u.1).isSome = true)) ∧ OpOk P o a w (Out1 ε ρ w0.heap.size id w r.val r.upd) := by
  unfold evOp at h
  split at h
  · -- move
    rename_i x ho
    obtain ⟨h1, h2, h3, h4⟩ := pureOp_spec h
    refine ⟨by simp [h3], val_out (by simp only [execOp, ho]; rfl) h3 ?_⟩
    rw [h2]; exact opnd_den (operand_slots hl (by simp [ho, Op.operands])) h1
  · -- assign
    rename_i x ho
    obtain ⟨h1, h2, h3, h4⟩ := pureOp_spec h
    refine ⟨by simp [h3], val_out (by simp only [execOp, ho]; rfl) h3 ?_⟩
    rw [h2]; exact opnd_den (operand_slots hl (by simp [ho, Op.operands])) h1
  · -- pick
    rename_i c x y ho
    split at h
    · rename_i e hc
      have hce := opnd_eq (operand_slots hl (x := c) (by simp [ho, Op.operands])) hc (by simp)
      have hex : (execOp a.eval o).run P w = .ok (.value (if (e.den ε).2 then a.eval x else a.eval y)) w := by
        simp only [execOp, ho, hce, LV.den, V1.den, SV.den, AV.den]
        cases (e.den ε).2 <;> simp [asBool, Result.andThen]
      split at h
      · rename_i hd
        obtain ⟨h1, h2, h3, h4⟩ := pureOp_spec h
        refine ⟨by simp [h3], val_out hex h3 ?_⟩
        rw [h2, decided_spec hdec hd, if_pos rfl]; exact opnd_den (operand_slots hl (by simp [ho, Op.operands])) h1
      · rename_i hd
        obtain ⟨h1, h2, h3, h4⟩ := pureOp_spec h
        refine ⟨by simp [h3], val_out hex h3 ?_⟩
        rw [h2, decided_spec hdec hd, if_neg (by simp)]; exact opnd_den (operand_slots hl (by simp [ho, Op.operands])) h1
      · obtain ⟨h1, h2, h3, h4⟩ := pureOp_spec h
        refine ⟨by simp [h3], val_out hex h3 ?_⟩
        have bad : opnd look x ≠ .bad ∧ opnd look y ≠ .bad := by
          constructor <;> intro e' <;> apply h1 <;> rw [e'] <;> unfold LV.merge <;> (try split) <;> simp_all
        have rx : RV ε ρ (opnd look x) (a.eval x) := .inr (opnd_den (operand_slots hl (by simp [ho, Op.operands])) bad.1)
        have ry : RV ε ρ (opnd look y) (a.eval y) := .inr (opnd_den (operand_slots hl (by simp [ho, Op.operands])) bad.2)
        rw [h2]
        cases hb : (e.den ε).2
        · exact (LV.merge_f hb ry).get h1
        · exact (LV.merge_t hb rx).get h1
    · cases h
  · -- alloc
    rename_i t ho
    split at h
    · rename_i z hz
      split at h
      · rename_i v hv
        have hzd := (ofVal_den (ε := ε) (ρ := ρ) (v := z) (by rw [hv]; simp)).1
        rw [hv] at hzd
        refine ⟨by unfold newBlock at h; split at h <;> cases h; simp, OpOk.value (w' := w.alloc (.cells (v.cells.map (SV.den ε ρ)).toArray t)) (v := .pointer (some ⟨w.heap.size, 0, none⟩)) ?_ ?_⟩
        · refine ex_value (s := Instr.alloc t true (.tuple #[])) (by simp only [execOp, ho]) ?_
          unfold Instr.alloc
          simp only [Sem.run_bind, run_zeroValue hz, Result.andThen, newVar, run_newRow, Sem.run_pure]
          rw [← hzd]
          simp only [LV.den, V1.den_cells]
        · have hval : r.val = .v (.s (.a (.ptr id 0))) := by unfold newBlock at h; split at h <;> cases h; rfl
          rw [hval]
          exact out_new (f := fun n => .pointer (some ⟨n, 0, none⟩)) h hw.size fun ρ' h' => by simp [LV.den, V1.den, SV.den, AV.den, h']
      · cases h
    · cases h
  · -- box
    rename_i t x ho
    split at h
    · rename_i v hv
      have hx := opnd_eq (operand_slots hl (x := x) (by simp [ho, Op.operands])) hv (by simp)
      refine ⟨by unfold newBlock at h; split at h <;> cases h; simp, OpOk.value (w' := w.alloc (.cells (v.cells.map (SV.den ε ρ)).toArray t)) (v := .pointer (some ⟨w.heap.size, 0, none⟩)) ?_ ?_⟩
      · refine ex_value (s := Instr.box t (a.eval x)) (by simp only [execOp, ho]) ?_
        unfold Instr.box
        simp only [Sem.run_bind, Result.andThen, newVar, run_newRow, Sem.run_pure, hx, LV.den, V1.den_cells]
      · have hval : r.val = .v (.s (.a (.ptr id 0))) := by unfold newBlock at h; split at h <;> cases h; rfl
        rw [hval]
        exact out_new (f := fun n => .pointer (some ⟨n, 0, none⟩)) h hw.size fun ρ' h' => by simp [LV.den, V1.den, SV.den, AV.den, h']
    · cases h
  · -- build
    rename_i t parts ho
    split at h
    · rename_i z d ps hz hd hps
      have hparts := partsOf_den (ε := ε) (ρ := ρ) (a := a) (fun x hx t ht => hl t (by rw [ho]; simp only [Op.operands]; rw [← ht]; simpa using ⟨x.1, by simpa using hx⟩)) hps
      have hp2 : (parts.map fun (x : Nat × Operand) => (x.1, a.eval x.2)).toList = ps.map fun p => (p.1, p.2.den ε ρ) := by rw [← hparts]; simp
      split at h
      · rename_i v hv
        have hzd := (ofVal_den (ε := ε) (ρ := ρ) (v := z) (by rw [hv]; simp)).1
        rw [hv] at hzd
        have hzc : z.cells = (v.cells.map (SV.den ε ρ)).toArray := by rw [← hzd]; exact V1.den_cells v
        split at h
        · rename_i fields
          split at h
          · rename_i cs hcs
            split at h
            · rename_i hall
              cases h
              refine ⟨by simp, val_out (ex_value (s := Instr.build t (parts.map fun (x : Nat × Operand) => (x.1, a.eval x.2))) (by simp only [execOp, ho]) ?_) rfl rfl⟩
              obtain ⟨pl, h1, h2⟩ := mapM_places (P := P) (w := w) hall
              unfold Instr.build
              have hf := fill_den (ε := ε) (ρ := ρ) ps v.cells cs (pl' := (pl[·]?)) h2 hcs
              simp only [Sem.run_bind, run_zeroValue hz, run_underlying hd, Result.andThen, Sem.run_pure, h1, hp2, hzc, hf]
              rfl
            · cases h
          · cases h
        · rename_i n elem
          split at h
          · rename_i i hinf
            obtain ⟨cs, hcs, rfl⟩ := Option.map_eq_some_iff.1 h
            refine ⟨by simp, val_out (ex_value (s := Instr.build t (parts.map fun (x : Nat × Operand) => (x.1, a.eval x.2))) (by simp only [execOp, ho]) ?_) rfl rfl⟩
            unfold Instr.build
            have hf := fill_den (ε := ε) (ρ := ρ) ps v.cells cs (pl' := fun j => some (j * i.size, i.size)) (fun _ _ h => h) hcs
            simp only [Sem.run_bind, run_zeroValue hz, run_underlying hd, run_sizeOf hinf, Result.andThen, Sem.run_pure, hp2, hzc, hf]
            rfl
          · cases h
        · cases h
      · cases h
    · cases h
  · -- buildSlice
    rename_i t len parts ho
    split at h
    · rename_i elem ps hd hps
      have hparts := partsOf_den (ε := ε) (ρ := ρ) (a := a) (fun x hx t ht => hl t (by rw [ho]; simp only [Op.operands]; rw [← ht]; simpa using ⟨x.1, by simpa using hx⟩)) hps
      have hp2 : (parts.map fun (x : Nat × Operand) => (x.1, a.eval x.2)).toList = ps.map fun p => (p.1, p.2.den ε ρ) := by rw [← hparts]; simp
      split at h
      · rename_i n hn
        split at h
        · rename_i v hv
          obtain ⟨z, hz, hzv⟩ := Option.map_eq_some_iff.1 hv
          have hzb : (P.info? elem).bind (·.zero) = some z := by rw [hn]; exact hz
          have hzd := (ofVal_den (ε := ε) (ρ := ρ) (v := z) (by rw [hzv]; simp)).1
          rw [hzv] at hzd
          have hzc : z.cells = (v.cells.map (SV.den ε ρ)).toArray := by rw [← hzd]; exact V1.den_cells v
          split at h
          · cases h
          · rename_i hcond
            simp only [gt_iff_lt, beq_iff_eq, ne_eq, Bool.or_eq_true, decide_eq_true_eq, not_or, Decidable.not_not] at hcond
            obtain ⟨⟨c1, c2⟩, c3⟩ := hcond
            split at h
            · rename_i cs hcs
              obtain ⟨q, hq, rfl⟩ := Option.map_eq_some_iff.1 h
              refine ⟨by unfold newBlock at hq; split at hq <;> cases hq; simp, OpOk.value (w' := w.alloc (.cells (cs.map (SV.den ε ρ)).toArray elem)) (v := .slice (some ⟨w.heap.size, 0, none⟩) len len) ?_ ?_⟩
              · refine ex_value (s := Instr.buildSlice t len (parts.map fun (x : Nat × Operand) => (x.1, a.eval x.2))) (by simp only [execOp, ho]) ?_
                unfold Instr.buildSlice
                have hf := fill_den (ε := ε) (ρ := ρ) ps _ cs (pl' := fun j => some (j * n.size, n.size)) (fun _ _ h => h) hcs
                have hz0 : ((Array.range (len * n.size)).map fun i => z.cells[i % z.cells.size]!) = (((List.replicate len v.cells).flatten).map (SV.den ε ρ)).toArray := by
                  rw [hzc]
                  have hns : 0 < n.size := Nat.pos_of_ne_zero fun e => c2 (by rw [e, Nat.mul_zero])
                  apply Array.ext'
                  apply List.ext_getElem?
                  intro j
                  simp only [Array.toList_map, Array.toList_range, List.getElem?_map]
                  have key : ∀ (m : Nat) (j : Nat), ((List.replicate m v.cells).flatten)[j]? = if j < m * n.size then v.cells[j % n.size]? else none := by
                    intro m
                    induction m with
                    | zero => intro j; simp
                    | succ m ih =>
                      intro j
                      rw [List.replicate_succ, List.flatten_cons, List.getElem?_append, c3]
                      split
                      · rename_i hj
                        rw [if_pos (by rw [Nat.succ_mul]; omega), Nat.mod_eq_of_lt hj]
                      · rename_i hj
                        rw [ih]
                        have e1 : (j - n.size) % n.size = j % n.size := by
                          conv => rhs; rw [show j = (j - n.size) + n.size by omega, Nat.add_mod_right]
                        rw [e1, Nat.succ_mul]
                        by_cases h9 : j - n.size < m * n.size
                        · rw [if_pos h9, if_pos (by omega)]
                        · rw [if_neg h9, if_neg (by omega)]
                  rw [key]
                  simp only [List.size_toArray, List.length_map, c3]
                  by_cases hj : j < len * n.size
                  · rw [List.getElem?_range hj, if_pos hj]
                    have hlt : j % n.size < v.cells.length := by rw [c3]; exact Nat.mod_lt _ hns
                    simp [List.getElem?_eq_getElem hlt, getElem!_pos, hlt]
                  · rw [if_neg hj, List.getElem?_eq_none (by simpa using hj)]; rfl
                have c1' : ¬ len * n.size > 2 ^ 24 := by simpa using c1
                simp only [Sem.run_bind, run_underlying hd, run_sizeOf hn, Result.andThen, Sem.run_pure, if_neg c1', if_neg c2, run_zeroValue hzb]
                simp only [hz0, hp2, hf, Sem.run_bind, run_newRow, Result.andThen, Sem.run_pure]
              · have := out_new (ε := ε) (ρ := ρ) (val := .v (.s (.a (.sl id 0 len len)))) (t := elem) (f := fun n => .slice (some ⟨n, 0, none⟩) len len) hq hw.size (fun ρ' h' => by
                  simp [LV.den, V1.den, SV.den, AV.den, h'])
                exact this
            · cases h
        · cases h
      · cases h
    · cases h
  · -- load
    rename_i t x ho
    have hx : opnd look x ≠ .bad := by intro e; rw [e] at h; simp [evLoad] at h
    obtain ⟨h1, h2, h3⟩ := load_out h hm
    refine ⟨by simp [h1], val_out (ex_value (s := Instr.loadAt t (a.eval x)) (by simp only [execOp, ho]) ?_) h1 rfl⟩
    rw [opnd_den (operand_slots hl (x := x) (by simp [ho, Op.operands])) hx]; exact h3
  · -- store
    rename_i t x y ho
    have hx : opnd look x ≠ .bad := by intro e; rw [e] at h; simp [evStore] at h
    have hy : opnd look y ≠ .bad := by intro e; rw [e] at h; unfold evStore at h; split at h <;> simp_all
    obtain ⟨h1, h2, w', h3, h4⟩ := store_out (ρ := ρ) (ε := ε) (base := w0.heap.size) (w := w) h hid hm
    refine ⟨fun u hu => .inr (h2 u hu), OpOk.skip (w' := w') (ex_unit (s := Instr.storeAt t (a.eval x) (a.eval y)) (by simp only [execOp, ho]) ?_) h4⟩
    rw [opnd_den (operand_slots hl (x := x) (by simp [ho, Op.operands])) hx, opnd_den (operand_slots hl (x := y) (by simp [ho, Op.operands])) hy]; exact h3
  · -- nilCheck
    rename_i x ho
    split at h
    · rename_i b off hx
      have he := opnd_eq (operand_slots hl (x := x) (by simp [ho, Op.operands])) hx (by simp)
      cases h
      refine ⟨by simp, val_out (v := .pointer (some ⟨ρ b, off, none⟩)) ?_ rfl rfl⟩
      simp only [execOp, ho, he, LV.den, V1.den, SV.den, AV.den]; rfl
    · rename_i f cap hx
      have he := opnd_eq (operand_slots hl (x := x) (by simp [ho, Op.operands])) hx (by simp)
      cases h
      refine ⟨by simp, val_out (v := (LV.v (.s (.fn f cap))).den ε ρ) ?_ rfl rfl⟩
      simp only [execOp, ho, he, LV.den, V1.den, SV.den]; rfl
    · cases h
  · -- binOp
    rename_i op t x y yt ho
    obtain ⟨hx, hy⟩ := evBin_bad h
    obtain ⟨h1, h2, h3⟩ := evBin_out (ρ := ρ) (w := w) (xo := x) (yo := y) h hob hpc
    refine ⟨by simp [h1], val_out (ex_value (s := do eqGuard op t x y (a.eval x) (a.eval y); binOp op t (a.eval x) (a.eval y)) (by simp only [execOp, ho]) ?_) h1 rfl⟩
    rw [opnd_den (operand_slots hl (x := x) (by simp [ho, Op.operands])) hx, opnd_den (operand_slots hl (x := y) (by simp [ho, Op.operands])) hy]; exact h3
  · -- unOp
    rename_i op t x ho
    have hx : opnd look x ≠ .bad := by intro e; rw [e] at h; simp [evUn] at h
    obtain ⟨h1, h2, h3⟩ := evUn_out (ε := ε) (ρ := ρ) (P := P) (w := w) h
    refine ⟨by simp [h1], val_out (ex_value (s := Op.unary op (a.eval x)) (by simp only [execOp, ho]) ?_) h1 rfl⟩
    rw [opnd_den (operand_slots hl (x := x) (by simp [ho, Op.operands])) hx]; exact h3
  · -- convert
    rename_i s d x ho
    split at h
    · rename_i sd k k' e hs hd hx
      have he := opnd_eq (operand_slots hl (x := x) (by simp [ho, Op.operands])) hx (by simp)
      cases h
      refine ⟨by simp, val_out (ex_value (s := convert s d (a.eval x)) (by simp only [execOp, ho]) ?_) rfl rfl⟩
      rw [he]
      simp only [LV.den, V1.den, SV.den, AV.den, mkCv_den]
      exact run_convert hs hd
    · cases h
  · -- makeFunc
    rename_i f first captured ho
    split at h
    · rename_i hf0
      split at h
      · rename_i cap hcap
        cases h
        have hs := avs_spec hcap
        refine ⟨by simp, val_out (ex_value (s := Instr.makeFunc (.func f) (first.map a.eval) (captured.map a.eval)) (by simp only [execOp, ho]) ?_) rfl rfl⟩
        have hf1 : first = #[] := by simpa using hf0
        subst hf1
        have e1 := map_opnd (ε := ε) (ρ := ρ) (a := a) (look := look) captured.toList (fun x hx t ht => hl t (by rw [ho]; simp only [Op.operands]; rw [← ht]; simpa using hx)) (by rw [hs]; simp)
        have e2 : captured.map a.eval = (cap.map (AV.den ε ρ)).toArray := by
          apply Array.ext'
          rw [Array.toList_map, e1, hs]
          simp [LV.den, V1.den, SV.den]
        rw [e2]
        simp [Instr.makeFunc, LV.den, V1.den, SV.den]
      · cases h
    · cases h
  · -- fieldAddr
    rename_i s x f ho
    split at h
    · rename_i fields b off hd hx
      have he := opnd_eq (operand_slots hl (x := x) (by simp [ho, Op.operands])) hx (by simp)
      split at h
      · rename_i fd hfd
        split at h
        · rename_i n hn
          split at h
          · cases h
          · rename_i hns
            cases h
            refine ⟨by simp, val_out (ex_value (s := Instr.fieldAt s (a.eval x) f) (by simp only [execOp, ho]) ?_) rfl rfl⟩
            rw [he]
            unfold Instr.fieldAt fieldPlace
            simp only [Sem.run_bind, run_underlying hd, Result.andThen, hfd, LV.den, V1.den, SV.den, AV.den, Instr.sureAddr, Sem.run_pure, run_sizeOf hn, if_neg hns, add_none]
        · cases h
      · cases h
    · cases h
  · -- field
    rename_i s x f ho
    split at h
    · rename_i fields cs hd hx
      have he := opnd_eq (operand_slots hl (x := x) (by simp [ho, Op.operands])) hx (by simp)
      split at h
      · rename_i fd hfd
        obtain ⟨v, hv, rfl⟩ := Option.map_eq_some_iff.1 h
        refine ⟨by simp, val_out (ex_value (s := Instr.field s (a.eval x) f) (by simp only [execOp, ho]) ?_) rfl rfl⟩
        rw [he]
        unfold Instr.field
        simp only [Sem.run_bind, run_underlying hd, Result.andThen, hfd, LV.den, V1.den, asAgg, Sem.run_pure]
        exact run_part hv
      · cases h
    · cases h
  · -- indexAddr
    rename_i t x ix ho
    split at h
    · rename_i len elem b off k i hd hx hix
      have he := opnd_eq (operand_slots hl (x := x) (by simp [ho, Op.operands])) hx (by simp)
      have hj := opnd_eq (operand_slots hl (x := ix) (by simp [ho, Op.operands])) hix (by simp)
      split at h
      · rename_i n hn
        split at h
        · rename_i hb
          cases h
          refine ⟨by simp, val_out (ex_value (s := Instr.indexAt t (a.eval x) (a.eval ix)) (by simp only [execOp, ho]) ?_) rfl rfl⟩
          rw [he, hj]
          unfold Instr.indexAt
          simp only [Sem.run_bind, run_underlying hd, Result.andThen, LV.den, V1.den, SV.den, AV.den, E.den, asIntOf, Instr.sureAddr, Sem.run_pure, run_sizeOf hn, if_pos hb, add_none]
        · cases h
      · cases h
    · rename_i elem b off len cap k i hd hx hix
      have he := opnd_eq (operand_slots hl (x := x) (by simp [ho, Op.operands])) hx (by simp)
      have hj := opnd_eq (operand_slots hl (x := ix) (by simp [ho, Op.operands])) hix (by simp)
      split at h
      · rename_i n hn
        split at h
        · rename_i hb
          cases h
          refine ⟨by simp, val_out (ex_value (s := Instr.indexAt t (a.eval x) (a.eval ix)) (by simp only [execOp, ho]) ?_) rfl rfl⟩
          rw [he, hj]
          unfold Instr.indexAt
          simp only [Sem.run_bind, run_underlying hd, Result.andThen, LV.den, V1.den, SV.den, AV.den, E.den, asIntOf, Instr.sureAddr, Sem.run_pure, run_sizeOf hn, if_pos hb, add_none]
        · cases h
      · cases h
    · cases h
  · -- index
    rename_i t x ix ho
    split at h
    · rename_i len elem cs k i hd hx hix
      have he := opnd_eq (operand_slots hl (x := x) (by simp [ho, Op.operands])) hx (by simp)
      have hj := opnd_eq (operand_slots hl (x := ix) (by simp [ho, Op.operands])) hix (by simp)
      split at h
      · rename_i n hn
        split at h
        · rename_i hb
          obtain ⟨v, hv, rfl⟩ := Option.map_eq_some_iff.1 h
          refine ⟨by simp, val_out (ex_value (s := Instr.index t (a.eval x) (a.eval ix)) (by simp only [execOp, ho]) ?_) rfl rfl⟩
          rw [he, hj]
          unfold Instr.index
          simp only [Sem.run_bind, run_underlying hd, Result.andThen, LV.den, V1.den, SV.den, AV.den, E.den, asIntOf, Sem.run_pure, run_sizeOf hn, if_pos hb]
          exact run_part hv
        · cases h
      · cases h
    · cases h
  · -- slice
    rename_i t x lo hiO mx ho
    have bnd : ∀ (y : Operand), y ∈ o.op.operands → ∀ (d n : Nat), boundOf look (some y) d = some n → ∀ (m : Nat) (c : BoundsCode), n ≤ m → (Instr.sliceBound (a.eval y) m c).run P w = .ok n w := by
      intro y hy d n hb m c hm
      unfold boundOf at hb
      dsimp only at hb
      split at hb
      · rename_i k i hv
        split at hb
        · rename_i h0
          cases hb
          have he := opnd_eq (operand_slots hl hy) hv (by simp)
          rw [he]
          have hc : 0 ≤ i ∧ i ≤ (m : Int) := ⟨h0, by omega⟩
          simp only [Instr.sliceBound, LV.den, V1.den, SV.den, AV.den, E.den, asIntOf, Sem.run_bind, Sem.run_pure, Result.andThen, if_pos hc]
        · cases hb
      · cases hb
    have bounds : ∀ (isS : Bool) (len cap uu ll : Nat), boundOf look hiO len = some uu → boundOf look lo 0 = some ll → mx = none → ll ≤ uu → uu ≤ cap →
        (Instr.sliceBounds isS len cap (lo.map a.eval) (hiO.map a.eval) (mx.map a.eval)).run P w = .ok (ll, uu, cap) w := by
      intro isS len cap uu ll hh hl' hmx hlh hhc
      rw [hmx]
      unfold Instr.sliceBounds
      have H : ∀ c, (match hiO.map a.eval with | some v => Instr.sliceBound v cap c | none => pure len : Sem Nat).run P w = .ok uu w := fun c => by
        cases hiv : hiO with
        | none => rw [hiv] at hh; simp [boundOf] at hh; subst hh; rfl
        | some z => rw [hiv] at hh; exact bnd z (by simp [ho, Op.operands, hiv]) len uu hh cap c hhc
      have L : ∀ c, (match lo.map a.eval with | some v => Instr.sliceBound v uu c | none => pure 0 : Sem Nat).run P w = .ok ll w := fun c => by
        cases lov : lo with
        | none => rw [lov] at hl'; simp [boundOf] at hl'; subst hl'; rfl
        | some z => rw [lov] at hl'; exact bnd z (by simp [ho, Op.operands, lov]) 0 ll hl' uu c hlh
      have H1 := H (if isS then .sliceAcap else .sliceAlen)
      have L1 := L .sliceB
      cases hiv : hiO with
      | none =>
        rw [hiv] at H1
        cases lov : lo with
        | none => rw [lov] at L1; simp [Result.andThen] at H1 L1 ⊢; exact ⟨L1, H1⟩
        | some y => rw [lov] at L1; simp [Result.andThen] at H1 L1 ⊢; subst H1; simp [L1]
      | some z =>
        rw [hiv] at H1
        cases lov : lo with
        | none => rw [lov] at L1; simp [Result.andThen] at H1 L1 ⊢; simp [H1, L1]
        | some y => rw [lov] at L1; simp [Result.andThen] at H1 L1 ⊢; simp [H1, L1]
    split at h
    · cases h
    · rename_i hmx
      have hmx' : mx = none := by simpa using hmx
      split at h
      · rename_i n elem b off hd hx
        have he := opnd_eq (operand_slots hl (x := x) (by simp [ho, Op.operands])) hx (by simp)
        split at h
        · rename_i e h1 l1 hi1 hh hl1
          split at h
          · rename_i hc
            cases h
            refine ⟨by simp, val_out (ex_value (s := Instr.sliceAt t (a.eval x) (lo.map a.eval) (hiO.map a.eval) (mx.map a.eval)) (by simp only [execOp, ho]) ?_) rfl rfl⟩
            rw [he]
            unfold Instr.sliceAt
            simp only [Sem.run_bind, run_underlying hd, Result.andThen, LV.den, V1.den, SV.den, AV.den, Instr.sureAddr, Sem.run_pure, bounds false n n h1 l1 hh hl1 hmx' hc.1 hc.2, run_sizeOf hi1, add_none]
            split <;> rfl
          · cases h
        · cases h
      · rename_i elem b off len cap hd hx
        have he := opnd_eq (operand_slots hl (x := x) (by simp [ho, Op.operands])) hx (by simp)
        split at h
        · rename_i e h1 l1 hi1 hh hl1
          split at h
          · rename_i hc
            cases h
            refine ⟨by simp, val_out (ex_value (s := Instr.sliceAt t (a.eval x) (lo.map a.eval) (hiO.map a.eval) (mx.map a.eval)) (by simp only [execOp, ho]) ?_) rfl rfl⟩
            rw [he]
            unfold Instr.sliceAt Instr.slice
            have hb := bounds true len cap h1 l1 hh hl1 hmx' hc.1 hc.2
            simp only [Sem.run_bind, run_underlying hd, Result.andThen, LV.den, V1.den, SV.den, AV.den, Sem.run_pure, hb, run_sizeOf hi1, Option.map_some, add_none]
            split <;> rfl
          · cases h
        · cases h
      · cases h
  · -- extract
    rename_i x i ho
    split at h
    · rename_i vs hx
      have he := opnd_eq (operand_slots hl (x := x) (by simp [ho, Op.operands])) hx (by simp)
      obtain ⟨v, hv, rfl⟩ := Option.map_eq_some_iff.1 h
      refine ⟨by simp, val_out (ex_value (s := Instr.extract (a.eval x) i) (by simp only [execOp, ho]) ?_) rfl rfl⟩
      rw [he]
      simp [Instr.extract, LV.den, hv]
    · cases h
  · -- call
    rename_i c ho
    have hops : ∀ x ∈ c.args.toList, ∀ t, x = .tmp t → RV ε ρ (look t) (a.tmps.getD t undef) := fun x hx t ht =>
      hl t (by rw [ho]; simp only [Op.operands, Call.operands]; rw [← ht]; exact Array.mem_append_right _ (by simpa using hx))
    split at h
    · -- len
      rename_i hc
      have hex : execOp a.eval o = (do pure (.value (← Builtin.len_ c.argTypes o.type (c.args.map a.eval)))) := by
        simp only [execOp, ho, resolve, hc]; rfl
      split at h
      · rename_i t x ht hx
        have hmem : x ∈ c.args.toList := by simpa using Array.mem_of_getElem? hx
        have hget : opnd look x ≠ .bad → (c.args.map a.eval)[0]? = some ((opnd look x).den ε ρ) := fun hb => by
          rw [Array.getElem?_map, hx]; exact congrArg some (opnd_den (hops x hmem) hb)
        split at h
        · rename_i e b off n cp hd hv
          cases h
          refine ⟨by simp, val_out (ex_value hex ?_) rfl rfl⟩
          rw [hv] at hget
          exact run_len_sl hd _ _ ht (hget (by simp))
        · rename_i e hd hv
          cases h
          refine ⟨by simp, val_out (ex_value hex ?_) rfl rfl⟩
          rw [hv] at hget
          exact run_len_sl hd _ _ ht (hget (by simp))
        · rename_i e i hd hv
          cases h
          refine ⟨by simp, val_out (ex_value hex ?_) rfl rfl⟩
          rw [hv] at hget
          exact run_len_sl hd _ _ ht (hget (by simp))
        · rename_i n e v hd hv
          cases h
          refine ⟨by simp, val_out (ex_value hex ?_) rfl rfl⟩
          rw [hv] at hget
          exact run_len_arr hd _ _ ht (hget (by simp))
        · cases h
      · cases h
    · -- max
      rename_i hc
      have hex : execOp a.eval o = (do pure (.value (← Builtin.max_ c.argTypes o.type (c.args.map a.eval)))) := by
        simp only [execOp, ho, resolve, hc]; rfl
      split at h
      · rename_i x rest hxs
        obtain ⟨h1, h2, h3, h4⟩ := pureOp_spec h
        obtain ⟨b1, b2⟩ := foldMM_bad _ _ h1
        have em := map_opnd (ε := ε) (ρ := ρ) (a := a) (look := look) c.args.toList hops (by rw [hxs]; intro y hy; exact (List.mem_cons.1 hy).elim (fun e => e ▸ b1) (b2 y))
        refine ⟨by simp [h3], val_out (ex_value hex ?_) h3 rfl⟩
        unfold Builtin.max_
        rw [Array.toList_map, em, hxs]
        rw [h2]
        exact foldMM_spec (f := fun x y => if y > x then y else x) mkMx_den (fun _ _ _ _ _ => rfl) rest x h1
      · cases h
    · -- min
      rename_i hc
      have hex : execOp a.eval o = (do pure (.value (← Builtin.min_ c.argTypes o.type (c.args.map a.eval)))) := by
        simp only [execOp, ho, resolve, hc]; rfl
      split at h
      · rename_i x rest hxs
        obtain ⟨h1, h2, h3, h4⟩ := pureOp_spec h
        obtain ⟨b1, b2⟩ := foldMM_bad _ _ h1
        have em := map_opnd (ε := ε) (ρ := ρ) (a := a) (look := look) c.args.toList hops (by rw [hxs]; intro y hy; exact (List.mem_cons.1 hy).elim (fun e => e ▸ b1) (b2 y))
        refine ⟨by simp [h3], val_out (ex_value hex ?_) h3 rfl⟩
        unfold Builtin.min_
        rw [Array.toList_map, em, hxs]
        rw [h2]
        exact foldMM_spec (f := fun x y => if y < x then y else x) mkMn_den (fun _ _ _ _ _ => rfl) rest x h1
      · cases h
    · -- a function
      rename_i f hc
      split at h
      · rename_i g cap hf
        have hfe := opnd_eq (ε := ε) (ρ := ρ) (a := a) (look := look) (x := f) (fun t ht => hl t (by rw [ho]; simp only [Op.operands, Call.operands, hc]; rw [← ht]; simp)) hf (by simp)
        have := call_out (o := o) (a := a) hsub h hid hob hpc hw hm hi (fun hargs => by
          have em := map_opnd (ε := ε) (ρ := ρ) (a := a) (look := look) c.args.toList hops (fun x hx => hargs x (List.mem_append_left _ hx))
          simp only [execOp, ho, resolve, hc, hfe, LV.den, V1.den, SV.den, Deferred.ofValue, Sem.run_bind, Sem.run_pure, Result.andThen, invoke]
          congr 2
          apply Array.ext'
          rw [List.map_append, ← em]
          simp [LV.den, V1.den, SV.den])
        exact ⟨fun u hu => .inr (this.1 u hu), this.2⟩
      · cases h
    · cases h
  · cases h
end
end SX
end Go.Proofs.Ytfknnnlbfdeomaa
/- The reading by symbols: a region, in whatever order. -/
set_option linter.unusedVariables false
set_option linter.unusedSimpArgs false
namespace Go.Proofs.Ytfknnnlbfdeomaa
namespace SX
open Go.RowKit
variable {P : Program} {ε : Env}
/-- The machine's state is what a reading says. -/
structure Rep (ε : Env) (w0 : World) (d : List Deferred) (st : St) (ρ : Nat → Nat) (a : Act) (w : World) : Prop where
  size : a.tmps.size = st.tmps.length
  defers : a.defers = d
  slots : ∀ t, RV ε ρ (st.look t) (a.tmps.getD t undef)
  blocks : ∀ b cs, st.at b = some cs → Blk ε ρ w0.heap.size w b cs
  inj : ∀ b b', (st.at b).isSome = true → (st.at b').isSome = true → ρ b = ρ b' → b = b'
  world : Below w0.heap.size w0 w
/-- What has turned since. -/
structure Aft (st : St) (ρ : Nat → Nat) (w : World) (nid : Nat) (st' : St) (ρ' : Nat → Nat) (w' : World) : Prop where
  agree : ∀ b, b < nid → ρ' b = ρ b
  ext : Ext w w' (fun x => ∃ b, (st.at b).isSome = true ∧ ρ b = x)
  fresh : ∀ b, (st'.at b).isSome = true → (st.at b).isSome = true ∨ w.heap.size ≤ ρ' b
def latest {α : Type} (f : Nat → Option α) : Nat → Option α
  | 0 => none
  | n + 1 => match f n with | some x => some x | none => latest f n
theorem latest_congr {α : Type} {f g : Nat → Option α} : ∀ n, (∀ j, j < n → f j = g j) → latest f n = latest g n
  | 0, _ => rfl
  | n + 1, h => by simp only [latest, h n (by omega), latest_congr n fun j hj => h j (by omega)]
theorem latest_below {α : Type} {f : Nat → Option α} {i : Nat} : ∀ n, i ≤ n → (∀ j, i ≤ j → j < n → f j = none) → latest f n = latest f i
  | 0, h, _ => by obtain rfl : i = 0 := by omega
                  rfl
  | n + 1, h, hn => by
    by_cases e : i = n + 1
    · subst e; rfl
    · rw [latest, hn n (by omega) (by omega)]
      exact latest_below n (by omega) fun j h1 h2 => hn j h1 (by omega)
theorem latest_at {α : Type} {f : Nat → Option α} {i : Nat} {x : α} : ∀ n, i < n → f i = some x → (∀ j, i < j → j < n → f j = none) → latest f n = some x
  | 0, h, _, _ => by omega
  | n + 1, h, hx, hn => by
    by_cases e : i = n
    · subst e; simp [latest, hx]
    · rw [latest, hn n (by omega) (by omega)]
      exact latest_at n (by omega) hx fun j h1 h2 => hn j h1 (by omega)
theorem latest_some {α : Type} {f : Nat → Option α} {x : α} : ∀ n, latest f n = some x → ∃ j, j < n ∧ f j = some x
  | 0, h => by cases h
  | n + 1, h => by
    rw [latest] at h
    split at h
    · rename_i y hy; cases h; exact ⟨n, by omega, hy⟩
    · obtain ⟨j, h1, h2⟩ := latest_some n h; exact ⟨j, by omega, h2⟩
def wT (recs : List Rec) (t j : Nat) : Option LV := match recs[j]? with
  | some r => if r.dst = some t then some r.val else none
  | none => none
def wM (recs : List Rec) (b j : Nat) : Option Cells := match recs[j]? with
  | some r => r.upd.lookup b
  | none => none
def on {α : Type} (D : Nat → Prop) [DecidablePred D] (f : Nat → Option α) (j : Nat) : Option α := if D j then f j else none
section
variable (recs : List Rec) (st : St) (D : Nat → Prop) [DecidablePred D]
/-- The slots, and the blocks, behind the operations D. -/
def lookD (t : Nat) : LV := if t < st.tmps.length then (latest (on D (wT recs t)) recs.length).getD (st.look t) else .bad
def atD (b : Nat) : Option Cells := match latest (on D (wM recs b)) recs.length with
  | some c => some c
  | none => st.at b
end
theorem St.apply_len (s : St) (r : Rec) : (s.apply r).tmps.length = s.tmps.length := by
  unfold St.apply St.put; cases r.dst <;> simp
theorem St.apply_look (s : St) (r : Rec) (t : Nat) (ht : t < s.tmps.length) : (s.apply r).look t = if r.dst = some t then r.val else s.look t := by
  unfold St.apply St.put St.look
  cases hd : r.dst with
  | none => simp
  | some d =>
    by_cases h : d = t
    · subst h; simp [ht]
    · simp [h]
theorem lookup_append {α : Type} (b : Nat) : ∀ (l m : List (Nat × α)), (l ++ m).lookup b = match l.lookup b with | some x => some x | none => m.lookup b
  | [], m => rfl
  | (k, x) :: l, m => by
    simp only [List.cons_append, List.lookup]
    split
    · rfl
    · exact lookup_append b l m
theorem St.apply_at (s : St) (r : Rec) (b : Nat) : (s.apply r).at b = match r.upd.lookup b with | some c => some c | none => s.at b := by
  have e : (s.put r.dst r.val).mem = s.mem := by unfold St.put; cases r.dst <;> rfl
  unfold St.apply St.at
  simp only [lookup_append, e]
  cases List.lookup b r.upd <;> rfl
/-- The state behind the first i. -/
def lexSt (recs : List Rec) (st : St) (i : Nat) : St := (recs.take i).foldl St.apply st
theorem lexSt_succ {recs : List Rec} {st : St} {i : Nat} {r : Rec} (h : recs[i]? = some r) : lexSt recs st (i + 1) = (lexSt recs st i).apply r := by
  unfold lexSt
  rw [List.take_add_one, h]
  simp
theorem lexSt_len (recs : List Rec) (st : St) : ∀ i, (lexSt recs st i).tmps.length = st.tmps.length
  | 0 => rfl
  | i + 1 => by
    cases h : recs[i]? with
    | none =>
      have : lexSt recs st (i + 1) = lexSt recs st i := by unfold lexSt; rw [List.take_add_one, h]; simp
      rw [this]; exact lexSt_len recs st i
    | some r => rw [lexSt_succ h, St.apply_len]; exact lexSt_len recs st i
theorem lexSt_look (recs : List Rec) (st : St) (t : Nat) (ht : t < st.tmps.length) : ∀ i, i ≤ recs.length → (lexSt recs st i).look t = (latest (wT recs t) i).getD (st.look t)
  | 0, _ => rfl
  | i + 1, hi => by
    have h : recs[i]? = some recs[i] := List.getElem?_eq_getElem (by omega)
    rw [lexSt_succ h, St.apply_look _ _ _ (by rw [lexSt_len]; exact ht), latest, lexSt_look recs st t ht i (by omega)]
    simp only [wT, h]
    split <;> rfl
theorem lexSt_at (recs : List Rec) (st : St) (b : Nat) : ∀ i, i ≤ recs.length → (lexSt recs st i).at b = match latest (wM recs b) i with | some c => some c | none => st.at b
  | 0, _ => rfl
  | i + 1, hi => by
    have h : recs[i]? = some recs[i] := List.getElem?_eq_getElem (by omega)
    rw [lexSt_succ h, St.apply_at, latest, lexSt_at recs st b i (by omega)]
    simp only [wM, h]
    cases (recs[i]).upd.lookup b <;> rfl
/-- What the reading did at operation i. -/
def DidAt (P : Program) (ε : Env) (w0 : World) (sub : Sub) (ops : Array Oper) (nid : Nat) (recs : List Rec) (st : St) (i : Nat) (o : Oper) (rc : Rec) : Prop :=
  rc.dst = o.dst ∧
  ((((o.guard = none) ∨ ∃ j want t e, o.guard = some (j, want) ∧ (ops[j]?).bind (·.dst) = some t ∧ (lexSt recs st i).look t = .v (.s (.a (.bool e))) ∧ (e.den ε).2 = want) ∧
      ∃ pc dec nv r, (pc.den ε).2 = true ∧ (∀ p ∈ dec, (p.1.den ε).2 = p.2) ∧ evOp P sub (nid + i) pc (lexSt recs st i).look (lexSt recs st i).at nv dec o = some r ∧ rc = ⟨o.dst, r.val, r.fp, r.upd⟩ ∧ ∀ ob ∈ r.obs, ob.ok P ε w0) ∨
   ((∃ j want t, o.guard = some (j, want) ∧ (ops[j]?).bind (·.dst) = some t ∧ ((∃ e, (lexSt recs st i).look t = .v (.s (.a (.bool e))) ∧ (e.den ε).2 ≠ want) ∨ (lexSt recs st i).look t = .tup [])) ∧
      rc = ⟨o.dst, .tup [], [], []⟩))
theorem DidAt.shift {w0 : World} {sub : Sub} {ops : Array Oper} {nid : Nat} {recs recs' : List Rec} {st st' : St} {i i' nid' : Nat} {o : Oper} {rc : Rec}
    (h : DidAt P ε w0 sub ops nid recs st i o rc) (hl : lexSt recs st i = lexSt recs' st' i') (hn : nid + i = nid' + i') : DidAt P ε w0 sub ops nid' recs' st' i' o rc := by
  unfold DidAt at *
  rw [← hl, ← hn]
  exact h
/-- The way that is gone. -/
def Ops.path (ε : Env) : Ops → Option (List Rec × St)
  | .done st _ => some ([], st)
  | .op r _ rest => (rest.path ε).map fun p => (r :: p.1, p.2)
  | .fork e x y => if (e.den ε).2 then x.path ε else y.path ε
  | .none => Option.none
theorem decided_spec0 {dec : List (E × Bool)} (hdec : ∀ p ∈ dec, (p.1.den ε).2 = p.2) {e : E} {b : Bool} (h : decided dec e = some b) : (e.den ε).2 = b := decided_spec hdec h
theorem evOps_spec {w0 : World} {sub : Sub} {ops : Array Oper} : ∀ {l : List Oper} {nid : Nat} {pc : E} {dec : List (E × Bool)} {st : St} {nv : Nat} {recs : List Rec} {st' : St},
    (evOps P sub ops l nid pc dec st nv).path ε = some (recs, st') → (∀ ob ∈ (evOps P sub ops l nid pc dec st nv).obs, ob.ok P ε w0) → (pc.den ε).2 = true → (∀ p ∈ dec, (p.1.den ε).2 = p.2) →
    recs.length = l.length ∧ st' = recs.foldl St.apply st ∧ ∀ i o, l[i]? = some o → ∃ rc, recs[i]? = some rc ∧ DidAt P ε w0 sub ops nid recs st i o rc
  | [], nid, pc, dec, st, nv, recs, st', h, _, _, _ => by
    simp only [evOps, Ops.path] at h
    cases h
    exact ⟨rfl, rfl, fun i o h => by simp at h⟩
  | o :: l, nid, pc, dec, st, nv, recs, st', h, hob, hpc, hdec => by
    have go : ∀ (rc : Rec) (pc : E) (dec : List (E × Bool)) (nv : Nat) (obs : List Ob), (pc.den ε).2 = true → (∀ p ∈ dec, (p.1.den ε).2 = p.2) →
        (Ops.op rc obs (evOps P sub ops l (nid + 1) pc dec (st.apply rc) nv)).path ε = some (recs, st') → (∀ ob ∈ (Ops.op rc obs (evOps P sub ops l (nid + 1) pc dec (st.apply rc) nv)).obs, ob.ok P ε w0) →
        (∀ recs' : List Rec, DidAt P ε w0 sub ops nid (rc :: recs') st 0 o rc) →
        recs.length = (o :: l).length ∧ st' = recs.foldl St.apply st ∧ ∀ i o', (o :: l)[i]? = some o' → ∃ rc, recs[i]? = some rc ∧ DidAt P ε w0 sub ops nid recs st i o' rc := by
      intro rc pc dec nv obs hpc hdec hp ho hd
      simp only [Ops.path, Option.map_eq_some_iff] at hp
      obtain ⟨⟨recs1, st1⟩, he, heq⟩ := hp
      cases heq
      obtain ⟨h1, h2, h3⟩ := evOps_spec he (fun ob hb => ho ob (List.mem_append_right _ hb)) hpc hdec
      refine ⟨by simp [h1], by simp [h2], fun i o' hi => ?_⟩
      cases i with
      | zero =>
        obtain rfl : o = o' := by simpa using hi
        exact ⟨_, rfl, hd _⟩
      | succ i =>
        obtain ⟨rc', e1, e2⟩ := h3 i o' (by simpa using hi)
        exact ⟨rc', by simpa using e1, e2.shift (by simp [lexSt]) (by omega)⟩
    have run : ∀ (pc : E) (dec : List (E × Bool)) (nv : Nat) (T : Ops), T = (match evOp P sub nid pc st.look st.at nv dec o with
        | some r => .op ⟨o.dst, r.val, r.fp, r.upd⟩ r.obs (evOps P sub ops l (nid + 1) pc dec (st.apply ⟨o.dst, r.val, r.fp, r.upd⟩) r.nv)
        | none => .none) → (pc.den ε).2 = true → (∀ p ∈ dec, (p.1.den ε).2 = p.2) → T.path ε = some (recs, st') → (∀ ob ∈ T.obs, ob.ok P ε w0) →
        ((o.guard = none) ∨ ∃ j want t e, o.guard = some (j, want) ∧ (ops[j]?).bind (·.dst) = some t ∧ st.look t = .v (.s (.a (.bool e))) ∧ (e.den ε).2 = want) →
        recs.length = (o :: l).length ∧ st' = recs.foldl St.apply st ∧ ∀ i o', (o :: l)[i]? = some o' → ∃ rc, recs[i]? = some rc ∧ DidAt P ε w0 sub ops nid recs st i o' rc := by
      intro pc dec nv T hT hpc hdec hr ho hg
      split at hT
      · rename_i r he
        subst hT
        exact go _ pc dec r.nv r.obs hpc hdec hr ho fun recs' => ⟨rfl, .inl ⟨hg, pc, dec, nv, r, hpc, hdec, he, rfl, fun ob hb => ho ob (List.mem_append_left _ hb)⟩⟩
      · subst hT; cases hr
    have skip : ∀ (pc : E) (dec : List (E × Bool)) (nv : Nat), (pc.den ε).2 = true → (∀ p ∈ dec, (p.1.den ε).2 = p.2) →
        (Ops.op ⟨o.dst, .tup [], [], []⟩ [] (evOps P sub ops l (nid + 1) pc dec (st.apply ⟨o.dst, .tup [], [], []⟩) nv)).path ε = some (recs, st') →
        (∀ ob ∈ (Ops.op ⟨o.dst, .tup [], [], []⟩ [] (evOps P sub ops l (nid + 1) pc dec (st.apply ⟨o.dst, .tup [], [], []⟩) nv)).obs, ob.ok P ε w0) →
        (∃ j want t, o.guard = some (j, want) ∧ (ops[j]?).bind (·.dst) = some t ∧ ((∃ e, st.look t = .v (.s (.a (.bool e))) ∧ (e.den ε).2 ≠ want) ∨ st.look t = .tup [])) →
        recs.length = (o :: l).length ∧ st' = recs.foldl St.apply st ∧ ∀ i o', (o :: l)[i]? = some o' → ∃ rc, recs[i]? = some rc ∧ DidAt P ε w0 sub ops nid recs st i o' rc := by
      intro pc dec nv hpc hdec hr ho hg
      exact go _ pc dec nv [] hpc hdec hr ho fun recs' => ⟨rfl, .inr ⟨hg, rfl⟩⟩
    simp only [evOps] at h hob
    split at h
    · rename_i hg
      simp only [hg] at hob
      exact run pc dec nv _ rfl hpc hdec h hob (.inl hg)
    · rename_i j want hg
      simp only [hg] at hob
      split at h
      · rename_i e he
        simp only [he] at hob
        obtain ⟨t, ht, hte⟩ := Option.map_eq_some_iff.1 he
        split at h
        · rename_i b hb
          simp only [hb] at hob
          split at h
          · rename_i hbw
            simp only [hbw, if_true] at hob
            obtain rfl : b = want := by simpa using hbw
            exact run pc dec nv _ rfl hpc hdec h hob (.inr ⟨j, b, t, e, hg, ht, hte, decided_spec hdec hb⟩)
          · rename_i hbw
            simp only [hbw, if_false, Bool.false_eq_true] at hob
            exact skip pc dec nv hpc hdec h hob ⟨j, want, t, hg, ht, .inl ⟨e, hte, by rw [decided_spec hdec hb]; simpa using hbw⟩⟩
        · rename_i hb
          simp only [hb] at hob
          have ht1 : ∀ c, (e.den ε).2 = c → ∀ p ∈ (e, c) :: dec, (p.1.den ε).2 = p.2 := fun c hc p hp => by
            rcases List.mem_cons.1 hp with rfl | hp
            · exact hc
            · exact hdec p hp
          split at h
          · rename_i hw
            subst hw
            simp only [if_true, Ops.obs] at hob
            simp only [Ops.path] at h
            cases hc : (e.den ε).2
            · simp only [hc, Bool.false_eq_true, if_false] at h
              exact skip _ _ _ (by rw [mkIf_den, hc, if_neg (by simp)]; exact hpc) (ht1 _ hc) h (fun ob hb => hob ob (List.mem_append_right _ hb)) ⟨j, true, t, hg, ht, .inl ⟨e, hte, by rw [hc]; simp⟩⟩
            · simp only [hc, if_true] at h
              exact run _ _ _ _ rfl (by rw [mkIf_den, hc, if_pos rfl]; exact hpc) (ht1 _ hc) h (fun ob hb => hob ob (List.mem_append_left _ hb)) (.inr ⟨j, true, t, e, hg, ht, hte, hc⟩)
          · rename_i hw
            obtain rfl : want = false := by simpa using hw
            simp only [Bool.false_eq_true, if_false, Ops.obs] at hob
            simp only [Ops.path] at h
            cases hc : (e.den ε).2
            · simp only [hc, Bool.false_eq_true, if_false] at h
              exact run _ _ _ _ rfl (by rw [mkIf_den, hc, if_neg (by simp)]; exact hpc) (ht1 _ hc) h (fun ob hb => hob ob (List.mem_append_right _ hb)) (.inr ⟨j, false, t, e, hg, ht, hte, hc⟩)
            · simp only [hc, if_true] at h
              exact skip _ _ _ (by rw [mkIf_den, hc, if_pos rfl]; exact hpc) (ht1 _ hc) h (fun ob hb => hob ob (List.mem_append_left _ hb)) ⟨j, false, t, hg, ht, .inl ⟨e, hte, by rw [hc]; simp⟩⟩
      · rename_i he
        simp only [he] at hob
        obtain ⟨t, ht, hte⟩ := Option.map_eq_some_iff.1 he
        exact skip pc dec nv hpc hdec h hob ⟨j, want, t, hg, ht, .inr hte⟩
      · cases h
end SX
end Go.Proofs.Ytfknnnlbfdeomaa
/- The reading by symbols: one operation of a region, whichever have been. -/
set_option linter.unusedVariables false
set_option linter.unusedSimpArgs false
namespace Go.Proofs.Ytfknnnlbfdeomaa
namespace SX
open Go.RowKit
variable {P : Program} {ε : Env}
/-- What 'regionOk' says of one operation. -/
structure RegOk (ops : Array Oper) (recs : List Rec) (bs : List (List Nat)) (base : Nat) (i : Nat) (o : Oper) (r : Rec) : Prop where
  sel : ∀ cs b, o.op ≠ .select cs b
  lt : ∀ j ∈ bs.getD i [], j < i
  edge : ∀ e ∈ o.after, Region.binds .any e = true → e.on ∈ bs.getD i []
  back : ∀ j ∈ bs.getD i [], ∃ e ∈ o.after, Region.binds .any e = true ∧ (e.on = j ∨ j ∈ bs.getD e.on [])
  apart : ∀ j, j < ops.size → j ≠ i → ∀ q, recs[j]? = some q → (∃ k ∈ changes q, k ∈ footprint ops o r) → j ∈ bs.getD i [] ∨ i ∈ bs.getD j []
  names : ∀ b ∈ mentions r, b < base ∨ b = base + i ∨ ∃ j ∈ bs.getD i [], b = base + j
  keys : ∀ u ∈ r.upd, u.1 < base ∨ u.1 = base + i ∨ ∃ j ∈ bs.getD i [], u.1 = base + j
theorem regionOk_spec {ops : Array Oper} {recs : List Rec} {bs : List (List Nat)} {base : Nat} (h : regionOk ops recs bs base = true) :
    recs.length = ops.size ∧ bs.length = ops.size ∧ ∀ i o r, ops[i]? = some o → recs[i]? = some r → RegOk ops recs bs base i o r := by
  unfold regionOk at h
  simp only [Bool.and_eq_true, beq_iff_eq, List.all_eq_true, List.mem_range] at h
  obtain ⟨⟨h1, h2⟩, h3⟩ := h
  refine ⟨h1, h2, fun i o r ho hr => ?_⟩
  have hi : i < ops.size := by
    rcases Nat.lt_or_ge i ops.size with h | h
    · exact h
    · rw [Array.getElem?_eq_none h] at ho; cases ho
  have := h3 i hi
  simp only [ho, hr, Bool.and_eq_true, List.all_eq_true, List.mem_range, decide_eq_true_eq, Bool.or_eq_true, List.any_eq_true, beq_iff_eq, Array.any_eq_true, Array.all_eq_true, Bool.not_eq_true'] at this
  obtain ⟨⟨⟨⟨⟨⟨a1, a2⟩, a3⟩, a4⟩, a5⟩, a6⟩, a7⟩ := this
  refine ⟨fun cs b e => (by rw [e] at a1; cases a1), a2, ?_, ?_, ?_, ?_, ?_⟩
  · intro e he hb
    obtain ⟨n, hn, rfl⟩ := Array.mem_iff_getElem.1 he
    rcases a3 n hn with h | h
    · rw [hb] at h; cases h
    · exact List.contains_iff_mem.1 h.1
  · intro j hj
    obtain ⟨n, hn, h1, h2⟩ := a4 j hj
    exact ⟨_, Array.getElem_mem hn, h1, h2.imp id List.contains_iff_mem.1⟩
  · intro j hj hne q hq hk
    rcases a5 j hj with (h | h) | h
    · exact absurd h hne
    · simp only [ordered, Bool.or_eq_true] at h
      exact h.imp List.contains_iff_mem.1 List.contains_iff_mem.1
    · obtain ⟨k, k1, k2⟩ := hk
      rw [hq] at h
      simp only [List.all_eq_true, Bool.not_eq_true'] at h
      have := h k k1
      rw [List.contains_iff_mem.2 k2] at this
      cases this
  · intro b hb
    rcases a6 b hb with (h | h) | ⟨j, h1, h2⟩
    · exact .inl h
    · exact .inr (.inl h)
    · exact .inr (.inr ⟨j, h1, h2⟩)
  · intro u hu
    rcases a7 u hu with (h | h) | ⟨j, h1, h2⟩
    · exact .inl h
    · exact .inr (.inl h)
    · exact .inr (.inr ⟨j, h1, h2⟩)
theorem lookup_mem {α : Type} {b : Nat} {x : α} : ∀ {l : List (Nat × α)}, l.lookup b = some x → (b, x) ∈ l
  | [], h => by cases h
  | (k, y) :: l, h => by
    simp only [List.lookup] at h
    split at h
    · rename_i hk; cases h; rw [eq_of_beq hk]; exact List.mem_cons_self
    · exact List.mem_cons_of_mem _ (lookup_mem h)
theorem lookup_isSome {α : Type} {b : Nat} : ∀ {l : List (Nat × α)}, (∃ u ∈ l, u.1 = b) → (l.lookup b).isSome = true
  | [], ⟨u, hu, _⟩ => by cases hu
  | (k, y) :: l, ⟨u, hu, hb⟩ => by
    simp only [List.lookup]
    split
    · rfl
    · rename_i hk
      rcases List.mem_cons.1 hu with rfl | hu
      · subst hb; simp at hk
      · exact lookup_isSome ⟨u, hu, hb⟩
section
variable {ops : Array Oper} {recs : List Rec} {bs : List (List Nat)} {st : St} {nid : Nat}
/-- Behind the operations D. -/
structure Inv (ε : Env) (w0 : World) (d : List Deferred) (recs : List Rec) (bs : List (List Nat)) (st : St) (nid : Nat) (ρ0 : Nat → Nat) (w1 : World) (D : Nat → Prop) [DecidablePred D] (ρ : Nat → Nat) (a : Act) (w : World) : Prop where
  size : a.tmps.size = st.tmps.length
  defers : a.defers = d
  slots : ∀ t, RV ε ρ (lookD recs st D t) (a.tmps.getD t undef)
  blocks : ∀ b cs, atD recs st D b = some cs → Blk ε ρ w0.heap.size w b cs
  inj : ∀ b b', (atD recs st D b).isSome = true → (atD recs st D b').isSome = true → ρ b = ρ b' → b = b'
  world : Below w0.heap.size w0 w
  agree : ∀ b, b < nid → ρ b = ρ0 b
  ext : Ext w1 w (fun x => ∃ b, (st.at b).isSome = true ∧ ρ0 b = x)
  fresh : ∀ b, (atD recs st D b).isSome = true → (st.at b).isSome = true ∨ w1.heap.size ≤ ρ b
  closed : ∀ j, D j → ∀ k ∈ bs.getD j [], D k
/-- An operation that may come now finds what the reading found. -/
theorem agree_at {α : Type} {D : Nat → Prop} [DecidablePred D] {i : Nat} {o : Oper} {r : Rec} {f : Nat → Option α} (hok : RegOk ops recs bs nid i o r) (hlen : recs.length = ops.size) (hi : i < ops.size)
    (hlt : ∀ j, ∀ k ∈ bs.getD j [], k < j) (hD : ¬ D i) (hcl : ∀ j, D j → ∀ k ∈ bs.getD j [], D k) (hpre : ∀ e ∈ o.after, Region.binds .any e = true → D e.on)
    (hf : ∀ j q, f j ≠ none → recs[j]? = some q → ∃ k ∈ changes q, k ∈ footprint ops o r) (hfn : ∀ j, recs[j]? = none → f j = none) :
    latest (on D f) recs.length = latest f i := by
  have hbs : ∀ j ∈ bs.getD i [], D j := fun j hj => by
    obtain ⟨e, he, hb, h⟩ := hok.back j hj
    rcases h with rfl | h
    · exact hpre e he hb
    · exact hcl _ (hpre e he hb) _ h
  have ord : ∀ j, j < ops.size → j ≠ i → f j ≠ none → j ∈ bs.getD i [] ∨ i ∈ bs.getD j [] := fun j hj hne hfj => by
    have hr : recs[j]? = some recs[j] := List.getElem?_eq_getElem (by omega)
    exact hok.apart j hj hne _ hr (hf j _ hfj hr)
  have e1 : latest (on D f) recs.length = latest (on (· < i) f) recs.length := by
    refine latest_congr _ fun j hj => ?_
    unfold on
    by_cases hfj : f j = none
    · simp [hfj]
    · by_cases hji : j = i
      · subst hji; simp [hD]
      · have := ord j (by omega) hji hfj
        by_cases hji2 : j < i
        · have : D j := by
            rcases this with h | h
            · exact hbs j h
            · exact absurd (hlt j i h) (by omega)
          simp [this, hji2]
        · have : ¬ D j := fun hd => by
            rcases this with h | h
            · exact hji2 (hok.lt j h)
            · exact hD (hcl j hd i h)
          simp [this, hji2]
  rw [e1, latest_below recs.length (by omega) (i := i) fun j h1 h2 => by simp [on, show ¬ j < i by omega]]
  exact latest_congr i fun j hj => by simp [on, hj]
theorem contains_mentions {r : Rec} {b : Nat} (h : b ∈ r.val.ids) : b ∈ mentions r := List.mem_append_left _ h
theorem upd_mentions {r : Rec} {b k : Nat} {cs : Cells} (h : r.upd.lookup k = some cs) (hb : b ∈ Cells.ids cs) : b ∈ mentions r :=
  List.mem_append_right _ (List.mem_flatMap.2 ⟨_, lookup_mem h, hb⟩)
theorem changes_dst {r : Rec} {t : Nat} (h : r.dst = some t) : 2 * t ∈ changes r := List.mem_append_left _ (by simp [h])
theorem changes_upd {r : Rec} {b : Nat} {cs : Cells} (h : r.upd.lookup b = some cs) : 2 * b + 1 ∈ changes r := List.mem_append_right _ (List.mem_map.2 ⟨_, lookup_mem h, rfl⟩)
theorem on_some {α : Type} {D : Nat → Prop} [DecidablePred D] {f : Nat → Option α} {j : Nat} {x : α} (h : on D f j = some x) : D j ∧ f j = some x := by
  unfold on at h; split at h
  · exact ⟨by assumption, h⟩
  · cases h
/-- Of what stands behind D: whence it is. -/
theorem lookD_cases (D : Nat → Prop) [DecidablePred D] (t : Nat) : lookD recs st D t = .bad ∨ lookD recs st D t = st.look t ∨ ∃ j q, D j ∧ recs[j]? = some q ∧ lookD recs st D t = q.val := by
  unfold lookD
  split
  · cases hl : latest (on D (wT recs t)) recs.length with
    | none => exact .inr (.inl rfl)
    | some x =>
      obtain ⟨j, _, h2⟩ := latest_some _ hl
      obtain ⟨h3, h4⟩ := on_some h2
      unfold wT at h4
      split at h4
      · rename_i q hq
        split at h4
        · cases h4; exact .inr (.inr ⟨j, q, h3, hq, rfl⟩)
        · cases h4
      · cases h4
  · exact .inl rfl
theorem atD_cases {D : Nat → Prop} [DecidablePred D] {b : Nat} {cs : Cells} (h : atD recs st D b = some cs) : st.at b = some cs ∨ ∃ j q, D j ∧ recs[j]? = some q ∧ q.upd.lookup b = some cs := by
  unfold atD at h
  split at h
  · rename_i c hl
    cases h
    obtain ⟨j, _, h2⟩ := latest_some _ hl
    obtain ⟨h3, h4⟩ := on_some h2
    unfold wM at h4
    split at h4
    · rename_i q hq; exact .inr ⟨j, q, h3, hq, h4⟩
    · cases h4
  · exact .inl h
/-- D with i. -/
theorem on_with {α : Type} {D : Nat → Prop} [DecidablePred D] {i : Nat} {f : Nat → Option α} {n : Nat} (hn : i < n) (hD : ¬ D i) (hb : f i ≠ none → ∀ j, i < j → j < n → D j → f j = none) :
    latest (on (fun j => D j ∨ j = i) f) n = match f i with | some x => some x | none => latest (on D f) n := by
  cases hf : f i with
  | some x =>
    refine latest_at n hn (by simp [on, hf]) fun j h1 h2 => ?_
    unfold on
    by_cases hd : D j
    · simp [hd, hb (by simp [hf]) j h1 h2 hd]
    · rw [if_neg (by intro h; rcases h with h | h; exact hd h; omega)]
  | none =>
    refine latest_congr n fun j hj => ?_
    unfold on
    by_cases hji : j = i
    · subst hji; simp [hf]
    · simp [hji]
end
end SX
end Go.Proofs.Ytfknnnlbfdeomaa
/- The reading by symbols: what stands behind one more operation. -/
set_option linter.unusedVariables false
set_option linter.unusedSimpArgs false
namespace Go.Proofs.Ytfknnnlbfdeomaa
namespace SX
open Go.RowKit
variable {P : Program} {ε : Env}
theorem at_ids {st : St} {b : Nat} {cs : Cells} (h : st.at b = some cs) : b ∈ stIds st ∧ ∀ k ∈ Cells.ids cs, k ∈ stIds st := by
  have := lookup_mem h
  exact ⟨List.mem_append_right _ (List.mem_flatMap.2 ⟨_, this, List.mem_cons_self⟩), fun k hk => List.mem_append_right _ (List.mem_flatMap.2 ⟨_, this, List.mem_cons_of_mem _ hk⟩)⟩
theorem look_ids {st : St} {t k : Nat} (h : k ∈ (st.look t).ids) : k ∈ stIds st := by
  unfold St.look at h
  by_cases ht : t < st.tmps.length
  · rw [List.getD_eq_getElem?_getD, List.getElem?_eq_getElem ht] at h
    exact List.mem_append_left _ (List.mem_flatMap.2 ⟨_, List.getElem_mem ht, h⟩)
  · rw [List.getD_eq_getElem?_getD, List.getElem?_eq_none (by omega)] at h
    cases h
section
variable {ops : Array Oper} {recs : List Rec} {bs : List (List Nat)} {st : St} {nid : Nat} {w0 w1 w w' : World} {d : List Deferred} {ρ0 ρ ρ' : Nat → Nat} {D : Nat → Prop} [DecidablePred D] {a : Act} {i : Nat} {o : Oper} {r : Rec} {v : Value}
theorem inv_put (hR : ∀ i o r, ops[i]? = some o → recs[i]? = some r → RegOk ops recs bs nid i o r) (hlen : recs.length = ops.size)
    (hids : ∀ b ∈ stIds st, b < nid) (hI : Inv ε w0 d recs bs st nid ρ0 w1 D ρ a w) (ho : ops[i]? = some o) (hr : recs[i]? = some r) (hdst : r.dst = o.dst) (hD : ¬ D i)
    (hpre : ∀ k ∈ bs.getD i [], D k)
    (h1 : ∀ b, b ≠ nid + i → ρ' b = ρ b) (h2 : v = r.val.den ε ρ') (h3 : ∀ u ∈ r.upd, Blk ε ρ' w0.heap.size w' u.1 u.2)
    (h5 : (∃ u ∈ r.upd, u.1 = nid + i) → w.heap.size ≤ ρ' (nid + i)) (h6 : Ext w w' (fun x => ∃ u ∈ r.upd, u.1 ≠ nid + i ∧ ρ u.1 = x))
    (h7 : ∀ u ∈ r.upd, u.1 = nid + i ∨ (atD recs st D u.1).isSome = true) :
    Inv ε w0 d recs bs st nid ρ0 w1 (fun j => D j ∨ j = i) ρ' (a.put o.dst v) w' := by
  have hok := hR i o r ho hr
  have hi : i < ops.size := by
    rcases Nat.lt_or_ge i ops.size with h | h
    · exact h
    · rw [Array.getElem?_eq_none h] at ho; cases ho
  have rok : ∀ j q, recs[j]? = some q → ∃ oj, ops[j]? = some oj ∧ RegOk ops recs bs nid j oj q := fun j q hq => by
    have hj : j < ops.size := by
      rcases Nat.lt_or_ge j recs.length with h | h
      · omega
      · rw [List.getElem?_eq_none h] at hq; cases hq
    exact ⟨ops[j], Array.getElem?_eq_getElem hj, hR _ _ _ (Array.getElem?_eq_getElem hj) hq⟩
  have later : ∀ k, k ∈ footprint ops o r → ∀ j, i < j → j < recs.length → D j → ∀ q, recs[j]? = some q → k ∉ changes q := fun k hk j hij hj hd q hq hc => by
    rcases hok.apart j (by omega) (by omega) q hq ⟨k, hc, hk⟩ with h | h
    · exact absurd (hok.lt j h) (by omega)
    · exact hD (hI.closed j hd i h)
  have names : ∀ j q, D j → recs[j]? = some q → ∀ b ∈ mentions q, b ≠ nid + i := fun j q hd hq b hb e => by
    obtain ⟨oj, _, hq2⟩ := rok j q hq
    rcases hq2.names b hb with h | h | ⟨j', h, h'⟩
    · omega
    · have : j = i := by omega
      subst this; exact hD hd
    · have : j' = i := by omega
      subst this; exact hD (hI.closed j hd j' h)
  have new : atD recs st D (nid + i) = none := by
    cases h : atD recs st D (nid + i) with
    | none => rfl
    | some cs =>
      exfalso
      rcases atD_cases h with h | ⟨j, q, hd, hq, h⟩
      · have := hids _ (at_ids h).1; omega
      · obtain ⟨oj, _, hq2⟩ := rok j q hq
        have hk := hq2.keys _ (lookup_mem h)
        dsimp only at hk
        rcases hk with g | g | ⟨j', g, g'⟩
        · omega
        · have : j = i := by omega
          subst this; exact hD hd
        · have : j' = i := by omega
          subst this; exact hD (hI.closed j hd j' g)
  have wTi : ∀ t, wT recs t i = if r.dst = some t then some r.val else none := fun t => by simp [wT, hr]
  have wMi : ∀ b, wM recs b i = r.upd.lookup b := fun b => by simp [wM, hr]
  have slotW : ∀ t, t < st.tmps.length → lookD recs st (fun j => D j ∨ j = i) t = if r.dst = some t then r.val else lookD recs st D t := fun t ht => by
    unfold lookD
    rw [if_pos ht, if_pos ht, on_with (by omega) hD, wTi]
    · by_cases hdt : r.dst = some t <;> simp [hdt]
    · intro hne j h1 h2 hd
      cases hq : recs[j]? with
      | none => simp [wT, hq]
      | some q =>
        unfold wT
        rw [hq]
        dsimp only
        rw [if_neg]
        intro hqd
        have hdt : r.dst = some t := by rw [wTi] at hne; by_cases h : r.dst = some t; exact h; simp [h] at hne
        exact later (2 * t) (by unfold footprint; simp [hdt]) j h1 h2 hd q hq (changes_dst hqd)
  have blkW : ∀ b, atD recs st (fun j => D j ∨ j = i) b = match r.upd.lookup b with | some c => some c | none => atD recs st D b := fun b => by
    unfold atD
    rw [on_with (by omega) hD, wMi]
    · cases r.upd.lookup b <;> rfl
    · intro hne j h1 h2 hd
      cases hq : recs[j]? with
      | none => simp [wM, hq]
      | some q =>
        unfold wM
        rw [hq]
        dsimp only
        cases hl : q.upd.lookup b with
        | none => rfl
        | some c =>
          exfalso
          rw [wMi] at hne
          obtain ⟨c', hc'⟩ := Option.ne_none_iff_exists'.1 hne
          refine later (2 * b + 1) ?_ j h1 h2 hd q hq (changes_upd hl)
          unfold footprint
          refine List.mem_append_right _ (List.mem_map.2 ⟨_, lookup_mem hc', rfl⟩)
  have domW : ∀ b, (atD recs st (fun j => D j ∨ j = i) b).isSome = true → (b = nid + i ∧ ∃ u ∈ r.upd, u.1 = nid + i) ∨ (b ≠ nid + i ∧ (atD recs st D b).isSome = true) := fun b hb => by
    rw [blkW] at hb
    cases hl : r.upd.lookup b with
    | some c =>
      rcases h7 _ (lookup_mem hl) with h | h
      · exact .inl ⟨h, _, lookup_mem hl, h⟩
      · exact .inr ⟨fun e => (by rw [e, new] at h; cases h), h⟩
    | none =>
      rw [hl] at hb
      exact .inr ⟨fun e => (by rw [e, new] at hb; cases hb), hb⟩
  refine ⟨?_, ?_, ?_, ?_, ?_, ?_, ?_, ?_, ?_, ?_⟩
  · rw [← hI.size]; unfold Act.put; cases o.dst <;> simp
  · rw [← hI.defers]; unfold Act.put; cases o.dst <;> rfl
  · intro t
    by_cases ht : t < st.tmps.length
    · rw [slotW t ht]
      by_cases hdt : r.dst = some t
      · rw [if_pos hdt]
        refine .inr ?_
        rw [← h2, ← hdst, hdt]
        have : t < a.tmps.size := by rw [hI.size]; exact ht
        simp [Act.put, Array.getD_eq_getD_getElem?, this]
      · rw [if_neg hdt]
        have e1 : (a.put o.dst v).tmps.getD t undef = a.tmps.getD t undef := by
          rw [← hdst]
          unfold Act.put
          cases hd : r.dst with
          | none => rfl
          | some d0 =>
            have : d0 ≠ t := fun e => hdt (by rw [hd, e])
            simp [Array.getD_eq_getD_getElem?, Array.getElem?_setIfInBounds_ne this]
        rw [e1]
        refine (hI.slots t).congr fun b hb => (h1 b ?_).symm
        rcases lookD_cases (recs := recs) (st := st) D t with h | h | ⟨j, q, hd, hq, h⟩
        · rw [h] at hb; cases hb
        · rw [h] at hb; have := hids _ (look_ids hb); omega
        · rw [h] at hb; exact names j q hd hq b (contains_mentions hb)
    · exact .inl (by unfold lookD; rw [if_neg ht])
  · intro b cs hb
    rw [blkW] at hb
    cases hl : r.upd.lookup b with
    | some c =>
      rw [hl] at hb
      cases hb
      exact h3 _ (lookup_mem hl)
    | none =>
      rw [hl] at hb
      dsimp only at hb
      have hbk := hI.blocks b cs hb
      have hne : b ≠ nid + i := fun e => by rw [e, new] at hb; cases hb
      refine (hbk.ext h6 ?_).congr (h1 b hne).symm fun k hk => (h1 k ?_).symm
      · rintro ⟨u, hu, hun, hue⟩
        have hs := (h7 u hu).resolve_left hun
        have := hI.inj _ _ hs (by rw [hb]; rfl) hue
        subst this
        have := lookup_isSome ⟨u, hu, rfl⟩
        rw [hl] at this
        cases this
      · rcases atD_cases hb with h | ⟨j, q, hd, hq, h⟩
        · have := hids _ ((at_ids h).2 k hk); omega
        · exact names j q hd hq k (upd_mentions h hk)
  · intro b b' hb hb' he
    rcases domW b hb with ⟨e1, hu⟩ | ⟨e1, f1⟩ <;> rcases domW b' hb' with ⟨e2, hu'⟩ | ⟨e2, f2⟩
    · rw [e1, e2]
    · exfalso
      have := h5 hu
      rw [h1 b' e2] at he
      obtain ⟨cs, hcs⟩ := Option.isSome_iff_exists.1 f2
      have := (hI.blocks b' cs hcs).2.1
      rw [e1] at he
      omega
    · exfalso
      have := h5 hu'
      rw [h1 b e1] at he
      obtain ⟨cs, hcs⟩ := Option.isSome_iff_exists.1 f1
      have := (hI.blocks b cs hcs).2.1
      rw [e2] at he
      omega
    · rw [h1 b e1, h1 b' e2] at he
      exact hI.inj b b' f1 f2 he
  · refine h6.below ?_ hI.world.size hI.world
    rintro x ⟨u, hu, hun, rfl⟩
    have hs := (h7 u hu).resolve_left hun
    obtain ⟨cs, hcs⟩ := Option.isSome_iff_exists.1 hs
    exact (hI.blocks _ cs hcs).1
  · intro b hb
    rw [h1 b (by omega)]; exact hI.agree b hb
  · refine (hI.ext.trans h6).mono ?_
    rintro x hx (h | ⟨u, hu, hun, rfl⟩)
    · exact h
    · have hs := (h7 u hu).resolve_left hun
      rcases hI.fresh _ hs with h | h
      · obtain ⟨cs, hcs⟩ := Option.isSome_iff_exists.1 h
        exact ⟨u.1, h, (hI.agree _ (hids _ (at_ids hcs).1)).symm⟩
      · omega
  · intro b hb
    rcases domW b hb with ⟨e1, hu⟩ | ⟨e1, f1⟩
    · refine .inr ?_
      rw [e1]
      exact Nat.le_trans hI.ext.size (h5 hu)
    · rw [h1 b e1]; exact hI.fresh b f1
  · intro j hj k hk
    rcases hj with hj | rfl
    · exact .inl (hI.closed j hj k hk)
    · exact .inl (hpre k hk)
end
end SX
end Go.Proofs.Ytfknnnlbfdeomaa
/- The reading by symbols: the theorem about a region. -/
set_option linter.unusedVariables false
set_option linter.unusedSimpArgs false
namespace Go.Proofs.Ytfknnnlbfdeomaa
namespace SX
open Go.RowKit
variable {P : Program} {ε : Env}
section
variable {sub : Sub} {ops : Array Oper} {pc : E} {dec : List (E × Bool)} {recs : List Rec} {bs : List (List Nat)} {obs : List Ob} {st : St} {nid : Nat} {w0 w1 : World} {d : List Deferred} {ρ0 : Nat → Nat}
theorem Inv.congr {D D' : Nat → Prop} [DecidablePred D] [DecidablePred D'] {ρ : Nat → Nat} {a : Act} {w : World} (hD : ∀ j, D j ↔ D' j) (h : Inv ε w0 d recs bs st nid ρ0 w1 D ρ a w) : Inv ε w0 d recs bs st nid ρ0 w1 D' ρ a w := by
  have e : ∀ {α : Type} (f : Nat → Option α), on D f = on D' f := fun f => funext fun j => by
    unfold on; by_cases hj : D j
    · rw [if_pos hj, if_pos ((hD j).1 hj)]
    · rw [if_neg hj, if_neg fun h => hj ((hD j).2 h)]
  have eL : ∀ t, lookD recs st D t = lookD recs st D' t := fun t => by unfold lookD; rw [e]
  have eA : ∀ b, atD recs st D b = atD recs st D' b := fun b => by unfold atD; rw [e]
  exact ⟨h.size, h.defers, fun t => eL t ▸ h.slots t, fun b cs hb => h.blocks b cs (eA b ▸ hb), fun b b' hb hb' => h.inj b b' (eA b ▸ hb) (eA b' ▸ hb'), h.world, h.agree, h.ext, fun b hb => h.fresh b (eA b ▸ hb),
    fun j hj k hk => (hD k).1 (h.closed j ((hD j).2 hj) k hk)⟩
/-- All that a region's reading gives. -/
structure RegD (P : Program) (ε : Env) (w0 : World) (sub : Sub) (ops : Array Oper) (recs : List Rec) (bs : List (List Nat)) (st : St) (nid : Nat) : Prop where
  reg : ∀ i o r, ops[i]? = some o → recs[i]? = some r → RegOk ops recs bs nid i o r
  len : recs.length = ops.size
  lt : ∀ j, ∀ k ∈ bs.getD j [], k < j
  ids : ∀ b ∈ stIds st, b < nid
  subok : SubOk P ε w0 sub
  did : ∀ i o, ops[i]? = some o → ∃ rc, recs[i]? = some rc ∧ DidAt P ε w0 sub ops nid recs st i o rc
theorem step_inv (hd : RegD P ε w0 sub ops recs bs st nid) {D : Nat → Prop} [DecidablePred D] {ρ : Nat → Nat} {a : Act} {w : World} (hI : Inv ε w0 d recs bs st nid ρ0 w1 D ρ a w) {i : Nat} {o : Oper}
    (ho : ops[i]? = some o) (hD : ¬ D i) (hpre : ∀ e ∈ o.after, Region.binds .any e = true → D e.on) {K : Act → World → Prop} {Q : Exit → Act → World → Prop}
    (hK : ∀ ρ' a' w', Inv ε w0 d recs bs st nid ρ0 w1 (fun j => D j ∨ j = i) ρ' a' w' → K a' w') : wpOp P ops Q i K a w := by
  obtain ⟨r, hr, hdid⟩ := hd.did i o ho
  have hok := hd.reg i o r ho hr
  have hi : i < ops.size := by
    rcases Nat.lt_or_ge i ops.size with h | h
    · exact h
    · rw [Array.getElem?_eq_none h] at ho; cases ho
  have hpre2 : ∀ k ∈ bs.getD i [], D k := fun k hk => by
    obtain ⟨e, he, hb, h⟩ := hok.back k hk
    rcases h with rfl | h
    · exact hpre e he hb
    · exact hI.closed _ (hpre e he hb) _ h
  have agT : ∀ t : Nat, t ∈ Go.Oper.looksAt ops o → RV ε ρ ((lexSt recs st i).look t) (a.tmps.getD t undef) := fun t ht => by
    by_cases hl : t < st.tmps.length
    · have := hI.slots t
      unfold lookD at this
      rw [if_pos hl, agree_at hok hd.len hi hd.lt hD hI.closed hpre (f := wT recs t) (fun j q hne hq => by
        unfold wT at hne; rw [hq] at hne; dsimp only at hne
        by_cases hqd : q.dst = some t
        · exact ⟨2 * t, changes_dst hqd, by unfold footprint Oper.looks; exact List.mem_append_left _ (List.mem_append_left _ (List.mem_append_left _ (List.mem_map.2 ⟨t, ht, rfl⟩)))⟩
        · rw [if_neg hqd] at hne; exact absurd rfl hne) (fun j hq => by simp [wT, hq])] at this
      rw [lexSt_look recs st t hl i (by have := hd.len; omega)]
      exact this
    · refine .inl ?_
      unfold St.look
      rw [List.getD_eq_getElem?_getD, List.getElem?_eq_none (by rw [lexSt_len]; omega)]; rfl
  have agM : ∀ b, b ∈ r.fp → (lexSt recs st i).at b = atD recs st D b := fun b hb => by
    rw [lexSt_at recs st b i (by have := hd.len; omega)]
    unfold atD
    rw [agree_at hok hd.len hi hd.lt hD hI.closed hpre (f := wM recs b) (fun j q hne hq => by
      unfold wM at hne; rw [hq] at hne; dsimp only at hne
      obtain ⟨c, hc⟩ := Option.ne_none_iff_exists'.1 hne
      exact ⟨2 * b + 1, changes_upd hc, by unfold footprint; exact List.mem_append_left _ (List.mem_append_right _ (List.mem_map.2 ⟨b, hb, rfl⟩))⟩) (fun j hq => by simp [wM, hq])]
  obtain ⟨hdst, hcase⟩ := hdid
  unfold wpOp
  simp only [ho]
  have yields : ∀ j t e, (ops[j]?).bind (·.dst) = some t → (lexSt recs st i).look t = .v (.s (.a (.bool e))) → t ∈ Go.Oper.looksAt ops o → yielded ops a.tmps j = some (e.den ε).2 := fun j t e hj hl ht => by
    have h1 := agT t ht
    rw [hl] at h1
    have h2 : a.tmps.getD t undef = .bool (e.den ε).2 := h1.get (by simp)
    have h3 : a.tmps[t]? = some (.bool (e.den ε).2) := by
      rw [Array.getD_eq_getD_getElem?] at h2
      cases h4 : a.tmps[t]? with
      | none => rw [h4] at h2; simp [undef] at h2
      | some x => rw [h4] at h2; simp at h2; rw [h2]
    unfold yielded
    rw [hj]
    simp [h3]
  have guardT : ∀ j want t, o.guard = some (j, want) → (ops[j]?).bind (·.dst) = some t → t ∈ Go.Oper.looksAt ops o := fun j want t hg ht => by
    unfold Go.Oper.looksAt
    refine List.mem_append_right _ ?_
    rw [hg]; simp [ht]
  rcases hcase with ⟨hg, pc, dec, nv, r1, hpc, hdec, hev, hrc, hobs⟩ | ⟨hg, hrc⟩
  · have hwant : Region.wanted o (yielded ops a.tmps) = true := by
      unfold Region.wanted
      rcases hg with hg | ⟨j, want, t, e, hg, ht, hl, hb⟩
      · rw [hg]
      · rw [hg]
        dsimp only
        rw [yields j t e ht hl (guardT j want t hg ht), hb]
        simp
    rw [if_pos hwant]
    refine .inl ?_
    have efp : r.fp = r1.fp := by rw [hrc]
    have eup : r.upd = r1.upd := by rw [hrc]
    have evl : r.val = r1.val := by rw [hrc]
    have hid : (lexSt recs st i).at (nid + i) = none := by
      cases h : (lexSt recs st i).at (nid + i) with
      | none => rfl
      | some cs =>
        exfalso
        rw [lexSt_at recs st _ i (by have := hd.len; omega)] at h
        split at h
        · rename_i c hl
          obtain ⟨j, hj, h2⟩ := latest_some _ hl
          unfold wM at h2
          split at h2
          · rename_i q hq
            have hjn : j < ops.size := by omega
            have hk := (hd.reg j _ q (Array.getElem?_eq_getElem hjn) hq).keys _ (lookup_mem h2)
            dsimp only at hk
            rcases hk with g | g | ⟨j', g, g'⟩
            · omega
            · omega
            · have := hd.lt j j' g; omega
          · cases h2
        · have := hd.ids _ (at_ids h).1; omega
    obtain ⟨h7, hop⟩ := evOp_sound (ρ := ρ) (a := a) (w := w) hd.subok hev hid hobs hpc hdec
      (fun t ht => agT t (by unfold Go.Oper.looksAt; exact List.mem_append_left _ (List.mem_filterMap.2 ⟨.tmp t, by simpa using ht, rfl⟩))) hI.world
      (fun b hb cs hcs => hI.blocks b cs (by rw [← agM b (efp ▸ hb)]; exact hcs))
      (fun b hb b' hb' hs hs' => hI.inj b b' (by rw [← agM b (efp ▸ hb)]; exact hs) (by rw [← agM b' (efp ▸ hb')]; exact hs'))
    refine hop _ _ fun v w' hout => ?_
    obtain ⟨ρ', g1, g2, g3, g4, g5, g6⟩ := hout
    refine hK ρ' _ _ (inv_put hd.reg hd.len hd.ids hI ho hr hdst hD hpre2 g1 (by rw [evl]; exact g2) (by rw [eup]; exact g3) (by rw [eup]; exact g5) (by rw [eup]; exact g6) fun u hu => ?_)
    rw [eup] at hu
    rcases h7 u hu with h | ⟨h, h'⟩
    · exact .inl h
    · exact .inr (by rw [← agM u.1 (efp ▸ h)]; exact h')
  · obtain ⟨j, want, t, hg, ht, hc⟩ := hg
    have hwant : Region.wanted o (yielded ops a.tmps) = false := by
      unfold Region.wanted
      rw [hg]
      dsimp only
      rcases hc with ⟨e, hl, hne⟩ | hl
      · rw [yields j t e ht hl (guardT j want t hg ht)]
        simpa using hne
      · have h1 := agT t (guardT j want t hg ht)
        rw [hl] at h1
        have h2 : a.tmps.getD t undef = .tuple #[] := h1.get (by simp)
        have : yielded ops a.tmps j = none := by
          unfold yielded
          rw [ht]
          rw [Array.getD_eq_getD_getElem?] at h2
          cases h4 : a.tmps[t]? with
          | none => simp [h4]
          | some x => rw [h4] at h2; simp at h2; simp [h4, h2]
        rw [this]; rfl
    rw [if_neg (by rw [hwant]; simp)]
    refine hK ρ _ _ (inv_put hd.reg hd.len hd.ids hI ho hr hdst hD hpre2 (fun _ _ => rfl) (by rw [hrc]; rfl) (by rw [hrc]; simp) (by rw [hrc]; simp) (Ext.refl _ _) (by rw [hrc]; simp))
/-- Behind all. -/
theorem inv_all (hd : RegD P ε w0 sub ops recs bs st nid) {D : Nat → Prop} [DecidablePred D] {ρ : Nat → Nat} {a : Act} {w : World} (hI : Inv ε w0 d recs bs st nid ρ0 w1 D ρ a w) (hD : ∀ j, j < ops.size → D j) :
    Rep ε w0 d (recs.foldl St.apply st) ρ a w ∧ Aft st ρ0 w1 nid (recs.foldl St.apply st) ρ w := by
  have e0 : recs.foldl St.apply st = lexSt recs st recs.length := by unfold lexSt; rw [List.take_length]
  have eL : ∀ t, t < st.tmps.length → lookD recs st D t = (lexSt recs st recs.length).look t := fun t ht => by
    rw [lexSt_look recs st t ht _ (Nat.le_refl _)]
    unfold lookD
    rw [if_pos ht]
    congr 1
    exact latest_congr _ fun j hj => by unfold on; rw [if_pos (hD j (by have := hd.len; omega))]
  have eA : ∀ b, atD recs st D b = (lexSt recs st recs.length).at b := fun b => by
    rw [lexSt_at recs st b _ (Nat.le_refl _)]
    unfold atD
    rw [latest_congr (f := on D (wM recs b)) (g := wM recs b) _ fun j hj => by unfold on; rw [if_pos (hD j (by have := hd.len; omega))]]
  rw [e0]
  refine ⟨⟨by rw [lexSt_len]; exact hI.size, hI.defers, fun t => ?_, fun b cs hb => hI.blocks b cs (by rw [eA]; exact hb), fun b b' hb hb' => hI.inj b b' (by rw [eA]; exact hb) (by rw [eA]; exact hb'), hI.world⟩,
    ⟨hI.agree, hI.ext, fun b hb => hI.fresh b (by rw [eA]; exact hb)⟩⟩
  by_cases ht : t < st.tmps.length
  · rw [← eL t ht]; exact hI.slots t
  · refine .inl ?_
    unfold St.look
    rw [List.getD_eq_getElem?_getD, List.getElem?_eq_none (by rw [lexSt_len]; omega)]; rfl
/-- Before all. -/
theorem inv_none {ρ : Nat → Nat} {a : Act} {w : World} {D : Nat → Prop} [DecidablePred D] (hD : ∀ j, ¬ D j) (h : Rep ε w0 d st ρ a w) : Inv ε w0 d recs bs st nid ρ w D ρ a w := by
  have e : ∀ {α : Type} (f : Nat → Option α) n, latest (on D f) n = none := fun f n => by
    induction n with
    | zero => rfl
    | succ n ih => rw [latest]; unfold on; rw [if_neg (hD n)]; exact ih
  have eA : ∀ b, atD recs st D b = st.at b := fun b => by unfold atD; rw [e]
  refine ⟨h.size, h.defers, fun t => ?_, fun b cs hb => h.blocks b cs (by rw [← eA]; exact hb), fun b b' hb hb' => h.inj b b' (by rw [← eA]; exact hb) (by rw [← eA]; exact hb'), h.world, fun _ _ => rfl, Ext.refl _ _, fun b hb => .inl (by rw [← eA]; exact hb), fun j hj => absurd hj (hD j)⟩
  unfold lookD
  split
  · rw [e]; exact h.slots t
  · exact .inl rfl
theorem Inv.drew {D : Nat → Prop} [DecidablePred D] {ρ : Nat → Nat} {a : Act} {w : World} (h : Inv ε w0 d recs bs st nid ρ0 w1 D ρ a w) : Inv ε w0 d recs bs st nid ρ0 w1 D ρ a w.drew :=
  ⟨h.size, h.defers, h.slots, h.blocks, h.inj, h.world.drew, h.agree, ⟨h.ext.os, h.ext.tape, h.ext.output, h.ext.size, h.ext.block⟩, h.fresh, h.closed⟩
theorem countP_lt {p p' : Nat → Bool} {i : Nat} (h1 : p i = true) (h2 : p' i = false) (h : ∀ j, p' j = true → p j = true) : ∀ l : List Nat, i ∈ l → l.countP p' < l.countP p
  | [], hi => by cases hi
  | x :: l, hi => by
    have hm : l.countP p' ≤ l.countP p := List.countP_mono_left fun j _ => h j
    rcases List.mem_cons.1 hi with rfl | hi
    · rw [List.countP_cons_of_pos h1, List.countP_cons_of_neg (by simp [h2])]; omega
    · have := countP_lt h1 h2 h l hi
      rw [List.countP_cons, List.countP_cons]
      cases hx : p' x
      · simp; omega
      · simp [h x hx]; omega
theorem wpAny_inv (hd : RegD P ε w0 sub ops recs bs st nid) {Q : Exit → Act → World → Prop}
    (hQ : ∀ ρ a w, Rep ε w0 d (recs.foldl St.apply st) ρ a w → Aft st ρ0 w1 nid (recs.foldl St.apply st) ρ w → Q .normal a w) :
    ∀ (fuel : Nat) (listed : Array Bool) (ρ : Nat → Nat) (a : Act) (w : World), listed.size = ops.size → (List.range ops.size).countP (fun j => !listed.getD j false) ≤ fuel →
      Inv ε w0 d recs bs st nid ρ0 w1 (fun j => listed.getD j false = true) ρ a w → wpAny P .any ops Q fuel listed a w := by
  have done : ∀ (listed : Array Bool), listed.size = ops.size → Region.ready .any ops listed = [] → ∀ j, j < ops.size → listed.getD j false = true := by
    intro listed hsz hr j
    induction j using Nat.strongRecOn with
    | _ j ih =>
      intro hj
      cases hc : listed.getD j false with
      | true => rfl
      | false =>
        exfalso
        have : j ∈ Region.ready .any ops listed := by
          have hs : ops[j]? = some ops[j] := Array.getElem?_eq_getElem hj
          refine mem_ready.2 ⟨?_, _, hs, fun e he hb => ?_⟩
          · rw [Array.getD_eq_getD_getElem?, Array.getElem?_eq_getElem (by omega)] at hc ⊢; simpa using hc
          · obtain ⟨rc, hrc, _⟩ := hd.did j _ hs
            have hlt := hd.lt j _ ((hd.reg j _ rc hs hrc).edge e he hb)
            exact ih _ hlt (by omega)
        rw [hr] at this
        cases this
  intro fuel
  induction fuel with
  | zero =>
    intro listed ρ a w hsz hc hI
    have hall : ∀ j, j < ops.size → listed.getD j false = true := fun j hj => by
      have := List.countP_eq_zero.1 (Nat.le_zero.1 hc) j (List.mem_range.2 hj)
      simpa using this
    refine ⟨?_, ?_⟩
    · cases hr : Region.ready .any ops listed with
      | nil => rfl
      | cons x xs =>
        exfalso
        have hx : x ∈ Region.ready .any ops listed := by rw [hr]; exact List.mem_cons_self
        obtain ⟨h1, o, h2, _⟩ := mem_ready.1 hx
        have hlt : x < ops.size := by
          rcases Nat.lt_or_ge x ops.size with h | h
          · exact h
          · rw [Array.getElem?_eq_none h] at h2; cases h2
        have := hall x hlt
        rw [Array.getD_eq_getD_getElem?, Array.getElem?_eq_getElem (by omega)] at this h1
        simp at this h1
        rw [this] at h1; cases h1
    · obtain ⟨h1, h2⟩ := inv_all hd hI hall
      exact hQ _ _ _ h1 h2
  | succ fuel ih =>
    intro listed ρ a w hsz hc hI
    refine ⟨fun hr => ?_, fun i hi => ?_⟩
    · obtain ⟨h1, h2⟩ := inv_all hd hI (done listed hsz hr)
      exact hQ _ _ _ h1 h2
    · obtain ⟨h1, o, h2, h3⟩ := mem_ready.1 hi
      have hlt : i < ops.size := by
        rcases Nat.lt_or_ge i ops.size with h | h
        · exact h
        · rw [Array.getElem?_eq_none h] at h2; cases h2
      have h1' : listed.getD i false = false := by
        rw [Array.getD_eq_getD_getElem?, Array.getElem?_eq_getElem (by omega)] at h1 ⊢; simpa using h1
      have hset : ∀ j, (listed.setIfInBounds i true).getD j false = true ↔ (listed.getD j false = true ∨ j = i) := fun j => by
        by_cases hji : j = i
        · subst hji
          simp only [Array.getD_eq_getD_getElem?, or_true, iff_true]
          rw [Array.getElem?_setIfInBounds_self_of_lt (by omega)]; rfl
        · simp only [Array.getD_eq_getD_getElem?, Array.getElem?_setIfInBounds_ne (Ne.symm hji), hji, or_false]
      refine step_inv hd hI h2 (by rw [h1']; simp) (fun e he hb => h3 e he hb) fun ρ' a' w' hI' => ih _ ρ' a' w' (by simpa using hsz) ?_ (hI'.congr fun j => (hset j).symm)
      have := countP_lt (p := fun j => !listed.getD j false) (p' := fun j => !(listed.setIfInBounds i true).getD j false) (i := i) (by simp [h1']) (by simpa using (hset i).2 (.inr rfl)) (fun j hj => by
        cases hb : listed.getD j false with
        | false => rfl
        | true => have := (hset j).2 (.inl hb); simp only [this] at hj; cases hj) (List.range ops.size) (List.mem_range.2 hlt)
      omega
theorem wpOps_inv (hd : RegD P ε w0 sub ops recs bs st nid) {Q : Exit → Act → World → Prop}
    (hQ : ∀ ρ a w, Rep ε w0 d (recs.foldl St.apply st) ρ a w → Aft st ρ0 w1 nid (recs.foldl St.apply st) ρ w → Q .normal a w) :
    ∀ (m i : Nat) (ρ : Nat → Nat) (a : Act) (w : World), i + m = ops.size → Inv ε w0 d recs bs st nid ρ0 w1 (fun j => j < i) ρ a w → wpOps P ops Q (List.range' i m) a w
  | 0, i, ρ, a, w, hm, hI => by
    obtain ⟨h1, h2⟩ := inv_all hd hI (fun j hj => by omega)
    simpa [wpOps] using hQ _ _ _ h1 h2
  | m + 1, i, ρ, a, w, hm, hI => by
    rw [List.range'_succ, wpOps_cons]
    have hs : ops[i]? = some ops[i] := Array.getElem?_eq_getElem (by omega)
    obtain ⟨rc, hrc, _⟩ := hd.did i _ hs
    exact step_inv hd hI hs (by omega) (fun e he hb => hd.lt i _ ((hd.reg i _ rc hs hrc).edge e he hb)) fun ρ' a' w' hI' => wpOps_inv hd hQ m (i + 1) ρ' a' w' (by omega) (hI'.congr fun j => by omega)
/-- A region that was read. -/
theorem region_leaf (hmix : P.follows .mixedOrders = true) (hsub : SubOk P ε w0 sub) {nv : Nat} {st' : St} (h : (evOps P sub ops ops.toList nid pc [] st nv).path ε = some (recs, st')) (hok : regionOk ops recs (befores ops.toList) nid = true)
    (hids : (stIds st).all (· < nid) = true) (hobs : ∀ ob ∈ (evOps P sub ops ops.toList nid pc [] st nv).obs, ob.ok P ε w0) (hpc : (pc.den ε).2 = true) {ρ : Nat → Nat} {a : Act} {w : World} (hrep : Rep ε w0 d st ρ a w)
    {Q : Exit → Act → World → Prop} (hQ : ∀ ρ' a' w', Rep ε w0 d st' ρ' a' w' → Aft st ρ w nid st' ρ' w' → Q .normal a' w') {id : Nat} {draw : Bool} : (Code.region id ops draw).wp P Q a w := by
  obtain ⟨e1, e2, e3⟩ := evOps_spec h hobs hpc (by simp)
  obtain ⟨f1, f2, f3⟩ := regionOk_spec hok
  subst e2
  have hd : RegD P ε w0 sub ops recs (befores ops.toList) st nid := by
    refine ⟨f3, f1, fun j k hk => ?_, fun b hb => by simpa using List.all_eq_true.1 hids b hb, hsub, fun i o ho => e3 i o (by simpa using ho)⟩
    by_cases hj : j < ops.size
    · have hs : ops[j]? = some ops[j] := Array.getElem?_eq_getElem hj
      have hr : recs[j]? = some recs[j] := List.getElem?_eq_getElem (by omega)
      exact (f3 j _ _ hs hr).lt k hk
    · rw [List.getD_eq_getElem?_getD, List.getElem?_eq_none (by omega)] at hk; cases hk
  cases draw with
  | false =>
    refine wp_region ?_
    rw [List.range_eq_range']
    exact wpOps_inv hd hQ _ 0 ρ a w (by omega) (inv_none (fun j => by omega) hrep)
  | true =>
    refine wp_region_any hmix ?_
    refine wpAny_inv hd hQ _ _ ρ a w.drew (by simp) ?_ (Inv.drew (inv_none (fun j => ?_) hrep))
    · exact Nat.le_trans List.countP_le_length (by simp)
    · rw [Array.getD_eq_getD_getElem?]
      by_cases hj : j < ops.size
      · rw [Array.getElem?_replicate, if_pos hj]; simp
      · rw [Array.getElem?_replicate, if_neg hj]; simp
end
end SX
end Go.Proofs.Ytfknnnlbfdeomaa
/- The reading by symbols: ways that part and meet. -/
set_option linter.unusedVariables false
set_option linter.unusedSimpArgs false
namespace Go.Proofs.Ytfknnnlbfdeomaa
namespace SX
open Go.RowKit
variable {P : Program} {ε : Env}
def Tr.sel (ε : Env) : Tr → Ex × St
  | .leaf k s => (k, s)
  | .node c x y => if (c.den ε).2 then x.sel ε else y.sel ε
/-- What is known of t is known of s, too. -/
structure Weak (ε : Env) (s t : St) : Prop where
  len : t.tmps.length = s.tmps.length
  look : ∀ ρ i v, RV ε ρ (s.look i) v → RV ε ρ (t.look i) v
  at_ : ∀ b cs, t.at b = some cs → ∃ cs', s.at b = some cs' ∧ ∀ ρ base w, Blk ε ρ base w b cs' → Blk ε ρ base w b cs
theorem Weak.refl (s : St) : Weak ε s s := ⟨rfl, fun _ _ _ h => h, fun b cs h => ⟨cs, h, fun _ _ _ h => h⟩⟩
theorem Weak.trans {s t u : St} (h : Weak ε s t) (k : Weak ε t u) : Weak ε s u :=
  ⟨k.len.trans h.len, fun ρ i v hv => k.look ρ i v (h.look ρ i v hv), fun b cs hb => by
    obtain ⟨c1, e1, f1⟩ := k.at_ b cs hb
    obtain ⟨c2, e2, f2⟩ := h.at_ b c1 e1
    exact ⟨c2, e2, fun ρ base w hw => f1 ρ base w (f2 ρ base w hw)⟩⟩
theorem Weak.some {s t : St} (h : Weak ε s t) {b : Nat} (hb : (t.at b).isSome = true) : (s.at b).isSome = true := by
  obtain ⟨cs, hcs⟩ := Option.isSome_iff_exists.1 hb
  obtain ⟨c, hc, _⟩ := h.at_ b cs hcs
  rw [hc]; rfl
theorem Rep.weak {w0 : World} {d : List Deferred} {s t : St} {ρ : Nat → Nat} {a : Act} {w : World} (h : Weak ε s t) (hr : Rep ε w0 d s ρ a w) : Rep ε w0 d t ρ a w :=
  ⟨hr.size.trans h.len.symm, hr.defers, fun i => h.look _ _ _ (hr.slots i), fun b cs hb => by
    obtain ⟨c, hc, hf⟩ := h.at_ b cs hb
    exact hf _ _ _ (hr.blocks b c hc), fun b b' hb hb' => hr.inj b b' (h.some hb) (h.some hb'), hr.world⟩
theorem mergeTmps_len (c : E) : ∀ (l m : List LV), l.length = m.length → (mergeTmps c l m).length = l.length
  | [], [], _ => rfl
  | x :: l, y :: m, h => by simp only [mergeTmps, List.length_cons]; rw [mergeTmps_len c l m (by simpa using h)]
  | [], _ :: _, h => by simp at h
  | _ :: _, [], h => by simp at h
theorem mergeTmps_get (c : E) : ∀ (l m : List LV) (i : Nat), l.length = m.length → i < l.length → (mergeTmps c l m).getD i .bad = LV.merge c (l.getD i .bad) (m.getD i .bad)
  | x :: l, y :: m, i, h, hi => by
    cases i with
    | zero => rfl
    | succ i =>
      simp only [mergeTmps, List.getD_cons_succ]
      exact mergeTmps_get c l m i (by simpa using h) (by simpa using hi)
  | [], _, _, _, hi => by simp at hi
  | _ :: _, [], _, h, _ => by simp at h
theorem mergeC_spec (c : E) : ∀ {x y z : Cells}, mergeC c x y = some z → ∀ (j : Nat) (o : Option SV), z[j]? = some o → ∃ p q, x[j]? = some p ∧ y[j]? = some q ∧ ∀ s, o = some s → ∃ u v, p = some u ∧ q = some v ∧ SV.merge c u v = some s
  | [], [], z, h, j, o, hj => by simp [mergeC] at h; subst h; simp at hj
  | x :: xs, y :: ys, z, h, j, o, hj => by
    simp only [mergeC] at h
    split at h
    · rename_i zs hz
      cases h
      cases j with
      | zero =>
        refine ⟨x, y, rfl, rfl, fun s hs => ?_⟩
        simp only [List.getElem?_cons_zero, Option.some.injEq] at hj
        subst hj
        split at hs
        · rename_i u v; exact ⟨u, v, rfl, rfl, hs⟩
        · cases hs
      | succ j => exact mergeC_spec c hz j o (by simpa using hj)
    · cases h
  | [], _ :: _, _, h, _, _, _ => by simp [mergeC] at h
  | _ :: _, [], _, h, _, _, _ => by simp [mergeC] at h
theorem mergeMem_spec (c : E) (s m : List (Nat × Cells)) : ∀ {l : List Nat} {b : Nat} {z : Cells}, (mergeMem c s m l).lookup b = some z → ∃ x y, s.lookup b = some x ∧ m.lookup b = some y ∧ mergeC c x y = some z
  | [], b, z, h => by simp [mergeMem] at h
  | k :: l, b, z, h => by
    unfold mergeMem at h
    split at h
    · rename_i x y hx hy
      split at h
      · rename_i z' hz
        simp only [List.lookup] at h
        split at h
        · rename_i hk
          cases h
          obtain rfl := eq_of_beq hk
          exact ⟨x, y, hx, hy, hz⟩
        · exact mergeMem_spec c s m h
      · exact mergeMem_spec c s m h
    · exact mergeMem_spec c s m h
theorem merge_t {c : E} {s t : St} (hc : (c.den ε).2 = true) (hl : s.tmps.length = t.tmps.length) : Weak ε s (St.merge c s t) := by
  refine ⟨mergeTmps_len c _ _ hl, fun ρ i v hv => ?_, fun b cs hb => ?_⟩
  · unfold St.look St.merge
    by_cases hi : i < s.tmps.length
    · rw [mergeTmps_get c _ _ i hl hi]; exact LV.merge_t hc hv
    · refine .inl ?_
      rw [List.getD_eq_getElem?_getD, List.getElem?_eq_none (by rw [mergeTmps_len c _ _ hl]; omega)]; rfl
  · obtain ⟨x, y, hx, hy, hz⟩ := mergeMem_spec c s.mem t.mem hb
    refine ⟨x, hx, fun ρ base w ⟨h1, h2, h3⟩ => ⟨h1, h2, fun j o hj => ?_⟩⟩
    obtain ⟨p, q, hp, hq, hs⟩ := mergeC_spec c hz j o hj
    obtain ⟨v, e1, e2, e3⟩ := h3 j p hp
    refine ⟨v, e1, e2, fun s' hs' => ?_⟩
    obtain ⟨u, u', rfl, rfl, hm⟩ := hs s' hs'
    rw [SV.merge_den hm, hc, if_pos rfl]
    exact e3 u rfl
theorem merge_f {c : E} {s t : St} (hc : (c.den ε).2 = false) (hl : s.tmps.length = t.tmps.length) : Weak ε t (St.merge c s t) := by
  refine ⟨(mergeTmps_len c _ _ hl).trans hl, fun ρ i v hv => ?_, fun b cs hb => ?_⟩
  · unfold St.look St.merge
    by_cases hi : i < s.tmps.length
    · rw [mergeTmps_get c _ _ i hl hi]; exact LV.merge_f hc hv
    · refine .inl ?_
      rw [List.getD_eq_getElem?_getD, List.getElem?_eq_none (by rw [mergeTmps_len c _ _ hl]; omega)]; rfl
  · obtain ⟨x, y, hx, hy, hz⟩ := mergeMem_spec c s.mem t.mem hb
    refine ⟨y, hy, fun ρ base w ⟨h1, h2, h3⟩ => ⟨h1, h2, fun j o hj => ?_⟩⟩
    obtain ⟨p, q, hp, hq, hs⟩ := mergeC_spec c hz j o hj
    obtain ⟨v, e1, e2, e3⟩ := h3 j q hq
    refine ⟨v, e1, e2, fun s' hs' => ?_⟩
    obtain ⟨u, u', rfl, rfl, hm⟩ := hs s' hs'
    rw [SV.merge_den hm, hc, if_neg (by simp)]
    exact e3 u' rfl
theorem allLen_sel {k : Ex} {n : Nat} : ∀ {t : Tr}, allLen k n t = true → (t.sel ε).1 = k → (t.sel ε).2.tmps.length = n
  | .leaf k' s, h, hk => by
    simp only [Tr.sel] at hk ⊢
    subst hk
    simpa [allLen] using h
  | .node c x y, h, hk => by
    simp only [allLen, Bool.and_eq_true] at h
    simp only [Tr.sel] at hk ⊢
    split at hk
    · rename_i hc; rw [if_pos hc]; exact allLen_sel h.1 hk
    · rename_i hc; rw [if_neg hc]; exact allLen_sel h.2 hk
theorem gather_len {k : Ex} {n : Nat} : ∀ {t : Tr} {g : E} {s : St}, allLen k n t = true → gather k t = some (g, s) → s.tmps.length = n
  | .leaf k' s', g, s, h, hg => by
    simp only [gather] at hg
    split at hg
    · rename_i hk
      cases hg
      simp only [allLen, hk, Bool.not_true, Bool.false_or, beq_iff_eq] at h
      exact h
    · cases hg
  | .node c x y, g, s, h, hg => by
    simp only [allLen, Bool.and_eq_true] at h
    simp only [gather] at hg
    split at hg
    · rename_i g1 s1 g2 s2 h1 h2
      cases hg
      have l1 := gather_len h.1 h1
      have l2 := gather_len h.2 h2
      show (mergeTmps c _ _).length = n
      rw [mergeTmps_len c _ _ (l1.trans l2.symm)]; exact l1
    · rename_i g1 s1 h1 h2
      cases hg; exact gather_len h.1 h1
    · rename_i g2 s2 h1 h2
      cases hg; exact gather_len h.2 h2
    · cases hg
theorem gather_none {k : Ex} : ∀ {t : Tr}, gather k t = none → (t.sel ε).1 ≠ k
  | .leaf k' s, h, e => by
    simp only [Tr.sel] at e
    subst e
    simp [gather] at h
  | .node c x y, h, e => by
    simp only [gather] at h
    simp only [Tr.sel] at e
    split at h <;> try cases h
    rename_i h1 h2
    split at e
    · exact gather_none h1 e
    · exact gather_none h2 e
theorem gather_spec {k : Ex} {n : Nat} : ∀ {t : Tr} {g : E} {s : St}, allLen k n t = true → gather k t = some (g, s) →
    ((g.den ε).2 = true → (t.sel ε).1 = k ∧ Weak ε (t.sel ε).2 s) ∧ ((g.den ε).2 = false → (t.sel ε).1 ≠ k)
  | .leaf k' s', g, s, h, hg => by
    simp only [gather] at hg
    split at hg
    · rename_i hk
      cases hg
      exact ⟨fun _ => ⟨(eq_of_beq hk).symm, Weak.refl _⟩, fun h => by simp [E.den] at h⟩
    · cases hg
  | .node c x y, g, s, h, hg => by
    have h' := h
    simp only [allLen, Bool.and_eq_true] at h
    simp only [gather] at hg
    simp only [Tr.sel]
    split at hg
    · rename_i g1 s1 g2 s2 h1 h2
      cases hg
      have l1 := gather_len h.1 h1
      have l2 := gather_len h.2 h2
      obtain ⟨a1, b1⟩ := gather_spec h.1 h1
      obtain ⟨a2, b2⟩ := gather_spec h.2 h2
      rw [mkIf_den]
      cases hc : (c.den ε).2
      · simp only [Bool.false_eq_true, if_false]
        exact ⟨fun hg => ⟨(a2 hg).1, (a2 hg).2.trans (merge_f hc (l1.trans l2.symm))⟩, b2⟩
      · simp only [if_true]
        exact ⟨fun hg => ⟨(a1 hg).1, (a1 hg).2.trans (merge_t hc (l1.trans l2.symm))⟩, b1⟩
    · rename_i g1 s1 h1 h2
      cases hg
      obtain ⟨a1, b1⟩ := gather_spec h.1 h1
      rw [mkIf_den]
      cases hc : (c.den ε).2
      · simp only [Bool.false_eq_true, if_false]
        exact ⟨fun hg => by simp [E.den] at hg, fun _ => gather_none h2⟩
      · simp only [if_true]; exact ⟨a1, b1⟩
    · rename_i g2 s2 h1 h2
      cases hg
      obtain ⟨a2, b2⟩ := gather_spec h.2 h2
      rw [mkIf_den]
      cases hc : (c.den ε).2
      · simp only [Bool.false_eq_true, if_false]; exact ⟨a2, b2⟩
      · simp only [if_true]
        exact ⟨fun hg => by simp [E.den] at hg, fun _ => gather_none h1⟩
    · cases hg
theorem prune_none {k : Ex} : ∀ {t : Tr}, prune k t = none → (t.sel ε).1 = k
  | .leaf k' s, h => by
    simp only [prune] at h
    split at h
    · rename_i hk; exact (eq_of_beq hk).symm
    · cases h
  | .node c x y, h => by
    simp only [prune] at h
    split at h <;> try cases h
    rename_i h1 h2
    simp only [Tr.sel]
    split
    · exact prune_none h1
    · exact prune_none h2
theorem prune_some {k : Ex} : ∀ {t t' : Tr}, prune k t = some t' → (t.sel ε).1 ≠ k → t'.sel ε = t.sel ε
  | .leaf k' s, t', h, hk => by
    simp only [prune] at h
    split at h
    · cases h
    · cases h; rfl
  | .node c x y, t', h, hk => by
    simp only [prune] at h
    simp only [Tr.sel] at hk ⊢
    split at h
    · rename_i x' y' h1 h2
      cases h
      simp only [Tr.sel]
      split
      · rename_i hc; rw [if_pos hc] at hk; exact prune_some h1 hk
      · rename_i hc; rw [if_neg hc] at hk; exact prune_some h2 hk
    · rename_i x' h1 h2
      cases h
      split
      · rename_i hc; rw [if_pos hc] at hk; exact prune_some h1 hk
      · rename_i hc; rw [if_neg hc] at hk; exact absurd (prune_none h2) hk
    · rename_i y' h1 h2
      cases h
      split
      · rename_i hc; rw [if_pos hc] at hk; exact absurd (prune_none h1) hk
      · rename_i hc; rw [if_neg hc] at hk; exact prune_some h2 hk
    · cases h
theorem norm_spec (ε : Env) (k : Ex) (t : Tr) : ((norm k t).sel ε).1 = (t.sel ε).1 ∧ Weak ε (t.sel ε).2 ((norm k t).sel ε).2 := by
  unfold norm
  split
  · exact ⟨rfl, Weak.refl _⟩
  · rename_i hn
    simp only [Bool.or_eq_true, not_or, Bool.not_eq_true', Bool.not_eq_false] at hn
    have hl := hn.2
    split
    · rename_i g s hg hp
      have hk := prune_none (ε := ε) hp
      obtain ⟨a, b⟩ := gather_spec (ε := ε) hl hg
      cases hgd : (g.den ε).2
      · exact absurd hk (b hgd)
      · exact ⟨hk.symm, (a hgd).2⟩
    · rename_i g s t' hg hp
      obtain ⟨a, b⟩ := gather_spec (ε := ε) hl hg
      simp only [Tr.sel]
      cases hgd : (g.den ε).2
      · simp only [Bool.false_eq_true, if_false]
        rw [prune_some hp (b hgd)]
        exact ⟨rfl, Weak.refl _⟩
      · simp only [if_true]
        exact ⟨(a hgd).1.symm, (a hgd).2⟩
    · exact ⟨rfl, Weak.refl _⟩
end SX
end Go.Proofs.Ytfknnnlbfdeomaa
/- The reading by symbols: code, functions. -/
set_option linter.unusedVariables false
set_option linter.unusedSimpArgs false
namespace Go.Proofs.Ytfknnnlbfdeomaa
namespace SX
open Go.RowKit
variable {P : Program} {ε : Env}
def Ex.to : Ex → Exit
  | .normal => .normal
  | .exit id => .exit id
  | .ret => .ret
def Dom (st : St) (nid : Nat) : Prop := ∀ b, (st.at b).isSome = true → b < nid
theorem Dom.mono {st : St} {n m : Nat} (h : Dom st n) (hm : n ≤ m) : Dom st m := fun b hb => Nat.lt_of_lt_of_le (h b hb) hm
theorem Dom.weak {s t : St} {n : Nat} (h : Weak ε s t) (hd : Dom s n) : Dom t n := fun b hb => hd b (h.some hb)
theorem Aft.refl (st : St) (ρ : Nat → Nat) (w : World) (nid : Nat) : Aft st ρ w nid st ρ w := ⟨fun _ _ => rfl, Ext.refl _ _, fun b hb => .inl hb⟩
theorem Aft.weak {st s t : St} {ρ ρ' : Nat → Nat} {w w' : World} {nid : Nat} (h : Aft st ρ w nid s ρ' w') (hw : Weak ε s t) : Aft st ρ w nid t ρ' w' := ⟨h.agree, h.ext, fun b hb => h.fresh b (hw.some hb)⟩
theorem Aft.trans {s0 s1 s2 : St} {ρ0 ρ1 ρ2 : Nat → Nat} {w0 w1 w2 : World} {n0 n1 : Nat} (hd : Dom s0 n0) (hd1 : Dom s1 n1) (hn : n0 ≤ n1) (h : Aft s0 ρ0 w0 n0 s1 ρ1 w1) (k : Aft s1 ρ1 w1 n1 s2 ρ2 w2) : Aft s0 ρ0 w0 n0 s2 ρ2 w2 := by
  refine ⟨fun b hb => (k.agree b (by omega)).trans (h.agree b hb), (h.ext.trans k.ext).mono ?_, fun b hb => ?_⟩
  · rintro x hx (hx1 | ⟨b, hb, rfl⟩)
    · exact hx1
    · rcases h.fresh b hb with h1 | h1
      · exact ⟨b, h1, (h.agree b (hd b h1)).symm⟩
      · omega
  · rcases k.fresh b hb with h1 | h1
    · rcases h.fresh b h1 with h2 | h2
      · exact .inl h2
      · refine .inr ?_
        rw [k.agree b (hd1 b h1)]; exact h2
    · exact .inr (Nat.le_trans h.ext.size h1)
/-- What a reading of code is worth. -/
def CodeOk (P : Program) (ε : Env) (w0 : World) (c : Code) (pc : E) (st : St) (nid : Nat) (r : Res) : Prop :=
  nid ≤ r.nid ∧ (Dom st nid → Dom (r.tr.sel ε).2 r.nid) ∧
  ((∀ ob ∈ r.obs, ob.ok P ε w0) → (pc.den ε).2 = true → Dom st nid → ∀ (d : List Deferred) (ρ : Nat → Nat) (a : Act) (w : World), Rep ε w0 d st ρ a w → ∀ Q : Exit → Act → World → Prop,
    (∀ ρ' a' w', Rep ε w0 d (r.tr.sel ε).2 ρ' a' w' → Aft st ρ w nid (r.tr.sel ε).2 ρ' w' → Q (r.tr.sel ε).1.to a' w') → c.wp P Q a w)
/-- The same of what stands in a loop. -/
def LoopWp (P : Program) (c : Code) (Q : Exit → Act → World → Prop) (a : Act) (w : World) : Prop :=
  ∀ (b : Frame) (k : List Item) (cs : List Frame), ∃ e a' w', Q e a' w' ∧ Arrives P (lone (b.at a (.code c :: .inLoop c :: k)) cs w) b k cs e a' w'
theorem wp_loop_of {c : Code} {Q : Exit → Act → World → Prop} {a : Act} {w : World} (h : LoopWp P c Q a w) : (Code.loop c).wp P Q a w := fun b k cs =>
  let ⟨e, a', w', hq, harr⟩ := h b k cs
  ⟨e, a', w', hq, .of_steps (.one step_loop) harr⟩
theorem loop_round {c : Code} {Q : Exit → Act → World → Prop} {a : Act} {w : World} (h : c.wp P (Exit.then (LoopWp P c Q) Q) a w) : LoopWp P c Q a w := by
  intro b k cs
  obtain ⟨e, a₁, w₁, hq, harr⟩ := h b (.inLoop c :: k) cs
  cases e with
  | normal =>
    obtain ⟨e₂, a₂, w₂, hq₂, harr₂⟩ := hq b k cs
    exact ⟨e₂, a₂, w₂, hq₂, .of_steps (Steps.trans harr (.one step_inLoop)) harr₂⟩
  | exit id => exact ⟨_, a₁, w₁, hq, .pass (x := .inLoop c) rfl (fun _ _ => .inl (by simp)) harr⟩
  | goto l => exact ⟨_, a₁, w₁, hq, .pass (x := .inLoop c) rfl (fun _ _ => .inl (by simp)) harr⟩
  | ret => exact ⟨_, a₁, w₁, hq, .pass (x := .inLoop c) rfl (fun _ _ => .inl (by simp)) harr⟩
  | panic ch => exact ⟨_, a₁, w₁, hq, .pass (x := .inLoop c) rfl (fun _ _ => .inl (by simp)) harr⟩
  | outgrown => exact ⟨_, a₁, w₁, hq, .pass (x := .inLoop c) rfl (fun _ _ => .inl (by simp)) harr⟩
def LoopOk (P : Program) (ε : Env) (w0 : World) (c : Code) (pc : E) (st : St) (nid : Nat) (r : Res) : Prop :=
  nid ≤ r.nid ∧ (Dom st nid → Dom (r.tr.sel ε).2 r.nid) ∧
  ((∀ ob ∈ r.obs, ob.ok P ε w0) → (pc.den ε).2 = true → Dom st nid → ∀ (d : List Deferred) (ρ : Nat → Nat) (a : Act) (w : World), Rep ε w0 d st ρ a w → ∀ Q : Exit → Act → World → Prop,
    (∀ ρ' a' w', Rep ε w0 d (r.tr.sel ε).2 ρ' a' w' → Aft st ρ w nid (r.tr.sel ε).2 ρ' w' → Q (r.tr.sel ε).1.to a' w') → LoopWp P c Q a w)
theorem CodeOk.norm {w0 : World} {c : Code} {pc : E} {st : St} {nid : Nat} {r : Res} (k : Ex) (h : CodeOk P ε w0 c pc st nid r) : CodeOk P ε w0 c pc st nid { r with tr := norm k r.tr } := by
  obtain ⟨h1, h2, h3⟩ := h
  obtain ⟨n1, n2⟩ := norm_spec ε k r.tr
  refine ⟨h1, fun hd => (h2 hd).weak n2, fun hobs hpc hd d ρ a w hr Q hQ => h3 hobs hpc hd d ρ a w hr Q fun ρ' a' w' hr' ha' => ?_⟩
  rw [← n1]
  exact hQ ρ' a' w' (hr'.weak n2) (ha'.weak n2)
theorem pc_t {e pc : E} (h1 : (e.den ε).2 = true) (h2 : (pc.den ε).2 = true) : ((mkIf e pc (.blit false)).den ε).2 = true := by rw [mkIf_den, h1, if_pos rfl]; exact h2
theorem pc_f {e pc : E} (h1 : (e.den ε).2 = false) (h2 : (pc.den ε).2 = true) : ((mkIf e (.blit false) pc).den ε).2 = true := by rw [mkIf_den, h1, if_neg (by simp)]; exact h2
theorem flat_spec {ops : Array Oper} {bs : List (List Nat)} {nid : Nat} : ∀ {T : Ops} {acc : List Rec} {tr : Tr}, flat ops bs nid T acc = some tr → ∃ recs st', T.path ε = some (recs, st') ∧ regionOk ops (acc.reverse ++ recs) bs nid = true ∧ tr.sel ε = (.normal, st')
  | .done st nv, acc, tr, h => by
    simp only [flat] at h
    split at h
    · rename_i hok; cases h; exact ⟨[], st, rfl, by simpa using hok, rfl⟩
    · cases h
  | .op r obs rest, acc, tr, h => by
    simp only [flat] at h
    obtain ⟨recs, st', h1, h2, h3⟩ := flat_spec h
    exact ⟨r :: recs, st', by simp [Ops.path, h1], by simpa using h2, h3⟩
  | .fork e x y, acc, tr, h => by
    simp only [flat] at h
    split at h
    · rename_i a b ha hb
      cases h
      simp only [Ops.path, Tr.sel]
      cases (e.den ε).2
      · simp only [Bool.false_eq_true, if_false]; exact flat_spec hb
      · simp only [if_true]; exact flat_spec ha
    · cases h
  | .none, acc, tr, h => by cases h
theorem path_fold {sub : Sub} {ops : Array Oper} : ∀ {l : List Oper} {nid : Nat} {pc : E} {dec : List (E × Bool)} {st : St} {nv : Nat} {recs : List Rec} {st' : St},
    (evOps P sub ops l nid pc dec st nv).path ε = some (recs, st') → st' = recs.foldl St.apply st
  | [], nid, pc, dec, st, nv, recs, st', h => by simp only [evOps, Ops.path] at h; cases h; rfl
  | o :: l, nid, pc, dec, st, nv, recs, st', h => by
    have go : ∀ (rc : Rec) (pc : E) (dec : List (E × Bool)) (nv : Nat) (obs : List Ob), (Ops.op rc obs (evOps P sub ops l (nid + 1) pc dec (st.apply rc) nv)).path ε = some (recs, st') → st' = recs.foldl St.apply st := by
      intro rc pc dec nv obs hp
      simp only [Ops.path, Option.map_eq_some_iff] at hp
      obtain ⟨⟨recs1, st1⟩, he, heq⟩ := hp
      cases heq
      rw [path_fold he]; rfl
    have run : ∀ (pc : E) (dec : List (E × Bool)) (nv : Nat) (T : Ops), T = (match evOp P sub nid pc st.look st.at nv dec o with
        | some r => .op ⟨o.dst, r.val, r.fp, r.upd⟩ r.obs (evOps P sub ops l (nid + 1) pc dec (st.apply ⟨o.dst, r.val, r.fp, r.upd⟩) r.nv)
        | none => .none) → T.path ε = some (recs, st') → st' = recs.foldl St.apply st := by
      intro pc dec nv T hT hr
      split at hT
      · subst hT; exact go _ _ _ _ _ hr
      · subst hT; cases hr
    simp only [evOps] at h
    split at h
    · exact run _ _ _ _ rfl h
    · split at h
      · split at h
        · split at h
          · exact run _ _ _ _ rfl h
          · exact go _ _ _ _ [] h
        · split at h
          · simp only [Ops.path] at h
            split at h
            · exact run _ _ _ _ rfl h
            · exact go _ _ _ _ [] h
          · simp only [Ops.path] at h
            split at h
            · exact go _ _ _ _ [] h
            · exact run _ _ _ _ rfl h
      · exact go _ _ _ _ [] h
      · cases h
theorem evRegion_ok (hmix : P.follows .mixedOrders = true) {w0 : World} {sub : Sub} (hsub : SubOk P ε w0 sub) {ops : Array Oper} {st : St} {nid id : Nat} {draw : Bool} {pc : E} {nv : Nat} {r : Res}
    (h : evRegion P sub ops st nid pc nv = some r) : CodeOk P ε w0 (Code.region id ops draw) pc st nid r := by
  unfold evRegion at h
  dsimp only at h
  split at h
  · rename_i hids
    split at h
    · rename_i tr htr
      cases h
      obtain ⟨recs, st', hp, hok, hsel⟩ := flat_spec (ε := ε) htr
      simp only [List.reverse_nil, List.nil_append] at hok
      have hn := regionOk_spec hok
      obtain ⟨f1, f2, f3⟩ := hn
      refine ⟨by dsimp only; omega, fun hd b hb => ?_, fun hobs hpc hd d ρ a w hr Q hQ => ?_⟩
      · dsimp only at hb ⊢
        rw [hsel] at hb
        dsimp only at hb
        by_cases hold : (st.at b).isSome = true
        · have := hd b hold; omega
        · -- a block of an operation's own
          have e0 : st' = recs.foldl St.apply st := path_fold hp
          have e1 : st' = lexSt recs st recs.length := by rw [e0]; unfold lexSt; rw [List.take_length]
          rw [e1, lexSt_at recs st b _ (Nat.le_refl _)] at hb
          split at hb
          · rename_i c hl
            obtain ⟨j, hj, h2⟩ := latest_some _ hl
            unfold wM at h2
            split at h2
            · rename_i q hq
              have hjn : j < ops.size := by omega
              have hro := f3 j _ q (Array.getElem?_eq_getElem hjn) hq
              have hk := hro.keys _ (lookup_mem h2)
              dsimp only at hk
              rcases hk with g | g | ⟨j', g, g'⟩
              · omega
              · omega
              · have := hro.lt j' g; omega
            · cases h2
          · exact absurd hb hold
      · rw [hsel] at hQ
        exact region_leaf hmix hsub hp hok hids hobs hpc hr fun ρ' a' w' h1 h2 => hQ ρ' a' w' h1 h2
    · cases h
  · cases h
/-- Behind the leaves that end normally. -/
theorem behind_spec {f : E → St → Nat → Nat → Option Res} (hf : ∀ pc s nv nid r, f pc s nv nid = some r → nid ≤ r.nid) : ∀ {t : Tr} {pc : E} {nv nid : Nat} {q : Res}, behind f t pc nv nid = some q →
    nid ≤ q.nid ∧ ((t.sel ε).1 ≠ .normal → q.tr.sel ε = t.sel ε) ∧
    ((t.sel ε).1 = .normal → ∃ pc' nv' nid' r, f pc' (t.sel ε).2 nv' nid' = some r ∧ q.tr.sel ε = r.tr.sel ε ∧ ((pc.den ε).2 = true → (pc'.den ε).2 = true) ∧ (∀ ob ∈ r.obs, ob ∈ q.obs) ∧ nid ≤ nid' ∧ r.nid ≤ q.nid)
  | .leaf .normal s, pc, nv, nid, q, h => by
    simp only [behind] at h
    exact ⟨hf _ _ _ _ _ h, fun hn => absurd rfl hn, fun _ => ⟨pc, nv, nid, q, h, rfl, id, fun _ h => h, Nat.le_refl _, Nat.le_refl _⟩⟩
  | .leaf (.exit i) s, pc, nv, nid, q, h => by
    simp only [behind] at h; cases h
    exact ⟨Nat.le_refl _, fun _ => rfl, fun hn => by cases hn⟩
  | .leaf .ret s, pc, nv, nid, q, h => by
    simp only [behind] at h; cases h
    exact ⟨Nat.le_refl _, fun _ => rfl, fun hn => by cases hn⟩
  | .node c x y, pc, nv, nid, q, h => by
    simp only [behind] at h
    split at h
    · rename_i r1 h1
      split at h
      · rename_i r2 h2
        cases h
        obtain ⟨a1, a2, a3⟩ := behind_spec hf h1
        obtain ⟨b1, b2, b3⟩ := behind_spec hf h2
        simp only [Tr.sel]
        refine ⟨by omega, ?_, ?_⟩
        · cases hc : (c.den ε).2
          · simp only [Bool.false_eq_true, if_false]; exact b2
          · simp only [if_true]; exact a2
        · cases hc : (c.den ε).2
          · simp only [Bool.false_eq_true, if_false]
            intro hn
            obtain ⟨pc', nv', nid', r, e1, e2, e3, e4, e5, e6⟩ := b3 hn
            exact ⟨pc', nv', nid', r, e1, e2, fun hp => e3 (pc_f hc hp), fun ob hb => List.mem_append_right _ (e4 ob hb), by omega, e6⟩
          · simp only [if_true]
            intro hn
            obtain ⟨pc', nv', nid', r, e1, e2, e3, e4, e5, e6⟩ := a3 hn
            exact ⟨pc', nv', nid', r, e1, e2, fun hp => e3 (pc_t hc hp), fun ob hb => List.mem_append_left _ (e4 ob hb), e5, by omega⟩
      · cases h
    · cases h
theorem unExit_sel (id : Nat) : ∀ (t : Tr), (unExit id t).sel ε = (match (t.sel ε).1 with | .exit id' => if id' = id then .normal else .exit id' | k => k, (t.sel ε).2)
  | .leaf .normal s => rfl
  | .leaf .ret s => rfl
  | .leaf (.exit id') s => by simp only [unExit, Tr.sel]; split <;> rfl
  | .node c x y => by
    simp only [unExit, Tr.sel]
    split
    · exact unExit_sel id x
    · exact unExit_sel id y
theorem toRet_sel : ∀ (t : Tr), (toRet t).sel ε = (match (t.sel ε).1 with | .normal => .ret | k => k, (t.sel ε).2)
  | .leaf .normal s => rfl
  | .leaf .ret s => rfl
  | .leaf (.exit id') s => rfl
  | .node c x y => by
    simp only [toRet, Tr.sel]
    split
    · exact toRet_sel x
    · exact toRet_sel y
def resVar (tmps : Array Value) : ResultVar → Sem Value
  | .tmp t => pure (tmps.getD t undef)
  | .cell b t => asAddr (tmps.getD b undef) >>= fun a => loadVar t a
theorem results_eq (fn : Func) (tmps : Array Value) : results fn tmps = (fn.results.mapM (resVar tmps) >>= fun vs => pure (if h : vs.size = 1 then vs[0] else .tuple vs)) := by
  unfold results
  congr 2
theorem resultsOf_spec {w0 : World} {d : List Deferred} {s : St} {ρ : Nat → Nat} {a : Act} {w : World} (hr : Rep ε w0 d s ρ a w) : ∀ {rs : List ResultVar} {vs : List V1}, resultsOf P s rs = some vs →
    (rs.mapM (resVar a.tmps)).run P w = .ok (vs.map (V1.den ε ρ)) w
  | [], vs, h => by simp [resultsOf] at h; subst h; simp
  | .tmp t :: rest, vs, h => by
    simp only [resultsOf] at h
    split at h
    · rename_i v vs' h1 h2
      cases h
      have e : a.tmps.getD t undef = v.den ε ρ := by
        have := (hr.slots t).get (by rw [h1]; simp)
        rw [h1] at this; exact this
      rw [List.mapM_cons]
      have hB : (resVar a.tmps (.tmp t)).run P w = .ok (v.den ε ρ) w := by
        simp only [resVar, e, Sem.run_pure]
      simp only [Sem.run_bind, hB, Sem.run_pure, Result.andThen, resultsOf_spec hr h2, List.map_cons]

    · cases h
  | .cell b t :: rest, vs, h => by
    simp only [resultsOf] at h
    split at h
    · rename_i v _ _ _ _ vs' h1 h2
      cases h
      have hb : s.look b ≠ .bad := by intro e; rw [e] at h1; simp [evLoad] at h1
      have e := (hr.slots b).get hb
      obtain ⟨_, _, l3⟩ := load_out (base := w0.heap.size) (ρ := ρ) (ε := ε) (w := w) h1 (fun b _ cs hcs => hr.blocks b cs hcs)
      rw [← e] at l3
      obtain ⟨y, hy, hl⟩ : ∃ y, a.tmps.getD b undef = .pointer (some y) ∧ (loadVar t y).run P w = .ok (v.den ε ρ) w := by
        cases hv : a.tmps.getD b undef with
        | pointer x =>
          cases x with
          | some y =>
            rw [hv] at l3
            refine ⟨y, rfl, ?_⟩
            simpa [Instr.loadAt, Instr.sureAddr, Result.andThen, LV.den] using l3
          | none => rw [hv] at l3; simp [Instr.loadAt, Instr.sureAddr, Result.andThen] at l3
        | _ => rw [hv] at l3; simp [Instr.loadAt, Instr.sureAddr, Result.andThen] at l3
      have hA : (asAddr (a.tmps.getD b undef)).run P w = .ok y w := by rw [hy]; rfl
      rw [List.mapM_cons]
      have hB : (resVar a.tmps (.cell b t)).run P w = .ok (v.den ε ρ) w := by
        simp only [resVar, Sem.run_bind, hA, hl, Result.andThen]
      simp only [Sem.run_bind, hB, Result.andThen, Sem.run_pure, resultsOf_spec hr h2, List.map_cons]
    · cases h
end SX
end Go.Proofs.Ytfknnnlbfdeomaa
/- The reading by symbols: the theorem. -/
set_option linter.unusedVariables false
set_option linter.unusedSimpArgs false
namespace Go.Proofs.Ytfknnnlbfdeomaa
namespace SX
open Go.RowKit
variable {P : Program} {ε : Env}
/-- What a reading of a function is worth. -/
def FnOk (P : Program) (ε : Env) (w0 : World) (f : FuncId) (args : List LV) (mem : List (Nat × Cells)) (pc : E) (nid : Nat) (v : LV) (mem' : List (Nat × Cells)) (obs : List Ob) : Prop :=
  (∀ ob ∈ obs, ob.ok P ε w0) → (pc.den ε).2 = true → (∀ b, (mem.lookup b).isSome = true → b < nid) → (∀ x ∈ args, x ≠ .bad) → ∀ (w : World) (ρ : Nat → Nat), Below w0.heap.size w0 w →
    (∀ b cs, mem.lookup b = some cs → Blk ε ρ w0.heap.size w b cs) → (∀ b b', (mem.lookup b).isSome = true → (mem.lookup b').isSome = true → ρ b = ρ b' → b = b') →
    Calls P f (args.map (LV.den ε ρ)).toArray w (fun e w' => ∃ ρ', e = .returned (v.den ε ρ') ∧ (∀ b, b < nid → ρ' b = ρ b) ∧ (∀ b cs, mem'.lookup b = some cs → Blk ε ρ' w0.heap.size w' b cs) ∧
      Ext w w' (fun x => ∃ b, (mem.lookup b).isSome = true ∧ ρ b = x))
theorem reach_some {mem : Nat → Option Cells} : ∀ (n : Nat) (todo seen : List Nat), (∀ b ∈ seen, (mem b).isSome = true) → ∀ b ∈ reach mem n todo seen, (mem b).isSome = true
  | 0, _, seen, hs => hs
  | n + 1, [], seen, hs => hs
  | n + 1, x :: rest, seen, hs => by
    simp only [reach]
    split
    · exact reach_some n _ _ hs
    · split
      · rename_i c hc
        exact reach_some n _ _ fun b hb => by
          rcases List.mem_cons.1 hb with rfl | hb
          · rw [hc]; rfl
          · exact hs b hb
      · exact reach_some n _ _ hs
theorem lookup_filterMap {mem : Nat → Option Cells} (b : Nat) : ∀ l : List Nat, (l.filterMap fun b => (mem b).map fun c => (b, c)).lookup b = if b ∈ l then mem b else none
  | [] => rfl
  | x :: l => by
    simp only [List.filterMap_cons]
    cases hm : mem x with
    | none =>
      simp only [Option.map_none]
      rw [lookup_filterMap b l]
      by_cases hx : b = x
      · subst hx; simp [hm]
      · simp [hx]
    | some c =>
      simp only [Option.map_some, List.lookup]
      by_cases hx : b = x
      · subst hx; simp [hm]
      · have : (b == x) = false := by simpa using hx
        rw [this]
        simp only [lookup_filterMap b l, List.mem_cons, hx, false_or]
set_option maxHeartbeats 1000000 in
/-- All readings with so much fuel are worth it. -/
theorem sound (hmix : P.follows .mixedOrders = true) (inl : FuncId → Bool) (w0 : World) : ∀ n,
    (∀ c pc st nv nid r, evCode P inl n c pc st nv nid = some r → CodeOk P ε w0 c pc st nid r) ∧
    (∀ c pc st nv nid r, evLoop P inl n c pc st nv nid = some r → LoopOk P ε w0 c pc st nid r) ∧
    (∀ f args mem pc nv nid v mem' nv' obs, evFn P inl n f args mem pc nv nid = some (v, mem', nv', obs) → FnOk P ε w0 f args mem pc nid v mem' obs) ∧
    SubOk P ε w0 (evSub P inl n)
  | 0 => by
    refine ⟨fun c pc st nv nid r h => ?_, fun c pc st nv nid r h => ?_, fun f args mem pc nv nid v mem' nv' obs h => ?_, fun f args mem pc nv id r h => ?_⟩
    · simp [evCode] at h
    · simp [evLoop] at h
    · simp [evFn] at h
    · simp [evSub] at h
  | n + 1 => by
    obtain ⟨ihC, ihL, ihF, ihS⟩ := sound hmix inl w0 n
    refine ⟨fun c pc st nv nid r h => ?_, fun c pc st nv nid r h => ?_, fun f args mem pc nv nid v mem' nv' obs h => ?_, fun f args mem pc nv id r h hid hobs hpc hargs => ?_⟩
    · -- code
      unfold evCode at h
      split at h
      · cases h
        exact ⟨Nat.le_refl _, id, fun _ _ _ d ρ a w hr Q hQ => wp_skip (hQ ρ a w hr (Aft.refl _ _ _ _))⟩
      · cases h
        exact ⟨Nat.le_refl _, id, fun _ _ _ d ρ a w hr Q hQ => wp_label (hQ ρ a w hr (Aft.refl _ _ _ _))⟩
      · -- region
        obtain ⟨r1, h1, rfl⟩ := Option.map_eq_some_iff.1 h
        exact (evRegion_ok hmix ihS h1).norm .normal
      · -- seq
        rename_i x y
        split at h
        · rename_i r1 h1
          split at h
          · rename_i q hq
            cases h
            obtain ⟨a1, a2, a3⟩ := ihC _ _ _ _ _ _ h1
            have hf : ∀ pc s nv nid r, (fun pc s nv nid => evCode P inl n y pc s nv nid) pc s nv nid = some r → nid ≤ r.nid := fun pc s nv nid r h => (ihC _ _ _ _ _ _ h).1
            obtain ⟨b1, b2, b3⟩ := behind_spec (ε := ε) hf hq
            have key : CodeOk P ε w0 (.seq x y) pc st nid { q with obs := r1.obs ++ q.obs } := by
              refine ⟨by dsimp only; omega, fun hd => ?_, fun hobs hpc hd d ρ a w hr Q hQ => ?_⟩
              · dsimp only
                by_cases hk : (r1.tr.sel ε).1 = .normal
                · obtain ⟨pc', nv', nid', r, e1, e2, e3, e4, e5, e6⟩ := b3 hk
                  rw [e2]
                  exact ((ihC _ _ _ _ _ _ e1).2.1 ((a2 hd).mono e5)).mono e6
                · rw [b2 hk]; exact (a2 hd).mono b1
              · refine wp_seq (a3 (fun ob hb => hobs ob (List.mem_append_left _ hb)) hpc hd d ρ a w hr _ fun ρ1 a1' w1 hr1 ha1 => ?_)
                dsimp only at hQ
                by_cases hk : (r1.tr.sel ε).1 = .normal
                · obtain ⟨pc', nv', nid', r, e1, e2, e3, e4, e5, e6⟩ := b3 hk
                  rw [hk]
                  have hd1 := (a2 hd).mono e5
                  refine (ihC _ _ _ _ _ _ e1).2.2 (fun ob hb => hobs ob (List.mem_append_right _ (e4 ob hb))) (e3 hpc) hd1 d ρ1 a1' w1 hr1 Q fun ρ2 a2' w2 hr2 ha2 => ?_
                  rw [← e2] at hr2 ha2 ⊢
                  exact hQ ρ2 a2' w2 hr2 (ha1.trans hd hd1 (by omega) ha2)
                · rw [b2 hk] at hQ
                  have := hQ ρ1 a1' w1 hr1 ha1
                  cases hkk : (r1.tr.sel ε).1 with
                  | normal => exact absurd hkk hk
                  | exit i => rw [hkk] at this; exact this
                  | ret => rw [hkk] at this; exact this
            exact key.norm .normal
          · cases h
        · cases h
      · -- cond
        rename_i c x y
        have hcs : ∀ {d ρ a w}, Rep ε w0 d st ρ a w → ∀ t, c = .tmp t → RV ε ρ (st.look t) (a.tmps.getD t undef) := fun hr t _ => hr.slots t
        split at h
        · rename_i hc
          obtain ⟨a1, a2, a3⟩ := ihC _ _ _ _ _ _ h
          exact ⟨a1, a2, fun hobs hpc hd d ρ a w hr Q hQ => wp_cond_true (opnd_eq (hcs hr) hc (by simp)) (a3 hobs hpc hd d ρ a w hr Q hQ)⟩
        · rename_i hc
          obtain ⟨a1, a2, a3⟩ := ihC _ _ _ _ _ _ h
          exact ⟨a1, a2, fun hobs hpc hd d ρ a w hr Q hQ => wp_cond_false (opnd_eq (hcs hr) hc (by simp)) (a3 hobs hpc hd d ρ a w hr Q hQ)⟩
        · rename_i e _ _ hc
          split at h
          · rename_i r1 h1
            split at h
            · rename_i r2 h2
              cases h
              obtain ⟨a1, a2, a3⟩ := ihC _ _ _ _ _ _ h1
              obtain ⟨b1, b2, b3⟩ := ihC _ _ _ _ _ _ h2
              have key : CodeOk P ε w0 (.cond c x y) pc st nid ⟨.node e r1.tr r2.tr, r2.nv, r2.nid, r1.obs ++ r2.obs⟩ := by
                refine ⟨by dsimp only; omega, fun hd => ?_, fun hobs hpc hd d ρ a w hr Q hQ => ?_⟩
                · simp only [Tr.sel]
                  split
                  · exact (a2 hd).mono b1
                  · exact b2 (hd.mono a1)
                · have hce : a.eval c = .bool (e.den ε).2 := opnd_eq (hcs hr) hc (by simp)
                  simp only [Tr.sel] at hQ
                  cases hcd : (e.den ε).2
                  · rw [hcd] at hce
                    simp only [hcd, Bool.false_eq_true, if_false] at hQ
                    exact wp_cond_false hce (b3 (fun ob hb => hobs ob (List.mem_append_right _ hb)) (pc_f hcd hpc) (hd.mono a1) d ρ a w hr Q fun ρ' a' w' h1 h2 => hQ ρ' a' w' h1 ⟨fun b hb => h2.agree b (by omega), h2.ext, h2.fresh⟩)
                  · rw [hcd] at hce
                    simp only [hcd, if_true] at hQ
                    exact wp_cond_true hce (a3 (fun ob hb => hobs ob (List.mem_append_left _ hb)) (pc_t hcd hpc) hd d ρ a w hr Q hQ)
              exact key.norm .normal
            · cases h
          · cases h
        · cases h
      · -- block
        rename_i id body
        obtain ⟨r1, h1, rfl⟩ := Option.map_eq_some_iff.1 h
        obtain ⟨a1, a2, a3⟩ := ihC _ _ _ _ _ _ h1
        have key : CodeOk P ε w0 (.block id body) pc st nid { r1 with tr := unExit id r1.tr } := by
          refine ⟨a1, fun hd => by dsimp only; rw [unExit_sel]; exact a2 hd, fun hobs hpc hd d ρ a w hr Q hQ => wp_block (a3 hobs hpc hd d ρ a w hr _ fun ρ' a' w' h1 h2 => ?_)⟩
          dsimp only at hQ
          rw [unExit_sel] at hQ
          have := hQ ρ' a' w' h1 h2
          cases hk : (r1.tr.sel ε).1 with
          | normal => rw [hk] at this; exact this
          | ret => rw [hk] at this; exact this
          | exit i =>
            rw [hk] at this
            dsimp only at this
            simp only [Ex.to, Exit.inBlock]
            by_cases hi : i = id
            · rw [if_pos hi] at this; rw [if_pos hi]; exact this
            · rw [if_neg hi] at this; rw [if_neg hi]; exact this
        exact key.norm .normal
      · -- loop
        obtain ⟨a1, a2, a3⟩ := ihL _ _ _ _ _ _ h
        exact ⟨a1, a2, fun hobs hpc hd d ρ a w hr Q hQ => wp_loop_of (a3 hobs hpc hd d ρ a w hr Q hQ)⟩
      · cases h
        exact ⟨Nat.le_refl _, id, fun _ _ _ d ρ a w hr Q hQ => wp_exit (hQ ρ a w hr (Aft.refl _ _ _ _))⟩
      · cases h
        exact ⟨Nat.le_refl _, id, fun _ _ _ d ρ a w hr Q hQ => wp_ret (hQ ρ a w hr (Aft.refl _ _ _ _))⟩
      · -- scope
        obtain ⟨a1, a2, a3⟩ := ihC _ _ _ _ _ _ h
        refine ⟨a1, a2, fun hobs hpc hd d ρ a w hr Q hQ => wp_scope_straight (a3 hobs hpc hd d ρ a w hr _ fun ρ' a' w' h1 h2 => ?_)⟩
        have := hQ ρ' a' w' h1 h2
        cases hk : (r.tr.sel ε).1 with
        | normal => rw [hk] at this; exact this
        | ret => rw [hk] at this; exact this
        | exit i => rw [hk] at this; exact this
      · cases h
    · -- loop
      unfold evLoop at h
      split at h
      · rename_i r1 h1
        split at h
        · rename_i q hq
          cases h
          obtain ⟨a1, a2, a3⟩ := ihC _ _ _ _ _ _ h1
          have hf : ∀ pc s nv nid r, (fun pc s nv nid => evLoop P inl n c pc s nv nid) pc s nv nid = some r → nid ≤ r.nid := fun pc s nv nid r h => (ihL _ _ _ _ _ _ h).1
          obtain ⟨b1, b2, b3⟩ := behind_spec (ε := ε) hf hq
          refine ⟨by dsimp only; omega, fun hd => ?_, fun hobs hpc hd d ρ a w hr Q hQ => ?_⟩
          · dsimp only
            by_cases hk : (r1.tr.sel ε).1 = .normal
            · obtain ⟨pc', nv', nid', r, e1, e2, e3, e4, e5, e6⟩ := b3 hk
              rw [e2]
              exact ((ihL _ _ _ _ _ _ e1).2.1 ((a2 hd).mono e5)).mono e6
            · rw [b2 hk]; exact (a2 hd).mono b1
          · refine loop_round (a3 (fun ob hb => hobs ob (List.mem_append_left _ hb)) hpc hd d ρ a w hr _ fun ρ1 a1' w1 hr1 ha1 => ?_)
            dsimp only at hQ
            by_cases hk : (r1.tr.sel ε).1 = .normal
            · obtain ⟨pc', nv', nid', r, e1, e2, e3, e4, e5, e6⟩ := b3 hk
              rw [hk]
              have hd1 := (a2 hd).mono e5
              refine (ihL _ _ _ _ _ _ e1).2.2 (fun ob hb => hobs ob (List.mem_append_right _ (e4 ob hb))) (e3 hpc) hd1 d ρ1 a1' w1 hr1 Q fun ρ2 a2' w2 hr2 ha2 => ?_
              rw [← e2] at hr2 ha2 ⊢
              exact hQ ρ2 a2' w2 hr2 (ha1.trans hd hd1 (by omega) ha2)
            · rw [b2 hk] at hQ
              have := hQ ρ1 a1' w1 hr1 ha1
              cases hkk : (r1.tr.sel ε).1 with
              | normal => exact absurd hkk hk
              | exit i => rw [hkk] at this; exact this
              | ret => rw [hkk] at this; exact this
        · cases h
      · cases h
    · -- function
      unfold evFn at h
      split at h
      · cases h
      · rename_i fn hfn
        split at h
        · cases h
        · rename_i c hc
          split at h
          · cases h
          · rename_i r hr
            obtain ⟨a1, a2, a3⟩ := ihC _ _ _ _ _ _ hr
            split at h
            · rename_i s hs
              intro hobs hpc hdom hargs w ρ hw hblk hinj
              have n1 := norm_spec ε .ret (toRet r.tr)
              rw [hs] at n1
              rw [toRet_sel] at n1
              simp only [Tr.sel] at n1
              obtain ⟨n1, n2⟩ := n1
              have fin : ∀ vs, resultsOf P s fn.results.toList = some vs → (∀ ob ∈ r.obs, ob.ok P ε w0) →
                  Calls P f (args.map (LV.den ε ρ)).toArray w (fun e w' => ∃ ρ', e = .returned (if h : (vs.map (V1.den ε ρ')).toArray.size = 1 then (vs.map (V1.den ε ρ')).toArray[0] else .tuple (vs.map (V1.den ε ρ')).toArray) ∧ (∀ b, b < nid → ρ' b = ρ b) ∧ (∀ b cs, s.mem.lookup b = some cs → Blk ε ρ' w0.heap.size w' b cs) ∧
                    Ext w w' (fun x => ∃ b, (mem.lookup b).isSome = true ∧ ρ b = x)) := by
                intro vs hvs hobs'
                refine calls_of_wp hfn hc (a3 hobs' hpc hdom [] ρ _ w ⟨?_, rfl, ?_, hblk, hinj, hw⟩ _ fun ρ' a' w' h1 h2 => ?_)
                · simp
                · intro t
                  refine .inr ?_
                  unfold St.look
                  simp only [Array.getD_eq_getD_getElem?, List.getD_eq_getElem?_getD]
                  rw [Array.getElem?_append]
                  simp only [List.size_toArray, List.length_map]
                  by_cases ht : t < args.length
                  · rw [if_pos ht, List.getElem?_append_left ht]
                    simp [List.getElem?_eq_getElem ht]
                  · rw [if_neg ht, List.getElem?_append_right (by omega)]
                    rw [Array.getElem?_replicate, List.getElem?_replicate]
                    split <;> rfl
                · have h3 := h1.weak n2
                  have h4 := h2.weak n2
                  have hbp : bodyPost P fn (fun e w' => ∃ ρ', e = .returned (if h : (vs.map (V1.den ε ρ')).toArray.size = 1 then (vs.map (V1.den ε ρ')).toArray[0] else .tuple (vs.map (V1.den ε ρ')).toArray) ∧ (∀ b, b < nid → ρ' b = ρ b) ∧ (∀ b cs, s.mem.lookup b = some cs → Blk ε ρ' w0.heap.size w' b cs) ∧
                      Ext w w' (fun x => ∃ b, (mem.lookup b).isSome = true ∧ ρ b = x)) .ret a' w' := by
                    refine ⟨h3.defers, _, ?_, ρ', rfl, h4.agree, h3.blocks, h4.ext⟩
                    have hm := resultsOf_spec h3 hvs
                    have hm2 : (fn.results.mapM (resVar a'.tmps)).run P w' = .ok (vs.map (V1.den ε ρ')).toArray w' := by
                      rw [← Array.toList_mapM] at hm
                      simp only [Sem.run_map] at hm
                      generalize (fn.results.mapM (resVar a'.tmps)).run P w' = rr at hm ⊢
                      cases rr with
                      | ok x w2 =>
                        simp only [Result.andThen, Result.ok.injEq] at hm
                        obtain ⟨hm1, rfl⟩ := hm
                        rw [← hm1]
                      | halt x w2 => simp only [Result.andThen] at hm; cases hm
                    rw [results_eq]
                    simp only [Sem.run_bind, hm2, Result.andThen, Sem.run_pure]
                  cases hk : (r.tr.sel ε).1 with
                  | normal => exact hbp
                  | ret => exact hbp
                  | exit i => rw [hk] at n1; cases n1
              split at h
              · rename_i x hvs
                cases h
                refine (fin _ hvs hobs).mono fun e w' ⟨ρ', e1, e2⟩ => ⟨ρ', by rw [e1]; simp [LV.den], e2⟩
              · rename_i vs hne hvs
                cases h
                refine (fin _ hvs hobs).mono fun e w' ⟨ρ', e1, e2⟩ => ⟨ρ', ?_, e2⟩
                rw [e1]
                have : ¬ (vs.map (V1.den ε ρ')).toArray.size = 1 := fun h1 => by
                  simp at h1
                  obtain ⟨x, hx⟩ := List.length_eq_one_iff.1 h1
                  exact hne x hx
                rw [dif_neg this]
                rfl
              · cases h
            · cases h
    · -- calls
      unfold evSub at h
      split at h
      · dsimp only at h
        split at h
        · cases h
        · rename_i v m nv' obs hev
          split at h
          · rename_i hc
            cases h
            simp only [Bool.and_eq_true] at hc
            obtain ⟨⟨⟨⟨c1, c2⟩, c3⟩, c4⟩, c5⟩ := hc
            have hbs := reach_some (mem := mem) 100 (args.flatMap LV.ids) [] (by simp)
            generalize reach mem 100 (args.flatMap LV.ids) [] = bs at *
            have hupd : ∀ u ∈ (bs.filterMap fun b => (m.lookup b).map fun c => (b, c)), u.1 ∈ bs ∧ m.lookup u.1 = some u.2 := fun u hu => by
              obtain ⟨b, hb, he⟩ := List.mem_filterMap.1 hu
              obtain ⟨c, hc, rfl⟩ := Option.map_eq_some_iff.1 he
              exact ⟨hb, hc⟩
            refine ⟨fun u hu => ⟨(hupd u hu).1, hbs _ (hupd u hu).1⟩, fun w ρ hw hblk hinj => ?_⟩
            have hlt : ∀ b ∈ bs, b < id + 1000 := fun b hb => by simpa using List.all_eq_true.1 c1 b hb
            have hlk : ∀ b, (bs.filterMap fun b => (mem b).map fun c => (b, c)).lookup b = if b ∈ bs then mem b else none := fun b => lookup_filterMap b bs
            refine (ihF _ _ _ _ _ _ _ _ _ _ hev hobs hpc (fun b hb => ?_) hargs w ρ hw (fun b cs hb => ?_) (fun b b' hb hb' => ?_)).mono fun e w' => ?_
            · rw [hlk] at hb
              split at hb
              · exact hlt b (by assumption)
              · cases hb
            · rw [hlk] at hb
              split at hb
              · exact hblk b (by assumption) cs hb
              · cases hb
            · rw [hlk] at hb hb'
              split at hb
              · split at hb'
                · exact hinj b (by assumption) b' (by assumption) hb hb'
                · cases hb'
              · cases hb
            · rintro ⟨ρ', e1, e2, e3, e4⟩
              have hag : ∀ b ∈ bs, ρ' b = ρ b := fun b hb => e2 b (hlt b hb)
              refine ⟨_, e1, ρ, fun _ _ => rfl, ?_, fun u hu => ?_, fun _ => rfl, ?_, ?_⟩
              · exact LV.den_congr fun b hb => hag b (List.contains_iff_mem.1 (List.all_eq_true.1 c3 b hb))
              · have hu' := hupd u hu
                refine (e3 u.1 u.2 hu'.2).congr (hag _ hu'.1) fun k hk => hag k ?_
                have := List.all_eq_true.1 c4 u hu
                exact List.contains_iff_mem.1 (List.all_eq_true.1 this k hk)
              · rintro ⟨u, hu, rfl⟩
                have := hbs _ (hupd u hu).1
                rw [hid] at this; cases this
              · refine e4.mono ?_
                rintro x hx ⟨b, hb, rfl⟩
                rw [hlk] at hb
                split at hb
                · rename_i hbm
                  -- every block that was given comes back
                  have hall : ∀ l : List Nat, (l.filterMap fun b => (m.lookup b).map fun c => (b, c)).length = l.length → ∀ b ∈ l, ∃ c, m.lookup b = some c := by
                    intro l
                    induction l with
                    | nil => intro _ b hb; cases hb
                    | cons y l ih =>
                      intro hl b hb
                      rw [List.filterMap_cons] at hl
                      cases hy : m.lookup y with
                      | none =>
                        rw [hy] at hl
                        simp only [Option.map_none] at hl
                        have := List.length_filterMap_le (fun b => (m.lookup b).map fun c => (b, c)) l
                        simp only [List.length_cons] at hl; omega
                      | some c =>
                        rw [hy] at hl
                        simp only [Option.map_some, List.length_cons, Nat.add_right_cancel_iff] at hl
                        rcases List.mem_cons.1 hb with rfl | hb
                        · exact ⟨c, hy⟩
                        · exact ih hl b hb
                  obtain ⟨c, hc⟩ := hall bs (by simpa using c5) b hbm
                  refine ⟨(b, c), List.mem_filterMap.2 ⟨b, hbm, by rw [hc]; rfl⟩, ?_, rfl⟩
                  intro e
                  have := hbs b hbm
                  dsimp only at e
                  rw [e, hid] at this; cases this
                · cases hb
          · cases h
      · split at h
        · rename_i hno
          split at h
          · rename_i fn hfn
            split at h
            · rename_i v nv' hv
              split at h
              case isFalse => cases h
              rename_i hvi
              cases h
              refine ⟨by simp, fun w ρ hw hblk hinj => ?_⟩
              have hob := hobs _ (List.mem_singleton.2 rfl) hpc w hw
              have hden : ∀ x ∈ args, x.den ε ρ = x.den ε (fun _ => 0) := fun x hx => LV.den_congr fun b hb => by
                have := List.all_eq_true.1 hno x hx
                simp only [Bool.and_eq_true, List.isEmpty_iff] at this
                rw [this.1] at hb; cases hb
              rw [List.map_congr_left hden]
              refine hob.mono fun e w' ⟨e1, e2⟩ => ⟨_, e1, ρ, fun _ _ => rfl, ?_, by simp, fun _ => rfl, by simp, Ext.of_below e2 _⟩
              exact LV.den_congr fun b hb => (by rw [List.isEmpty_iff.1 hvi] at hb; cases hb)
            · cases h
          · cases h
        · cases h
end SX
end Go.Proofs.Ytfknnnlbfdeomaa
/- The reading by symbols: how it is used. -/
set_option linter.unusedVariables false
set_option linter.unusedSimpArgs false
namespace Go.Proofs.Ytfknnnlbfdeomaa
namespace SX
open Go.RowKit
variable {P : Program} {ε : Env}
/-- A function of plain data: what a reading says that it hands back, it hands back. -/
theorem reads (hmix : P.follows .mixedOrders = true) {inl : FuncId → Bool} {n : Nat} {f : FuncId} {args : List LV} {nv nid : Nat} {v : LV} {mem' : List (Nat × Cells)} {nv' : Nat} {obs : List Ob}
    (h : evFn P inl n f args [] (.blit true) nv nid = some (v, mem', nv', obs)) (ha : noIds args = true) (hv : v.ids.isEmpty = true) (ε : Env) (w : World) (hobs : ∀ ob ∈ obs, ob.ok P ε w) :
    Calls P f (args.map (LV.den ε fun _ => 0)).toArray w (fun e w' => e = .returned (v.den ε fun _ => 0) ∧ Below w.heap.size w w') := by
  have := (sound (ε := ε) hmix inl w n).2.2.1 _ _ _ _ _ _ _ _ _ _ h hobs rfl (by simp) (fun x hx e => by
    have := List.all_eq_true.1 ha x hx
    subst e; simp at this) w (fun _ => 0) (Below.refl _ _) (by simp) (by simp)
  refine this.mono fun e w' ⟨ρ', h1, h2, h3, h4⟩ => ⟨?_, ⟨h4.os, h4.tape, h4.output, h4.size, fun k hk => h4.block k hk (by simp)⟩⟩
  rw [h1]
  congr 1
  exact LV.den_congr fun b hb => by rw [List.isEmpty_iff.1 hv] at hb; cases hb
/-- The reading, as a test. -/
def readsB (P : Program) (inl : FuncId → Bool) (n : Nat) (f : FuncId) (args : List LV) (nv : Nat) (v : LV) (obs : List Ob) : Bool :=
  match evFn P inl n f args [] (.blit true) nv 0 with
  | some (v', _, _, obs') => v' == v && obs' == obs && noIds args && v.ids.isEmpty
  | none => false
theorem reads_of (hmix : P.follows .mixedOrders = true) {inl : FuncId → Bool} {n : Nat} {f : FuncId} {args : List LV} {nv : Nat} {v : LV} {obs : List Ob}
    (h : readsB P inl n f args nv v obs = true) (ε : Env) (w : World) (hobs : ∀ ob ∈ obs, ob.ok P ε w) :
    Calls P f (args.map (LV.den ε fun _ => 0)).toArray w (fun e w' => e = .returned (v.den ε fun _ => 0) ∧ Below w.heap.size w w') := by
  unfold readsB at h
  split at h
  · rename_i v' m' nv' obs' he
    simp only [Bool.and_eq_true, beq_iff_eq] at h
    obtain ⟨⟨⟨rfl, rfl⟩, h3⟩, h4⟩ := h
    exact reads hmix he h3 h4 ε w hobs
  · cases h
end SX
end Go.Proofs.Ytfknnnlbfdeomaa
