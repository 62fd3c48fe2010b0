/- What a function's text asks, reckoned over what is known of its values: definitions. No program in sight. -/
import Derived.Test.YtekokhlldcmjfaaOpen
import Derived.Test.YtekokhlldcmjfaaEqs
namespace Go.Proofs.Ytekokhlldcmjfaa
open Go.RowKit
/-- What is known of a value. -/
inductive SV where
  | v (x : Value)
  | lit (b : Bool)
  | iimm (k : IntKind) (l : List Int)
  | imm (E : Ty) (d : Dat)
  | ip (l : List SV)
  | ptr (id off : Nat)
  | elt (id : Nat) (i : Int)
  | hdl (id : Nat)
  | sub (id : Nat) (lo len : Int)
  | csl (id len : Nat)
  | sel (id : Nat) (i : Int) (sz off : Nat)
  | psl (id off n : Nat)
  | clo (f : FuncId) (l : List SV)
  | agg (l : List SV)
  | tup (l : List SV)
  | any
/-- What is known of memory of the call's own. -/
inductive SO where
  | cells (t : TypeId) (l : List SV)
  | irow (E : TypeId) (k : IntKind) (l : List Int)
  | srow (E : TypeId) (T : Ty) (d : Dat)
  | gone
/-- What an operation, a call leaves: its value, new memory, each with its place in the value. -/
inductive Out where
  | ret (sv : SV) (objs : List (Nat × SO))
  | ite (c : Prop) (a b : Out)
/-- An argument as data. -/
inductive AV where
  | z (z : Int)
  | b (b : Bool)
  | s (s : ByteArray)
  | l (l : List Int)
  | d (d : Dat)
  | st (l : List AV)
/-- The functions that are not reckoned. -/
structure Sy where
  bin : BinOp → IntKind → Int → Int → Int
  cmp : BinOp → Int → Int → Bool
  una : UnOp → IntKind → Int → Int
  cnv : IntKind → Int → Int
  not : Bool → Bool
  beq : Bool → Bool → Bool
  seq : ByteArray → ByteArray → Bool
  scat : ByteArray → ByteArray → ByteArray
  slen : ByteArray → Int
  max : Int → Int → Int
  min : Int → Int → Int
  add : Int → Int → Int
  dif : Int → Int → Int
  llen : List Int → Int
  lget : List Int → Int → Int
  lset : List Int → Int → Int → List Int
  lrep : Int → List Int
  lapp : List Int → List Int → List Int
  lsub : List Int → Int → Int → List Int
  lcpy : List Int → Int → Int → List Int → List Int
  str : List Int → ByteArray
  bytes : ByteArray → List Int
  dlen : Dat → Int
  dat : Dat → Int → Dat
  dfld : Dat → Nat → Dat
  dint : Dat → Int
  dbool : Dat → Bool
  dstr : Dat → ByteArray
  dints : Dat → List Int
  dsub : Dat → Int → Int → Dat
  dapp : Dat → Dat → Dat
  dset : Dat → Int → Dat → Dat
  drep : Dat → Int → Dat
  ofInts : List Int → Dat
  inb : Int → Int → Prop
  le3 : Int → Int → Int → Prop
  nz : Int → Prop
  nn : Int → Prop
  room : Nat → Int → Prop
  fit : Int → Prop
  mul : Int → Int → Int
  shl : Int → Int → Int
  neg : Int → Int
  inR : IntKind → Int → Prop
  and : Bool → Bool → Bool
mutual
def SV.shift (n : Nat) : SV → SV
  | .ptr i o => .ptr (n + i) o
  | .elt i o => .elt (n + i) o
  | .hdl i => .hdl (n + i)
  | .sub i a b => .sub (n + i) a b
  | .csl i m => .csl (n + i) m
  | .sel i z s o => .sel (n + i) z s o
  | .psl i o m => .psl (n + i) o m
  | .clo f l => .clo f (shifts n l)
  | .ip l => .ip (shifts n l)
  | .agg l => .agg (shifts n l)
  | .tup l => .tup (shifts n l)
  | x => x
def shifts (n : Nat) : List SV → List SV
  | [] => []
  | x :: l => x.shift n :: shifts n l
end
def SO.shift (n : Nat) : SO → SO
  | .cells t l => .cells t (shifts n l)
  | x => x
def Out.shift (n : Nat) : Out → Out
  | .ret sv os => .ret (sv.shift n) (os.map fun o => (o.1, o.2.shift n))
  | .ite c a b => .ite c (a.shift n) (b.shift n)
/-- What a type is. -/
inductive Un where
  | int (k : IntKind)
  | bool
  | str
  | slice (e : TypeId)
  | struct (fs : List (Nat × TypeId))
  | array (n : Nat) (e : TypeId)
  | ptr (e : TypeId)
  | other
structure TD where
  un : Un
  size : Nat
  bytes : Nat
  zero : List Value
  eq : List CK
def TD.agg (d : TD) : Bool := match d.un with | .struct _ => true | .array _ _ => true | _ => false
/-- A contract: what the arguments are, what is asked of them, what comes. -/
structure Ctr where
  tys : List Ty
  pre : List AV → Option Prop
  res : List AV → Out
  al : Bool := false
/-- A frame's slots, as a tree: 2 i + 1 and 2 i + 2 stand below i. -/
inductive Fm where
  | e
  | n (x : SV) (l r : Fm)
/-- What is known of a frame, of memory, of the frames that wait. -/
structure AS where
  slots : Fm
  objs : List SO
  sav : List Fm
structure Cx where
  A : Sy
  tt : List (TypeId × TD)
  G : List (FuncId × Ctr)
  ck : Bool
  al : Bool
  I : List (FuncId × (List SV → AS → (SV → AS → Prop) → Prop))
  fz : Bool
def assoc {α : Type} : List (Nat × α) → Nat → Option α
  | [], _ => none
  | (k, x) :: l, i => match Nat.beq k i with
    | true => some x
    | false => assoc l i
def Cx.td (C : Cx) (t : TypeId) : TD := (assoc C.tt t).getD ⟨.other, 0, 0, [], []⟩
def IntKind.same : IntKind → IntKind → Bool
  | .i8, .i8 | .i16, .i16 | .i32, .i32 | .i64, .i64 | .u8, .u8 | .u16, .u16 | .u32, .u32 | .u64, .u64 => true
  | _, _ => false
/-- Each number of the one is one of the other. -/
def IntKind.sub : IntKind → IntKind → Bool
  | .i8, .i8 | .i8, .i16 | .i8, .i32 | .i8, .i64 | .i16, .i16 | .i16, .i32 | .i16, .i64 | .i32, .i32 | .i32, .i64 | .i64, .i64 => true
  | .u8, .u8 | .u8, .u16 | .u8, .u32 | .u8, .u64 | .u8, .i16 | .u8, .i32 | .u8, .i64 | .u16, .u16 | .u16, .u32 | .u16, .u64 | .u16, .i32 | .u16, .i64 => true
  | .u32, .u32 | .u32, .u64 | .u32, .i64 | .u64, .u64 => true
  | _, _ => false
mutual
def Ty.same : Ty → Ty → Bool
  | .int k, .int k' => IntKind.same k k'
  | .bool, .bool => true
  | .str, .str => true
  | .sl e, .sl e' => e.same e'
  | .st fs, .st fs' => sames fs fs'
  | _, _ => false
def sames : List Ty → List Ty → Bool
  | [], [] => true
  | t :: ts, t' :: ts' => t.same t' && sames ts ts'
  | _, _ => false
end
def SV.flat : SV → List SV
  | .agg l => l
  | .any => []
  | .tup _ => []
  | x => [x]
def flatT : List SV → Option (List SV)
  | [] => some []
  | x :: l => match x with
    | .agg m => (flatT l).bind fun r => some (m ++ r)
    | .any => none
    | .tup _ => none
    | x => (flatT l).bind fun r => some (x :: r)
/-- All cells of a result. -/
def SV.deep : SV → Option (List SV)
  | .agg l => some l
  | .tup l => flatT l
  | .any => none
  | x => some [x]
def SV.ofLit : Value → SV
  | .bool b => .lit b
  | .int k n => bif (Lit.int k n).wf then .v (.int k n) else .any
  | .string s => bif Nat.ble s.size 1000000 then .v (.string s) else .any
  | .agg _ => .any
  | .tuple _ => .any
  | x => .v x
mutual
/-- Data of a type, as cells. -/
def svOf (A : Sy) : Ty → Dat → List SV
  | .int k, d => [.v (.int k (A.dint d))]
  | .bool, d => [.v (.bool (A.dbool d))]
  | .str, d => [.v (.string (A.dstr d))]
  | .sl e, d => match e with
    | .int k => [.iimm k (A.dints d)]
    | e => [.imm e d]
  | .st fs, d => svOfs A fs d 0
def svOfs (A : Sy) : List Ty → Dat → Nat → List SV
  | [], _, _ => []
  | t :: ts, d, i => svOf A t (A.dfld d i) ++ svOfs A ts d (i + 1)
end
mutual
/-- An argument, as cells. -/
def svAV : Ty → AV → Option (List SV)
  | .int k, .z z => some [.v (.int k z)]
  | .bool, .b b => some [.v (.bool b)]
  | .str, .s s => some [.v (.string s)]
  | .sl e, .l l => match e with
    | .int k => some [.iimm k l]
    | _ => none
  | .sl e, .d d => match e with
    | .int _ => none
    | e => some [.imm e d]
  | .st fs, .st as => svAVs fs as
  | _, _ => none
def svAVs : List Ty → List AV → Option (List SV)
  | [], [] => some []
  | t :: ts, a :: as => (svAV t a).bind fun l => (svAVs ts as).bind fun m => some (l ++ m)
  | _, _ => none
end
/-- Numbers in cells. -/
def allIntsP (k : IntKind) : List SV → Option (List Int)
  | [] => some []
  | x :: l => match x with
    | .v (.int k' z) => bif IntKind.same k k' then (allIntsP k l).bind fun zs => some (z :: zs) else none
    | _ => none
/-- A slice of numbers, read. -/
def intsOf (A : Sy) (ob : Nat → SO) (k : IntKind) : SV → Option (List Int)
  | .iimm k' l => bif IntKind.same k k' then some l else none
  | .hdl id => match ob id with
    | .irow _ k' l => bif IntKind.same k k' then some l else none
    | _ => none
  | .sub id lo len => match ob id with
    | .irow _ k' l => bif IntKind.same k k' then some (A.lsub l lo len) else none
    | _ => none
  | .psl id off n => match ob id with
    | .cells _ l => bif Nat.ble n 16777216 && Nat.ble (off + n) l.length then allIntsP k ((l.drop off).take n) else none
    | _ => none
  | .v (.slice none 0 0) => some []
  | _ => none
def cInt (k : IntKind) : List SV → Option Int
  | x :: l => match l with
    | [] => match x with
      | .v (.int k' z) => bif IntKind.same k k' then some z else none
      | _ => none
    | _ => none
  | _ => none
def cBool : List SV → Option Bool
  | x :: l => match l with
    | [] => match x with
      | .v (.bool b) => some b
      | .lit b => some b
      | _ => none
    | _ => none
  | _ => none
def cStr : List SV → Option ByteArray
  | x :: l => match l with
    | [] => match x with
      | .v (.string s) => some s
      | _ => none
    | _ => none
  | _ => none
def datSl (A : Sy) (ob : Nat → SO) (e : Ty) (x : SV) : Option Dat := match e with
  | .int k => (intsOf A ob k x).bind fun l => some (A.ofInts l)
  | e => match x with
    | .imm e' d => bif e.same e' then some d else none
    | .hdl id => match ob id with
      | .srow _ e' d => bif e.same e' then some d else none
      | _ => none
    | .v (.slice none 0 0) => some (.list [])
    | _ => none
mutual
/-- Cells, as data. -/
def datOf (A : Sy) (ob : Nat → SO) : Ty → List SV → Option Dat
  | .int k, l => (cInt k l).bind fun z => some (.int z)
  | .bool, l => (cBool l).bind fun b => some (.bool b)
  | .str, l => (cStr l).bind fun s => some (.str s)
  | .sl e, l => match l with
    | [x] => datSl A ob e x
    | _ => none
  | .st fs, l => (datOfs A ob fs l).bind fun ds => some (.agg ds)
def datOfs (A : Sy) (ob : Nat → SO) : List Ty → List SV → Option (List Dat)
  | [], l => match l with
    | [] => some []
    | _ => none
  | t :: ts, l => (datOf A ob t (l.take t.size)).bind fun d => (datOfs A ob ts (l.drop t.size)).bind fun ds => some (d :: ds)
end
/-- Rows of cells, as data. -/
def datRows (A : Sy) (ob : Nat → SO) (e : Ty) : Nat → List SV → Option (List Dat)
  | 0, _ => some []
  | n + 1, l => (datOf A ob e (l.take e.size)).bind fun d => (datRows A ob e n (l.drop e.size)).bind fun ds => some (d :: ds)
def avSl (A : Sy) (ob : Nat → SO) (e : Ty) (x : SV) : Option AV := match e with
  | .int k => (intsOf A ob k x).bind fun l => some (.l l)
  | e => match x with
    | .imm e' d => bif e.same e' then some (.d d) else none
    | .hdl id => match ob id with
      | .srow _ e' d => bif e.same e' then some (.d d) else none
      | _ => none
    | .csl id n => match ob id with
      | .cells _ l => bif Nat.ble n 16777216 && Nat.beq l.length (n * e.size) then (datRows A ob e n l).bind fun ds => some (.d (.list ds)) else none
      | _ => none
    | .v (.slice none 0 0) => some (.d (.list []))
    | _ => none
mutual
/-- Cells, as an argument. -/
def avOf (A : Sy) (ob : Nat → SO) : Ty → List SV → Option AV
  | .int k, l => (cInt k l).bind fun z => some (.z z)
  | .bool, l => (cBool l).bind fun b => some (.b b)
  | .str, l => (cStr l).bind fun s => some (.s s)
  | .sl e, l => match l with
    | [x] => avSl A ob e x
    | _ => none
  | .st fs, l => (avOfs A ob fs l).bind fun as => some (.st as)
def avOfs (A : Sy) (ob : Nat → SO) : List Ty → List SV → Option (List AV)
  | [], l => match l with
    | [] => some []
    | _ => none
  | t :: ts, l => (avOf A ob t (l.take t.size)).bind fun d => (avOfs A ob ts (l.drop t.size)).bind fun ds => some (d :: ds)
end
def avArg (A : Sy) (ob : Nat → SO) : Ty → SV → Option AV
  | .st fs, x => match x with
    | .agg l => (avOfs A ob fs l).bind fun as => some (.st as)
    | _ => none
  | T, x => avOf A ob T [x]
def avArgs (A : Sy) (ob : Nat → SO) : List Ty → List SV → Option (List AV)
  | [], [] => some []
  | t :: ts, x :: xs => (avArg A ob t x).bind fun a => (avArgs A ob ts xs).bind fun as => some (a :: as)
  | _, _ => none
/-- Cells laid over cells. -/
def laid : List SV → Nat → List SV → List SV
  | l, 0, [] => l
  | _ :: l, 0, x :: xs => x :: laid l 0 xs
  | y :: l, n + 1, xs => y :: laid l n xs
  | [], _, _ => []
/-- A struct's, an array's parts, laid. -/
def fillS (place : Nat → Option (Nat × Nat)) : List SV → List (Nat × SV) → Option (List SV)
  | cs, [] => some cs
  | cs, (i, x) :: rest => match place i with
    | some (off, size) => bif Nat.beq x.flat.length size && Nat.ble (off + size) cs.length then fillS place (laid cs off x.flat) rest else none
    | none => none
def placeOf (C : Cx) (t : TypeId) (i : Nat) : Option (Nat × Nat) := match (C.td t).un with
  | .struct fs => (fs[i]?).bind fun f => bif Nat.ble 1 (C.td f.2).size then some (f.1, (C.td f.2).size) else none
  | .array _ e => bif Nat.ble 1 (C.td e).size then some (i * (C.td e).size, (C.td e).size) else none
  | _ => none
def isZero (k : IntKind) : List Value → Bool
  | [.int k' (.ofNat 0)] => IntKind.same k k'
  | _ => false
def zeros (C : Cx) (t : TypeId) : List SV := (C.td t).zero.map SV.ofLit
def zerosN (C : Cx) (t : TypeId) : Nat → List SV
  | 0 => []
  | n + 1 => zeros C t ++ zerosN C t n
def buildable (C : Cx) : Un → Bool
  | .struct fs => fs.all fun f => Nat.ble 1 (C.td f.2).size
  | .array _ e => Nat.ble 1 (C.td e).size
  | _ => false
abbrev Er := Option (Option Prop × Out)
def Er.one (sv : SV) : Er := some (none, .ret sv [])
def Er.one' (p : Prop) (sv : SV) : Er := some (some p, .ret sv [])
/-- The numbers of a row that is written out. -/
def allInts (k : IntKind) : List SV → Option (List Int)
  | [] => some []
  | .v (.int k' z) :: l => bif IntKind.same k k' then (allInts k l).bind fun zs => some (z :: zs) else none
  | _ => none
def isCmp : BinOp → Bool
  | .eql | .neq | .lss | .leq | .gtr | .geq => true
  | _ => false
def isBool : Un → Bool
  | .bool => true
  | _ => false
def exBool (A : Sy) (op : BinOp) (a b : Bool) : Er := match op with
  | .eql => .one (.v (.bool (A.beq a b)))
  | .neq => .one (.v (.bool (A.not (A.beq a b))))
  | _ => none
/-- Sums, differences, products: as they are where they are asked to fit (ck), else wrapped. -/
def exArith (A : Sy) (ck : Bool) (k : IntKind) (op : BinOp) (a b : Int) : Er := bif ck then match op with
    | .add => .one' (A.inR k (A.add a b)) (.v (.int k (A.add a b)))
    | .sub => .one' (A.inR k (A.dif a b)) (.v (.int k (A.dif a b)))
    | .mul => .one' (A.inR k (A.mul a b)) (.v (.int k (A.mul a b)))
    | op => .one (.v (.int k (A.bin op k a b)))
  else .one (.v (.int k (A.bin op k a b)))
def exShift (A : Sy) (ck : Bool) (k : IntKind) (op : BinOp) (a b : Int) : Er := bif ck then match op with
    | .shl => .one' (A.nn b ∧ A.inR k (A.shl a b)) (.v (.int k (A.shl a b)))
    | op => .one' (A.nn b) (.v (.int k (A.bin op k a b)))
  else .one' (A.nn b) (.v (.int k (A.bin op k a b)))
def exBin (A : Sy) (ck : Bool) (u : Un) (op : BinOp) : SV → SV → Er
  | .v (.int k a), .v (.int k' b) => match op with
    | .shl => exShift A ck k .shl a b
    | .shr => exShift A ck k .shr a b
    | .quo | .rem => bif IntKind.same k k' then .one' (A.nz b) (.v (.int k (A.bin op k a b))) else none
    | .add | .sub | .mul | .and | .or | .xor | .andNot => bif IntKind.same k k' then exArith A ck k op a b else none
    | _ => bif IntKind.same k k' then .one (.v (.bool (A.cmp op a b))) else none
  | .v (.string a), .v (.string b) => match op with
    | .eql => .one (.v (.bool (A.seq a b)))
    | .neq => .one (.v (.bool (A.not (A.seq a b))))
    | .add => .one' (A.fit (A.add (A.slen a) (A.slen b))) (.v (.string (A.scat a b)))
    | _ => none
  | .v (.bool a), .v (.bool b) => bif isBool u then exBool A op a b else none
  | .lit a, .v (.bool b) => bif isBool u then exBool A op a b else none
  | .v (.bool a), .lit b => bif isBool u then exBool A op a b else none
  | .ptr _ _, .v (.pointer none) => match u, op with
    | .ptr _, .eql => .one (.lit false)
    | .ptr _, .neq => .one (.lit true)
    | _, _ => none
  | _, _ => none
/-- Cells of two, compared. -/
def eqSV (A : Sy) : List CK → List SV → List SV → Option Bool
  | [], [], [] => some true
  | .int q :: ks, .v (.int k a) :: l, .v (.int k' b) :: m => bif IntKind.same q k && IntKind.same q k' then match eqSV A ks l m with
    | some r => some (A.and (A.cmp .eql a b) r)
    | none => none
    else none
  | .bool :: ks, .v (.bool a) :: l, .v (.bool b) :: m => match eqSV A ks l m with
    | some r => some (A.and (A.beq a b) r)
    | none => none
  | .bool :: ks, .lit a :: l, .v (.bool b) :: m => match eqSV A ks l m with
    | some r => some (A.and (A.beq a b) r)
    | none => none
  | .bool :: ks, .v (.bool a) :: l, .lit b :: m => match eqSV A ks l m with
    | some r => some (A.and (A.beq a b) r)
    | none => none
  | .bool :: ks, .lit a :: l, .lit b :: m => match eqSV A ks l m with
    | some r => some (A.and (A.beq a b) r)
    | none => none
  | _, _, _ => none
def exEq (A : Sy) (ks : List CK) (op : BinOp) (l m : List SV) : Er := match ks with
  | [] => none
  | _ => match eqSV A ks l m with
    | some b => match op with
      | .eql => .one (.v (.bool b))
      | .neq => .one (.v (.bool (A.not b)))
      | _ => none
    | none => none
def exBin2 (C : Cx) (op : BinOp) (t : TypeId) (a b : SV) : Er := match a with
  | .agg l => match b with
    | .agg m => exEq C.A (C.td t).eq op l m
    | _ => none
  | _ => exBin C.A C.ck (C.td t).un op a b
def exUn (A : Sy) (ck : Bool) (op : UnOp) : SV → Er
  | .lit b => match op with | .not => .one (.lit (!b)) | _ => none
  | .v (.bool b) => match op with | .not => .one (.v (.bool (A.not b))) | _ => none
  | .v (.int k z) => match op with | .neg => bif ck then .one' (A.inR k (A.neg z)) (.v (.int k (A.neg z))) else .one (.v (.int k (A.una .neg k z))) | .xor => .one (.v (.int k (A.una .xor k z))) | _ => none
  | _ => none
def exLoad (C : Cx) (ob : Nat → SO) (t : TypeId) : SV → Er
  | .ptr id off => match ob id with
    | .cells _ l => bif Nat.ble 1 (C.td t).size && Nat.ble (off + (C.td t).size) l.length then
        bif (C.td t).agg then .one (.agg ((l.drop off).take (C.td t).size)) else match l[off]? with
          | some x => .one x
          | none => none
      else none
    | _ => none
  | .elt id i => match ob id with
    | .irow _ k l => bif Nat.ble 1 (C.td t).size && !(C.td t).agg then .one (.v (.int k (C.A.lget l i))) else none
    | _ => none
  | .sel id i sz off => match ob id with
    | .srow _ T d => bif Nat.ble 1 (C.td t).size && (Nat.beq sz T.size && Nat.ble (off + (C.td t).size) (svOf C.A T (C.A.dat d i)).length) then
        bif (C.td t).agg then .one (.agg (((svOf C.A T (C.A.dat d i)).drop off).take (C.td t).size)) else match (svOf C.A T (C.A.dat d i))[off]? with
          | some x => .one x
          | none => none
      else none
    | _ => none
  | .ip l => bif Nat.ble 1 (C.td t).size && Nat.ble (C.td t).size l.length then
        bif (C.td t).agg then .one (.agg (l.take (C.td t).size)) else match l with
          | x :: _ => .one x
          | [] => none
      else none
  | _ => none
def exField (C : Cx) (t : TypeId) (f : Nat) (x : SV) : Er := match (C.td t).un with
  | .struct fs => match fs[f]? with
    | some (off, ft) => bif Nat.ble 1 (C.td ft).size then match x with
      | .ptr id o => .one (.ptr id (o + off))
      | .sel id i sz o => .one (.sel id i sz (o + off))
      | .ip l => .one (.ip (l.drop off))
      | .agg l => bif Nat.ble (off + (C.td ft).size) l.length then
          bif (C.td ft).agg then .one (.agg ((l.drop off).take (C.td ft).size)) else match l[off]? with
            | some x => .one x
            | none => none
        else none
      | _ => none
      else none
    | none => none
  | _ => none
def exIndexAddr (C : Cx) (ob : Nat → SO) (t : TypeId) (x : SV) : SV → Er
  | .v (.int _ i) => match (C.td t).un with
    | .slice e => match x with
      | .hdl id => match ob id with
        | .irow _ _ l => bif Nat.beq (C.td e).size 1 then .one' (C.A.inb i (C.A.llen l)) (.elt id i) else none
        | .srow _ T d => bif Nat.ble 1 (C.td e).size && Nat.beq T.size (C.td e).size then .one' (C.A.inb i (C.A.dlen d)) (.sel id i T.size 0) else none
        | _ => none
      | .sub id lo len => bif Nat.beq (C.td e).size 1 then .one' (C.A.inb i len) (.elt id (C.A.add lo i)) else none
      | .iimm k l => bif Nat.beq (C.td e).size 1 then .one' (C.A.inb i (C.A.llen l)) (.ip [.v (.int k (C.A.lget l i))]) else none
      | .imm E d => bif Nat.ble 1 (C.td e).size && Nat.beq E.size (C.td e).size then .one' (C.A.inb i (C.A.dlen d)) (.ip (svOf C.A E (C.A.dat d i))) else none
      | .csl id n => match i with
        | .ofNat m => bif Nat.ble 1 (C.td e).size && Nat.blt m n then .one (.ptr id (m * (C.td e).size)) else none
        | _ => none
      | _ => none
    | .array n e => match x, i with
      | .ptr id o, .ofNat m => bif Nat.ble 1 (C.td e).size && Nat.blt m n then .one (.ptr id (o + m * (C.td e).size)) else none
      | .ip l, .ofNat m => bif Nat.ble 1 (C.td e).size && Nat.blt m n then .one (.ip (l.drop (m * (C.td e).size))) else none
      | _, _ => none
    | _ => none
  | _ => none
def exLen (C : Cx) (ob : Nat → SO) (t : TypeId) (x : SV) : Er := match (C.td t).un with
  | .slice _ => match x with
    | .iimm _ l => .one (.v (.int .i64 (C.A.llen l)))
    | .hdl id => match ob id with
      | .irow _ _ l => .one (.v (.int .i64 (C.A.llen l)))
      | .srow _ _ d => .one (.v (.int .i64 (C.A.dlen d)))
      | _ => none
    | .sub _ _ len => .one (.v (.int .i64 len))
    | .imm _ d => .one (.v (.int .i64 (C.A.dlen d)))
    | .csl _ n => bif Nat.ble n 16777216 then .one (.v (.int .i64 n)) else none
    | .v (.slice none 0 0) => .one (.v (.int .i64 0))
    | _ => none
  | .str => match x with
    | .v (.string s) => .one (.v (.int .i64 (C.A.slen s)))
    | _ => none
  | _ => none
def foldInts (f : Int → Int → Int) (k : IntKind) : Int → List SV → Er
  | z, [] => .one (.v (.int k z))
  | z, .v (.int k' y) :: l => bif IntKind.same k k' then foldInts f k (f z y) l else none
  | _, _ => none
def exConvert (C : Cx) (ob : Nat → SO) (n : Nat) (src dst : TypeId) (x : SV) : Er := match (C.td src).un, (C.td dst).un with
  | .int _, .int k => match x with
    | .v (.int k' z) => bif IntKind.sub k' k then .one (.v (.int k z)) else .one (.v (.int k (C.A.cnv k z)))
    | _ => none
  | .slice e, .str => match (C.td e).un with
    | .int .u8 => (intsOf C.A ob .u8 x).bind fun l => Er.one (.v (.string (C.A.str l)))
    | _ => none
  | .str, .str => match x with
    | .v (.string s) => .one (.v (.string s))
    | _ => none
  | .str, .slice e => match (C.td e).un with
    | .int .u8 => match x with
      | .v (.string s) => bif Nat.beq (C.td e).size 1 then some (none, .ret (.hdl n) [(0, .irow e .u8 (C.A.bytes s))]) else none
      | _ => none
    | _ => none
  | _, _ => none
def loOf (ev : Operand → SV) : Option Operand → SV
  | some l => ev l
  | none => .v (.int .i64 0)
def hiOf (ev : Operand → SV) : Option Operand → Option SV
  | some l => some (ev l)
  | none => none
/-- A part of a slice. -/
def exSlice (C : Cx) (ob : Nat → SO) (e : TypeId) (x lo : SV) (hi : Option SV) : Er := match lo with
  | .v (.int _ a) => match x with
    | .iimm k l => bif Nat.beq (C.td e).size 1 then match hi with
      | none => .one' (C.A.le3 0 a (C.A.llen l)) (.iimm k (C.A.lsub l a (C.A.dif (C.A.llen l) a)))
      | some (.v (.int _ b)) => .one' (C.A.le3 0 a b ∧ C.A.le3 0 b (C.A.llen l)) (.iimm k (C.A.lsub l a (C.A.dif b a)))
      | _ => none
      else none
    | .imm T d => bif Nat.ble 1 (C.td e).size && Nat.beq T.size (C.td e).size then match hi with
      | none => .one' (C.A.le3 0 a (C.A.dlen d)) (.imm T (C.A.dsub d a (C.A.dif (C.A.dlen d) a)))
      | some (.v (.int _ b)) => .one' (C.A.le3 0 a b ∧ C.A.le3 0 b (C.A.dlen d)) (.imm T (C.A.dsub d a (C.A.dif b a)))
      | _ => none
      else none
    | .hdl id => match ob id with
      | .irow _ _ l => bif Nat.beq (C.td e).size 1 then match hi with
        | none => .one' (C.A.le3 0 a (C.A.llen l)) (.sub id a (C.A.dif (C.A.llen l) a))
        | some (.v (.int _ b)) => .one' (C.A.le3 0 a b ∧ C.A.le3 0 b (C.A.llen l)) (.sub id a (C.A.dif b a))
        | _ => none
        else none
      | _ => none
    | .sub id o n => bif Nat.beq (C.td e).size 1 then match hi with
      | none => .one' (C.A.le3 0 a n) (.sub id (C.A.add o a) (C.A.dif n a))
      | some (.v (.int _ b)) => .one' (C.A.le3 0 a b ∧ C.A.le3 0 b n) (.sub id (C.A.add o a) (C.A.dif b a))
      | _ => none
      else none
    | _ => none
  | _ => none
/-- Nothing to append to, as the text has it. -/
def nilSl : Operand → Bool
  | .const (.slice none 0 0) => true
  | _ => false
/-- A function value that is known. -/
def SV.fn : SV → Option FuncId
  | .v (.func (.func f) b c) => bif Nat.beq b.size 0 && Nat.beq c.size 0 then some f else none
  | _ => none
def fnOf (ev : Operand → SV) : Operand → Option FuncId
  | .func f => some f
  | x => (ev x).fn
/-- What a type is, as data; its zero. -/
def tyC (C : Cx) : Nat → TypeId → Option Ty
  | 0, _ => none
  | n + 1, t => match (C.td t).un with
    | .int k => some (.int k)
    | .bool => some .bool
    | .str => some .str
    | .slice e => (tyC C n e).bind fun T => some (.sl T)
    | .struct fs => (tysC (fun p => tyC C n p.2) fs).bind fun Ts => some (.st Ts)
    | .array m e => (tyC C n e).bind fun T => some (.st (List.replicate m T))
    | _ => none
where tysC (f : Nat × TypeId → Option Ty) : List (Nat × TypeId) → Option (List Ty)
  | [] => some []
  | p :: l => (f p).bind fun T => (tysC f l).bind fun Ts => some (T :: Ts)
mutual
def zeroD : Ty → Dat
  | .int _ => .int 0
  | .bool => .bool false
  | .str => .str ByteArray.empty
  | .sl _ => .list []
  | .st fs => .agg (zeroDs fs)
def zeroDs : List Ty → List Dat
  | [] => []
  | t :: ts => zeroD t :: zeroDs ts
end
mutual
def zeroV : Ty → List Value
  | .int k => [.int k 0]
  | .bool => [.bool false]
  | .str => [.string ByteArray.empty]
  | .sl _ => [.slice none 0 0]
  | .st fs => zeroVs fs
def zeroVs : List Ty → List Value
  | [] => []
  | t :: ts => zeroV t ++ zeroVs ts
end
def sameZ : List Value → List Value → Bool
  | [], [] => true
  | x :: l, y :: m => (match x, y with
    | .int k (.ofNat 0), .int k' (.ofNat 0) => IntKind.same k k'
    | .bool false, .bool false => true
    | .string s, .string s' => Nat.beq s.size 0 && Nat.beq s'.size 0
    | .slice none 0 0, .slice none 0 0 => true
    | _, _ => false) && sameZ l m
  | _, _ => false
def zeroIs (T : Ty) (l : List Value) : Bool := sameZ (zeroV T) l
/-- An operation that makes memory at most. ob: what is seen of memory; n: the next number. -/
def exec (C : Cx) (ev : Operand → SV) (ob : Nat → SO) (n : Nat) : Op → Er
  | .move x => .one (ev x)
  | .assign x => .one (ev x)
  | .pick c a b => match ev c with
    | .lit c => cond c (.one (ev a)) (.one (ev b))
    | .v (.bool c) => some (none, .ite (c = true) (.ret (ev a) []) (.ret (ev b) []))
    | _ => none
  | .box t x => bif Nat.ble 1 (C.td t).size && Nat.beq (ev x).flat.length (C.td t).size then some (none, .ret (.ptr n 0) [(0, .cells t (ev x).flat)]) else none
  | .alloc t => bif Nat.ble 1 (C.td t).size then some (none, .ret (.ptr n 0) [(0, .cells t (zeros C t))]) else none
  | .build t ps => bif buildable C (C.td t).un then (fillS (placeOf C t) (zeros C t) (ps.toList.map fun p => (p.1, ev p.2))).bind fun l => Er.one (.agg l) else none
  | .buildSlice t len ps => match (C.td t).un with
    | .slice e => bif Nat.ble 1 (C.td e).size && Nat.ble (len * (C.td e).size) 16777216 then (fillS (fun i => some (i * (C.td e).size, (C.td e).size)) (zerosN C e len) (ps.toList.map fun p => (p.1, ev p.2))).bind fun l =>
      match (C.td e).un with
      | .int k => bif Nat.beq (C.td e).size 1 then (allInts k l).bind fun zs => some (none, .ret (.hdl n) [(0, .irow e k zs)]) else none
      | _ => some (none, .ret (.csl n len) [(0, .cells e l)])
      else none
    | _ => none
  | .load t a => exLoad C ob t (ev a)
  | .nilCheck x => match ev x with
    | .ptr i o => .one (.ptr i o)
    | .elt i o => .one (.elt i o)
    | .sel i z s o => .one (.sel i z s o)
    | .ip l => .one (.ip l)
    | _ => none
  | .index t x i => match (C.td t).un, ev x, ev i with
    | .array m e, .agg l, .v (.int _ (.ofNat j)) => bif Nat.ble 1 (C.td e).size && (Nat.blt j m && Nat.ble (j * (C.td e).size + (C.td e).size) l.length) then
        bif (C.td e).agg then .one (.agg ((l.drop (j * (C.td e).size)).take (C.td e).size)) else match l[j * (C.td e).size]? with
          | some x => .one x
          | none => none
      else none
    | _, _, _ => none
  | .makeFunc fn first caps => match fn with
    | .func f => bif Nat.beq first.size 0 then .one (.clo f (caps.toList.map ev)) else none
    | _ => none
  | .binOp op t x y _ => exBin2 C op t (ev x) (ev y)
  | .unOp op _ x => exUn C.A C.ck op (ev x)
  | .convert src dst x => exConvert C ob n src dst (ev x)
  | .makeSlice t l c => match (C.td t).un, ev l, ev c with
    | .slice e, .v (.int _ a), .v (.int _ b) => match (C.td e).un with
      | .int k => bif Nat.beq (C.td e).size 1 && isZero k (C.td e).zero then some (some (C.A.le3 0 a b ∧ C.A.room (C.td e).bytes b), .ret (.hdl n) [(0, .irow e k (C.A.lrep a))]) else none
      | _ => match tyC C 8 e with
        | some T => bif Nat.ble 1 (C.td e).size && (Nat.beq T.size (C.td e).size && zeroIs T (C.td e).zero) then some (some (C.A.le3 0 a b ∧ C.A.room (C.td e).bytes b), .ret (.hdl n) [(0, .srow e T (C.A.drep (zeroD T) a))]) else none
        | none => none
    | _, _, _ => none
  | .fieldAddr t x f => match ev x with
    | .agg _ => none
    | x => exField C t f x
  | .field t x f => match ev x with
    | .agg l => exField C t f (.agg l)
    | _ => none
  | .indexAddr t x i => exIndexAddr C ob t (ev x) (ev i)
  | .slice t x lo hi mx => match mx with
    | some _ => none
    | none => match (C.td t).un with
      | .slice e => exSlice C ob e (ev x) (loOf ev lo) (hiOf ev hi)
      | .ptr ar => match (C.td ar).un with
        | .array m e => match ev x, lo, hi with
          | .ptr id off, none, none => bif Nat.beq (C.td e).size 1 && (Nat.ble 1 m && Nat.ble m 16777216) then .one (.psl id off m) else none
          | _, _, _ => none
        | _ => none
      | .array m e => match ev x, lo, hi with
        | .ptr id off, none, none => bif Nat.beq (C.td e).size 1 && (Nat.ble 1 m && Nat.ble m 16777216) then .one (.psl id off m) else none
        | _, _, _ => none
      | _ => none
  | .extract x i => match ev x with
    | .tup l => match l[i]? with
      | some x => .one x
      | none => none
    | _ => none
  | .call c => match c.callee with
    | .builtin .len => match c.args.toList, c.argTypes.toList with
      | [x], [t] => exLen C ob t (ev x)
      | _, _ => none
    | .builtin .append => match c.args.toList, c.argTypes.toList with
      | [x, y], [t, t'] => match nilSl x with
        | true => bif Nat.beq t t' then match (C.td t).un with
          | .slice e => match (C.td e).un with
            | .int k => match intsOf C.A ob k (ev y) with
              | some m => bif Nat.beq (C.td e).size 1 && isZero k (C.td e).zero then some (some (C.A.room (C.td e).bytes (C.A.llen m)), .ret (.hdl n) [(0, .irow e k m)]) else none
              | none => none
            | _ => none
          | _ => none
          else none
        | false => none
      | _, _ => none
    | .builtin .max => match c.args.toList with
      | x :: xs => match ev x with
        | .v (.int k z) => foldInts C.A.max k z (xs.map ev)
        | _ => none
      | _ => none
    | .builtin .min => match c.args.toList with
      | x :: xs => match ev x with
        | .v (.int k z) => foldInts C.A.min k z (xs.map ev)
        | _ => none
      | _ => none
    | .value fo => (fnOf ev fo).bind fun f => match assoc C.G f with
      | some c' => (avArgs C.A (bif c'.al then (fun _ => .gone) else ob) c'.tys (c.args.toList.map ev)).bind fun as => some (c'.pre as, (c'.res as).shift n)
      | none => none
    | _ => none
  | _ => none
def Fm.get : Fm → Nat → SV
  | .e, _ => .any
  | .n x l r, i => match Nat.beq i 0 with
    | true => x
    | false => match Nat.beq (i % 2) 1 with
      | true => l.get (i / 2)
      | false => r.get (i / 2 - 1)
def Fm.set : Fm → Nat → SV → Fm
  | .e, _, _ => .e
  | .n x l r, i, y => match Nat.beq i 0 with
    | true => .n y l r
    | false => match Nat.beq (i % 2) 1 with
      | true => .n x (l.set (i / 2) y) r
      | false => .n x l (r.set (i / 2 - 1) y)
def Fm.has : Fm → Nat → Bool
  | .e, _ => false
  | .n _ l r, i => bif Nat.beq i 0 then true else bif Nat.beq (i % 2) 1 then l.has (i / 2) else r.has (i / 2 - 1)
def Fm.map (f : SV → SV) : Fm → Fm
  | .e => .e
  | .n x l r => .n (f x) (l.map f) (r.map f)
def Fm.all (p : SV → Bool) : Fm → Bool
  | .e => true
  | .n x l r => p x && (l.all p && r.all p)
/-- So many slots, that hold nothing yet. -/
def Fm.rep : List Unit → Nat → Fm
  | [], _ => .e
  | _ :: k, m => match Nat.beq m 0 with
    | true => .e
    | false => .n (.tup []) (rep k (m / 2)) (rep k ((m - 1) / 2))
def Fm.sets : Fm → Nat → List SV → Fm
  | t, _, [] => t
  | t, i, x :: l => (t.set i x).sets (i + 1) l
def deep : List Unit := [(), (), (), (), (), (), (), (), (), (), (), ()]
/-- Those from k on are forgotten. -/
def Fm.keep (k : Nat) : Nat → Nat → Fm → Fm
  | _, _, .e => .e
  | a, b, .n x l r => match Nat.blt a k with
    | true => .n x (keep k (a + b) (2 * b) l) (keep k (a + 2 * b) (2 * b) r)
    | false => .n .any (keep k (a + b) (2 * b) l) (keep k (a + 2 * b) (2 * b) r)
def AS.ev (s : AS) : Operand → SV
  | .tmp t => s.slots.get t
  | .const v => .ofLit v
  | .global g => .v (.pointer (some ⟨g, 0, none⟩))
  | .func f => .v (.func (.func f) #[] #[])
def AS.ob (s : AS) (id : Nat) : SO := s.objs.getD id .gone
def AS.put (s : AS) (dst : Option Tmp) (x : SV) : AS := match dst with
  | some d => { s with slots := s.slots.set d x }
  | none => s
def AS.new (s : AS) (os : List (Nat × SO)) : AS := { s with objs := s.objs ++ os.map (·.2) }
/-- Two ways, by what is known to be. -/
structure BrP (c X Y : Prop) : Prop where
  yes : c → X
  no : ¬ c → Y
structure BrB (b c : Bool) (X Y : Prop) : Prop where
  yes : b = c → X
  no : b = !c → Y
def Out.vc : Out → (SV → List (Nat × SO) → Prop) → Prop
  | .ret sv os, K => K sv os
  | .ite c a b, K => BrP c (a.vc K) (b.vc K)
def Er.vc (e : Er) (K : SV → List (Nat × SO) → Prop) : Prop := match e with
  | some (some c, rt) => c ∧ rt.vc K
  | some (none, rt) => rt.vc K
  | none => False
mutual
def SV.kill (id : Nat) : SV → SV
  | .ptr i o => bif Nat.beq i id then .any else .ptr i o
  | .elt i o => bif Nat.beq i id then .any else .elt i o
  | .hdl i => bif Nat.beq i id then .any else .hdl i
  | .sub i a b => bif Nat.beq i id then .any else .sub i a b
  | .csl i n => bif Nat.beq i id then .any else .csl i n
  | .sel i z s o => bif Nat.beq i id then .any else .sel i z s o
  | .psl i o n => bif Nat.beq i id then .any else .psl i o n
  | .clo f l => .clo f (kills id l)
  | .ip l => .ip (kills id l)
  | .agg l => .agg (kills id l)
  | .tup l => .tup (kills id l)
  | x => x
def kills (id : Nat) : List SV → List SV
  | [] => []
  | x :: l => x.kill id :: kills id l
end
def SO.kill (id : Nat) : SO → SO
  | .cells t l => .cells t (kills id l)
  | x => x
def AS.kill (s : AS) (id : Nat) : AS := ⟨s.slots.map (SV.kill id), s.objs.map (SO.kill id), s.sav.map (Fm.map (SV.kill id))⟩
def AS.setObj (s : AS) (id : Nat) (o : SO) : AS := { s with objs := s.objs.set id o }
/-! ### Memory of the call's own that nobody writes any more -/
def frzHdl (o : SO) : SV := match o with
  | .irow _ k l => .iimm k l
  | .srow _ T d => .imm T d
  | _ => .any
def frzSub (A : Sy) (o : SO) (a b : Int) : SV := match o with
  | .irow _ k l => .iimm k (A.lsub l a b)
  | _ => .any
mutual
def SV.frz (A : Sy) (id : Nat) (o : SO) : SV → SV
  | .hdl i => match Nat.beq i id with
    | true => frzHdl o
    | false => .hdl i
  | .sub i a b => match Nat.beq i id with
    | true => frzSub A o a b
    | false => .sub i a b
  | .ptr i n => bif Nat.beq i id then .any else .ptr i n
  | .elt i n => bif Nat.beq i id then .any else .elt i n
  | .csl i n => bif Nat.beq i id then .any else .csl i n
  | .sel i z s n => bif Nat.beq i id then .any else .sel i z s n
  | .psl i m n => bif Nat.beq i id then .any else .psl i m n
  | .clo f l => .clo f (frzL A id o l)
  | .ip l => .ip (frzL A id o l)
  | .agg l => .agg (frzL A id o l)
  | .tup l => .tup (frzL A id o l)
  | x => x
def frzL (A : Sy) (id : Nat) (o : SO) : List SV → List SV
  | [] => []
  | x :: l => x.frz A id o :: frzL A id o l
end
def SO.frz (A : Sy) (id : Nat) (o : SO) : SO → SO
  | .cells t l => .cells t (frzL A id o l)
  | x => x
def AS.frzO (A : Sy) (s : AS) (id : Nat) (o : SO) : AS := ⟨s.slots.map (SV.frz A id o), (s.objs.map (SO.frz A id o)).set id .gone, s.sav.map (Fm.map (SV.frz A id o))⟩
/-- Rows are given up: nobody writes them any more. -/
def frz2 (A : Sy) : List Nat → AS × List SV → AS × List SV
  | [], p => p
  | id :: ids, (s, xs) => frz2 A ids (match s.ob id with
    | .irow E k l => (s.frzO A id (.irow E k l), frzL A id (.irow E k l) xs)
    | .srow E T d => (s.frzO A id (.srow E T d), frzL A id (.srow E T d) xs)
    | _ => (s, xs))
def hdlIds : List SV → List Nat
  | [] => []
  | x :: l => match x with
    | .hdl i => i :: hdlIds l
    | .sub i _ _ => i :: hdlIds l
    | _ => hdlIds l
def argIds : List SV → List Nat
  | [] => []
  | x :: l => match x with
    | .hdl i => i :: argIds l
    | .sub i _ _ => i :: argIds l
    | .agg m => hdlIds m ++ argIds l
    | .tup m => hdlIds m ++ argIds l
    | _ => argIds l
mutual
/-- A slice that was written out, as a row. -/
def SV.row (id : Nat) : SV → SV
  | .csl i n => bif Nat.beq i id then .hdl i else .csl i n
  | .ptr i n => bif Nat.beq i id then .any else .ptr i n
  | .elt i n => bif Nat.beq i id then .any else .elt i n
  | .sel i z s n => bif Nat.beq i id then .any else .sel i z s n
  | .psl i m n => bif Nat.beq i id then .any else .psl i m n
  | .sub i m n => bif Nat.beq i id then .any else .sub i m n
  | .clo f l => .clo f (rowL id l)
  | .ip l => .ip (rowL id l)
  | .agg l => .agg (rowL id l)
  | .tup l => .tup (rowL id l)
  | x => x
def rowL (id : Nat) : List SV → List SV
  | [] => []
  | x :: l => x.row id :: rowL id l
end
def SO.row (id : Nat) : SO → SO
  | .cells t l => .cells t (rowL id l)
  | x => x
def AS.toRow (A : Sy) (s : AS) (id n : Nat) (T : Ty) : AS := match s.ob id with
  | .cells _ l => match (frz2 A (hdlIds l) (s, [])).1.ob id with
    | .cells E l' => match datRows A (fun _ => .gone) T n l' with
      | some ds => bif Nat.ble 1 T.size && (Nat.beq l'.length (n * T.size) && Nat.ble n 16777216) then
          ⟨(frz2 A (hdlIds l) (s, [])).1.slots.map (SV.row id), ((frz2 A (hdlIds l) (s, [])).1.objs.map (SO.row id)).set id (.srow E T (.list ds)), (frz2 A (hdlIds l) (s, [])).1.sav.map (Fm.map (SV.row id))⟩
        else (frz2 A (hdlIds l) (s, [])).1
      | none => (frz2 A (hdlIds l) (s, [])).1
    | _ => (frz2 A (hdlIds l) (s, [])).1
  | _ => s
def AS.asRow (A : Sy) (s : AS) (T : Ty) (x : SV) : AS := match x with
  | .csl id n => s.toRow A id n T
  | _ => s
def rowDat (ob : Nat → SO) (T : Ty) : SV → Option Dat
  | .imm e d => bif T.same e then some d else none
  | .hdl id => match ob id with
    | .srow _ e d => bif T.same e then some d else none
    | _ => none
  | .v (.slice none 0 0) => some (.list [])
  | _ => none
def oneSV : SV → Bool
  | .any => false
  | .agg _ => false
  | .tup _ => false
  | _ => true
/-- Append to a row of structs, of slices. -/
def appRow (C : Cx) (s : AS) (dst : Option Tmp) (e : TypeId) (T : Ty) (x : SV) (y : SV) (K : AS → Prop) : Prop := bif C.fz && (Nat.ble 1 T.size && Nat.beq T.size (C.td e).size) then match rowDat s.ob T y with
  | some d' => match x with
    | .hdl id => match s.ob id with
      | .srow E T' d => bif Nat.beq E e && T.same T' then C.A.room (C.td e).bytes (C.A.add (C.A.dlen d) (C.A.dlen d')) ∧ K (((s.kill id).setObj id (.srow E T (C.A.dapp d d'))).put dst (.hdl id)) else False
      | _ => False
    | .v (.slice none 0 0) => C.A.room (C.td e).bytes (C.A.dlen d') ∧ K ((s.new [(0, .srow e T (C.A.dapp (.list []) d'))]).put dst (.hdl s.objs.length))
    | _ => False
  | none => False
  else False
/-- An operation that may write. -/
def eff (C : Cx) (s : AS) (dst : Option Tmp) (op : Op) (K : AS → Prop) : Prop := match op with
  | .convert src d x => match Nat.beq src d with
    | true => match (C.td src).un with
      | .slice e => match (C.td e).un with
        | .int .u8 => match s.ev x with
          | .hdl id => match s.ob id with
            | .irow _ _ (_ :: _) => K (s.put dst (.hdl id))
            | _ => False
          | _ => False
        | _ => False
      | _ => (exec C s.ev s.ob s.objs.length op).vc fun sv os => K ((s.new os).put dst sv)
    | false => (exec C s.ev s.ob s.objs.length op).vc fun sv os => K ((s.new os).put dst sv)
  | .store t a x => match s.ev a with
    | .ptr id off => match s.ob id with
      | .cells t' l => bif Nat.ble 1 (C.td t).size && (Nat.beq (s.ev x).flat.length (C.td t).size && (Nat.ble (off + (C.td t).size) l.length && (s.ev x).flat.all oneSV)) then
          K ((s.setObj id (.cells t' (laid l off (s.ev x).flat))).put dst (.tup []))
        else False
      | _ => False
    | .elt id i => match s.ob id, s.ev x with
      | .irow E k l, .v (.int k' z) => bif IntKind.same k k' && Nat.beq (C.td t).size 1 then K ((s.setObj id (.irow E k (C.A.lset l i z))).put dst (.tup [])) else False
      | _, _ => False
    | .sel id i sz off => match frz2 C.A (hdlIds (s.ev x).flat) (s, [s.ev x]) with
      | (s1, [v]) => match s1.ob id with
        | .srow E T d => bif C.fz && (Nat.beq sz T.size && (Nat.ble 1 (C.td t).size && (Nat.beq v.flat.length (C.td t).size && Nat.ble (off + (C.td t).size) T.size))) then
            match datOf C.A (fun _ => .gone) T (laid (svOf C.A T (C.A.dat d i)) off v.flat) with
            | some u => K ((s1.setObj id (.srow E T (C.A.dset d i u))).put dst (.tup []))
            | none => False
          else False
        | _ => False
      | _ => False
    | _ => False
  | .call c => match c.callee with
    | .builtin .append => match c.args.toList, c.argTypes.toList with
      | [x, y], [t, t'] => bif Nat.beq t t' then match (C.td t).un with
        | .slice e => match (C.td e).un with
          | .int k => match s.ev x with
            | .hdl id => match s.ob id with
              | .irow E k' l => bif Nat.beq E e && IntKind.same k k' then match intsOf C.A s.ob k (s.ev y) with
                | some m => bif Nat.beq (C.td e).size 1 && isZero k (C.td e).zero then C.A.room (C.td e).bytes (C.A.add (C.A.llen l) (C.A.llen m)) ∧ K (((s.kill id).setObj id (.irow E k (C.A.lapp l m))).put dst (.hdl id)) else False
                | none => False
                else False
              | _ => False
            | .v (.slice none 0 0) => match intsOf C.A s.ob k (s.ev y) with
              | some m => bif Nat.beq (C.td e).size 1 && isZero k (C.td e).zero then C.A.room (C.td e).bytes (C.A.llen m) ∧ K ((s.new [(0, .irow e k m)]).put dst (.hdl s.objs.length)) else False
              | none => False
            | _ => False
          | _ => match tyC C 8 e with
            | some T => match frz2 C.A [] ((s.asRow C.A T (s.ev y)).asRow C.A T ((s.asRow C.A T (s.ev y)).ev x), []) with
              | (s2, _) => appRow C s2 dst e T (s2.ev x) (s2.ev y) K
            | none => False
        | _ => False
        else False
      | _, _ => False
    | .builtin .copy => match c.args.toList, c.argTypes.toList with
      | [x, y], [t, _] => match (C.td t).un with
        | .slice e => match (C.td e).un with
          | .int k => bif Nat.beq (C.td e).size 1 then match intsOf C.A s.ob k (s.ev y) with
            | some m => match s.ev x with
              | .hdl id => match s.ob id with
                | .irow E k' l => bif IntKind.same k k' then K ((s.setObj id (.irow E k (C.A.lcpy l 0 (C.A.llen l) m))).put dst .any) else False
                | _ => False
              | .sub id lo len => match s.ob id with
                | .irow E k' l => bif IntKind.same k k' then K ((s.setObj id (.irow E k (C.A.lcpy l lo len m))).put dst .any) else False
                | _ => False
              | _ => False
            | none => False
            else False
          | _ => False
        | _ => False
      | _, _ => False
    | .value fo => match s.ev fo with
      | .clo f l => match assoc C.I f with
        | some run => run (c.args.toList.map s.ev ++ l) s fun sv s => K (s.put dst sv)
        | none => False
      | _ => match fnOf s.ev fo with
        | some f => match assoc C.I f with
          | some run => run (c.args.toList.map s.ev) s fun sv s => K (s.put dst sv)
          | none => (exec C s.ev s.ob s.objs.length op).vc fun sv os => K ((s.new os).put dst sv)
        | none => False
    | _ => (exec C s.ev s.ob s.objs.length op).vc fun sv os => K ((s.new os).put dst sv)
  | op => (exec C s.ev s.ob s.objs.length op).vc fun sv os => K ((s.new os).put dst sv)
/-- A guard, asked: what it is known to be. -/
def ask (s : AS) (ops : List Oper) (g : Option (Nat × Bool)) (yes no : AS → Prop) : Prop := match g with
  | none => yes s
  | some (j, want) => match (ops[j]?).bind (·.dst) with
    | some t => match s.slots.get t with
      | .lit b => match b == want with
        | true => yes s
        | false => no s
      | .v (.bool b) => BrB b want (yes (s.put (some t) (.lit want))) (no (s.put (some t) (.lit !want)))
      | .tup [] => no s
      | _ => False
    | none => False
/-- A region's operations, in the text's order. -/
def vcOps (C : Cx) (ops : List Oper) : List Oper → (AS → Prop) → AS → Prop
  | [], K, s => K s
  | o :: rest, K, s => ask s ops o.guard (fun s => eff C s o.dst o.op (vcOps C ops rest K)) (fun s => vcOps C ops rest K (s.put o.dst (.tup [])))
/-- What an operation waits for. -/
def ons (o : Oper) : List Nat := o.after.toList.filterMap fun e => bif Region.binds .any e then some e.on else none
/-- All that stands behind an operation, as bits. -/
def clMask (cls : List Nat) (l : List Nat) : Nat := l.foldl (fun s k => Nat.lor (Nat.lor s (Nat.shiftLeft 1 k)) (cls.getD k 0)) 0
def clAll : List Oper → List Nat → List Nat
  | [], cls => cls
  | o :: l, cls => clAll l (cls ++ [clMask cls (ons o)])
/-- What an operation of a region that draws its order sees of memory. -/
def visOb (s : AS) (n0 : Nat) (cre : List Nat) (m : Nat) (id : Nat) : SO :=
  bif Nat.blt id n0 then s.ob id else bif Nat.testBit m (cre.getD (id - n0) 0) then s.ob id else .gone
def hasI {α : Type} (I : List (FuncId × α)) (f : FuncId) : Bool := match assoc I f with
  | some _ => true
  | none => false
def isEff {α : Type} (I : List (FuncId × α)) : Op → Bool
  | .store .. => true
  | .convert src d _ => Nat.beq src d
  | .call c => match c.callee with
    | .builtin .append => match c.args.toList with
      | x :: _ => !nilSl x
      | [] => true
    | .builtin .copy => true
    | .value (.func f) => hasI I f
    | .value _ => true
    | _ => false
  | _ => false
def nGrow {α : Type} (I : List (FuncId × α)) : List Oper → Nat
  | [] => 0
  | o :: l => bif isEff I o.op then 0 else nGrow I l + 1
/-- What hangs on an operation that changes memory. -/
def taint {α : Type} (I : List (FuncId × α)) : List Oper → List Bool → List Bool
  | [], acc => acc
  | o :: l, acc => taint I l (acc ++ [isEff I o.op || o.after.toList.any fun e => Region.binds .any e && acc.getD e.on true])
def natsEq : List Nat → List Nat → Bool
  | [], [] => true
  | x :: l, y :: m => Nat.beq x y && natsEq l m
  | _, _ => false
/-- The order that is reckoned: what hangs on no change of memory first. -/
def ordOf {α : Type} (I : List (FuncId × α)) (ops : Array Oper) : List Nat :=
  (List.range ops.size).filter (fun i => !(taint I ops.toList []).getD i true) ++ (List.range ops.size).filter (fun i => (taint I ops.toList []).getD i true)
def reckd {α : Type} (I : List (FuncId × α)) (ops : Array Oper) : Array Oper := bif natsEq (ordOf I ops) (List.range ops.size) then ops else renOps (ordOf I ops) ops
/-- The operations that make memory at most, of a region that draws its order. -/
def vcD (C : Cx) (ops : List Oper) (cls : List Nat) (n0 : Nat) : Nat → List Oper → List Nat → (AS → Prop) → AS → Prop
  | _, [], _, K, s => K s
  | i, o :: l, cre, K, s => ask s ops o.guard
      (fun s => (exec C s.ev (visOb s n0 cre (cls.getD i 0)) s.objs.length o.op).vc fun sv os => vcD C ops cls n0 (i + 1) l (cre ++ os.map fun _ => i) K ((s.new os).put o.dst sv))
      (fun s => vcD C ops cls n0 (i + 1) l cre K (s.put o.dst (.tup [])))
mutual
/-- The second says no more than the first. -/
def SV.le : SV → SV → Prop
  | _, .any => True
  | .v x, .v y => x = y
  | .lit b, .lit b' => b = b'
  | .lit b, .v y => .bool b = y
  | .iimm k l, .iimm k' l' => bif IntKind.same k k' then l = l' else False
  | .imm e d, .imm e' d' => bif e.same e' then d = d' else False
  | .ip l, .ip l' => les l l'
  | .ptr i o, .ptr i' o' => bif Nat.beq i i' && Nat.beq o o' then True else False
  | .elt i o, .elt i' o' => bif Nat.beq i i' then o = o' else False
  | .hdl i, .hdl i' => bif Nat.beq i i' then True else False
  | .sub i a b, .sub i' a' b' => bif Nat.beq i i' then a = a' ∧ b = b' else False
  | .csl i n, .csl i' n' => bif Nat.beq i i' && Nat.beq n n' then True else False
  | .sel i z s o, .sel i' z' s' o' => bif Nat.beq i i' && (Nat.beq s s' && Nat.beq o o') then z = z' else False
  | .psl i o n, .psl i' o' n' => bif Nat.beq i i' && (Nat.beq o o' && Nat.beq n n') then True else False
  | .clo f l, .clo f' l' => bif Nat.beq f f' then les l l' else False
  | .agg l, .agg l' => les l l'
  | .tup l, .tup l' => les l l'
  | _, _ => False
def les : List SV → List SV → Prop
  | [], [] => True
  | x :: l, y :: m => x.le y ∧ les l m
  | _, _ => False
end
def SO.le : SO → SO → Prop
  | _, .gone => True
  | .cells t l, .cells t' l' => bif Nat.beq t t' then les l l' else False
  | .irow E k l, .irow E' k' l' => bif Nat.beq E E' && IntKind.same k k' then l = l' else False
  | .srow E T d, .srow E' T' d' => bif Nat.beq E E' && T.same T' then d = d' else False
  | _, _ => False
def leObjs : List SO → List SO → Prop
  | _, [] => True
  | x :: l, y :: m => x.le y ∧ leObjs l m
  | [], _ :: _ => False
mutual
/-- It names nothing beyond n. -/
def SV.idB (n : Nat) : SV → Bool
  | .ptr i _ => Nat.blt i n
  | .elt i _ => Nat.blt i n
  | .hdl i => Nat.blt i n
  | .sub i _ _ => Nat.blt i n
  | .csl i _ => Nat.blt i n
  | .sel i _ _ _ => Nat.blt i n
  | .psl i _ _ => Nat.blt i n
  | .clo _ l => idBs n l
  | .ip l => idBs n l
  | .agg l => idBs n l
  | .tup l => idBs n l
  | _ => true
def idBs (n : Nat) : List SV → Bool
  | [] => true
  | x :: l => x.idB n && idBs n l
end
def SO.idB (n : Nat) : SO → Bool
  | .cells _ l => idBs n l
  | _ => true
def Fm.le : Fm → Fm → Prop
  | _, .e => True
  | .n x l r, .n y l' r' => match y with
    | .any => l.le l' ∧ r.le r'
    | y => x.le y ∧ (l.le l' ∧ r.le r')
  | .e, .n _ _ _ => False
def AS.le (s t : AS) : Prop := bif t.slots.all (SV.idB t.objs.length) && (t.objs.all (SO.idB t.objs.length) && t.sav.all (Fm.all (SV.idB t.objs.length))) then s.slots.le t.slots ∧ (leObjs s.objs t.objs ∧ s.sav = t.sav) else False
/-- A place that holds no slice: a slot, a cell of memory of the call's own. -/
inductive NilAt where
  | slot (t : Nat) (E : TypeId) (k : IntKind)
  | cell (id off : Nat) (E : TypeId) (k : IntKind)
  | slotR (t : Nat) (E : TypeId) (T : Ty)
  | cellR (id off : Nat) (E : TypeId) (T : Ty)
  | row (t : Nat) (T : Ty)
def isNilS : SV → Bool
  | .v (.slice none 0 0) => true
  | _ => false
/-- No slice, seen as a row of nothing. -/
def AS.nil1 (A : Sy) (s : AS) : NilAt → AS
  | .slot t E k => match isNilS (s.slots.get t) with
    | true => ⟨s.slots.set t (.hdl s.objs.length), s.objs ++ [.irow E k []], s.sav⟩
    | false => s
  | .cell id off E k => match s.ob id with
    | .cells T l => match isNilS (l.getD off .any) with
      | true => ⟨s.slots, s.objs.set id (.cells T (l.set off (.hdl s.objs.length))) ++ [.irow E k []], s.sav⟩
      | false => s
    | _ => s
  | .slotR t E T => match isNilS (s.slots.get t) && Nat.ble 1 T.size with
    | true => ⟨s.slots.set t (.hdl s.objs.length), s.objs ++ [.srow E T (.list [])], s.sav⟩
    | false => s
  | .cellR id off E T => match s.ob id with
    | .cells U l => match isNilS (l.getD off .any) && Nat.ble 1 T.size with
      | true => ⟨s.slots, s.objs.set id (.cells U (l.set off (.hdl s.objs.length))) ++ [.srow E T (.list [])], s.sav⟩
      | false => s
    | _ => s
  | .row t T => s.asRow A T (s.slots.get t)
def AS.nil (A : Sy) (s : AS) : List NilAt → AS
  | [] => s
  | p :: l => (s.nil1 A p).nil A l
def noRow : List NilAt → Bool
  | [] => true
  | p :: l => (match p with
    | .row _ _ => false
    | _ => true) && noRow l
def okRow (fz : Bool) (ns : List NilAt) : Prop := match fz with
  | true => True
  | false => match noRow ns with
    | true => True
    | false => False
/-- What may be done ahead of a store that it need not stand behind. -/
def lateK : Op → Bool
  | .load _ _ => true
  | .fieldAddr _ _ _ => true
  | .call c => isMM c.callee
  | _ => false
def lateGo (mask : Nat) : Nat → List Oper → List Oper
  | _, [] => []
  | i, o :: l => bif lateK o.op && !Nat.testBit mask i then o :: lateGo mask (i + 1) l else lateGo mask (i + 1) l
/-- A store of a number into a row of the call's own: which row. -/
def lateSt (C : Cx) (s : AS) (n0 : Nat) : Op → Option Nat
  | .store t2 q y => match s.ev q, s.ev y with
    | .elt id' _, .v (.int _ _) => bif Nat.blt id' n0 && ((match s.ob id' with | .irow _ _ _ => true | _ => false) && Nat.beq (C.td t2).size 1) then some id' else none
    | .ptr id' off, .v (.int _ _) => bif Nat.blt id' n0 && ((match s.ob id' with | .cells _ l => Nat.blt off l.length | _ => false) && Nat.beq (C.td t2).size 1) then some id' else none
    | _, _ => none
  | _ => none
/-- The load, the store are of unlike memory. -/
def lateChk (C : Cx) (s : AS) (n0 : Nat) (on : Op) : Op → Bool
  | .load t p => match lateSt C s n0 on with
    | some id' => match s.ev p with
      | .ptr id off => Nat.blt id n0 && (!Nat.beq id id' && (match s.ob id with | .cells _ l => Nat.ble 1 (C.td t).size && Nat.ble (off + (C.td t).size) l.length | _ => false))
      | _ => false
    | none => false
  | .fieldAddr t p f => match lateSt C s n0 on with
    | some _ => match s.ev p with
      | .ptr id _ => Nat.blt id n0 && (match (C.td t).un with | .struct fs => (match fs[f]? with | some (_, ft) => Nat.ble 1 (C.td ft).size | none => false) | _ => false)
      | _ => false
    | none => false
  | .call c => match lateSt C s n0 on with
    | some _ => Nat.ble 1 c.args.toList.length && c.args.toList.all fun x => match s.ev x with | .v (.int _ _) => true | _ => false
    | none => false
  | _ => false
def lateAll (C : Cx) (l : List Oper) (n n0 : Nat) (s : AS) : Bool := match l[n]? with
  | some on => (lateGo ((clAll l []).getD n 0) 0 (l.take n)).all fun o => lateChk C s n0 on.op o.op
  | none => true
def gateB (b : Bool) (X : Prop) : Prop := match b with
  | true => X
  | false => False
def vcReg (C : Cx) (l : List Oper) (K : AS → Prop) (s : AS) : Prop := vcD C l (clAll l []) s.objs.length 0 (l.take (nGrow C.I l)) [] (fun s' => gateB (lateAll C l (nGrow C.I l) s.objs.length s') (vcOps C l (l.drop (nGrow C.I l)) K s')) s
/-! ### A region whose orders are gone through, one by one -/
def subM (b m : Nat) : Bool := Nat.beq (Nat.lor b m - m) 0
/-- What an operation waits for, as a mask. -/
def onM (o : Oper) : Nat := (ons o).foldl (fun s k => Nat.lor s (Nat.shiftLeft 1 k)) 0
def waitsL : List Oper → List (Nat × Oper)
  | [] => []
  | o :: l => (onM o, o) :: waitsL l
/-- Those that may come up. m: those that have come up. -/
def readyT (m : Nat) : Nat → List (Nat × Oper) → List (Nat × Oper)
  | _, [] => []
  | i, x :: l => match Nat.testBit m i with
    | true => readyT m (i + 1) l
    | false => match subM x.1 m with
      | true => (i, x.2) :: readyT m (i + 1) l
      | false => readyT m (i + 1) l
/-- Guards that are not known yet are asked. -/
def splitG (ops : List Oper) : List (Nat × Oper) → (AS → Prop) → AS → Prop
  | [], K, s => K s
  | x :: l, K, s => match x.2.guard with
    | some (j, _) => match (ops[j]?).bind (·.dst) with
      | some t => match s.slots.get t with
        | .v (.bool b) => BrB b true (splitG ops l K (s.put (some t) (.lit true))) (splitG ops l K (s.put (some t) (.lit false)))
        | _ => splitG ops l K s
      | none => splitG ops l K s
    | none => splitG ops l K s
/-- Whether it is wanted, where that is known. -/
def wantT (ops : List Oper) (s : AS) : Option (Nat × Bool) → Option Bool
  | none => some true
  | some (j, want) => match (ops[j]?).bind (·.dst) with
    | some t => match s.slots.get t with
      | .lit b => some (b == want)
      | .tup [] => some false
      | _ => none
    | none => none
/-- Its value does not hang on the world. -/
def eagD (C : Cx) (s : AS) : Op → Bool
  | .move _ => true
  | .assign _ => true
  | .extract _ _ => true
  | .indexAddr _ _ _ => true
  | .nilCheck x => match s.ev x with
    | .ptr _ _ => true
    | .elt _ _ => true
    | _ => false
  | .fieldAddr t x f => match s.ev x with
    | .ptr _ _ => match (C.td t).un with
      | .struct fs => match fs[f]? with
        | some (_, ft) => Nat.ble 1 (C.td ft).size
        | none => false
      | _ => false
    | _ => false
  | .call c => match c.callee with
    | .builtin .len => match c.args.toList, c.argTypes.toList with
      | [x], [t] => match (C.td t).un with
        | .slice _ => match s.ev x with
          | .iimm _ _ => true
          | .hdl id => match s.ob id with
            | .irow _ _ _ => true
            | _ => false
          | .sub _ _ _ => true
          | .v (.slice none 0 0) => true
          | _ => false
        | _ => false
      | _, _ => false
    | _ => false
  | .binOp _ _ x y _ => match s.ev x, s.ev y with
    | .v (.int _ _), .v (.int _ _) => true
    | _, _ => false
  | _ => false
/-- It leaves the world as it is. -/
def stillK : Op → Bool
  | .load _ _ => true
  | .fieldAddr _ _ _ => true
  | .move _ => true
  | .assign _ => true
  | .extract _ _ => true
  | .indexAddr _ _ _ => true
  | _ => false
def isStore : Op → Bool
  | .store _ _ _ => true
  | _ => false
/-- Those that need not stand behind i and may change the world. -/
def badT (p : Op → Bool) (cl : List Nat) (i : Nat) : Nat → List Oper → Nat
  | _, [] => 0
  | j, o :: l => match Nat.beq j i || (p o.op || Nat.testBit (cl.getD j 0) i) with
    | true => badT p cl i (j + 1) l
    | false => Nat.lor (Nat.shiftLeft 1 j) (badT p cl i (j + 1) l)
/-- Nobody who has not come up writes the slot. -/
def noWr (m q : Nat) : Nat → List Oper → Bool
  | _, [] => true
  | j, o :: l => (Nat.testBit m j || (match o.dst with | some d => !Nat.beq d q | none => true)) && noWr m q (j + 1) l
/-- Through which slot an operation changes a row of the call's own. -/
def effDst : Op → Option Nat
  | .store _ x _ => match x with
    | .tmp q => some q
    | _ => none
  | .call c => match c.callee with
    | .builtin .append => match c.args.toList with
      | x :: _ => match x with
        | .tmp q => some q
        | _ => none
      | [] => none
    | _ => none
  | _ => none
/-- What a load may stand ahead of. -/
def passK {α : Type} (I : List (FuncId × α)) (op : Op) : Bool := match isEff I op with
  | false => true
  | true => (effDst op).isSome
/-- Stores, appends that have not come up, need not stand behind i: each is of other memory. -/
def storesT {α : Type} (I : List (FuncId × α)) (ops : List Oper) (s : AS) (cl : List Nat) (m i id : Nat) : Nat → List Oper → Bool
  | _, [] => true
  | j, o :: l => match Nat.testBit m j || (Nat.testBit (cl.getD j 0) i || (Nat.beq j i || !isEff I o.op)) with
    | true => storesT I ops s cl m i id (j + 1) l
    | false => match effDst o.op with
      | some q => match s.slots.get q with
        | .ptr id' _ => !Nat.beq id id' && ((match s.ob id' with | .cells _ _ => true | _ => false) && (noWr m q 0 ops && storesT I ops s cl m i id (j + 1) l))
        | .elt id' _ => !Nat.beq id id' && ((match s.ob id' with | .irow _ _ _ => true | _ => false) && (noWr m q 0 ops && storesT I ops s cl m i id (j + 1) l))
        | .hdl id' => !Nat.beq id id' && ((match s.ob id' with | .irow _ _ _ => true | _ => false) && (noWr m q 0 ops && storesT I ops s cl m i id (j + 1) l))
        | _ => false
      | none => false
/-- A load that nobody who has not come up has to do with. -/
def loadT (C : Cx) (ops : List Oper) (cl : List Nat) (m : Nat) (s : AS) (i : Nat) : Op → Bool
  | .load t p => match s.ev p with
    | .ptr id off => (match s.ob id with | .cells _ l => Nat.ble 1 (C.td t).size && Nat.ble (off + (C.td t).size) l.length | _ => false) && (subM (badT (passK C.I) cl i 0 ops) m && storesT C.I ops s cl m i id 0 ops)
    | .elt id _ => (match s.ob id with | .irow _ _ _ => Nat.beq (C.td t).size 1 && !(C.td t).agg | _ => false) && (subM (badT (passK C.I) cl i 0 ops) m && storesT C.I ops s cl m i id 0 ops)
    | _ => false
  | _ => false
/-- A load of what nobody ever writes. -/
def ipT (C : Cx) (s : AS) : Op → Bool
  | .load t p => match s.ev p with
    | .ip l => Nat.ble 1 (C.td t).size && Nat.ble (C.td t).size l.length
    | _ => false
  | _ => false
mutual
/-- A value that is said wholly. -/
def SV.det : SV → Bool
  | .v _ => true
  | .lit _ => true
  | .agg l => dets l
  | .tup l => dets l
  | _ => false
def dets : List SV → Bool
  | [] => true
  | x :: l => x.det && dets l
end
def pureR : Er → Option (Option Prop × SV)
  | some (c, .ret sv []) => match sv.det with
    | true => some (c, sv)
    | false => none
  | _ => none
/-- What is no call of a function, makes no memory, changes none. -/
def pureK : Op → Bool
  | .pick _ _ _ => true
  | .build _ _ => true
  | .load _ _ => true
  | .binOp _ _ _ _ _ => true
  | .unOp _ _ _ => true
  | .convert _ _ _ => true
  | .index _ _ _ => true
  | .field _ _ _ => true
  | .extract _ _ => true
  | .call c => match c.callee with
    | .builtin b => match b with
      | .len => true
      | .max => true
      | .min => true
      | _ => false
    | _ => false
  | _ => false
/-- What it gives is said wholly, and hangs on no memory of the call's own. -/
def pureE (C : Cx) (s : AS) (op : Op) : Option (Option Prop × SV) := match pureK op with
  | true => pureR (exec C s.ev (fun _ => .gone) s.objs.length op)
  | false => none
/-- Who comes first, and how. -/
inductive Fst where
  | step (i : Nat) (o : Oper)
  | pure (i : Nat) (o : Oper) (c : Option Prop) (sv : SV)
  | no
def firstT (C : Cx) (ops : List Oper) (cl : List Nat) (m : Nat) (s : AS) : List (Nat × Oper) → Fst
  | [] => .no
  | x :: l => match wantT ops s x.2.guard with
    | some false => .step x.1 x.2
    | some true => match eagD C s x.2.op || ipT C s x.2.op with
      | true => .step x.1 x.2
      | false => match pureE C s x.2.op with
        | some (c, sv) => .pure x.1 x.2 c sv
        | none => match (stillK x.2.op && subM (badT stillK cl x.1 0 ops) m) || loadT C ops cl m s x.1 x.2.op with
          | true => .step x.1 x.2
          | false => firstT C ops cl m s l
    | none => firstT C ops cl m s l
def okP (c : Option Prop) (X : Prop) : Prop := match c with
  | some p => p ∧ X
  | none => X
def stepT (C : Cx) (ops : List Oper) (o : Oper) (K : AS → Prop) (s : AS) : Prop := ask s ops o.guard (fun s => eff C s o.dst o.op K) (fun s => K (s.put o.dst (.tup [])))
def allT (f : Nat × Oper → Prop) : List (Nat × Oper) → Prop
  | [] => True
  | x :: l => match l with
    | [] => f x
    | _ => f x ∧ allT f l
def vcTree (C : Cx) (ops : List Oper) (cl : List Nat) (wl : List (Nat × Oper)) (K : AS → Prop) : Nat → Nat → AS → Prop
  | 0, m, s => match readyT m 0 wl with
    | [] => K s
    | _ => False
  | f + 1, m, s => match readyT m 0 wl with
    | [] => K s
    | rs => splitG ops rs (fun s => match firstT C ops cl m s rs with
      | .step i o => stepT C ops o (fun s => vcTree C ops cl wl K f (Nat.lor m (Nat.shiftLeft 1 i)) s) s
      | .pure i o c sv => okP c (vcTree C ops cl wl K f (Nat.lor m (Nat.shiftLeft 1 i)) (s.put o.dst sv))
      | .no => allT (fun x => stepT C ops x.2 (fun s => vcTree C ops cl wl K f (Nat.lor m (Nat.shiftLeft 1 x.1)) s) s) rs) s
/-- i: where it stands; p: who was last to change memory; c0: who stands ahead of the first; late: who does not. -/
def scanT : List Oper → List Bool → List Nat → Nat → Option Nat → Nat → Bool
  | _ :: l, tn :: tns, c :: cs, i, p, late => match tn with
    | true => match p with
      | some q => match Nat.testBit c q with
        | true => match subM late c with
          | true => scanT l tns cs (i + 1) (some i) late
          | false => true
        | false => true
      | none => scanT l tns cs (i + 1) (some i) late
    | false => scanT l tns cs (i + 1) p late
  | _, _, _, _, _, _ => false
/-- The first that changes memory: who stands ahead of it, and whether it is a store. -/
def firstTn : List Oper → List Bool → List Nat → Option (Nat × Bool)
  | o :: l, tn :: tns, c :: cs => match tn with
    | true => some (c, isStore o.op)
    | false => firstTn l tns cs
  | _, _, _ => none
/-- Those that do not stand ahead of the first: none, where one of them may not be late. -/
def latesT (c0 : Nat) (st : Bool) : List Oper → List Bool → Nat → Option Nat
  | o :: l, tn :: tns, i => match tn || Nat.testBit c0 i with
    | true => latesT c0 st l tns (i + 1)
    | false => match (match o.op with | .move _ => true | .assign _ => true | .extract _ _ => true | .indexAddr _ _ _ => true | _ => false) && o.guard.isNone with
      | true => latesT c0 st l tns (i + 1)
      | false => match st && (lateK o.op && o.guard.isNone) with
        | false => none
        | true => match latesT c0 st l tns (i + 1) with
          | some r => some (Nat.lor r (Nat.shiftLeft 1 i))
          | none => none
  | _, _, _ => some 0
/-- Whether its orders are gone through. -/
def treeB {α : Type} (I : List (FuncId × α)) (ops : List Oper) : Bool :=
  (fun (tn : List Bool) (cl : List Nat) => match firstTn ops tn cl with
    | none => false
    | some (c0, st) => match latesT c0 st ops tn 0 with
      | none => true
      | some late => scanT ops tn cl 0 none late) (taint I ops []) (clAll ops [])
/-- What a text asks. -/
def vc (C : Cx) : Code → (Exit → AS → Prop) → AS → Prop
  | .skip, K, s => K .normal s
  | .region _ ops d, K, s => match d with
    | true => match treeB C.I ops.toList with
      | true => vcTree C ops.toList (clAll ops.toList []) (waitsL ops.toList) (K .normal) ops.toList.length 0 s
      | false => vcReg C (reckd C.I ops).toList (K .normal) s
    | false => vcOps C ops.toList ops.toList (K .normal) s
  | .seq a b, K, s => vc C a (fun e s => match e with | .normal => vc C b K s | e => K e s) s
  | .cond c a b, K, s => match s.ev c with
    | .lit c => cond c (vc C a K s) (vc C b K s)
    | .v (.bool c) => BrB c true (vc C a K s) (vc C b K s)
    | _ => False
  | .block id b, K, s => vc C b (fun e s => match e with | .exit i => (match Nat.beq i id with | true => K .normal s | false => K (.exit i) s) | e => K e s) s
  | .loop b, K, s => ∃ (α : Type) (S : α → AS) (I : α → Prop) (μ : α → Nat) (x : α) (ns : List NilAt), I x ∧ (okRow C.fz ns ∧ ((s.nil C.A ns).le (S x) ∧
      ∀ x, I x → vc C b (fun e s => match e with | .normal => ∃ x', I x' ∧ s.le (S x') ∧ μ x' < μ x | e => K e s) (S x)))
  | .exit id, K, s => K (.exit id) s
  | .ret, K, s => K .ret s
  | _, _, _ => False
/-- The results' cells. -/
def resOf (C : Cx) (s : AS) : List ResultVar → Option (List SV)
  | [] => some []
  | .tmp t :: l => (resOf C s l).bind fun m => some (s.slots.get t :: m)
  | .cell a t :: l => match exLoad C s.ob t (s.slots.get a) with
    | some (none, .ret x []) => (resOf C s l).bind fun m => some (x :: m)
    | _ => none
def resSV : List SV → SV
  | [x] => x
  | l => .tup l
/-- A place of what comes: which memory it is. -/
inductive At where
  | hdl (j : Nat)
  | ptr (j : Nat)
  | nil
  | no
def atOf (l : List SV) (p : Nat) : At := match l[p]? with
  | some x => match x with
    | .hdl i => .hdl i
    | .ptr i 0 => .ptr i
    | .v (.slice none 0 0) => .nil
    | _ => .no
  | none => .no
def isH (m : List At) (i j : Nat) : Bool := match m[i]? with
  | some (.hdl j') => Nat.beq j j'
  | _ => false
def isP (m : List At) (i j : Nat) : Bool := match m[i]? with
  | some (.ptr j') => Nat.beq j j'
  | _ => false
def isN (m : List At) (i : Nat) : Bool := match m[i]? with
  | some .nil => true
  | _ => false
mutual
/-- What was to come, what came: m: which memory is which. -/
def SV.fits (al : Bool) (m : List At) : SV → SV → Prop
  | .any, _ => True
  | .v x, .v y => y = x
  | .v x, .lit b => .bool b = x
  | .lit b, .lit b' => b' = b
  | .lit b, .v y => y = .bool b
  | .hdl i, .hdl j => bif isH m i j then True else False
  | .hdl i, .v (.slice none 0 0) => bif isN m i then True else False
  | .ptr i o, .ptr j o' => bif isP m i j && Nat.beq o o' then True else False
  | .agg l, .agg l' => fitss al m l l'
  | .tup l, .tup l' => fitss al m l l'
  | .iimm k l, .iimm k' l' => bif al && IntKind.same k k' then l' = l else False
  | .iimm _ l, .v (.slice none 0 0) => l = []
  | .imm e d, .imm e' d' => bif al && e.same e' then d' = d else False
  | _, _ => False
def fitss (al : Bool) (m : List At) : List SV → List SV → Prop
  | [], [] => True
  | x :: l, y :: l' => x.fits al m y ∧ fitss al m l l'
  | _, _ => False
end
mutual
/-- No slice in it. -/
def plainT : Ty → Bool
  | .sl _ => false
  | .st fs => plainTs fs
  | _ => true
def plainTs : List Ty → Bool
  | [] => true
  | t :: ts => plainT t && plainTs ts
end
def SO.fits (al : Bool) (m : List At) (ob : Nat → SO) : At → SO → Prop
  | .hdl j, .irow E k l => match ob j with
    | .irow E' k' l' => bif Nat.beq E E' && IntKind.same k k' then l' = l else False
    | _ => False
  | .hdl j, .srow E T d => match ob j with
    | .srow E' T' d' => bif (al || plainT T) && (Nat.beq E E' && T.same T') then d' = d else False
    | _ => False
  | .nil, .srow _ T d => bif Nat.ble 1 T.size then d = .list [] else False
  | .nil, .irow _ _ l => l = []
  | .ptr j, .cells t l => match ob j with
    | .cells t' l' => bif Nat.beq t t' then fitss al m l l' else False
    | _ => False
  | _, _ => False
def fitObjs (al : Bool) (m : List At) (ob : Nat → SO) : List At → List (Nat × SO) → Prop
  | [], [] => True
  | j :: js, o :: os => o.2.fits al m ob j ∧ fitObjs al m ob js os
  | _, _ => False
def At.id : At → Option Nat
  | .hdl j => some j
  | .ptr j => some j
  | _ => none
def distinct : List (Option Nat) → Bool
  | [] => true
  | none :: l => distinct l
  | some i :: l => (l.all fun j => match j with | some j => !Nat.beq i j | none => true) && distinct l
def Out.fits (al : Bool) (ob : Nat → SO) (sv : SV) : Out → Prop
  | .ret x os => match sv.deep with
    | some d => bif distinct ((os.map fun o => atOf d o.1).map At.id) then
        x.fits al (os.map fun o => atOf d o.1) sv ∧ fitObjs al (os.map fun o => atOf d o.1) ob (os.map fun o => atOf d o.1) os
      else False
    | none => False
  | .ite c a b => BrP c (a.fits al ob sv) (b.fits al ob sv)
/-- What a function asks, so that rt comes. -/
def vcFn (C : Cx) (fn : Func) (args : List SV) (rt : Out) : Prop := match fn.body with
  | some c => vc C c (fun e s => match e with
      | .normal | .ret => match resOf C s fn.results.toList with
        | some l => rt.fits C.al s.ob (resSV l)
        | none => False
      | _ => False) ⟨(Fm.rep deep fn.ntmps).sets 0 args, [], []⟩
  | none => False
/-- A function that is reckoned where it is called. -/
def inlRun (C : Cx) (fn : Func) (args : List SV) (s : AS) (K : SV → AS → Prop) : Prop := match fn.body with
  | some c => vc C c (fun e t => match e with
      | .normal | .ret => match resOf C t fn.results.toList with
        | some l => match t.sav with
          | sl :: sav => K (resSV l) ⟨sl, t.objs, sav⟩
          | [] => False
        | none => False
      | _ => False) ⟨(Fm.rep deep fn.ntmps).sets 0 args, s.objs, s.slots :: s.sav⟩
  | none => False
def Cx.inl (C : Cx) (I : List (FuncId × (List SV → AS → (SV → AS → Prop) → Prop))) : Cx := ⟨C.A, C.tt, C.G, C.ck, C.al, I, C.fz⟩
/-- A contract of memory that nobody writes any more: what the arguments are, what is asked of them, what comes; fr: rows that come are given up. -/
structure FCtr where
  tys : List Ty
  pre : List AV → Option Prop
  res : List AV → Out
  fr : Bool := false
/-- A call of such a contract. -/
def frzRun (A : Sy) (c : FCtr) (args : List SV) (s : AS) (K : SV → AS → Prop) : Prop := match frz2 A (argIds args) (s, args) with
  | (s1, xs) => match avArgs A (fun _ => .gone) c.tys xs with
    | some as => (match c.pre as with
      | some p => p
      | none => True) ∧ ((c.res as).shift s1.objs.length).vc fun sv os => K sv (s1.new os)
    | none => False
/-- What a function asks, so that such comes. -/
def vcFnF (C : Cx) (fn : Func) (args : List SV) (fr : Bool) (rt : Out) : Prop := match fn.body with
  | some c => vc C c (fun e s => match e with
      | .normal | .ret => match resOf C s fn.results.toList with
        | some l => match fr with
          | true => match frz2 C.A (argIds l) (s, [resSV l]) with
            | (s1, [x]) => rt.fits true s1.ob x
            | _ => False
          | false => rt.fits true s.ob (resSV l)
        | none => False
      | _ => False) ⟨(Fm.rep deep fn.ntmps).sets 0 args, [], []⟩
  | none => False
/-- Functions that are reckoned where they are called: those that call others come first. -/
def inls (C : Cx) : List (FuncId × Func) → List (FuncId × (List SV → AS → (SV → AS → Prop) → Prop))
  | [] => C.I
  | (f, fn) :: l => (f, inlRun (C.inl (inls C l)) fn) :: inls C l
end Go.Proofs.Ytekokhlldcmjfaa
