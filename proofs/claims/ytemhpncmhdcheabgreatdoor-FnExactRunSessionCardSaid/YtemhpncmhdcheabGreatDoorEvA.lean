/- An evaluator of the program's code over values that bear no address: what a slice holds is a list. Definitions alone; no statement is proved here. -/
import Derived.Test.YtemhpncmhdcheabGreatDoorRows
import Derived.WalkKit
import Derived.ProofKit
import Derived.Orders
import Derived.Laws.BytesArg
namespace Go.Ev
set_option linter.unusedVariables false
set_option linter.unusedSimpArgs false
open Go
inductive Ty where
 | int | bool | u8 | str | ii | iii | iib | hd
 deriving DecidableEq
@[reducible] def Ty.D:Ty→Type
 | .int=>Int
 | .bool=>Bool
 | .u8=>Int
 | .str=>ByteArray
 | .ii=>Int×Int
 | .iii=>Int×Int×Int
 | .iib=>Int×Int×Bool
 | .hd=>Option Addr×Nat×Nat
def Ty.sz:Ty→Nat
 | .ii=>2
 | .iii=>3
 | .iib=>3
 | _=>1
def Ty.zero:(τ:Ty)→τ.D
 | .int=>(0:Int)
 | .bool=>false
 | .u8=>(0:Int)
 | .str=>ByteArray.empty
 | .ii=>((0:Int),(0:Int))
 | .iii=>((0:Int),(0:Int),(0:Int))
 | .iib=>((0:Int),(0:Int),false)
 | .hd=>(none,0,0)
def Ty.enc:(τ:Ty)→τ.D→List Value
 | .int,x=>[.int .i64 x]
 | .bool,x=>[.bool x]
 | .u8,x=>[.int .u8 x]
 | .str,x=>[.string x]
 | .ii,x=>[.int .i64 x.1,.int .i64 x.2]
 | .iii,x=>[.int .i64 x.1,.int .i64 x.2.1,.int .i64 x.2.2]
 | .iib,x=>[.int .i64 x.1,.int .i64 x.2.1,.bool x.2.2]
 | .hd,x=>[.slice x.1 x.2.1 x.2.2]
def Ty.dec:(τ:Ty)→List Value→Option τ.D
 | .int,[.int .i64 x]=>some x
 | .bool,[.bool x]=>some x
 | .u8,[.int .u8 x]=>some x
 | .str,[.string x]=>some x
 | .ii,[.int .i64 x,.int .i64 y]=>some (x,y)
 | .iii,[.int .i64 x,.int .i64 y,.int .i64 z]=>some (x,y,z)
 | .iib,[.int .i64 x,.int .i64 y,.bool z]=>some (x,y,z)
 | _,_=>none
def Ty.code:Ty→Nat
 | .int=>0
 | .bool=>1
 | .u8=>2
 | .str=>3
 | .ii=>4
 | .iii=>5
 | .iib=>6
 | .hd=>7
def Ty.eqb (a b:Ty):Bool:=Nat.beq a.code b.code
def castL:(τ σ:Ty)→List σ.D→Option (List τ.D)
 | .int,.int,l=>some l
 | .bool,.bool,l=>some l
 | .u8,.u8,l=>some l
 | .str,.str,l=>some l
 | .ii,.ii,l=>some l
 | .iii,.iii,l=>some l
 | .iib,.iib,l=>some l
 | _,_,_=>none
inductive Cap where
 | k (x:Value)
 | b (key:Nat)
 | v (x:Value)
inductive C where
 | v (x:Value)
 | nil
 | ro (τ:Ty) (l:List τ.D)
 | ow (k:Nat)
 | sub (k off len:Nat)
 | pb (k j:Nat)
 | pr (k i j:Nat)
 | pe (cells:List Value) (j:Nat)
 | cl (f:FuncId) (cs:List Cap)
 | rol (τ:Ty) (ls:List (List τ.D))
 | pel (τ:Ty) (l:List τ.D)
 | xs (k off len c:Nat)
 | arr (l:List Int)
 | sb (k n:Nat)
 | un
inductive A1 where
 | c (x:C)
 | agg (l:List C)
 | ptr (l:List C)
inductive AV where
 | one (a:A1)
 | tup (l:List A1)
inductive OB where
 | row (τ:Ty) (l:List τ.D)
 | box (cells:List C)
structure St where
 t:List (Nat×AV)
 o:List (Nat×OB)
def lkp {α:Type}:List (Nat×α)→Nat→Option α
 | [],_=>none
 | (j,x) :: r,i=>match Nat.beq j i with
  | true=>some x
  | false=>lkp r i
abbrev C.one (c:C):AV:=.one (.c c)
abbrev V (x:Value):AV:=.one (.c (.v x))
abbrev VI (x:Int):AV:=.one (.c (.v (.int .i64 x)))
abbrev VB (x:Bool):AV:=.one (.c (.v (.bool x)))
def St.get (st:St) (i:Nat):AV:=match lkp st.t i with
 | some x=>x
 | none=>.one (.c .un)
def St.put (st:St) (d:Nat) (x:AV):St:=⟨(d,x) :: st.t,st.o⟩
def roC:C→Bool
 | .nil=>true
 | .ro _ _=>true
 | _=>false
def roCs:List C→Bool
 | []=>true
 | c :: r=>match roC c with
  | true=>roCs r
  | false=>false
def A1.map (f:C→C):A1→A1
 | .c x=>.c (f x)
 | .agg l=>.agg (l.map f)
 | .ptr l=>.ptr (l.map f)
def AV.map (f:C→C):AV→AV
 | .one a=>.one (a.map f)
 | .tup l=>.tup (l.map (A1.map f))
def OB.map (f:C→C):OB→OB
 | .row τ l=>.row τ l
 | .box l=>.box (l.map f)
def mapT (f:C→C) (t:List (Nat×AV)):List (Nat×AV):=t.map fun p=>(p.1,p.2.map f)
def mapO (f:C→C) (o:List (Nat×OB)):List (Nat×OB):=o.map fun p=>(p.1,p.2.map f)
def dropO (k:Nat):List (Nat×OB)→List (Nat×OB)
 | []=>[]
 | (j,x) :: r=>match Nat.beq j k with
  | true=>dropO k r
  | false=>(j,x) :: dropO k r
def setO (k:Nat) (y:OB):List (Nat×OB)→List (Nat×OB)
 | []=>[]
 | (j,x) :: r=>match Nat.beq j k with
  | true=>(j,y) :: r
  | false=>(j,x) :: setO k y r
def capIn (k:Nat):List Cap→Bool
 | []=>false
 | .b k' :: r=>match Nat.beq k' k with
  | true=>true
  | false=>capIn k r
 | _ :: r=>capIn k r
def capRen (k k2:Nat):List Cap→List Cap
 | []=>[]
 | .b k' :: r=>match Nat.beq k' k with
  | true=>.b k2 :: capRen k k2 r
  | false=>.b k' :: capRen k k2 r
 | x :: r=>x :: capRen k k2 r
def C.kill (k:Nat):C→C
 | .ow k'=>match Nat.beq k' k with
  | true=>.un
  | false=>.ow k'
 | .sub k' a b=>match Nat.beq k' k with
  | true=>.un
  | false=>.sub k' a b
 | .pb k' a=>match Nat.beq k' k with
  | true=>.un
  | false=>.pb k' a
 | .sb k' n=>match Nat.beq k' k with
  | true=>.un
  | false=>.sb k' n
 | .pr k' a b=>match Nat.beq k' k with
  | true=>.un
  | false=>.pr k' a b
 | .xs k' a b c=>match Nat.beq k' k with
  | true=>.un
  | false=>.xs k' a b c
 | .cl f cs=>match capIn k cs with
  | true=>.un
  | false=>.cl f cs
 | x=>x
def C.ren (k k2:Nat):C→C
 | .ow k'=>match Nat.beq k' k with
  | true=>.ow k2
  | false=>.ow k'
 | .sub k' a b=>match Nat.beq k' k with
  | true=>.sub k2 a b
  | false=>.sub k' a b
 | .pb k' a=>match Nat.beq k' k with
  | true=>.pb k2 a
  | false=>.pb k' a
 | .sb k' n=>match Nat.beq k' k with
  | true=>.sb k2 n
  | false=>.sb k' n
 | .pr k' a b=>match Nat.beq k' k with
  | true=>.pr k2 a b
  | false=>.pr k' a b
 | .xs k' a b c=>match Nat.beq k' k with
  | true=>.xs k2 a b c
  | false=>.xs k' a b c
 | .cl f cs=>.cl f (capRen k k2 cs)
 | x=>x
def C.frz (k:Nat) (τ:Ty) (l:List τ.D):C→C
 | .ow k'=>match Nat.beq k' k with
  | true=>.ro τ l
  | false=>.ow k'
 | .sub k' a b=>match Nat.beq k' k with
  | true=>.ro τ ((l.drop a).take b)
  | false=>.sub k' a b
 | .pb k' a=>match Nat.beq k' k with
  | true=>.un
  | false=>.pb k' a
 | .sb k' n=>match Nat.beq k' k with
  | true=>.un
  | false=>.sb k' n
 | .pr k' a b=>match Nat.beq k' k with
  | true=>.un
  | false=>.pr k' a b
 | .xs k' a b c=>match Nat.beq k' k with
  | true=>.un
  | false=>.xs k' a b c
 | .cl f cs=>match capIn k cs with
  | true=>.un
  | false=>.cl f cs
 | x=>x
def C.killx (k:Nat):C→C
 | .xs k' a b c=>.xs k' a b c
 | x=>x.kill k
def St.kill (st:St) (k:Nat):St:=⟨mapT (C.kill k) st.t,mapO (C.kill k) (dropO k st.o)⟩
def St.free (st:St) (k:Nat):St:=match lkp st.o k with
 | some _=>st.kill k
 | none=>st
inductive Inf where
 | sc (z:Value)
 | st (fields:List (Nat×Nat)) (z:List Value)
 | sl (e:TypeId) (τ:Ty)
 | eq (t:TypeId) (ks:List Ty)
 | sl2 (e:TypeId) (τ:Ty)
 | ar (n m:Nat) (e:TypeId)
 | mp (kt et:TypeId)
abbrev Tab:=List (TypeId×Inf)
def cst1:Value→C
 | .slice none 0 0=>.nil
 | x=>.v x
def okV:Value→Bool
 | .agg _=>false
 | .tuple _=>false
 | _=>true
def okVs:List Value→Bool
 | []=>true
 | x :: r=>match okV x with
  | true=>okVs r
  | false=>false
def cst:Value→AV
 | .agg cs=>match okVs cs.toList with
  | true=>.one (.agg (cs.toList.map cst1))
  | false=>.one (.c .un)
 | x=>.one (.c (cst1 x))
def St.tmp (st:St) (t:Nat):AV:=match Nat.blt t 1000000 with
 | true=>st.get t
 | false=>.one (.c .un)
def St.ev (st:St):Operand→AV
 | .tmp t=>st.tmp t
 | .const v=>cst v
 | .func f=>.one (.c (.v (.func (.func f) #[] #[])))
 | .global _=>.one (.c .un)
def InR (x:Int):Prop:=-9223372036854775808≤x∧x≤9223372036854775807
def cmdTab:List (ByteArray×Int×FuncId):=[(⟨#[103,101,116]⟩,2,38),(⟨#[115,101,116]⟩,3,39),(⟨#[104,105,116,115]⟩,3,40),(⟨#[116,114,97,99,101]⟩,1,41),(⟨#[100,105,114,116,121]⟩,1,42),(⟨#[102,108,117,115,104]⟩,1,43)]
inductive PR where
 | ok (x:AV)
 | req (c:Prop) (x:AV)
 | no
def eqCells:List Ty→List C→List C→Option Bool
 | [.int],[.v (.int .i64 a)],[.v (.int .i64 b)]=>some (a==b)
 | [.bool],[.v (.bool a)],[.v (.bool b)]=>some (a==b)
 | .int :: ks,.v (.int .i64 a) :: r,.v (.int .i64 b) :: s=>match eqCells ks r s with
  | some t=>some ((a==b) && t)
  | none=>none
 | .bool :: ks,.v (.bool a) :: r,.v (.bool b) :: s=>match eqCells ks r s with
  | some t=>some ((a==b) && t)
  | none=>none
 | _,_,_=>none
def ifaceT (T:Tab) (t:TypeId):Bool:=match lkp T t with
 | some (.sc .nilIface)=>true
 | _=>false
def nilV:Value→Bool
 | .nilIface=>true
 | _=>false
def ifV:Value→Bool
 | .nilIface=>true
 | .iface _ _=>true
 | _=>false
def binA (T:Tab) (op:BinOp) (xt:TypeId):AV→AV→PR
 | .one (.c (.v (.int k a))),.one (.c (.v (.int k' b)))=>
  match k,k' with
  | .i64,.i64=>match op with
   | .add=>.req (InR (a+b)) (VI (a+b))
   | .sub=>.req (InR (a - b)) (VI (a - b))
   | .mul=>.req (InR (a*b)) (VI (a*b))
   | .quo=>.req (b≠0∧InR (a.tdiv b)) (VI (a.tdiv b))
   | .rem=>.req (b≠0) (VI (a.tmod b))
   | .shl=>.req (0≤b∧b≤62∧InR (a*2 ^ b.toNat)) (VI (a*2 ^ b.toNat))
   | .shr=>.req (0≤b∧b≤63) (VI (a / 2 ^ b.toNat))
   | .xor=>.ok (VI (IntKind.i64.wrap ((BitVec.ofInt 64 a ^^^ BitVec.ofInt 64 b).toNat:Int)))
   | .eql=>.ok (VB (a==b))
   | .neq=>.ok (VB (a != b))
   | .lss=>.ok (VB (a < b))
   | .leq=>.ok (VB (a≤b))
   | .gtr=>.ok (VB (a > b))
   | .geq=>.ok (VB (a≥b))
   | _=>.no
  | .u8,.u8=>match op with
   | .eql=>.ok (VB (a==b))
   | .neq=>.ok (VB (a != b))
   | .lss=>.ok (VB (a < b))
   | .leq=>.ok (VB (a≤b))
   | .gtr=>.ok (VB (a > b))
   | .geq=>.ok (VB (a≥b))
   | _=>.no
  | .u64,.u64=>match op with
   | .shr=>.req (b=1) (V (.int .u64 (a / 2)))
   | _=>.no
  | _,_=>.no
 | .one (.c (.v (.bool a))),.one (.c (.v (.bool b)))=>
  match lkp T xt with
  | some (.sc (.bool _))=>match op with
   | .eql=>.ok (VB (a==b))
   | .neq=>.ok (VB (!(a==b)))
   | _=>.no
  | _=>.no
 | .one (.c (.v (.string a))),.one (.c (.v (.string b)))=>
  match op with
  | .eql=>.ok (VB (a.toList==b.toList))
  | .neq=>.ok (VB (!(a.toList==b.toList)))
  | .add=>.req (a.size+b.size≤1000000000) (V (.string (a++b)))
  | _=>.no
 | .one (.agg l),.one (.agg r)=>
  match lkp T (1000000+xt) with
  | some (.eq t ks)=>match Nat.beq t xt,eqCells ks l r with
   | true,some b=>match op with
    | .eql=>.ok (VB b)
    | .neq=>.ok (VB (!b))
    | _=>.no
   | _,_=>.no
  | _=>.no
 | _,_=>.no
def partC (T:Tab) (t:TypeId) (l:List C) (j:Nat):PR:=
 match lkp T t with
 | some (.sc _) | some (.sl _ _) | some (.sl2 _ _)=>match l[j]? with
  | some x=>.ok (.one (.c x))
  | none=>.no
 | some (.st _ z)=>match Nat.ble (j+z.length) l.length with
  | true=>.ok (.one (.agg ((l.drop j).take z.length)))
  | false=>.no
 | _=>.no
def loadAr (T:Tab) (t:TypeId) (o:List (Nat×OB)) (k i j:Nat):Option PR:=match lkp T t with
 | some (.ar n m _)=>match lkp o k with
  | some (.row .int l)=>match Nat.beq i 0,Nat.beq j 0 with
   | true,true=>some (.req (l.length=n*m) (.one (.c (.arr l))))
   | _,_=>some .no
  | _=>some .no
 | _=>none
def loadA (T:Tab) (t:TypeId) (o:List (Nat×OB)):AV→PR
 | .one (.c (.pb k j))=>match lkp o k with
  | some (.box l)=>partC T t l j
  | _=>.no
 | .one (.c (.pr k i j))=>match loadAr T t o k i j with
  | some r=>r
  | none=>match lkp o k with
   | some (.row τ l)=>partC T t ((τ.enc (l.getD i τ.zero)).map C.v) j
   | _=>.no
 | .one (.c (.pe cells j))=>partC T t (cells.map C.v) j
 | .one (.c (.pel τ l))=>partC T t [.ro τ l] 0
 | _=>.no
def rowLen (o:List (Nat×OB)) (k:Nat):Option Nat:=match lkp o k with
 | some (.row _ l)=>some l.length
 | _=>none
def lenA (o:List (Nat×OB)):AV→Option Nat
 | .one (.c .nil)=>some 0
 | .one (.c (.ro _ l))=>some l.length
 | .one (.c (.rol _ l))=>some l.length
 | .one (.c (.ow k))=>rowLen o k
 | .one (.c (.sub _ _ n))=>some n
 | .one (.c (.xs _ _ n _))=>some n
 | .one (.c (.sb _ n))=>some n
 | .one (.c (.v (.string s)))=>some s.size
 | _=>none
def intA:AV→Option Int
 | .one (.c (.v (.int .i64 n)))=>some n
 | _=>none
def isTy (o:List (Nat×OB)) (τ:Ty):AV→Bool
 | .one (.c (.ro σ _))=>τ.eqb σ
 | .one (.c .nil)=>true
 | .one (.c (.ow k))=>match lkp o k with
  | some (.row σ _)=>τ.eqb σ
  | _=>false
 | .one (.c (.sub k _ _))=>match lkp o k with
  | some (.row σ _)=>τ.eqb σ
  | _=>false
 | .one (.c (.xs k _ _ _))=>match lkp o k with
  | some (.row σ _)=>τ.eqb σ
  | _=>false
 | _=>false
def isStr:AV→Bool
 | .one (.c (.v (.string _)))=>true
 | _=>false
def sliceA (o:List (Nat×OB)):AV→Option Int→Option Int→PR
 | .one (.c (.ro τ l)),none,none=>.ok (.one (.c (.ro τ l)))
 | .one (.c (.ro τ l)),some a,none=>.req (0≤a∧a≤l.length) (.one (.c (.ro τ (l.drop a.toNat))))
 | .one (.c (.ro τ l)),none,some b=>.req (0≤b∧b≤l.length) (.one (.c (.ro τ (l.take b.toNat))))
 | .one (.c (.ro τ l)),some a,some b=>.req (0≤a∧a≤b∧b≤l.length) (.one (.c (.ro τ ((l.drop a.toNat).take (b.toNat - a.toNat)))))
 | .one (.c (.ow k)),none,none=>.ok (.one (.c (.ow k)))
 | .one (.c (.ow k)),some a,none=>match rowLen o k with
  | some n=>.req (0≤a∧a≤n) (.one (.c (.sub k a.toNat (n - a.toNat))))
  | none=>.no
 | .one (.c (.ow k)),none,some b=>match rowLen o k with
  | some n=>.req (0≤b∧b≤n) (.one (.c (.sub k 0 b.toNat)))
  | none=>.no
 | .one (.c (.ow k)),some a,some b=>match rowLen o k with
  | some n=>.req (0≤a∧a≤b∧b≤n) (.one (.c (.sub k a.toNat (b.toNat - a.toNat))))
  | none=>.no
 | .one (.c (.sub k off n)),a,b=>
  match a,b with
  | none,none=>.ok (.one (.c (.sub k off n)))
  | some a,none=>.req (0≤a∧a≤n) (.one (.c (.sub k (off+a.toNat) (n - a.toNat))))
  | none,some b=>match rowLen o k with
   | some m=>.req (0≤b∧off+b≤m) (.one (.c (.sub k off b.toNat)))
   | none=>.no
  | some a,some b=>match rowLen o k with
   | some m=>.req (0≤a∧a≤b∧off+b≤m) (.one (.c (.sub k (off+a.toNat) (b.toNat - a.toNat))))
   | none=>.no
 | .one (.c (.xs k off n c)),a,b=>
  match a,b with
  | none,none=>.ok (.one (.c (.xs k off n c)))
  | some a,none=>.req (0≤a∧a≤n) (.one (.c (.xs k (off+a.toNat) (n - a.toNat) (c - a.toNat))))
  | none,some b=>.req (0≤b∧b≤c) (.one (.c (.xs k off b.toNat c)))
  | some a,some b=>.req (0≤a∧a≤b∧b≤c) (.one (.c (.xs k (off+a.toNat) (b.toNat - a.toNat) (c - a.toNat))))
 | .one (.c .nil),none,none=>.ok (.one (.c .nil))
 | .one (.c .nil),some a,none=>.req (a=0) (.one (.c .nil))
 | .one (.c .nil),none,some b=>.req (b=0) (.one (.c .nil))
 | .one (.c .nil),some a,some b=>.req (a=0∧b=0) (.one (.c .nil))
 | .one (.c (.v (.string s))),a,b=>
  match a,b with
  | none,none=>.ok (V (.string s))
  | some a,none=>.req (0≤a∧a≤s.size) (V (.string (s.extract a.toNat s.size)))
  | none,some b=>.req (0≤b∧b≤s.size) (V (.string (s.extract 0 b.toNat)))
  | some a,some b=>.req (0≤a∧a≤b∧b≤s.size) (V (.string (s.extract a.toNat b.toNat)))
 | _,_,_=>.no
def bnd (st:St):Option Operand→Option (Option Int)
 | none=>some none
 | some x=>match intA (st.ev x) with
  | some n=>some (some n)
  | none=>none
def fieldOff (T:Tab) (s:TypeId) (f:Nat):Option Nat:=match lkp T s with
 | some (.st fs _)=>match fs[f]? with
  | some (off,size)=>match Nat.ble 1 size with
   | true=>some off
   | false=>none
  | none=>none
 | _=>none
def fieldA (off:Nat):AV→PR
 | .one (.c (.pb k j))=>.ok (.one (.c (.pb k (j+off))))
 | .one (.c (.pr k i j))=>.ok (.one (.c (.pr k i (j+off))))
 | .one (.c (.pe cells j))=>.ok (.one (.c (.pe cells (j+off))))
 | _=>.no
def indexA (o:List (Nat×OB)):AV→Int→PR
 | .one (.c (.ro τ l)),i=>.req (0≤i∧i < l.length) (.one (.c (.pe (τ.enc (l.getD i.toNat τ.zero)) 0)))
 | .one (.c (.ow k)),i=>match rowLen o k with
  | some n=>.req (0≤i∧i < n) (.one (.c (.pr k i.toNat 0)))
  | none=>.no
 | .one (.c (.sub k off n)),i=>.req (0≤i∧i < n) (.one (.c (.pr k (off+i.toNat) 0)))
 | _,_=>.no
def minA:List AV→Option Int
 | []=>none
 | [x]=>intA x
 | x :: y :: r=>match intA x,intA y with
  | some a,some b=>match r with
   | []=>some (if b < a then b else a)
   | [z]=>match intA z with
    | some c=>some (if c < (if b < a then b else a) then c else (if b < a then b else a))
    | none=>none
   | _=>none
  | _,_=>none
def maxA:List AV→Option Int
 | []=>none
 | [x]=>intA x
 | x :: y :: r=>match intA x,intA y with
  | some a,some b=>match r with
   | []=>some (if a < b then b else a)
   | [z]=>match intA z with
    | some c=>some (if (if a < b then b else a) < c then c else (if a < b then b else a))
    | none=>none
   | _=>none
  | _,_=>none
def cellsA:AV→Option (List C)
 | .one (.agg l)=>some l
 | .one (.c .un)=>none
 | .one (.c (.arr _))=>none
 | .one (.c (.v x))=>match okV x with
  | true=>some [.v x]
  | false=>none
 | .one (.c x)=>some [x]
 | _=>none
def setsL {α:Type}:List α→Nat→List α→List α
 | l,_,[]=>l
 | l,o,x :: r=>setsL (l.set o x) (o+1) r
def buildA (fs:List (Nat×Nat)):List (Nat×AV)→List C→Option (List C)
 | [],cells=>some cells
 | (i,x) :: r,cells=>match fs[i]?,cellsA x with
  | some (off,size),some l=>match Nat.beq l.length size,Nat.ble (off+l.length) cells.length with
   | true,true=>buildA fs r (setsL cells off l)
   | _,_=>none
  | _,_=>none
def argsA (st:St):List (Nat×Operand)→List (Nat×AV)
 | []=>[]
 | (i,x) :: r=>(i,st.ev x) :: argsA st r
def pesA (st:St):List Operand→Option (List Cap)
 | []=>some []
 | x :: r=>match st.ev x,pesA st r with
  | .one (.c (.pe [y] 0)),some l=>some (.k y :: l)
  | .one (.c (.pb k 0)),some l=>some (.b k :: l)
  | .one (.c (.v y)),some l=>match okV y with
   | true=>some (.v y :: l)
   | false=>none
  | _,_=>none
def cvals:List C→Option (List Value)
 | []=>some []
 | .v x :: r=>match cvals r with
  | some l=>some (x :: l)
  | none=>none
 | _ :: _=>none
def valA:AV→Option Value
 | .one (.c (.v y))=>some y
 | .one (.agg l)=>match cvals l with
  | some vs=>some (.agg vs.toArray)
  | none=>none
 | _=>none
def valsA (st:St):List Operand→Option (List Value)
 | []=>some []
 | x :: r=>match valA (st.ev x) with
  | some y=>match valsA st r with
   | some l=>some (y :: l)
   | none=>none
  | none=>none
def pureOp (T:Tab) (st:St):Op→PR
 | .move x=>.ok (st.ev x)
 | .assign x=>.ok (st.ev x)
 | .pick c a b=>match st.ev c with
  | .one (.c (.v (.bool true)))=>.ok (st.ev a)
  | .one (.c (.v (.bool false)))=>.ok (st.ev b)
  | _=>.no
 | .build t parts=>match lkp T t with
  | some (.st fs z)=>match buildA fs (argsA st parts.toList) (z.map cst1) with
   | some l=>.ok (.one (.agg l))
   | none=>.no
  | some (.ar n m _)=>match parts.toList with
   | []=>.ok (.one (.c (.arr (List.replicate (n*m) 0))))
   | _=>.no
  | _=>.no
 | .load t a=>loadA T t st.o (st.ev a)
 | .nilCheck x=>match st.ev x with
  | .one (.c (.pb k j))=>.ok (.one (.c (.pb k j)))
  | .one (.c (.pr k i j))=>.ok (.one (.c (.pr k i j)))
  | .one (.c (.pe l j))=>.ok (.one (.c (.pe l j)))
  | .one (.c (.v (.func (.func f) a b)))=>.ok (V (.func (.func f) a b))
  | .one (.c (.cl f cs))=>match Nat.blt f 2000000 with
   | true=>.ok (.one (.c (.cl f cs)))
   | false=>.no
  | .one (.c (.pel τ l))=>.ok (.one (.c (.pel τ l)))
  | _=>.no
 | .binOp op xt x y _=>match ifaceT T xt with
  | true=>.no
  | false=>binA T op xt (st.ev x) (st.ev y)
 | .unOp op _ x=>match op,st.ev x with
  | .not,.one (.c (.v (.bool b)))=>.ok (VB (!b))
  | .neg,.one (.c (.v (.int .i64 n)))=>.req (InR (0 - n)) (VI (0 - n))
  | _,_=>.no
 | .convert src dst x=>match lkp T src,lkp T dst,st.ev x with
  | some (.sc _),some (.sc (.int .i64 _)),.one (.c (.v (.int _ n)))=>.req (InR n) (VI n)
  | some (.sc _),some (.sc (.int .u8 _)),.one (.c (.v (.int _ n)))=>.req (0≤n∧n≤255) (V (.int .u8 n))
  | some (.sc _),some (.sc (.int .u64 _)),.one (.c (.v (.int _ n)))=>.req (0≤n∧InR n) (V (.int .u64 n))
  | _,_,_=>.no
 | .slice t x lo hi none=>match bnd st lo,bnd st hi,lkp T t with
  | some a,some b,some (.sl _ τ)=>match isTy st.o τ (st.ev x) with
   | true=>sliceA st.o (st.ev x) a b
   | false=>.no
  | some a,some b,some (.sc (.string _))=>match isStr (st.ev x) with
   | true=>sliceA st.o (st.ev x) a b
   | false=>.no
  | _,_,_=>.no
 | .slice t x (some lo) (some hi) (some mx)=>match intA (st.ev lo),intA (st.ev hi),intA (st.ev mx),lkp T t with
  | some a,some b,some m,some (.sl _ τ)=>match isTy st.o τ (st.ev x),lenA st.o (st.ev x) with
   | true,some n=>.req (0≤a∧a≤b∧b≤m∧m≤n) (.one (.c .un))
   | _,_=>.no
  | _,_,_,_=>.no
 | .fieldAddr s x f=>match fieldOff T s f with
  | some off=>fieldA off (st.ev x)
  | none=>.no
 | .field s x f=>match lkp T s,st.ev x with
  | some (.st fs _),.one (.agg l)=>match fs[f]? with
   | some (off,size)=>match Nat.beq size 1,l[off]? with
    | true,some c=>.ok (.one (.c c))
    | _,_=>.no
   | none=>.no
  | _,_=>.no
 | .indexAddr t x i=>match lkp T t,intA (st.ev i) with
  | some (.sl _ τ),some n=>match isTy st.o τ (st.ev x) with
   | true=>indexA st.o (st.ev x) n
   | false=>.no
  | some (.sl2 _ τ),some n=>match st.ev x with
   | .one (.c (.rol σ ls))=>match τ.eqb σ with
    | true=>.req (0≤n∧n < ls.length) (.one (.c (.pel σ (ls.getD n.toNat []))))
    | false=>.no
   | .one (.c (.sb k m))=>.req (0≤n∧n < m) (.one (.c (.pb k n.toNat)))
   | _=>.no
  | some (.ar n m _),some q=>match st.ev x with
   | .one (.c (.pr k b j))=>match Nat.beq j 0,lkp st.o k with
    | true,some (.row .int l)=>.req ((0≤q∧q < n)∧b+q.toNat*m+m≤l.length) (.one (.c (.pr k (b+q.toNat*m) 0)))
    | _,_=>.no
   | _=>.no
  | _,_=>.no
 | .index t x i=>match st.ev x,intA (st.ev i),lkp T t with
  | .one (.c (.v (.string s))),some n,some (.sc (.string _))=>.req (0≤n∧n < s.size) (V (.int .u8 ((s.data.getD n.toNat 0).toNat:Int)))
  | _,_,_=>.no
 | .extract x i=>match st.ev x with
  | .tup l=>match l[i]? with
   | some a=>.ok (.one a)
   | none=>.no
  | _=>.no
 | .makeFunc fn first caps=>match fn,valsA st first.toList,valsA st caps.toList with
  | .func f,some a,some b=>.ok (V (.func (.func f) a.toArray b.toArray))
  | .func f,some [],none=>match pesA st caps.toList,Nat.blt f 1000000 with
   | some l,true=>.ok (.one (.c (.cl f l)))
   | _,_=>.no
  | _,_,_=>.no
 | .call c=>match c.callee with
  | .builtin .len=>match c.args.toList,c.argTypes.toList with
   | [x],t :: _=>match lkp T t with
    | some (.sl _ _)=>match isStr (st.ev x),lenA st.o (st.ev x) with
     | false,some n=>.ok (VI n)
     | _,_=>.no
    | some (.sl2 _ _)=>match isStr (st.ev x),lenA st.o (st.ev x) with
     | false,some n=>.ok (VI n)
     | _,_=>.no
    | some (.sc (.string _))=>match isStr (st.ev x),lenA st.o (st.ev x) with
     | true,some n=>.ok (VI n)
     | _,_=>.no
    | _=>.no
   | _,_=>.no
  | .builtin .cap=>match c.args.toList,c.argTypes.toList with
   | [x],t :: _=>match lkp T t,st.ev x with
    | some (.sl _ _),.one (.c .nil)=>.ok (VI 0)
    | some (.sl _ _),.one (.c (.xs _ _ _ c))=>.ok (VI c)
    | _,_=>.no
   | _,_=>.no
  | .builtin .min=>match minA (c.args.toList.map st.ev) with
   | some n=>.ok (VI n)
   | none=>.no
  | .builtin .max=>match maxA (c.args.toList.map st.ev) with
   | some n=>.ok (VI n)
   | none=>.no
  | _=>.no
 | _=>.no
end Go.Ev
