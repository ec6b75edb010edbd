/- The evaluator,second part: operations that make or write memory,calls by contract,regions,loops. Definitions alone; no statement is proved here. -/
import Derived.Test.YtemhpncmhdcheabGreatDoorEvA
namespace Go.Ev
set_option linter.unusedVariables false
set_option linter.unusedSimpArgs false
open Go
def elemA (τ:Ty) (x:AV):Option τ.D:=match cellsA x with
 | some l=>match cvals l with
  | some vs=>τ.dec vs
  | none=>none
 | none=>none
def rowA (τ:Ty):Nat→List (Nat×AV)→Option (List τ.D)
 | _,[]=>some []
 | n,(i,x) :: r=>match Nat.beq i n with
  | true=>match elemA τ x with
   | some e=>match rowA τ (n+1) r with
    | some l=>some (e :: l)
    | none=>none
   | none=>none
  | false=>none
def St.newK (st:St) (k:Nat) (ob:OB):St:=match lkp st.o k with
 | none=>⟨st.t,(k,ob) :: st.o⟩
 | some _=>⟨mapT (C.kill k) st.t,(k,ob.map (C.kill k)) :: mapO (C.kill k) (dropO k st.o)⟩
def memN:List Nat→Nat→Bool
 | [],_=>false
 | j :: r,i=>match Nat.beq j i with
  | true=>true
  | false=>memN r i
def putK (N:Nat) (d:Option Nat) (x:AV) (st:St) (K:St→Prop):Prop:=match d with
 | none=>K st
 | some d=>match Nat.blt d N with
  | true=>K (st.put d x)
  | false=>False
def zeroCells (T:Tab) (t:TypeId):Option (List C):=match lkp T t with
 | some (.sc z)=>some [cst1 z]
 | some (.st _ z)=>some (z.map cst1)
 | some (.sl _ _)=>some [.nil]
 | some (.sl2 _ _)=>some [.nil]
 | _=>none
def sizeT (T:Tab) (t:TypeId):Option Nat:=match lkp T t with
 | some (.sc _)=>some 1
 | some (.st _ z)=>some z.length
 | some (.sl _ _)=>some 1
 | some (.sl2 _ _)=>some 1
 | _=>none
def storeA (lk:List Nat) (o:List (Nat×OB)) (n:Nat) (cs:List C):AV→Option (List (Nat×OB))
 | .one (.c (.pb k j))=>match memN lk k,lkp o k,Nat.beq cs.length n with
  | false,some (.box l),true=>match Nat.ble (j+n) l.length with
   | true=>some (setO k (.box (setsL l j cs)) o)
   | false=>none
  | _,_,_=>none
 | .one (.c (.pr k i j))=>match memN lk k,lkp o k,Nat.beq cs.length n,cvals cs with
  | false,some (.row τ l),true,some vs=>match vs with
   | [x]=>match Nat.blt j τ.sz,τ.dec ((τ.enc (l.getD i τ.zero)).set j x) with
    | true,some e=>some (setO k (.row τ (l.set i e)) o)
    | _,_=>none
   | vs=>match Nat.beq j 0,Nat.beq n τ.sz,τ.dec vs with
    | true,true,some e=>some (setO k (.row τ (l.set i e)) o)
    | _,_,_=>none
  | _,_,_,_=>none
 | _=>none
def storeAr (T:Tab) (lk:List Nat) (o:List (Nat×OB)) (t:TypeId):AV→AV→Option (Prop×List (Nat×OB))
 | .one (.c (.pr k i j)),.one (.c (.arr r))=>match lkp T t,memN lk k,lkp o k,Nat.beq i 0,Nat.beq j 0 with
  | some (.ar n m _),false,some (.row .int l),true,true=>some (r.length=n*m∧l.length=n*m,setO k (.row .int r) o)
  | _,_,_,_,_=>none
 | _,_=>none
def listA (τ:Ty) (o:List (Nat×OB)):AV→Option (List τ.D)
 | .one (.c .nil)=>some []
 | .one (.c (.ro σ l))=>castL τ σ l
 | .one (.c (.ow k))=>match lkp o k with
  | some (.row σ l)=>castL τ σ l
  | _=>none
 | .one (.c (.sub k off n))=>match lkp o k with
  | some (.row σ l)=>match castL τ σ l with
   | some l=>some ((l.drop off).take n)
   | none=>none
  | _=>none
 | _=>none
def baseK (lk:List Nat):AV→Option (Option Nat)
 | .one (.c .nil)=>some none
 | .one (.c (.ow k))=>match memN lk k,Nat.blt k 100000 with
  | false,true=>some (some k)
  | _,_=>none
 | .one (.c (.sub k _ _))=>match memN lk k,Nat.blt k 100000 with
  | false,true=>some (some k)
  | _,_=>none
 | _=>none
def sameRow:AV→AV→Option (Nat×Nat×Nat)
 | .one (.c (.sub k off n)),.one (.c (.sub k' _ _))=>match Nat.beq k k' with
  | true=>some (k,off,n)
  | false=>none
 | _,_=>none
def midA {α:Type} (l:List α) (i:Nat) (r:List α):List α:=l.take i++(r++l.drop (i+r.length))
def roA (τ:Ty):AV→Option (List τ.D)
 | .one (.c .nil)=>some []
 | .one (.c (.ro σ l))=>castL τ σ l
 | _=>none
def srcX (τ:Ty) (o:List (Nat×OB)) (n:Nat):AV→Option (Prop×List τ.D)
 | .one (.c (.xs k off len _))=>match lkp o k with
  | some (.row σ l)=>match castL τ σ l with
   | some l=>some (n≤len∧off+n≤l.length,(l.drop off).take n)
   | none=>none
  | _=>none
 | x=>match listA τ o x with
  | some r=>some (r.length≤n,r)
  | none=>none
def putX {α:Type} (l:List α) (i:Nat) (r:List α):List α:=l.take i++(r++l.drop (i+r.length))
def rowsA (τ:Ty):Nat→List (Nat×AV)→Option (List (List τ.D))
 | _,[]=>some []
 | n,(i,x) :: r=>match Nat.beq i n with
  | true=>match roA τ x with
   | some e=>match rowsA τ (n+1) r with
    | some l=>some (e :: l)
    | none=>none
   | none=>none
  | false=>none
def keyRows:List (Nat×AV)→List Nat
 | []=>[]
 | (_,.one (.c (.ow k))) :: r=>k :: keyRows r
 | (_,.one (.c (.sub k _ _))) :: r=>k :: keyRows r
 | _ :: r=>keyRows r
def castLL:(τ σ:Ty)→List (List σ.D)→Option (List (List τ.D))
 | .int,.int,l=>some l
 | .bool,.bool,l=>some l
 | .u8,.u8,l=>some l
 | .str,.str,l=>some l
 | .ii,.ii,l=>some l
 | .iii,.iii,l=>some l
 | .iib,.iib,l=>some l
 | _,_,_=>none
def killO (st:St):Option Nat→St
 | none=>st
 | some k=>st.kill k
inductive CT where
 | sc
 | sl (τ:Ty)
 | fn
 | pe
 | sll (τ:Ty)
 | ar
inductive PT where
 | c (t:CT)
 | agg (l:List CT)
 | ptr (l:List CT)
inductive Md where
 | rd
 | mu
 | mv
structure Con where
 mu:List Md
 fresh:Bool
 ps:List PT
 F:List A1→(AV→List A1→Prop)→Prop
 box:Bool
structure Inl where
 f:FuncId
 G:List AV→St→(AV→St→Prop)→Prop
structure Cons where
 con:List (FuncId×Con)
 inl:List (Nat×Inl)
 B:Nat
 bx:List Nat
 sp:List Nat
 ov:List FuncId
def capKeys:List Cap→List Nat
 | []=>[]
 | .b k :: r=>k :: capKeys r
 | _ :: r=>capKeys r
def deepC (o:List (Nat×OB)):C→Option C
 | .v x=>some (.v x)
 | .cl f cs=>match capKeys cs with
  | []=>some (.cl f cs)
  | _ :: _=>none
 | .pe l j=>some (.pe l j)
 | .rol τ ls=>some (.rol τ ls)
 | .nil=>some .nil
 | .arr l=>some (.arr l)
 | .ro τ l=>some (.ro τ l)
 | .ow k=>match lkp o k with
  | some (.row τ l)=>some (.ro τ l)
  | _=>none
 | .sub k off n=>match lkp o k with
  | some (.row τ l)=>some (.ro τ ((l.drop off).take n))
  | _=>none
 | _=>none
def confC:CT→C→Option C
 | .sc,.v x=>some (.v x)
 | .fn,.v x=>some (.v x)
 | .fn,.cl f cs=>some (.cl f cs)
 | .pe,.pe l 0=>some (.pe l 0)
 | .ar,.arr l=>some (.arr l)
 | .sl τ,.nil=>some (.ro τ [])
 | .sl τ,.ro σ l=>match castL τ σ l with
  | some l=>some (.ro τ l)
  | none=>none
 | .sll τ,.nil=>some (.rol τ [])
 | .sll τ,.rol σ l=>match τ.eqb σ,castLL τ σ l with
  | true,some l=>some (.rol τ l)
  | _,_=>none
 | _,_=>none
def argC (o:List (Nat×OB)) (t:CT) (x:C):Option C:=match deepC o x with
 | some y=>confC t y
 | none=>none
def argCs (o:List (Nat×OB)):List CT→List C→Option (List C)
 | [],[]=>some []
 | t :: ts,x :: xs=>match argC o t x,argCs o ts xs with
  | some y,some l=>some (y :: l)
  | _,_=>none
 | _,_=>none
def arg1 (o:List (Nat×OB)):PT→A1→Option A1
 | .c t,.c x=>match argC o t x with
  | some y=>some (.c y)
  | none=>none
 | .agg ts,.agg l=>match argCs o ts l with
  | some l=>some (.agg l)
  | none=>none
 | .ptr ts,.c (.pb k 0)=>match lkp o k with
  | some (.box l)=>match argCs [] ts l with
   | some l=>some (.ptr l)
   | none=>none
  | _=>none
 | _,_=>none
def args1 (o:List (Nat×OB)):List PT→List A1→Option (List A1)
 | [],[]=>some []
 | t :: ts,x :: xs=>match arg1 o t x,args1 o ts xs with
  | some y,some l=>some (y :: l)
  | _,_=>none
 | _,_=>none
def asA1:List AV→Option (List A1)
 | []=>some []
 | .one a :: r=>match asA1 r with
  | some l=>some (a :: l)
  | none=>none
 | _ :: _=>none
def keyC:C→List Nat
 | .ow k=>[k]
 | .sub k _ _=>[k]
 | .pb k _=>[k]
 | .pr k _ _=>[k]
 | .xs k _ _ _=>[k]
 | .sb k _=>[k]
 | .cl _ cs=>capKeys cs
 | _=>[]
def keysCs:List C→List Nat
 | []=>[]
 | x :: r=>keyC x++keysCs r
def keys1:A1→List Nat
 | .c x=>keyC x
 | .agg l=>keysCs l
 | .ptr l=>keysCs l
def wholeC:C→Bool
 | .v _=>true
 | .nil=>true
 | .ow _=>true
 | _=>false
def wholeCs:List C→Bool
 | []=>true
 | x :: r=>match wholeC x with
  | true=>wholeCs r
  | false=>false
def whole1:A1→Bool
 | .c (.pb _ 0)=>true
 | .c x=>wholeC x
 | .agg l=>wholeCs l
 | .ptr _=>false
def mutA:List Md→List A1→Option (Md×A1)
 | .rd :: ms,_ :: av=>mutA ms av
 | m :: _,a :: _=>some (m,a)
 | _,_=>none
def allRd:List Md→Bool
 | []=>true
 | .rd :: r=>allRd r
 | _ :: _=>false
def oneMut:List Md→Bool
 | []=>true
 | .rd :: r=>oneMut r
 | _ :: r=>allRd r
def mutKeys (ms:List Md) (av:List A1):List Nat:=match mutA ms av with
 | some (_,a)=>keys1 a
 | none=>[]
def mvKeys (ms:List Md) (av:List A1):List Nat:=match mutA ms av with
 | some (.mv,a)=>keys1 a
 | _=>[]
def stillKeys:List Md→List A1→List Nat
 | .rd :: bs,a :: av=>keys1 a++stillKeys bs av
 | _ :: bs,_ :: av=>stillKeys bs av
 | _,_=>[]
def mutWhole (ms:List Md) (av:List A1):Bool:=match mutA ms av with
 | some (_,a)=>whole1 a
 | none=>true
def noneIn (lk:List Nat):List Nat→Bool
 | []=>true
 | k :: r=>match memN lk k with
  | true=>false
  | false=>noneIn lk r
def distinctN:List Nat→Bool
 | []=>true
 | k :: r=>match memN r k with
  | true=>false
  | false=>distinctN r
def noPb:List Md→List A1→Bool
 | .rd :: _,.c (.pb _ _) :: _=>false
 | _ :: bs,_ :: av=>noPb bs av
 | _,_=>true
def mutOK (lk:List Nat) (ms:List Md) (av:List A1):Bool:=
 match mutWhole ms av,noneIn lk (mutKeys ms av),distinctN (mutKeys ms av),noneIn (mutKeys ms av) (stillKeys ms av),oneMut ms,Nat.beq ms.length av.length,noPb ms av with
 | true,true,true,true,true,true,true=>true
 | _,_,_,_,_,_,_=>false
def plainC:C→Bool
 | .v _=>true
 | .nil=>true
 | .arr _=>true
 | .ro _ _=>true
 | .rol _ _=>true
 | _=>false
def plainCs:List C→Bool
 | []=>true
 | x :: r=>match plainC x with
  | true=>plainCs r
  | false=>false
def plain1:A1→Bool
 | .c x=>plainC x
 | .agg l=>plainCs l
 | .ptr _=>false
def plain1s:List A1→Bool
 | []=>true
 | x :: r=>match plain1 x with
  | true=>plain1s r
  | false=>false
def plainA:AV→Bool
 | .one a=>plain1 a
 | .tup l=>plain1s l
def wbC (o:List (Nat×OB)):C→C→Option (List (Nat×OB))
 | .v _,.v _=>some o
 | .nil,.ro _ _=>some o
 | .ow k,.ro τ l=>some (setO k (.row τ l) o)
 | _,_=>none
def wbCs:List (Nat×OB)→List C→List C→Option (List (Nat×OB))
 | o,[],[]=>some o
 | o,x :: xs,y :: ys=>match wbC o x y with
  | some o=>wbCs o xs ys
  | none=>none
 | _,_,_=>none
def wb1 (o:List (Nat×OB)):A1→A1→Option (List (Nat×OB))
 | .c (.pb k 0),.ptr l=>match plainCs l with
  | true=>some (setO k (.box l) o)
  | false=>none
 | .c x,.c y=>wbC o x y
 | .agg l,.agg l'=>wbCs o l l'
 | _,_=>none
def wbs (o:List (Nat×OB)) (ms:List Md) (av bs:List A1):Option (List (Nat×OB)):=match mutA ms av,bs with
 | some (.mu,a),[b]=>wb1 o a b
 | some (.mv,_),[]=>some o
 | none,[]=>some o
 | _,_=>none
def killAll:List Nat→St→St
 | [],st=>st
 | k :: r,st=>killAll r (st.kill k)
def St.frz (st:St) (k:Nat):Option St:=match lkp st.o k,Nat.blt k 100000 with
 | some (.row τ l),true=>some ⟨mapT (C.frz k τ l) st.t,mapO (C.frz k τ l) (dropO k st.o)⟩
 | none,_=>some st
 | _,_=>none
def frzAll:List Nat→St→Option St
 | [],st=>some st
 | k :: r,st=>match st.frz k with
  | some st=>frzAll r st
  | none=>none
def instC:Nat→C→C×List (Nat×OB)×Nat
 | k,.ro τ l=>(.ow k,[(k,.row τ l)],k+1)
 | k,.rol _ _=>(.un,[],k)
 | k,x=>(x,[],k)
def instCs:Nat→List C→List C×List (Nat×OB)×Nat
 | k,[]=>([],[],k)
 | k,x :: r=>((instC k x).1 :: (instCs (instC k x).2.2 r).1,(instC k x).2.1++(instCs (instC k x).2.2 r).2.1,(instCs (instC k x).2.2 r).2.2)
def inst1:Nat→A1→A1×List (Nat×OB)×Nat
 | k,.c x=>(.c (instC k x).1,(instC k x).2.1,(instC k x).2.2)
 | k,.agg l=>(.agg (instCs k l).1,(instCs k l).2.1,(instCs k l).2.2)
 | k,.ptr l=>(.ptr l,[],k)
def inst1s:Nat→List A1→List A1×List (Nat×OB)×Nat
 | k,[]=>([],[],k)
 | k,x :: r=>((inst1 k x).1 :: (inst1s (inst1 k x).2.2 r).1,(inst1 k x).2.1++(inst1s (inst1 k x).2.2 r).2.1,(inst1s (inst1 k x).2.2 r).2.2)
def instA:Nat→AV→AV×List (Nat×OB)
 | k,.one a=>(.one (inst1 k a).1,(inst1 k a).2.1)
 | k,.tup l=>(.tup (inst1s k l).1,(inst1s k l).2.1)
def lowN:List Nat→Bool
 | []=>true
 | k :: r=>match Nat.blt k 100000 with
  | true=>lowN r
  | false=>false
def instR (fresh:Bool) (k:Nat) (r:AV):AV×List (Nat×OB):=match fresh with
 | true=>instA k r
 | false=>(r,[])
def freeN:Nat→Nat→St→St
 | 0,_,st=>st
 | n+1,k,st=>freeN n (k+1) (st.free k)
def key (d:Option Nat):Nat:=match d with
 | some d=>16*d
 | none=>7
def Cons.k (Γ:Cons) (d:Option Nat):Nat:=Γ.B+key d
def isPtr (ms:List Md) (av:List A1):Bool:=match mutA ms av with
 | some (_,.c (.pb _ _))=>true
 | _=>false
def needFrz (C:Con) (av:List A1):Bool:=match C.fresh,isPtr C.mu av with
 | true,false=>false
 | _,_=>match stillKeys C.mu av with
  | []=>false
  | _ :: _=>true
def callC (lk:List Nat) (N:Nat) (st:St) (kd:Nat) (d:Option Nat) (C:Con) (av:List A1) (K:St→Prop):Prop:=
 match args1 st.o C.ps av with
 | none=>False
 | some vs=>match mutOK lk C.mu av,needFrz C av,Nat.ble (kd+16) 100000,lowN (mvKeys C.mu av) with
  | true,false,true,true=>C.F vs fun r outs=>match wbs st.o C.mu av outs,plainA r with
   | none,_=>False
   | _,false=>False
   | some o',true=>putK N d (instR C.fresh kd r).1 ⟨(killAll (mvKeys C.mu av) ⟨st.t,o'⟩).t,(instR C.fresh kd r).2++(killAll (mvKeys C.mu av) ⟨st.t,o'⟩).o⟩ K
  | _,_,_,_=>False
def callB (lk:List Nat) (N:Nat) (st:St) (kd:Nat) (d:Option Nat) (C:Con) (av:List A1) (K:St→Prop):Prop:=
 match args1 st.o C.ps av with
 | none=>False
 | some vs=>match allRd C.mu,Nat.beq C.mu.length av.length,noPb C.mu av,stillKeys C.mu av with
  | true,true,true,[]=>C.F vs fun r outs=>match r with
   | .one (.agg l)=>match plainCs l with
    | true=>putK N d (.one (.c (.pb kd 0))) (st.newK kd (.box l)) K
    | false=>False
   | _=>False
  | _,_,_,_=>False
def keysAVs:List AV→List Nat
 | []=>[]
 | .one a :: r=>keys1 a++keysAVs r
 | .tup _ :: r=>0 :: keysAVs r
def capA:Cap→AV
 | .k y=>.one (.c (.pe [y] 0))
 | .b k=>.one (.c (.pb k 0))
 | .v y=>.one (.c (.v y))
def calleeA (st:St):Operand→Option (FuncId×List AV×List AV)
 | .func f=>some (f,[],[])
 | x=>match st.ev x with
  | .one (.c (.v (.func (.func f) ⟨fs⟩ ⟨caps⟩)))=>some (f,fs.map cst,caps.map cst)
  | .one (.c (.cl f cs))=>match Nat.blt f 1000000 with
   | true=>some (f,[],cs.map capA)
   | false=>match Nat.blt f 2000000 with
    | true=>some (f - 1000000,cs.map capA,[])
    | false=>none
  | _=>none
def ovA (Γ:Cons) (f:FuncId):List AV→Bool
 | [.one (.c (.ro _ _)),.one (.c (.xs _ _ _ _))]=>memN Γ.ov f
 | _=>false
def inlFind (d:Nat) (f:FuncId):List (Nat×Inl)→Option (List AV→St→(AV→St→Prop)→Prop)
 | []=>none
 | (d',i) :: r=>match Nat.beq d' d,Nat.beq i.f f with
  | true,true=>some i.G
  | _,_=>inlFind d f r
def inlAt (Γ:Cons) (d:Option Nat) (f:FuncId):Option (List AV→St→(AV→St→Prop)→Prop):=match d with
 | some d=>inlFind d f Γ.inl
 | none=>none
def br (b:Bool) (A B:Prop):Prop:=match b with
 | true=>A
 | false=>B
def lookK (cs:List Cap) (s:ByteArray):List (ByteArray×Int×FuncId)→(AV→Prop)→Prop
 | [],K=>K (.tup [.agg [.v (.int .i64 0),.v .nilFunc],.c (.v (.bool false))])
 | (b,n,f) :: r,K=>match Nat.blt f 1000000 with
  | true=>br (s==b) (K (.tup [.agg [.v (.int .i64 n),.cl (1000000+f) cs],.c (.v (.bool true))])) (lookK cs s r K)
  | false=>False
def evOp (T:Tab) (Γ:Cons) (lk:List Nat) (N:Nat) (o:Oper) (st:St) (K:St→Prop):Prop:=
 match pureOp T st o.op with
 | .ok x=>putK N o.dst x st K
 | .req c x=>c∧putK N o.dst x st K
 | .no=>match o.op with
  | .alloc t=>match zeroCells T t with
   | some l=>putK N o.dst (.one (.c (.pb (Γ.k o.dst) 0))) (st.newK (Γ.k o.dst) (.box l)) K
   | none=>match lkp T t with
    | some (.ar n m _)=>match Nat.blt 0 (n*m),Nat.ble (n*m) 1000 with
     | true,true=>putK N o.dst (.one (.c (.pr (Γ.k o.dst) 0 0))) (st.newK (Γ.k o.dst) (.row .int (List.replicate (n*m) (0:Int)))) K
     | _,_=>False
    | _=>False
  | .box t x=>match memN Γ.bx (Γ.k o.dst),lkp T t,cellsA (st.ev x) with
   | false,some (.sc _),some [.v y]=>putK N o.dst (.one (.c (.pe [y] 0))) st K
   | _,_,some l=>putK N o.dst (.one (.c (.pb (Γ.k o.dst) 0))) (st.newK (Γ.k o.dst) (.box l)) K
   | _,_,none=>False
  | .buildSlice t len parts=>match lkp T t with
   | some (.sl _ τ)=>match rowA τ 0 (argsA st parts.toList) with
    | some l=>match Nat.beq l.length len,Nat.ble len 1000 with
     | true,true=>putK N o.dst (.one (.c (.ow (Γ.k o.dst)))) (st.newK (Γ.k o.dst) (.row τ l)) K
     | _,_=>False
    | none=>False
   | some (.sl2 _ τ)=>match parts.toList,Nat.beq len 0 with
    | [],true=>putK N o.dst (.one (.c (.sb (Γ.k o.dst) 0))) (st.newK (Γ.k o.dst) (.box [])) K
    | _,_=>match noneIn lk (keyRows (argsA st parts.toList)),frzAll (keyRows (argsA st parts.toList)) st with
     | true,some st'=>match rowsA τ 0 (argsA st' parts.toList) with
      | some l=>match Nat.beq l.length len,Nat.ble len 1000 with
       | true,true=>putK N o.dst (.one (.c (.rol τ l))) st' K
       | _,_=>False
      | none=>False
     | _,_=>False
   | _=>False
  | .makeSlice t a b=>match lkp T t,intA (st.ev a),intA (st.ev b) with
   | some (.sl _ τ),some n,some m=>(n=m∧0≤n∧n≤1000000000)∧putK N o.dst (.one (.c (.ow (Γ.k o.dst)))) (st.newK (Γ.k o.dst) (.row τ (List.replicate n.toNat τ.zero))) K
   | some (.sl2 _ _),some n,some m=>(n=m∧0≤n∧n≤1000)∧putK N o.dst (.one (.c (.sb (Γ.k o.dst) n.toNat))) (st.newK (Γ.k o.dst) (.box (List.replicate n.toNat .nil))) K
   | _,_,_=>False
  | .convert src dst x=>match lkp T src,lkp T dst,listA .u8 st.o (st.ev x) with
   | some (.sl e _),some (.sc (.string _)),some l=>match lkp T e with
    | some (.sc (.int .u8 _))=>putK N o.dst (V (.string (strOfNums l))) st K
    | _=>False
   | _,_,_=>False
  | .binOp op xt x y _=>match op,lkp T xt,st.ev x,st.ev y with
   | .eql,some (.sl _ _),.one (.c (.ro _ l)),.one (.c .nil)=>∀ b:Bool,(b=true→l.length=0)→putK N o.dst (VB b) st K
   | .neq,some (.sl _ _),.one (.c (.ro _ l)),.one (.c .nil)=>∀ b:Bool,(b=false→l.length=0)→putK N o.dst (VB b) st K
   | .neq,some (.sc .nilIface),.one (.c (.v v)),.one (.c (.v .nilIface))=>match y with
    | .const _=>(ifV v=true)∧putK N o.dst (VB (!nilV v)) st K
    | _=>False
   | _,_,_,_=>False
  | .lookup t x i ok=>match lkp T t,st.ev x,st.ev i with
   | some (.mp _ _),.one (.c (.cl f cs)),.one (.c (.v (.string s)))=>match Nat.blt f 2000000,ok with
    | false,true=>lookK cs s cmdTab fun x=>putK N o.dst x st K
    | _,_=>False
   | _,_,_=>False
  | .store t a x=>match sizeT T t,cellsA (st.ev x) with
   | some n,some cs=>match storeA lk st.o n cs (st.ev a) with
    | some o'=>putK N o.dst (V undef) ⟨st.t,o'⟩ K
    | none=>False
   | _,_=>match storeAr T lk st.o t (st.ev a) (st.ev x) with
    | some (c,o')=>c∧putK N o.dst (V undef) ⟨st.t,o'⟩ K
    | none=>False
  | .call c=>match c.callee with
   | .builtin .append=>match c.args.toList,c.argTypes.toList with
    | [s,x],[t,t']=>match Nat.beq t t',lkp T t,baseK lk (st.ev s) with
     | true,some (.sl _ τ),some b=>match sameRow (st.ev s) (st.ev x),listA τ st.o (st.ev s),listA τ st.o (st.ev x) with
      | none,some l,some r=>(l.length+r.length≤1000000000)∧putK N o.dst (.one (.c (.ow (Γ.k o.dst)))) ((killO st b).newK (Γ.k o.dst) (.row τ (l++r))) K
      | some (k,off,n),some _,some r=>match lkp st.o k with
       | some (.row σ l)=>match castL τ σ l with
        | some l=>(off+n+r.length≤l.length)∧putK N o.dst (.one (.c (.sub k off (n+r.length)))) ⟨st.t,setO k (.row τ (midA l (off+n) r)) st.o⟩ K
        | none=>False
       | _=>False
      | _,_,_=>False
     | false,some (.sl _ τ),some none=>match intA (st.ev x),lkp T t' with
      | some n,some (.sc (.int .i64 _))=>(0≤n∧n≤1000000000)∧putK N o.dst (.one (.c (.ow (Γ.k o.dst)))) (st.newK (Γ.k o.dst) (.row τ (List.replicate n.toNat τ.zero))) K
      | _,_=>False
     | false,some (.sl _ τ),none=>match intA (st.ev x),lkp T t',st.ev s with
      | some n,some (.sc (.int .i64 _)),.one (.c (.xs k off len c))=>match lkp st.o k with
       | some (.row σ l)=>match castL τ σ l with
        | some l=>(0≤n∧c < len+n∧len+n≤1000000000∧off+len≤l.length)∧putK N o.dst (.one (.c (.ow (Γ.k o.dst)))) (st.newK (Γ.k o.dst) (.row τ ((l.drop off).take len++List.replicate n.toNat τ.zero))) K
        | none=>False
       | _=>False
      | _,_,_=>False
     | true,some (.sl2 _ τ),none=>match st.ev s,st.ev x with
      | .one (.c (.sb k n)),.one (.c (.rol _ ls))=>match memN lk k,Nat.blt k 100000,lkp st.o k with
       | false,true,some (.box cs)=>match Nat.beq n cs.length,roCs cs,ls,Nat.ble (n+ls.length) 1000 with
        | true,true,_ :: _,true=>putK N o.dst (.one (.c (.sb (Γ.k o.dst) (n+ls.length)))) ((st.kill k).newK (Γ.k o.dst) (.box (cs++ls.map (.ro _)))) K
        | _,_,_,_=>False
       | _,_,_=>False
      | _,_=>False
     | _,_,_=>False
    | _,_=>False
   | .builtin .clear=>match c.args.toList,c.argTypes.toList with
    | [s],[t]=>match lkp T t,st.ev s with
     | some (.sl _ τ),.one (.c (.sub k off n))=>match memN lk k,lkp st.o k with
      | false,some (.row σ l)=>match castL τ σ l with
       | some l=>putK N o.dst (V undef) ⟨st.t,setO k (.row τ (midA l off (List.replicate n τ.zero))) st.o⟩ K
       | none=>False
      | _,_=>False
     | _,_=>False
    | _,_=>False
   | .builtin .copy=>match c.args.toList,c.argTypes.toList with
    | [s,x],[t,_]=>match lkp T t,st.ev s with
     | some (.sl _ τ),.one (.c (.ow k))=>match memN lk k,listA τ st.o (.one (.c (.ow k))),listA τ st.o (st.ev x),Nat.beq τ.sz 1 with
      | false,some l,some r,true=>(l.length=r.length)∧putK N o.dst (VI l.length) ⟨st.t,setO k (.row τ r) st.o⟩ K
      | _,_,_,_=>False
     | some (.sl _ τ),.one (.c (.sub k off n))=>match memN lk k,lkp st.o k with
      | false,some (.row σ l)=>match castL τ σ l,srcX τ st.o n (st.ev x) with
       | some l,some (p,r)=>p∧putK N o.dst (VI r.length) ⟨st.t,setO k (.row τ (midA l off r)) st.o⟩ K
       | _,_=>False
      | _,_=>False
     | some (.sl _ τ),.one (.c (.xs k off n c))=>match memN lk k,Nat.blt k 100000,lkp st.o k with
      | false,true,some (.row σ l)=>match castL τ σ l,srcX τ st.o n (st.ev x) with
       | some l,some (p,r)=>p∧(off≤l.length)∧putK N o.dst (VI r.length) ⟨mapT (C.killx k) st.t,setO k (.row τ (putX l off r)) (mapO (C.killx k) st.o)⟩ K
       | _,_=>False
      | _,_,_=>False
     | _,_=>False
    | _,_=>False
   | .value f=>match calleeA (freeN 16 (Γ.k o.dst) st) f with
    | some (f,first,caps)=>match ovA Γ f (first++(c.args.toList.map (freeN 16 (Γ.k o.dst) st).ev++caps)) with
     | true=>putK N o.dst (VB false) (freeN 16 (Γ.k o.dst) st) K
     | false=>match inlAt Γ o.dst f with
     | some G=>match lk,asA1 (first++(c.args.toList.map (freeN 16 (Γ.k o.dst) st).ev++caps)) with
      | [],some _=>G (first++(c.args.toList.map (freeN 16 (Γ.k o.dst) st).ev++caps)) (freeN 16 (Γ.k o.dst) st) fun r st'=>putK N o.dst r st' K
      | _,_=>False
     | none=>match keysAVs (first++caps),lkp Γ.con f,asA1 (first++(c.args.toList.map (freeN 16 (Γ.k o.dst) st).ev++caps)) with
      | [],some C,some av=>match C.box with
       | true=>match noneIn lk (stillKeys C.mu av),frzAll (stillKeys C.mu av) (freeN 16 (Γ.k o.dst) st) with
        | true,some st'=>match asA1 (first++(c.args.toList.map st'.ev++caps)) with
         | some av'=>callB lk N st' (Γ.k o.dst) o.dst C av' K
         | none=>False
        | _,_=>False
       | false=>match needFrz C av with
        | false=>callC lk N (freeN 16 (Γ.k o.dst) st) (Γ.k o.dst) o.dst C av K
        | true=>match noneIn lk (stillKeys C.mu av),frzAll (stillKeys C.mu av) (freeN 16 (Γ.k o.dst) st) with
         | true,some st'=>match asA1 (first++(c.args.toList.map st'.ev++caps)) with
          | some av'=>callC lk N st' (Γ.k o.dst) o.dst C av' K
          | none=>False
         | _,_=>False
      | _,_,_=>False
    | none=>False
   | _=>False
  | _=>False
def split (st:St) (i:Nat) (K:St→Prop):Prop:=match st.tmp i with
 | .one (.c (.v (.bool b)))=>br b (K (st.put i (VB true))) (K (st.put i (VB false)))
 | _=>K st
def spK (Γ:Cons) (d:Option Nat) (K:St→Prop):St→Prop:=match d with
 | some d=>match memN Γ.sp d with
  | true=>fun st=>split st d K
  | false=>K
 | none=>K
def yieldA (st:St) (ops:List Oper) (j:Nat):Option (Option Bool):=match ops[j]? with
 | some o=>match o.dst with
  | some d=>match st.tmp d with
   | .one (.c (.v (.bool b)))=>some (some b)
   | .one (.c (.v x))=>match okV x with
    | true=>none
    | false=>some none
   | _=>none
  | none=>none
 | none=>none
def gslot (ops:List Oper) (o:Oper):Option Nat:=match o.guard with
 | some (j,_)=>match ops[j]? with
  | some g=>g.dst
  | none=>none
 | none=>none
def pslot (o:Oper):Option Nat:=match o.op with
 | .pick (.tmp c) _ _=>some c
 | _=>none
def splitO (st:St) (i:Option Nat) (K:St→Prop):Prop:=match i with
 | some i=>split st i K
 | none=>K st
def evG (T:Tab) (Γ:Cons) (lk:List Nat) (N:Nat) (ops:List Oper) (o:Oper) (st:St) (K:St→Prop):Prop:=
 splitO st (gslot ops o) fun st=>match o.guard with
  | none=>splitO st (pslot o) fun st=>evOp T Γ lk N o st (spK Γ o.dst K)
  | some (j,want)=>match yieldA st ops j with
   | some (some true)=>match want with
    | true=>splitO st (pslot o) fun st=>evOp T Γ lk N o st (spK Γ o.dst K)
    | false=>putK N o.dst (V undef) st K
   | some (some false)=>match want with
    | false=>splitO st (pslot o) fun st=>evOp T Γ lk N o st (spK Γ o.dst K)
    | true=>putK N o.dst (V undef) st K
   | some none=>putK N o.dst (V undef) st K
   | none=>False
def evOps (T:Tab) (Γ:Cons) (lk:List Nat) (N:Nat) (ops:List Oper):List Oper→St→(St→Prop)→Prop
 | [],st,K=>K st
 | o :: r,st,K=>evG T Γ lk N ops o st fun st=>evOps T Γ lk N ops r st K
inductive Plan where
 | done
 | none
 | take (i:Nat) (p:Plan)
 | alt (i:Nat) (p r:Plan)
def steadyA (lk:List Nat):AV→Bool
 | .one (.c (.pb k _))=>memN lk k
 | .one (.c (.pr k _ _))=>memN lk k
 | .one (.c (.pe _ _))=>true
 | .one (.c (.pel _ _))=>true
 | _=>false
def steady (lk:List Nat) (st:St):Op→Bool
 | .load _ a=>steadyA lk (st.ev a)
 | _=>true
def evPure (T:Tab) (lk:List Nat) (N:Nat) (o:Oper) (st:St) (K:St→Prop):Prop:=
 match steady lk st o.op with
 | false=>False
 | true=>match pureOp T st o.op with
  | .ok x=>putK N o.dst x st K
  | .req c x=>c∧putK N o.dst x st K
  | .no=>False
def evGP (T:Tab) (lk:List Nat) (N:Nat) (ops:List Oper) (o:Oper) (st:St) (K:St→Prop):Prop:=
 splitO st (gslot ops o) fun st=>match o.guard with
  | none=>splitO st (pslot o) fun st=>evPure T lk N o st K
  | some (j,want)=>match yieldA st ops j with
   | some (some true)=>match want with
    | true=>splitO st (pslot o) fun st=>evPure T lk N o st K
    | false=>putK N o.dst (V undef) st K
   | some (some false)=>match want with
    | false=>splitO st (pslot o) fun st=>evPure T lk N o st K
    | true=>putK N o.dst (V undef) st K
   | some none=>putK N o.dst (V undef) st K
   | none=>False
def evPlan (T:Tab) (Γ:Cons) (lk:List Nat) (N:Nat) (ops:List Oper):Plan→St→(St→Prop)→Prop
 | .done,st,K=>K st
 | .none,_,_=>True
 | .take i p,st,K=>match ops[i]? with
  | some o=>evGP T lk N ops o st fun st=>evPlan T Γ lk N ops p st K
  | none=>False
 | .alt i p r,st,K=>match ops[i]? with
  | some o=>(evG T Γ lk N ops o st fun st=>evPlan T Γ lk N ops p st K)∧evPlan T Γ lk N ops r st K
  | none=>False
inductive NStep where
 | own (s:Nat) (τ:Ty) (k:Nat)
 | ownc (b j:Nat) (τ:Ty) (k:Nat)
 | frz (s:Nat) (τ:Ty)
 | frzc (b j:Nat) (τ:Ty)
 | keep (ts os:List Nat)
 | unr (n:Nat)
def renO (k k2:Nat):List (Nat×OB)→List (Nat×OB)
 | []=>[]
 | (j,x) :: r=>match Nat.beq j k with
  | true=>(k2,x) :: renO k k2 r
  | false=>(j,x) :: renO k k2 r
def St.ren1 (st:St) (k k2:Nat):St:=⟨mapT (C.ren k k2) st.t,renO k k2 (mapO (C.ren k k2) st.o)⟩
def St.ren (st:St) (k k2:Nat):Option St:=match Nat.beq k k2 with
 | true=>some st
 | false=>match Nat.blt k 100000,Nat.blt k2 100000 with
  | true,true=>some ((st.free k2).ren1 k k2)
  | _,_=>none
def keepT (st:St):List Nat→List (Nat×AV)
 | []=>[]
 | i :: r=>(i,st.get i) :: keepT st r
def otherKeys (os:List Nat):List (Nat×OB)→List Nat
 | []=>[]
 | (k,_) :: r=>match memN os k with
  | true=>otherKeys os r
  | false=>k :: otherKeys os r
def keepO (o:List (Nat×OB)):List Nat→Option (List (Nat×OB))
 | []=>some []
 | k :: r=>match lkp o k,keepO o r with
  | some x,some l=>some ((k,x) :: l)
  | _,_=>none
def nstep (st:St):NStep→Option St
 | .own s τ k=>match st.get s with
  | .one (.c (.ow k'))=>st.ren k' k
  | .one (.c (.sb k' _))=>st.ren k' k
  | .one (.c (.sub k' off n))=>match lkp st.o k',Nat.blt k' 100000,Nat.blt k 100000 with
   | some (.row σ l),true,true=>some (((st.kill k').newK k (.row σ ((l.drop off).take n))).put s (.one (.c (.ow k))))
   | _,_,_=>none
  | .one (.c .nil)=>match Nat.blt k 100000 with
   | true=>some ((st.newK k (.row τ [])).put s (.one (.c (.ow k))))
   | false=>none
  | _=>none
 | .ownc b j τ k=>match lkp st.o b with
  | some (.box l)=>match l[j]? with
   | some (.ow k')=>st.ren k' k
   | some (.sub k' off n)=>match lkp st.o k',Nat.blt k' 100000,Nat.blt k 100000,Nat.beq b k,Nat.beq b k' with
    | some (.row σ r),true,true,false,false=>match lkp ((st.kill k').newK k (.row σ ((r.drop off).take n))).o b with
     | some (.box l')=>match Nat.blt j l'.length with
      | true=>some ⟨((st.kill k').newK k (.row σ ((r.drop off).take n))).t,setO b (.box (l'.set j (.ow k))) ((st.kill k').newK k (.row σ ((r.drop off).take n))).o⟩
      | false=>none
     | _=>none
    | _,_,_,_,_=>none
   | some .nil=>match Nat.beq b k,Nat.blt k 100000,(lkp (st.newK k (.row τ [])).o b) with
    | false,true,some (.box l')=>some ⟨(st.newK k (.row τ [])).t,setO b (.box (l'.set j (.ow k))) (st.newK k (.row τ [])).o⟩
    | _,_,_=>none
   | _=>none
  | _=>none
 | .frz s τ=>match st.get s with
  | .one (.c (.ow k))=>st.frz k
  | .one (.c (.sub k _ _))=>st.frz k
  | .one (.c .nil)=>some (st.put s (.one (.c (.ro τ []))))
  | .one (.c (.ro _ _))=>some st
  | _=>none
 | .frzc b j τ=>match lkp st.o b with
  | some (.box l)=>match l[j]? with
   | some (.ow k)=>st.frz k
   | some (.sub k _ _)=>st.frz k
   | some .nil=>some ⟨st.t,setO b (.box (l.set j (.ro τ []))) st.o⟩
   | some (.ro _ _)=>some st
   | _=>none
  | _=>none
 | .keep ts os=>match keepO (killAll (otherKeys os st.o) ⟨keepT st ts,st.o⟩).o os with
  | some o'=>match distinctN os with
   | true=>some ⟨(killAll (otherKeys os st.o) ⟨keepT st ts,st.o⟩).t,o'⟩
   | false=>none
  | none=>none
 | .unr _=>none
def loopNm:List NStep→Option Nat
 | [.unr n]=>some n
 | _=>none
def norm:List NStep→St→Option St
 | [],st=>some st
 | s :: r,st=>match nstep st s with
  | some st=>norm r st
  | none=>none
inductive Hook where
 | op (s:Nat)
 | cl (s:Nat)
 | sp (s n:Nat)
 | fz (s:Nat)
structure Ann where
 pl:List (Nat×Plan×List Nat)
 nm:List (Nat×List NStep)
 jn:List (Nat×List NStep)
 hk:List (Nat×Hook)
inductive Ex where
 | normal
 | exit (id:Nat)
 | ret
abbrev Kt:=Ex→St→Prop
def seqK (f:St→Kt→Prop) (k:Kt):Kt:=fun e st=>match e with
 | .normal=>f st k
 | .exit i=>k (.exit i) st
 | .ret=>k .ret st
def blockK (id:Nat) (k:Kt):Kt:=fun e st=>match e with
 | .normal=>k .normal st
 | .exit i=>match Nat.beq i id with
  | true=>k .normal st
  | false=>k (.exit i) st
 | .ret=>k .ret st
def backK (nm:List NStep) (B:St→Prop) (k:Kt):Kt:=fun e st=>match e with
 | .normal=>match norm nm st with
  | some st'=>B st'
  | none=>False
 | .exit i=>k (.exit i) st
 | .ret=>k .ret st
def iter (F:St→Kt→Prop) (nm:List NStep) (k:Kt):Nat→St→Prop
 | 0,_=>False
 | n+1,st=>F st (backK nm (iter F nm k n) k)
def firstReg:Code→Nat
 | .region id _ _=>id
 | .seq a _=>firstReg a
 | .cond _ a _=>firstReg a
 | .block _ a=>firstReg a
 | .loop a=>firstReg a
 | _=>0
structure Meets (p:Prop):Prop where
 out:p
def evRun (T:Tab) (Γ:Cons) (N:Nat) (an:Ann) (id:Nat) (ops:Array Oper) (draw:Bool) (st:St) (k:Kt):Prop:=match draw with
 | false=>evOps T Γ [] N ops.toList ops.toList st (k .normal)
 | true=>match lkp an.pl id with
  | some (p,lk)=>evPlan T Γ lk N ops.toList p st (k .normal)
  | none=>False
def evRunC (T:Tab) (Γ:Cons) (N:Nat) (an:Ann) (c:Code) (st:St) (k:Kt):Prop:=match c with
 | .region id ops draw=>evRun T Γ N an id ops draw st k
 | _=>False
def eachN (x:Int) (f:Nat→Prop):Nat→Nat→Prop
 | _,0=>False
 | i,n+1=>br (x==(i:Int)) (f i) (eachN x f (i+1) n)
def roLs (τ:Ty):List C→Option (List (List τ.D))
 | []=>some []
 | .nil :: r=>match roLs τ r with
  | some l=>some ([] :: l)
  | none=>none
 | .ro σ l :: r=>match castL τ σ l,roLs τ r with
  | some x,some l=>some (x :: l)
  | _,_=>none
 | _=>none
def rowKeys:List C→List Nat
 | []=>[]
 | .ow k :: r=>k :: rowKeys r
 | _ :: r=>rowKeys r
def C.frzB (k:Nat) (τ:Ty) (ls:List (List τ.D)):C→C
 | .sb k' n=>match Nat.beq k' k,Nat.beq n ls.length with
  | true,true=>.rol τ ls
  | true,false=>.un
  | false,_=>.sb k' n
 | c=>C.kill k c
def St.frzB (st:St) (k:Nat) (τ:Ty):Option St:=match lkp st.o k,Nat.blt k 100000 with
 | some (.box cs),true=>match roLs τ cs with
  | some ls=>some ⟨mapT (C.frzB k τ ls) st.t,mapO (C.frzB k τ ls) (dropO k st.o)⟩
  | none=>none
 | _,_=>none
def hookA (h:Option Hook) (st:St) (K:St→Prop):Prop:=match h with
 | none=>K st
 | some (.op s)=>match st.get s with
  | .one (.c (.ow k))=>match lkp st.o k with
   | some (.row τ l)=>∀ c:Nat,l.length≤c→K (st.put s (.one (.c (.xs k 0 l.length c))))
   | _=>False
  | _=>False
 | some (.cl s)=>match st.get s with
  | .one (.c (.xs k 0 n c))=>match lkp st.o k with
   | some (.row τ l)=>n=l.length∧K (st.put s (.one (.c (.ow k))))
   | _=>False
  | _=>False
 | some (.sp s n)=>match st.get s with
  | .one (.c (.v (.int .i64 x)))=>eachN x (fun i=>K (st.put s (VI i))) 0 n
  | _=>False
 | some (.fz s)=>match st.get s with
  | .one (.c (.sb k _))=>match lkp st.o k with
   | some (.box cs)=>match frzAll (rowKeys cs) st with
    | some st1=>match st1.frzB k .int with
     | some st2=>K st2
     | none=>False
    | none=>False
   | _=>False
  | _=>False
def ev (T:Tab) (Γ:Cons) (N:Nat) (an:Ann):Code→St→Kt→Prop
 | .skip,st,k=>k .normal st
 | .region id ops draw,st,k=>hookA (lkp an.hk id) st fun st=>match lkp an.jn id with
  | none=>evRun T Γ N an id ops draw st k
  | some nm=>match norm nm st with
   | some st'=>Meets (evRun T Γ N an id ops draw st' k)
   | none=>False
 | .seq a b,st,k=>ev T Γ N an a st (seqK (fun st k=>ev T Γ N an b st k) k)
 | .cond c x y,st,k=>match c with
  | .tmp i=>match st.tmp i with
   | .one (.c (.v (.bool b)))=>br b (ev T Γ N an x (st.put i (VB true)) k) (ev T Γ N an y (st.put i (VB false)) k)
   | _=>False
  | .const (.bool b)=>br b (ev T Γ N an x st k) (ev T Γ N an y st k)
  | _=>False
 | .block id c,st,k=>ev T Γ N an c st (blockK id k)
 | .loop c,st,k=>match lkp an.nm (firstReg c) with
  | some nm=>match loopNm nm with
   | some n=>iter (fun st k=>ev T Γ N an c st k) [] k n st
   | none=>match norm nm st with
    | some st'=>∃ n,iter (fun st k=>ev T Γ N an c st k) nm k n st'
    | none=>False
  | none=>False
 | .exit id,st,k=>k (.exit id) st
 | .ret,st,k=>k .ret st
 | _,_,_=>False
def subc:List Nat→Code→Code
 | [],c=>c
 | 0 :: p,.seq a _=>subc p a
 | _ :: p,.seq _ b=>subc p b
 | 0 :: p,.cond _ a _=>subc p a
 | _ :: p,.cond _ _ b=>subc p b
 | _ :: p,.block _ a=>subc p a
 | _ :: p,.loop a=>subc p a
 | _,c=>c
def entC (k:Nat):C→C×List (Nat×OB)
 | .ro τ l=>(.ow k,[(k,.row τ l)])
 | x=>(x,[])
def entCs:Nat→List C→List C×List (Nat×OB)
 | _,[]=>([],[])
 | k,x :: r=>((entC k x).1 :: (entCs (k+1) r).1,(entC k x).2++(entCs (k+1) r).2)
def entK:A1→A1×List (Nat×OB)
 | .c x=>(.c (entC 100000 x).1,(entC 100000 x).2)
 | .agg l=>(.agg (entCs 100000 l).1,(entCs 100000 l).2)
 | .ptr l=>(.c (.pb 100000 0),[(100000,.box l)])
def entT:Nat→List Md→List A1→List (Nat×AV)
 | i,.rd :: ms,a :: av=>(i,.one a) :: entT (i+1) ms av
 | i,_ :: ms,a :: av=>(i,.one (entK a).1) :: entT (i+1) ms av
 | _,_,_=>[]
def entO (ms:List Md) (vs:List A1):List (Nat×OB):=match mutA ms vs with
 | some (_,a)=>(entK a).2
 | none=>[]
def mvEnt (ms:List Md) (vs:List A1):List Nat:=match mutA ms vs with
 | some (.mv,a)=>keys1 (entK a).1
 | _=>[]
def lowKeys:List Nat→St→St
 | [],st=>st
 | k :: r,st=>match Nat.ble 100000 k,Nat.blt k 110000,lkp st.o (k - 20000) with
  | true,true,none=>lowKeys r (st.ren1 k (k - 20000))
  | _,_,_=>st
def st0 (C:Con) (vs:List A1):St:=lowKeys (mvEnt C.mu vs) ⟨entT 0 C.mu vs,entO C.mu vs⟩
inductive RT where
 | c (t:CT)
 | agg (l:List CT)
def resVar (T:Tab) (st:St):ResultVar→Option A1
 | .tmp t=>match st.tmp t with
  | .one a=>some a
  | _=>none
 | .cell a t=>match loadA T t st.o (st.tmp a) with
  | .ok (.one x)=>some x
  | _=>none
def resVars (T:Tab) (st:St):List ResultVar→Option (List A1)
 | []=>some []
 | r :: rs=>match resVar T st r,resVars T st rs with
  | some x,some l=>some (x :: l)
  | _,_=>none
def resVarQ (T:Tab) (st:St):ResultVar→Option (Prop×A1)
 | .cell a t=>match loadA T t st.o (st.tmp a) with
  | .req c (.one x)=>some (c,x)
  | _=>none
 | _=>none
def resVarsQ (T:Tab) (st:St):List ResultVar→Option (Prop×List A1)
 | [r]=>match resVarQ T st r with
  | some (c,x)=>some (c,[x])
  | none=>none
 | _=>none
def res1 (o:List (Nat×OB)):RT→A1→Option A1
 | .c t,.c x=>match argC o t x with
  | some y=>some (.c y)
  | none=>none
 | .agg ts,.agg l=>match argCs o ts l with
  | some l=>some (.agg l)
  | none=>none
 | _,_=>none
def res1s (o:List (Nat×OB)):List RT→List A1→Option (List A1)
 | [],[]=>some []
 | t :: ts,x :: xs=>match res1 o t x,res1s o ts xs with
  | some y,some l=>some (y :: l)
  | _,_=>none
 | _,_=>none
def keys1s:List A1→List Nat
 | []=>[]
 | a :: r=>keys1 a++keys1s r
def freshC:C→Bool
 | .ro _ _=>false
 | .pb _ _=>false
 | .pr _ _ _=>false
 | .pe _ _=>false
 | .cl _ _=>false
 | .rol _ _=>false
 | .pel _ _=>false
 | .xs _ _ _ _=>false
 | .sb _ _=>false
 | .un=>false
 | _=>true
def freshCs:List C→Bool
 | []=>true
 | x :: r=>match freshC x with
  | true=>freshCs r
  | false=>false
def fresh1:A1→Bool
 | .c x=>freshC x
 | .agg l=>freshCs l
 | .ptr _=>false
def fresh1s:List A1→Bool
 | []=>true
 | a :: r=>match fresh1 a with
  | true=>fresh1s r
  | false=>false
def belowN (mv:List Nat):List Nat→Bool
 | []=>true
 | k :: r=>match Nat.blt k 100000 with
  | true=>belowN mv r
  | false=>match memN mv k with
   | true=>belowN mv r
   | false=>false
def freshOK (mv:List Nat) (l:List A1):Bool:=match fresh1s l,distinctN (keys1s l),belowN mv (keys1s l) with
 | true,true,true=>true
 | _,_,_=>false
def outC (o:List (Nat×OB)):C→Option C
 | .v x=>some (.v x)
 | .ow k=>match lkp o k with
  | some (.row τ l)=>some (.ro τ l)
  | _=>none
 | _=>none
def outCs (o:List (Nat×OB)):List C→Option (List C)
 | []=>some []
 | x :: r=>match outC o x,outCs o r with
  | some y,some l=>some (y :: l)
  | _,_=>none
def out1 (o:List (Nat×OB)):A1→Option A1
 | .c (.pb k _)=>match lkp o k with
  | some (.box l)=>match plainCs l with
   | true=>some (.ptr l)
   | false=>none
  | _=>none
 | .c x=>match outC o x with
  | some y=>some (.c y)
  | none=>none
 | .agg l=>match outCs o l with
  | some l=>some (.agg l)
  | none=>none
 | .ptr _=>none
def outs (o:List (Nat×OB)) (ms:List Md) (vs:List A1):Option (List A1):=match mutA ms vs with
 | some (.mu,a)=>match out1 o (entK a).1 with
  | some y=>some [y]
  | none=>none
 | _=>some []
def nroC:C→Nat
 | .ro _ _=>1
 | _=>0
def nroCs:List C→Nat
 | []=>0
 | x :: r=>nroC x+nroCs r
def nro1:A1→Nat
 | .c x=>nroC x
 | .agg l=>nroCs l
 | .ptr _=>0
def nro1s:List A1→Nat
 | []=>0
 | x :: r=>nro1 x+nro1s r
def pack:List A1→AV
 | [a]=>.one a
 | l=>.tup l
def inTB (B N:Nat):List (Nat×AV)→List (Nat×AV)
 | []=>[]
 | (i,x) :: r=>match Nat.blt i N with
  | true=>(B+i,x) :: inTB B N r
  | false=>match Nat.blt i B with
   | true=>inTB B N r
   | false=>(i+N,x) :: inTB B N r
def outTB (B N:Nat):List (Nat×AV)→List (Nat×AV)
 | []=>[]
 | (i,x) :: r=>match Nat.blt i B with
  | true=>outTB B N r
  | false=>match Nat.blt (i - B) N with
   | true=>(i - B,x) :: outTB B N r
   | false=>(i - N,x) :: outTB B N r
def inT (N:Nat) (t:List (Nat×AV)):List (Nat×AV):=inTB 1000000 N t
def outT (N:Nat) (t:List (Nat×AV)):List (Nat×AV):=outTB 1000000 N t
def argT:Nat→List AV→List (Nat×AV)→List (Nat×AV)
 | _,[],t=>t
 | i,x :: r,t=>(i,x) :: argT (i+1) r t
def outK (T:Tab) (N:Nat) (rs:List ResultVar) (K:AV→St→Prop):Kt:=fun e st=>match e with
 | .exit _=>False
 | _=>match resVars T st rs with
  | none=>False
  | some l=>K (pack l) ⟨outT N st.t,st.o⟩
def inlG (T:Tab) (Γ:Cons) (N N':Nat) (an:Ann) (c:Code) (rs:List ResultVar):List AV→St→(AV→St→Prop)→Prop:=fun av st K=>
 match Nat.ble av.length N',Nat.ble N' 1000000 with
 | true,true=>ev T Γ N' an c ⟨argT 0 av (inT N st.t),st.o⟩ (outK T N rs K)
 | _,_=>False
def finL (C:Con) (rt:List RT) (vs:List A1) (kk:AV→List A1→Prop) (st:St) (l:List A1):Prop:=match res1s st.o rt l,outs st.o C.mu vs with
 | some l',some os=>match C.fresh with
  | false=>match belowN [] (keys1s l) with
   | true=>kk (pack l') os
   | false=>False
  | true=>match freshOK (mvEnt C.mu vs) l,Nat.ble (nro1s l') 16 with
   | true,true=>kk (pack l') os
   | _,_=>False
 | _,_=>False
def fin (T:Tab) (C:Con) (rs:List ResultVar) (rt:List RT) (vs:List A1) (kk:AV→List A1→Prop):Kt:=fun e st=>match e with
 | .exit _=>False
 | _=>match resVars T st rs with
  | none=>match resVarsQ T st rs with
   | some (c,l)=>c∧finL C rt vs kk st l
   | none=>False
  | some l=>finL C rt vs kk st l
end Go.Ev
