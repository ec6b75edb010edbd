/- What the functions that the law reaches do, written as plain Lean. No statement is proved here. -/
import Derived.Test.YtemhpncmhdcheabGreatDoorFnExactRunSessionP1
namespace Go.Ev
set_option linter.unusedVariables false
set_option linter.unusedSimpArgs false
open Go
def T0_qg (a:LT) (e f b:Int) (d:LI) (c:LT) (k:LI→LT→Int→Bool→Prop) (B0:Int→Int→LI→LT→Prop):Prop:=br (decide (b < f)) ((0≤b∧b < (a.length:Int))∧(0≤(List.getD a (Int.toNat b) ((0:Int),(0:Int),false)).1∧(List.getD a (Int.toNat b) ((0:Int),(0:Int),false)).1 < (d.length:Int))∧(c.length+1≤1000000000)∧InR (b+1)∧B0 f (b+1) (List.set d (Int.toNat (List.getD a (Int.toNat b) ((0:Int),(0:Int),false)).1) (List.getD a (Int.toNat b) ((0:Int),(0:Int),false)).2.1) (c++([((List.getD a (Int.toNat b) ((0:Int),(0:Int),false)).1,(List.getD a (Int.toNat b) ((0:Int),(0:Int),false)).2.1,false)]:LT))) (k d c e true)
def L0_qg (a:LT) (b:Int) (k:LI→LT→Int→Bool→Prop):Nat→Int→Int→LI→LT→Prop | 0,_,_,_,_=>False | n+1,d,e,f,c=>T0_qg a b d e f c k (L0_qg a b k n)
def G_qg_j0 (b:LI) (a:LT) (c:Int) (I0:LT→Int→Int→Int→LI→LT→Prop):Prop:=(I0 a c (a.length:Int) 0 b ([]:LT))∧(True)
def G_qg (a:LI) (b:LT) (d:Int) (k:LI→LT→Int→Bool→Prop) (I0:LT→Int→Int→Int→LI→LT→Prop):Prop:=F_qz a b d fun e=>br (!e) (k ([]:LI) ([]:LT) 0 false) ((F_qbp a fun c=>(G_qg_j0 c b d I0)∧(True))∧(((F_qbp a fun c=>G_qg_j0 c b d I0)∧(True))∧(True)))
def H_qg (c:LI) (a:LT) (d:Int) (k:LI→LT→Int→Bool→Prop) (I0:LT→Int→Int→Int→LI→LT→Prop):Prop:=F_qz c a d fun b=>br (!b) (k ([]:LI) ([]:LT) 0 false) (F_qbp c fun e=>I0 a d (a.length:Int) 0 e ([]:LT))
theorem G_qg_eq (a:LI) (b:LT) (c:Int) (k:LI→LT→Int→Bool→Prop) (I0:LT→Int→Int→Int→LI→LT→Prop):G_qg a b c k I0=H_qg a b c k I0:=by
 first
 | (simp only [G_qg,H_qg,G_qg_j0,and_self,and_true]; done)
 | (simp only [G_qg,H_qg,G_qg_j0,and_self,and_true,and_self_left,and_assoc]; refine propext ⟨fun h=>?_,fun h=>?_⟩ <;> (repeat (cases ‹_∧_›)) <;> (repeat' (apply And.intro)) <;> assumption)
def S_qg (c:LI) (a:LT) (b:Int) (k:LI→LT→Int→Bool→Prop):Prop:=H_qg c a b k (fun a b e f g d=>∃ j,L0_qg a b k j e f g d)
def F_qg (s:LI) (l:LT) (room:Int) (k:LI→LT→Int→Bool→Prop):Prop:=
 (s.length≤1000000000∧l.length≤1000000000)∧(VMem s l room→k (flushS l s) (flushL l) room true)∧(¬ VMem s l room→k [] [] 0 false)
theorem F_qg_S {s:LI} {l:LT} {room:Int} {k:LI→LT→Int→Bool→Prop} (h:F_qg s l room k):S_qg s l room k:=by
 obtain ⟨hl,hyes,hno⟩:=h
 refine ⟨hl,fun b hb=>br_not.2 (br_iff.2 ⟨fun e=>⟨hl.1,?_⟩,fun e=>hno fun v=>by rw [hb.2 v] at e; cases e⟩)⟩
 have v:=hb.1 e
 have hlen:=v.len
 have go:∀ (m i:Nat),i+m=l.length→L0_qg l room k (m+1) (l.length:Int) (i:Int) (flushS (l.take i) s) (flushL (l.take i)):=by
  intro m
  induction m with
  | zero=>
   intro i hi
   rw [L0_qg,T0_qg,List.take_of_length_le (by omega)]
   exact br_nd (by omega) (hyes v)
  | succ m ih=>
   intro i hi
   have next:=ih (i+1) (by omega)
   have hm:l.getD i ((0:Int),(0:Int),false)∈l:=getL_mem (by omega)
   have hb:=v.2.1.1.1 _ hm
   have h1:(flushL (l.take i)).length=i:=by rw [flushL,List.length_map,List.length_take]; omega
   have h4:(flushS (l.take i) s).length=32:=(flushS_ok v.1 fun e he=>(v.2.1.1.1 e (List.mem_of_mem_take he)).2).1
   rw [takeL (by omega),flushS_snoc,flushL,List.map_append] at next
   rw [L0_qg,T0_qg]
   simp only [Int.toNat_natCast]
   exact br_yd (by omega) ⟨⟨by omega,by omega⟩,⟨by omega,by omega⟩,by omega,inR (by omega) (by omega),next⟩
 exact ⟨_,go l.length 0 (by omega)⟩

def T0_qp_j0 (c:LI) (d:LT) (e:Int) (f:LI) (a:ByteArray) (b:Int) (B0:ByteArray→Int→Int→LI→LT→LI→Prop):Prop:=(ByteArray.size (strOfNums [119,104,97,116])+ByteArray.size (strOfNums [10])≤1000000000)∧(ByteArray.size a+ByteArray.size ((strOfNums [119,104,97,116])++(strOfNums [10]))≤1000000000)∧InR (b+1)∧B0 (a++((strOfNums [119,104,97,116])++(strOfNums [10]))) (b+1) e c d f
def T0_qp_j1 (c:LI) (d:LT) (e:Int) (f:LI) (a:ByteArray) (b:Int) (B0:ByteArray→Int→Int→LI→LT→LI→Prop):Prop:=(ByteArray.size (strOfNums [110,111])+ByteArray.size (strOfNums [10])≤1000000000)∧(ByteArray.size a+ByteArray.size ((strOfNums [110,111])++(strOfNums [10]))≤1000000000)∧InR (b+1)∧B0 (a++((strOfNums [110,111])++(strOfNums [10]))) (b+1) e c d f
def T0_qp_j2 (a:Int) (c:LT) (e:Int) (d:LI) (g:Int) (b:LI) (h:ByteArray) (i:Int) (B0:ByteArray→Int→Int→LI→LT→LI→Prop):Prop:=(0≤(if (((List.length (b++([a]:LI))):Int) - 24) < 0 then (0:Int) else (((List.length (b++([a]:LI))):Int) - 24))∧(if (((List.length (b++([a]:LI))):Int) - 24) < 0 then (0:Int) else (((List.length (b++([a]:LI))):Int) - 24))≤((List.length (b++([a]:LI))):Int))∧(F_qdy g fun f=>(ByteArray.size f+ByteArray.size (strOfNums [10])≤1000000000)∧(ByteArray.size h+ByteArray.size (f++(strOfNums [10]))≤1000000000)∧InR (i+1)∧B0 (h++(f++(strOfNums [10]))) (i+1) e d c (List.take ((List.length (b++([a]:LI))) - (Int.toNat (if (((List.length (b++([a]:LI))):Int) - 24) < 0 then (0:Int) else (((List.length (b++([a]:LI))):Int) - 24)))) (List.drop (Int.toNat (if (((List.length (b++([a]:LI))):Int) - 24) < 0 then (0:Int) else (((List.length (b++([a]:LI))):Int) - 24))) (b++([a]:LI)))))∧(True)
def T0_qp_j3 (h:LB) (j:LI) (l:LT) (m:Int) (d:LI) (g:ByteArray) (n:Int) (B0:ByteArray→Int→Int→LI→LT→LI→Prop):Prop:=(br ((h.length:Int) != 2) (T0_qp_j0 j l m d g n B0) ((0≤(1:Int)∧1 < (h.length:Int))∧F_qaj (List.getD h 1 ByteArray.empty) fun a o=>F_qj j l m a fun b c e f i=>br (!i) (T0_qp_j1 j l m d g n B0) ((d.length+1≤1000000000)∧((InR (((List.length (d++([a]:LI))):Int) - 24)∧T0_qp_j2 a c e b f d g n B0)∧(True))∧((InR (((List.length (d++([a]:LI))):Int) - 24)∧(T0_qp_j2 a c e b f d g n B0)∧(True))∧(True)))))∧(True)
def T0_qp_j4 (a:Int) (c:LT) (e:Int) (d b:LI) (f:ByteArray) (g:Int) (B0:ByteArray→Int→Int→LI→LT→LI→Prop):Prop:=(0≤(if (((List.length (b++([a]:LI))):Int) - 24) < 0 then (0:Int) else (((List.length (b++([a]:LI))):Int) - 24))∧(if (((List.length (b++([a]:LI))):Int) - 24) < 0 then (0:Int) else (((List.length (b++([a]:LI))):Int) - 24))≤((List.length (b++([a]:LI))):Int))∧((ByteArray.size (strOfNums [111,107])+ByteArray.size (strOfNums [10])≤1000000000)∧(ByteArray.size f+ByteArray.size ((strOfNums [111,107])++(strOfNums [10]))≤1000000000)∧InR (g+1)∧B0 (f++((strOfNums [111,107])++(strOfNums [10]))) (g+1) e d c (List.take ((List.length (b++([a]:LI))) - (Int.toNat (if (((List.length (b++([a]:LI))):Int) - 24) < 0 then (0:Int) else (((List.length (b++([a]:LI))):Int) - 24)))) (List.drop (Int.toNat (if (((List.length (b++([a]:LI))):Int) - 24) < 0 then (0:Int) else (((List.length (b++([a]:LI))):Int) - 24))) (b++([a]:LI)))))∧(True)
def T0_qp_j5 (f:LB) (j:LI) (l:LT) (m:Int) (b:LI) (g:ByteArray) (n:Int) (B0:ByteArray→Int→Int→LI→LT→LI→Prop):Prop:=(br ((f.length:Int) != 3) (T0_qp_j0 j l m b g n B0) ((0≤(1:Int)∧1 < (f.length:Int))∧F_qaj (List.getD f 1 ByteArray.empty) fun a p=>(0≤(2:Int)∧2 < (f.length:Int))∧F_qaj (List.getD f 2 ByteArray.empty) fun h i=>F_qab j l m a h fun c d e o=>br (!i) (T0_qp_j1 j l m b g n B0) (br (!o) (T0_qp_j1 j l m b g n B0) ((b.length+1≤1000000000)∧((InR (((List.length (b++([a]:LI))):Int) - 24)∧T0_qp_j4 a d e c b g n B0)∧(True))∧((InR (((List.length (b++([a]:LI))):Int) - 24)∧(T0_qp_j4 a d e c b g n B0)∧(True))∧(True))))))∧(True)
def T0_qp_j6 (a:LB) (g:LI) (h:LT) (i:Int) (d:LI) (e:ByteArray) (j:Int) (B0:ByteArray→Int→Int→LI→LT→LI→Prop):Prop:=(br ((a.length:Int) != 3) (T0_qp_j0 g h i d e j B0) ((0≤(2:Int)∧2 < (a.length:Int))∧F_qaj (List.getD a 2 ByteArray.empty) fun c l=>(0≤(1:Int)∧1 < (a.length:Int))∧(F_qak d (List.getD a 1 ByteArray.empty) c fun b=>br (decide (b < 0)) (T0_qp_j1 g h i d e j B0) (F_qdy b fun f=>(ByteArray.size f+ByteArray.size (strOfNums [10])≤1000000000)∧(ByteArray.size e+ByteArray.size (f++(strOfNums [10]))≤1000000000)∧InR (j+1)∧B0 (e++(f++(strOfNums [10]))) (j+1) i g h d))∧(True)))∧(True)
def T0_qp_j7 (h:LB) (e:LI) (f:LT) (g:Int) (b:LI) (c:ByteArray) (d:Int) (B0:ByteArray→Int→Int→LI→LT→LI→Prop):Prop:=(br ((h.length:Int) != 1) (T0_qp_j0 e f g b c d B0) (F_qh b fun a=>(ByteArray.size a+ByteArray.size (strOfNums [10])≤1000000000)∧(ByteArray.size c+ByteArray.size (a++(strOfNums [10]))≤1000000000)∧InR (d+1)∧B0 (c++(a++(strOfNums [10]))) (d+1) g e f b))∧(True)
def T0_qp_j8 (i:LB) (b:LI) (c:LT) (d:Int) (h:LI) (e:ByteArray) (g:Int) (B0:ByteArray→Int→Int→LI→LT→LI→Prop):Prop:=(br ((i.length:Int) != 1) (T0_qp_j0 b c d h e g B0) (F_qe b c d fun f=>F_qh f fun a=>(ByteArray.size a+ByteArray.size (strOfNums [10])≤1000000000)∧(ByteArray.size e+ByteArray.size (a++(strOfNums [10]))≤1000000000)∧InR (g+1)∧B0 (e++(a++(strOfNums [10]))) (g+1) d b c h))∧(True)
def T0_qp_j9 (l:LB) (f:LI) (g:LT) (h:Int) (i:LI) (d:ByteArray) (e:Int) (B0:ByteArray→Int→Int→LI→LT→LI→Prop):Prop:=(br ((l.length:Int) != 1) (T0_qp_j0 f g h i d e B0) (F_qg f g h fun a b c j=>(ByteArray.size (strOfNums [111,107])+ByteArray.size (strOfNums [10])≤1000000000)∧(ByteArray.size d+ByteArray.size ((strOfNums [111,107])++(strOfNums [10]))≤1000000000)∧InR (e+1)∧B0 (d++((strOfNums [111,107])++(strOfNums [10]))) (e+1) c a b i))∧(True)
def T0_qp_j10 (a:LI) (b:LT) (c:Int) (d:LI) (e:ByteArray) (f:Int) (B0:ByteArray→Int→Int→LI→LT→LI→Prop):Prop:=(T0_qp_j0 a b c d e f B0)∧(True)
def T0_qp_j11 (a:LB) (b:LI) (c:LT) (d:Int) (e:LI) (f:ByteArray) (g:Int) (B0:ByteArray→Int→Int→LI→LT→LI→Prop):Prop:=((br ((List.getD a 0 ByteArray.empty)==(strOfNums [103,101,116])) (T0_qp_j3 a b c d e f g B0) (br ((List.getD a 0 ByteArray.empty)==(strOfNums [115,101,116])) (T0_qp_j5 a b c d e f g B0) (br ((List.getD a 0 ByteArray.empty)==(strOfNums [104,105,116,115])) (T0_qp_j6 a b c d e f g B0) (br ((List.getD a 0 ByteArray.empty)==(strOfNums [116,114,97,99,101])) (T0_qp_j7 a b c d e f g B0) (br ((List.getD a 0 ByteArray.empty)==(strOfNums [100,105,114,116,121])) (T0_qp_j8 a b c d e f g B0) (br ((List.getD a 0 ByteArray.empty)==(strOfNums [102,108,117,115,104])) (T0_qp_j9 a b c d e f g B0) (T0_qp_j10 b c d e f g B0)))))))∧(True))∧(True)
def T0_qp_j12 (a:LB) (b:LI) (c:LT) (d:Int) (e:LI) (f:ByteArray) (g:Int) (B0:ByteArray→Int→Int→LI→LT→LI→Prop):Prop:=(T0_qp_j11 a b c d e f g B0)∧(True)
def T0_qp_j13 (a:LB) (b:LI) (c:LT) (d:Int) (e:LI) (f:ByteArray) (g:Int) (B0:ByteArray→Int→Int→LI→LT→LI→Prop):Prop:=((br ((List.getD a 0 ByteArray.empty)==(strOfNums [103,101,116])) ((T0_qp_j3 a b c d e f g B0)∧(True)) (br ((List.getD a 0 ByteArray.empty)==(strOfNums [115,101,116])) ((T0_qp_j5 a b c d e f g B0)∧(True)) (br ((List.getD a 0 ByteArray.empty)==(strOfNums [104,105,116,115])) ((T0_qp_j6 a b c d e f g B0)∧(True)) (br ((List.getD a 0 ByteArray.empty)==(strOfNums [116,114,97,99,101])) ((T0_qp_j7 a b c d e f g B0)∧(True)) (br ((List.getD a 0 ByteArray.empty)==(strOfNums [100,105,114,116,121])) ((T0_qp_j8 a b c d e f g B0)∧(True)) (br ((List.getD a 0 ByteArray.empty)==(strOfNums [102,108,117,115,104])) ((T0_qp_j9 a b c d e f g B0)∧(True)) ((T0_qp_j10 b c d e f g B0)∧(True))))))))∧(T0_qp_j11 a b c d e f g B0))∧(T0_qp_j12 a b c d e f g B0)
def T0_qp (h:LB) (i:Int) (c:ByteArray) (a d:Int) (e:LI) (f:LT) (g:LI) (k:ByteArray→Prop) (B0:ByteArray→Int→Int→LI→LT→LI→Prop):Prop:=br (decide (a < i)) ((0≤a∧a < (h.length:Int))∧F_qec (List.getD h (Int.toNat a) ByteArray.empty) (strOfNums [32]) fun b=>(0≤(0:Int)∧0 < (b.length:Int))∧(T0_qp_j13 b e f d g c a B0)∧((T0_qp_j13 b e f d g c a B0)∧(((T0_qp_j11 b e f d g c a B0)∧(T0_qp_j12 b e f d g c a B0))∧(True)))) (k c)
def U0_qp_j0 (c:LI) (d:LT) (e:Int) (f:LI) (a:ByteArray) (b:Int) (B0:ByteArray→Int→Int→LI→LT→LI→Prop):Prop:=(ByteArray.size (strOfNums [119,104,97,116])+ByteArray.size (strOfNums [10])≤1000000000)∧(ByteArray.size a+ByteArray.size ((strOfNums [119,104,97,116])++(strOfNums [10]))≤1000000000)∧InR (b+1)∧B0 (a++((strOfNums [119,104,97,116])++(strOfNums [10]))) (b+1) e c d f
def U0_qp_j1 (c:LI) (d:LT) (e:Int) (f:LI) (a:ByteArray) (b:Int) (B0:ByteArray→Int→Int→LI→LT→LI→Prop):Prop:=(ByteArray.size (strOfNums [110,111])+ByteArray.size (strOfNums [10])≤1000000000)∧(ByteArray.size a+ByteArray.size ((strOfNums [110,111])++(strOfNums [10]))≤1000000000)∧InR (b+1)∧B0 (a++((strOfNums [110,111])++(strOfNums [10]))) (b+1) e c d f
def U0_qp (aj:LB) (al:Int) (e:ByteArray) (f g:Int) (h:LI) (i:LT) (a:LI) (k:ByteArray→Prop) (B0:ByteArray→Int→Int→LI→LT→LI→Prop):Prop:=br (decide (f < al)) ((0≤f∧f < (aj.length:Int))∧F_qec (List.getD aj (Int.toNat f) ByteArray.empty) (strOfNums [32]) fun d=>(0≤(0:Int)∧0 < (d.length:Int))∧br ((List.getD d 0 ByteArray.empty)==(strOfNums [103,101,116])) (br ((d.length:Int) != 2) (U0_qp_j0 h i g a e f B0) ((0≤(1:Int)∧1 < (d.length:Int))∧F_qaj (List.getD d 1 ByteArray.empty) fun b af=>F_qj h i g b fun v w y ac ad=>br (!ad) (U0_qp_j1 h i g a e f B0) ((a.length+1≤1000000000)∧InR (((List.length (a++([b]:LI))):Int) - 24)∧(0≤(if (((List.length (a++([b]:LI))):Int) - 24) < 0 then (0:Int) else (((List.length (a++([b]:LI))):Int) - 24))∧(if (((List.length (a++([b]:LI))):Int) - 24) < 0 then (0:Int) else (((List.length (a++([b]:LI))):Int) - 24))≤((List.length (a++([b]:LI))):Int))∧F_qdy ac fun z=>(ByteArray.size z+ByteArray.size (strOfNums [10])≤1000000000)∧(ByteArray.size e+ByteArray.size (z++(strOfNums [10]))≤1000000000)∧InR (f+1)∧B0 (e++(z++(strOfNums [10]))) (f+1) y v w (List.take ((List.length (a++([b]:LI))) - (Int.toNat (if (((List.length (a++([b]:LI))):Int) - 24) < 0 then (0:Int) else (((List.length (a++([b]:LI))):Int) - 24)))) (List.drop (Int.toNat (if (((List.length (a++([b]:LI))):Int) - 24) < 0 then (0:Int) else (((List.length (a++([b]:LI))):Int) - 24))) (a++([b]:LI))))))) (br ((List.getD d 0 ByteArray.empty)==(strOfNums [115,101,116])) (br ((d.length:Int) != 3) (U0_qp_j0 h i g a e f B0) ((0≤(1:Int)∧1 < (d.length:Int))∧F_qaj (List.getD d 1 ByteArray.empty) fun c ag=>(0≤(2:Int)∧2 < (d.length:Int))∧F_qaj (List.getD d 2 ByteArray.empty) fun q r=>F_qab h i g c q fun s t x aa=>br (!r) (U0_qp_j1 h i g a e f B0) (br (!aa) (U0_qp_j1 h i g a e f B0) ((a.length+1≤1000000000)∧InR (((List.length (a++([c]:LI))):Int) - 24)∧(0≤(if (((List.length (a++([c]:LI))):Int) - 24) < 0 then (0:Int) else (((List.length (a++([c]:LI))):Int) - 24))∧(if (((List.length (a++([c]:LI))):Int) - 24) < 0 then (0:Int) else (((List.length (a++([c]:LI))):Int) - 24))≤((List.length (a++([c]:LI))):Int))∧(ByteArray.size (strOfNums [111,107])+ByteArray.size (strOfNums [10])≤1000000000)∧(ByteArray.size e+ByteArray.size ((strOfNums [111,107])++(strOfNums [10]))≤1000000000)∧InR (f+1)∧B0 (e++((strOfNums [111,107])++(strOfNums [10]))) (f+1) x s t (List.take ((List.length (a++([c]:LI))) - (Int.toNat (if (((List.length (a++([c]:LI))):Int) - 24) < 0 then (0:Int) else (((List.length (a++([c]:LI))):Int) - 24)))) (List.drop (Int.toNat (if (((List.length (a++([c]:LI))):Int) - 24) < 0 then (0:Int) else (((List.length (a++([c]:LI))):Int) - 24))) (a++([c]:LI)))))))) (br ((List.getD d 0 ByteArray.empty)==(strOfNums [104,105,116,115])) (br ((d.length:Int) != 3) (U0_qp_j0 h i g a e f B0) ((0≤(2:Int)∧2 < (d.length:Int))∧F_qaj (List.getD d 2 ByteArray.empty) fun u ah=>(0≤(1:Int)∧1 < (d.length:Int))∧F_qak a (List.getD d 1 ByteArray.empty) u fun m=>br (decide (m < 0)) (U0_qp_j1 h i g a e f B0) (F_qdy m fun ab=>(ByteArray.size ab+ByteArray.size (strOfNums [10])≤1000000000)∧(ByteArray.size e+ByteArray.size (ab++(strOfNums [10]))≤1000000000)∧InR (f+1)∧B0 (e++(ab++(strOfNums [10]))) (f+1) g h i a))) (br ((List.getD d 0 ByteArray.empty)==(strOfNums [116,114,97,99,101])) (br ((d.length:Int) != 1) (U0_qp_j0 h i g a e f B0) (F_qh a fun l=>(ByteArray.size l+ByteArray.size (strOfNums [10])≤1000000000)∧(ByteArray.size e+ByteArray.size (l++(strOfNums [10]))≤1000000000)∧InR (f+1)∧B0 (e++(l++(strOfNums [10]))) (f+1) g h i a)) (br ((List.getD d 0 ByteArray.empty)==(strOfNums [100,105,114,116,121])) (br ((d.length:Int) != 1) (U0_qp_j0 h i g a e f B0) (F_qe h i g fun ae=>F_qh ae fun j=>(ByteArray.size j+ByteArray.size (strOfNums [10])≤1000000000)∧(ByteArray.size e+ByteArray.size (j++(strOfNums [10]))≤1000000000)∧InR (f+1)∧B0 (e++(j++(strOfNums [10]))) (f+1) g h i a)) (br ((List.getD d 0 ByteArray.empty)==(strOfNums [102,108,117,115,104])) (br ((d.length:Int) != 1) (U0_qp_j0 h i g a e f B0) (F_qg h i g fun n o p ai=>(ByteArray.size (strOfNums [111,107])+ByteArray.size (strOfNums [10])≤1000000000)∧(ByteArray.size e+ByteArray.size ((strOfNums [111,107])++(strOfNums [10]))≤1000000000)∧InR (f+1)∧B0 (e++((strOfNums [111,107])++(strOfNums [10]))) (f+1) p n o a)) (U0_qp_j0 h i g a e f B0))))))) (k e)
theorem T0_qp_eq (f:LB) (g:Int) (a:ByteArray) (i b:Int) (c:LI) (d:LT) (e:LI) (k:ByteArray→Prop) (B0:ByteArray→Int→Int→LI→LT→LI→Prop):T0_qp f g a i b c d e k B0=U0_qp f g a i b c d e k B0:=by
 first
 | (simp only [T0_qp,U0_qp,T0_qp_j0,T0_qp_j1,T0_qp_j2,T0_qp_j3,T0_qp_j4,T0_qp_j5,T0_qp_j6,T0_qp_j7,T0_qp_j8,T0_qp_j9,T0_qp_j10,T0_qp_j11,T0_qp_j12,T0_qp_j13,U0_qp_j0,U0_qp_j1,and_self,and_true]; done)
 | (simp only [T0_qp,U0_qp,T0_qp_j0,T0_qp_j1,T0_qp_j2,T0_qp_j3,T0_qp_j4,T0_qp_j5,T0_qp_j6,T0_qp_j7,T0_qp_j8,T0_qp_j9,T0_qp_j10,T0_qp_j11,T0_qp_j12,T0_qp_j13,U0_qp_j0,U0_qp_j1,and_self,and_true,and_self_left,and_assoc]; refine propext ⟨fun h=>?_,fun h=>?_⟩ <;> (repeat (cases ‹_∧_›)) <;> (repeat' (apply And.intro)) <;> assumption)
def L0_qp (a:LB) (b:Int) (k:ByteArray→Prop):Nat→ByteArray→Int→Int→LI→LT→LI→Prop | 0,_,_,_,_,_,_=>False | n+1,c,h,d,e,f,g=>U0_qp a b c h d e f g k (L0_qp a b k n)
def G_qp (a:LB) (I0:LB→Int→ByteArray→Int→Int→LI→LT→LI→Prop):Prop:=((32:Int)=32∧0≤(32:Int)∧(32:Int)≤1000000000)∧(0≤(if 20 < (a.length:Int) then (20:Int) else (a.length:Int))∧(if 20 < (a.length:Int) then (20:Int) else (a.length:Int))≤(a.length:Int))∧I0 (List.take (Int.toNat (if 20 < (a.length:Int) then (20:Int) else (a.length:Int))) a) ((List.length (List.take (Int.toNat (if 20 < (a.length:Int) then (20:Int) else (a.length:Int))) a)):Int) (strOfNums []) 0 3 (List.replicate 32 (0:Int)) ([]:LT) ([]:LI)
def S_qp (a:LB) (k:ByteArray→Prop):Prop:=G_qp a (fun g h b i c d e f=>∃ j,L0_qp g h k j b i c d e f)
def F_qp (lines:List ByteArray) (k:ByteArray→Prop):Prop:=
 ∃ ls:List (LI),(lines=ls.map strOfNums∧(∀ a∈ls,BS a∧a.length≤10000000)∧ls.length≤10000000)∧k (strOfNums (sesM ls))
theorem F_qp_S {lines:List ByteArray} {k:ByteArray→Prop} (h:F_qp lines k):S_qp lines k:=by
 obtain ⟨ls,⟨rfl,hls,hl⟩,hk⟩:=h
 have hmin:(if (20:Int) < ((ls.map strOfNums).length:Int) then (20:Int) else ((ls.map strOfNums).length:Int))=((min 20 ls.length:Nat):Int):=by rw [List.length_map]; split <;> omega
 have htk:List.take (min 20 ls.length) (ls.map strOfNums)=(ls.take 20).map strOfNums:=by
  rw [List.map_take]
  rcases Nat.le_total 20 ls.length with c | c
  ·rw [Nat.min_eq_left c]
  ·rw [Nat.min_eq_right c,List.take_of_length_le (by rw [List.length_map]; omega),List.take_of_length_le (by rw [List.length_map]; omega)]
 have hlen20:((ls.take 20).map strOfNums).length=min 20 ls.length:=by rw [List.length_map,List.length_take]
 have go:∀ (m i:Nat) (o:LI) (t:SesT),min 20 ls.length≤i+m→i≤min 20 ls.length→o.length≤400*i→VSes t→o++sesF ((ls.take 20).drop i) t=sesM ls→L0_qp ((ls.take 20).map strOfNums) ((min 20 ls.length:Nat):Int) k (m+1) (strOfNums o) (i:Int) 3 t.1 t.2.1 t.2.2:=by
  intro m
  induction m with
  | zero=>
   intro i o t hm hi ho v he
   rw [List.drop_eq_nil_of_le (by rw [List.length_take]; omega),sesF,List.append_nil] at he
   rw [L0_qp,U0_qp,he]
   exact br_nd (by omega) hk
  | succ m ih=>
   intro i o t hm hi ho v he
   rw [L0_qp,U0_qp]
   by_cases c:i < min 20 ls.length
   ·have ci:i < ls.length:=by omega
    have hd:(ls.take 20).drop i=ls[i] :: (ls.take 20).drop (i+1):=by
     rw [List.drop_eq_getElem_cons (by rw [List.length_take]; omega)]
     congr 1; simp
    obtain ⟨ha,hal⟩:=hls _ (List.getElem_mem ci)
    have hg:((ls.take 20).map strOfNums).getD (i:Int).toNat ByteArray.empty=strOfNums ls[i]:=by
     rw [getS,Int.toNat_natCast,List.getD_eq_getElem?_getD,List.getElem?_take,if_pos (by omega),List.getElem?_eq_getElem ci]; rfl
    rw [hd,sesF] at he
    obtain ⟨hsv,hsb,hsl⟩:=step_ok v ls[i]
    have hW:=fun w=>splitB_BS (c:=32) (w:=w) ha
    have hWn:=splitB_ne 32 ls[i]
    have emit:∀ (t':SesT) (x:LI),stepL t ls[i]=(t',x)→(ByteArray.size (strOfNums x)+ByteArray.size (strOfNums [10])≤1000000000)∧(ByteArray.size (strOfNums o)+ByteArray.size (strOfNums x++strOfNums [10])≤1000000000)∧InR ((i:Int)+1)∧
      L0_qp ((ls.take 20).map strOfNums) ((min 20 ls.length:Nat):Int) k (m+1) (strOfNums o++(strOfNums x++strOfNums [10])) ((i:Int)+1) 3 t'.1 t'.2.1 t'.2.2:=by
     intro t' x e
     rw [e] at hsv hsl he
     dsimp only at hsv hsl he
     simp only [str_append,str_size,List.length_append,List.length_singleton]
     have:=ih (i+1) (o++(x++[10])) t' (by omega) (by omega) (by simp only [List.length_append,List.length_singleton]; omega) hsv (by rw [← he]; simp)
     exact ⟨by omega,by omega,inR (by omega) (by omega),this⟩
    have hstep:stepL t ls[i]=stepL t ls[i]:=rfl
    conv at hstep=>rhs; unfold stepL
    have hone:∀ {w:LI},(splitB 32 ls[i]).getD 0 []=w→(splitB 32 ls[i]).length=1→ls[i]=w:=fun {w} e1 e2=>by
     obtain ⟨w',hw'⟩:=List.length_eq_one_iff.1 e2
     rw [hw'] at e1
     rw [splitB_single hw']; exact e1
    have hone':∀ {w:LI},ls[i]=w→(∀ x∈w,x≠32)→splitB 32 ls[i]=[w]:=fun {w} e1 e2=>by rw [e1,splitB_none e2]
    generalize stepL t ls[i]=S at *
    generalize hWe:splitB 32 ls[i]=W at *
    have hWb:∀ j,BS (W.getD j [])∧(W.getD j []).length≤10000000:=fun j=>by
     rw [List.getD_eq_getElem?_getD]
     cases e:W[j]? with
     | none=>exact ⟨fun x hx=>by simp at hx,by simp⟩
     | some w=>have:=hW w (List.mem_of_getElem? e); exact ⟨this.1,by show w.length≤_; omega⟩
    have hWp:0 < W.length:=List.length_pos_iff.2 hWn
    have bs:∀ {a:LI},(∀ x∈a,(0:Int)≤x∧x≤255)→BS a:=fun h=>h
    have hv:=v.1.ll
    have hv2:=v.2.1
    have num:∀ (w:LI) (K:Int→Bool→Prop),BS w→w.length≤10000000→K (numM w) (parseB w).isSome→F_qaj (strOfNums w) K:=by
     intro w K h1 h2 h3
     refine ⟨w,⟨h1,rfl,by omega⟩,fun n hn=>?_,fun hn=>?_⟩
     ·have:=parseB_iff.2 hn
      unfold numM at h3; rw [this] at h3; exact h3
     ·have hp:parseB w=none:=by
       cases h:parseB w with
       | none=>rfl
       | some n=>exact absurd ⟨n,parseB_iff.1 h⟩ hn
      unfold numM at h3; rw [hp] at h3; exact h3
    have j0:S=(t,[119,104,97,116])→U0_qp_j0 t.1 t.2.1 3 t.2.2 (strOfNums o) (i:Int) (L0_qp ((ls.take 20).map strOfNums) ((min 20 ls.length:Nat):Int) k (m+1)):=fun e=>emit t _ e
    have j1:S=(t,[110,111])→U0_qp_j1 t.1 t.2.1 3 t.2.2 (strOfNums o) (i:Int) (L0_qp ((ls.take 20).map strOfNums) ((min 20 ls.length:Nat):Int) k (m+1)):=fun e=>emit t _ e
    have note:∀ (key:Int),(t.2.2.length+1≤1000000000)∧InR (((List.length (t.2.2++([key]:LI))):Int) - 24)∧
      (0≤(if (((List.length (t.2.2++([key]:LI))):Int) - 24) < 0 then (0:Int) else (((List.length (t.2.2++([key]:LI))):Int) - 24))∧(if (((List.length (t.2.2++([key]:LI))):Int) - 24) < 0 then (0:Int) else (((List.length (t.2.2++([key]:LI))):Int) - 24))≤((List.length (t.2.2++([key]:LI))):Int))∧
      (List.take ((List.length (t.2.2++([key]:LI))) - (Int.toNat (if (((List.length (t.2.2++([key]:LI))):Int) - 24) < 0 then (0:Int) else (((List.length (t.2.2++([key]:LI))):Int) - 24)))) (List.drop (Int.toNat (if (((List.length (t.2.2++([key]:LI))):Int) - 24) < 0 then (0:Int) else (((List.length (t.2.2++([key]:LI))):Int) - 24))) (t.2.2++([key]:LI))))=noteM t.2.2 key:=by
     intro key
     have hlen:(t.2.2++[key]).length=t.2.2.length+1:=by rw [List.length_append,List.length_singleton]
     have hmax:(if (((t.2.2++[key]).length:Int) - 24) < 0 then (0:Int) else (((t.2.2++[key]).length:Int) - 24))=((t.2.2.length+1 - 24:Nat):Int):=by rw [hlen]; split <;> omega
     rw [hmax,Int.toNat_natCast]
     exact ⟨by omega,inR (by omega) (by omega),⟨by omega,by omega⟩,List.take_of_length_le (by rw [List.length_drop]; omega)⟩
    have same:∀ {w:LI},(∀ x∈w,x≠32)→(ls[i]=w)=(W.getD 0 []=w∧W.length=1):=fun {w} hw=>propext ⟨fun e=>by
     have:=hone' e hw
     rw [this]; exact ⟨rfl,rfl⟩,fun e=>hone e.1 e.2⟩
    simp only [same (w:=[116,114,97,99,101]) (by decide),same (w:=[100,105,114,116,121]) (by decide),same (w:=[102,108,117,115,104]) (by decide)] at hstep
    have h0b:=(hWb 0).1
    refine br_yd (by omega) ⟨⟨by omega,by rw [hlen20]; omega⟩,?_⟩
    rw [hg]
    refine ⟨ls[i],32,⟨ha,rfl,by omega⟩,⟨by omega,rfl⟩,?_⟩
    rw [hWe]
    simp only [getS,List.length_map]
    rw [beqB h0b (bs (by decide)),beqB h0b (bs (by decide)),beqB h0b (bs (by decide)),beqB h0b (bs (by decide)),beqB h0b (bs (by decide)),beqB h0b (bs (by decide))]
    refine ⟨⟨by omega,by omega⟩,br_dec.2 ⟨fun q=>br_bne.2 ⟨fun q2=>j0 ?_,fun q2=>⟨⟨by omega,by omega⟩,num _ _ (hWb 1).1 (hWb 1).2 ?_⟩⟩,fun q0=>br_dec.2 ⟨fun q=>br_bne.2 ⟨fun q2=>j0 ?_,fun q2=>⟨⟨by omega,by omega⟩,num _ _ (hWb 1).1 (hWb 1).2 ⟨⟨by omega,by omega⟩,num _ _ (hWb 2).1 (hWb 2).2 ?_⟩⟩⟩,fun q1=>br_dec.2 ⟨fun q=>br_bne.2 ⟨fun q2=>j0 ?_,fun q2=>⟨⟨by omega,by omega⟩,num _ _ (hWb 2).1 (hWb 2).2 ⟨⟨by omega,by omega⟩,W.getD 1 [],⟨(hWb 1).1,rfl⟩,v.2,?_⟩⟩⟩,fun q2=>br_dec.2 ⟨fun q=>br_bne.2 ⟨fun q2=>j0 ?_,fun q2=>yes v.2 (emit _ _ ?_)⟩,fun q3=>br_dec.2 ⟨fun q=>br_bne.2 ⟨fun q2=>j0 ?_,fun q2=>⟨hv,yes v.1 ?_⟩⟩,fun q4=>br_dec.2 ⟨fun q=>br_bne.2 ⟨fun q2=>j0 ?_,fun q2=>⟨hv,yes v.1 (emit (flushS t.2.1 t.1,flushL t.2.1,t.2.2) [111,107] ?_)⟩⟩,fun q5=>j0 ?_⟩⟩⟩⟩⟩⟩⟩
    ·have q2:W.length≠2:=by omega
     rw [q] at hstep; simpa [q2] using hstep
    ·have q2:W.length=2:=by omega
     rw [if_pos ⟨q,q2⟩] at hstep
     unfold getM at hstep
     by_cases g:0≤numM (W.getD 1 [])∧numM (W.getD 1 [])≤31
     ·rw [if_pos g] at hstep
      have hr:=v.1.val_range g
      obtain ⟨n1,n2,n3,n4⟩:=note (numM (W.getD 1 []))
      refine ⟨hv,yes ⟨v.1,g⟩ (br_nt ⟨n1,n2,n3,⟨by omega,by omega⟩,?_⟩)⟩
      rw [n4]
      exact emit _ _ hstep
     ·rw [if_neg g] at hstep
      exact ⟨hv,nay (fun h=>g h.2) (br_nf (j1 hstep))⟩
    ·have q2:W.length≠3:=by omega
     rw [q] at hstep; simpa [q2] using hstep
    ·have q2:W.length=3:=by omega
     rw [if_neg fun d=>q0 d.1,if_pos ⟨q,q2⟩] at hstep
     cases hp:parseB (W.getD 2 []) with
     | none=>
      rw [hp] at hstep
      have e:S=(t,[110,111]):=hstep
      exact ⟨hv,fun _=>br_nf (j1 e),fun _=>br_nf (j1 e)⟩
     | some n=>
      rw [hp] at hstep
      have hn:numM (W.getD 2 [])=n:=by unfold numM; rw [hp]
      rw [hn]
      unfold setM at hstep
      dsimp only at hstep
      by_cases g:(0≤numM (W.getD 1 [])∧numM (W.getD 1 [])≤31)∧-1000≤n∧n≤1000
      ·rw [if_pos g] at hstep
       obtain ⟨n1,n2,n3,n4⟩:=note (numM (W.getD 1 []))
       have e5:=emit _ _ hstep
       refine ⟨hv,yes ⟨v.1,g⟩ (br_nt (br_nt ⟨n1,n2,n3,e5.1,e5.2.1,e5.2.2.1,?_⟩))⟩
       rw [n4]
       exact e5.2.2.2
      ·rw [if_neg g] at hstep
       exact ⟨hv,nay (fun h=>g h.2) (br_nt (br_nf (j1 hstep)))⟩
    ·have q2:W.length≠3:=by omega
     rw [q] at hstep; simpa [q2] using hstep
    ·have q2:W.length=3:=by omega
     rw [if_neg fun d=>q0 d.1,if_neg fun d=>q1 d.1,if_pos ⟨q,q2⟩] at hstep
     have hsm:=hitsM_small (p:=W.getD 1 []) (room:=numM (W.getD 2 [])) v.2
     unfold hitsOut at hstep
     refine br_dec.2 ⟨fun g=>?_,fun g=>⟨⟨by omega,by omega⟩,?_⟩⟩
     ·rw [if_pos g] at hstep; exact j1 hstep
     ·rw [if_neg g] at hstep; exact emit _ _ hstep
    ·have q2:W.length≠1:=by omega
     rw [q] at hstep; simpa [q2] using hstep
    ·have q2:W.length=1:=by omega
     rw [q] at hstep; simpa [q2] using hstep
    ·have q2:W.length≠1:=by omega
     rw [q] at hstep; simpa [q2] using hstep
    ·have q2:W.length=1:=by omega
     have e:S=(t,fmtM (dirtyL t.2.1)):=by rw [q] at hstep; simpa [q2] using hstep
     have hdl:=dirtyL_len t.2.1
     have:=v.1.len
     refine yes ⟨by omega,fun x hx=>?_⟩ (emit _ _ e)
     obtain ⟨y,hy,hy1,_⟩:=dirtyL_mem.1 hx
     have:=(v.1.2.1.1.1 y hy).1; omega
    ·have q2:W.length≠1:=by omega
     rw [q] at hstep; simpa [q2] using hstep
    ·have q2:W.length=1:=by omega
     rw [q] at hstep; simpa [q2] using hstep
    ·rw [if_neg fun d=>q0 d.1,if_neg fun d=>q1 d.1,if_neg fun d=>q2 d.1,if_neg fun d=>q3 d.1,if_neg fun d=>q4 d.1,if_neg fun d=>q5 d.1] at hstep
     exact hstep
   ·have hnil:(ls.take 20).drop i=[]:=List.drop_eq_nil_of_le (by rw [List.length_take]; omega)
    rw [hnil,sesF,List.append_nil] at he
    rw [he]
    exact br_nd (by omega) hk
 unfold S_qp G_qp
 rw [hmin,Int.toNat_natCast,htk,hlen20]
 refine ⟨⟨rfl,by omega,by omega⟩,⟨by omega,by rw [List.length_map]; omega⟩,20+1,?_⟩
 exact go 20 0 [] ses0 (by omega) (by omega) (by simp) ses0_ok (by simp [sesM])

def T0_qbm (b c:LB) (a:Int) (k:Bool→Prop) (B0:Int→Prop):Prop:=br (decide (a < (b.length:Int))) ((0≤a∧a < (b.length:Int))∧(0≤a∧a < (c.length:Int))∧br (!(ByteArray.toList (List.getD b (Int.toNat a) ByteArray.empty)==ByteArray.toList (List.getD c (Int.toNat a) ByteArray.empty))) (k false) (InR (a+1)∧B0 (a+1))) (k true)
def L0_qbm (a b:LB) (k:Bool→Prop):Nat→Int→Prop | 0,_=>False | n+1,c=>T0_qbm a b c k (L0_qbm a b k n)
def G_qbm (a b:LB) (k:Bool→Prop) (I0:LB→LB→Int→Prop):Prop:=br ((a.length:Int) != (b.length:Int)) (k false) (I0 a b 0)
def S_qbm (a b:LB) (k:Bool→Prop):Prop:=G_qbm a b k (fun a b c=>∃ j,L0_qbm a b k j c)
def F_qbm (a b:List ByteArray) (k:Bool→Prop):Prop:=a=b∧a.length≤1000000000∧k true
theorem F_qbm_S {a b:List ByteArray} {k:Bool→Prop} (h:F_qbm a b k):S_qbm a b k:=by
 obtain ⟨rfl,hl,hk⟩:=h
 have go:∀ (m i:Nat),i+m=a.length→L0_qbm a a k (m+1) (i:Int):=by
  intro m
  induction m with
  | zero=>
   intro i hi
   rw [L0_qbm,T0_qbm]
   exact br_nd (by omega) hk
  | succ m ih=>
   intro i hi
   rw [L0_qbm,T0_qbm]
   refine br_yd (by omega) ⟨⟨by omega,by omega⟩,⟨by omega,by omega⟩,br_not.2 (br_iff.2 ⟨fun _=>⟨inR (by omega) (by omega),ih (i+1) (by omega)⟩,fun c=>?_⟩)⟩
   simp at c
 exact br_same' ⟨_,go a.length 0 (by omega)⟩

def G_laws_FnExactRunSession (aLines0:List ByteArray) (k:Bool→Prop):Prop:=
 F_qbn aLines0 (1048576:Int) fun szStringS9=>
 br (decide (szStringS9 < 0))
 (k true)
 (F_qbo aLines0 fun toStringS13=>
  F_qcl toStringS13 fun runSession14=>
  F_qbo aLines0 fun toStringS16=>
  F_qp toStringS16 fun runSession18=>
  br (!(ByteArray.toList runSession18==ByteArray.toList runSession14))
  (k false)
  (F_qbo aLines0 fun toStringS24=>
   F_qbm toStringS16 toStringS24 fun eqStringS25=>
   br (!eqStringS25)
   (k false)
   (k true)))
def S_laws_FnExactRunSession (aLines0:List ByteArray) (k:Bool→Prop):Prop:=G_laws_FnExactRunSession aLines0 k
abbrev F_laws_FnExactRunSession (aLines0:List ByteArray) (k:Bool→Prop):Prop:=S_laws_FnExactRunSession aLines0 k
theorem F_laws_FnExactRunSession_S {aLines0:List ByteArray} {k:Bool→Prop} (h:F_laws_FnExactRunSession aLines0 k):S_laws_FnExactRunSession aLines0 k:=h
theorem law_FnExactRunSession (lines:List ByteArray) (ll:lines.length≤maxLen) (rl:∀ s∈lines,s.size≤maxLen) :
  F_laws_FnExactRunSession lines (fun r=>r=true):=by
 refine ⟨⟨ll,rl,by omega,by omega⟩,fun r h1 h2 h3=>br_dec.2 ⟨fun _=>rfl,fun g=>?_⟩⟩
 obtain ⟨h4,h5⟩:=h3 (by omega)
 have hl:lines.length≤1000000000:=by omega
 have all:∃ ls:List (LI),lines=ls.map strOfNums∧(∀ a∈ls,BS a∧a.length≤10000000)∧ls.length≤10000000:=by
  have:∀ q:List ByteArray,(∀ s∈q,s∈lines)→∃ ls:List (LI),q=ls.map strOfNums∧(∀ a∈ls,BS a∧a.length≤10000000)∧ls.length=q.length:=by
   intro q
   induction q with
   | nil=>exact fun _=>⟨[],rfl,by simp,rfl⟩
   | cons s q ih=>
    intro hq
    obtain ⟨ls,e1,e2,e3⟩:=ih fun x hx=>hq x (List.mem_cons_of_mem _ hx)
    obtain ⟨a,ha,es⟩:=str_of s
    have hsz:=h5 s (hq s List.mem_cons_self)
    rw [es,str_size] at hsz
    refine ⟨a :: ls,by rw [List.map_cons,← e1,← es],fun b hb=>?_,by rw [List.length_cons,List.length_cons,e3]⟩
    rcases List.mem_cons.1 hb with rfl | hb
    ·exact ⟨ha,by omega⟩
    ·exact e2 b hb
  obtain ⟨ls,e1,e2,e3⟩:=this lines fun _ h=>h
  exact ⟨ls,e1,e2,by omega⟩
 obtain ⟨ls,hls⟩:=all
 have hB:BS (sesM ls):=sesF_BS _ ses0_ok
 refine ⟨hl,ls,hls,hl,ls,hls,?_⟩
 dsimp only
 rw [str_eq hB hB,decide_eq_true rfl]
 exact br_nt ⟨hl,rfl,hl,br_nt rfl⟩
end Go.Ev
