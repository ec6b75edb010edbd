/- What the functions that the law reaches do, written as plain Lean. No statement is proved here. -/
import Derived.Test.YtemhpncmhdcheabGreatDoorFnExactRunSessionP0
namespace Go.Ev
set_option linter.unusedVariables false
set_option linter.unusedSimpArgs false
open Go
def G_qdg_j0 (e a:LI) (g d:Int) (b c:LI) (k:Int→Int→LI→LI→LI→LI→Prop):Prop:=(F_qdb c (List.getD a (Int.toNat ((a.length:Int) - 1)) (0:Int)) fun f=>(InR ((a.length:Int) - 1)∧(0≤((a.length:Int) - 1)∧((a.length:Int) - 1)≤(a.length:Int))∧k g d (List.take (Int.toNat ((a.length:Int) - 1)) a) e f b)∧(True))∧(True)
def G_qdg_j1 (e a:LI) (f d:Int) (b c:LI) (k:Int→Int→LI→LI→LI→LI→Prop):Prop:=InR ((a.length:Int) - 1)∧(((0≤((a.length:Int) - 1)∧((a.length:Int) - 1) < (a.length:Int))∧G_qdg_j0 e a f d b c k)∧(True))∧(((0≤((a.length:Int) - 1)∧((a.length:Int) - 1) < (a.length:Int))∧(G_qdg_j0 e a f d b c k)∧(True))∧(True))
def G_qdg_j2 (a f:LI) (g d:Int) (b c:LI) (k:Int→Int→LI→LI→LI→LI→Prop):Prop:=(F_qdb b (List.getD a (Int.toNat ((a.length:Int) - 1)) (0:Int)) fun e=>(InR ((a.length:Int) - 1)∧(0≤((a.length:Int) - 1)∧((a.length:Int) - 1)≤(a.length:Int))∧k g d f (List.take (Int.toNat ((a.length:Int) - 1)) a) c e)∧(True))∧(True)
def G_qdg_j3 (a e:LI) (f d:Int) (b c:LI) (k:Int→Int→LI→LI→LI→LI→Prop):Prop:=br ((a.length:Int)==0) (G_qdg_j1 a e f d b c k) (InR ((a.length:Int) - 1)∧(((0≤((a.length:Int) - 1)∧((a.length:Int) - 1) < (a.length:Int))∧G_qdg_j2 a e f d b c k)∧(True))∧(((0≤((a.length:Int) - 1)∧((a.length:Int) - 1) < (a.length:Int))∧(G_qdg_j2 a e f d b c k)∧(True))∧(True)))
def G_qdg (f a:Int) (c e:LI) (d b:LI) (g:Bool) (k:Int→Int→LI→LI→LI→LI→Prop):Prop:=br (decide ((c.length:Int) > 0)) (br (decide ((c.length:Int) > a)) (G_qdg_j1 e c f a b d k) (br g (br ((c.length:Int)==a) (G_qdg_j1 e c f a b d k) (G_qdg_j3 e c f a b d k)) (G_qdg_j3 e c f a b d k))) (G_qdg_j3 e c f a b d k)
def H_qdg_j0 (e a:LI) (g d:Int) (b c:LI) (k:Int→Int→LI→LI→LI→LI→Prop):Prop:=InR ((a.length:Int) - 1)∧(0≤((a.length:Int) - 1)∧((a.length:Int) - 1) < (a.length:Int))∧F_qdb c (List.getD a (Int.toNat ((a.length:Int) - 1)) (0:Int)) fun f=>InR ((a.length:Int) - 1)∧(0≤((a.length:Int) - 1)∧((a.length:Int) - 1)≤(a.length:Int))∧k g d (List.take (Int.toNat ((a.length:Int) - 1)) a) e f b
def H_qdg_j1 (a e:LI) (f d:Int) (b c:LI) (k:Int→Int→LI→LI→LI→LI→Prop):Prop:=br ((a.length:Int)==0) (H_qdg_j0 a e f d b c k) (InR ((a.length:Int) - 1)∧(0≤((a.length:Int) - 1)∧((a.length:Int) - 1) < (a.length:Int))∧F_qdb b (List.getD a (Int.toNat ((a.length:Int) - 1)) (0:Int)) fun g=>InR ((a.length:Int) - 1)∧(0≤((a.length:Int) - 1)∧((a.length:Int) - 1)≤(a.length:Int))∧k f d e (List.take (Int.toNat ((a.length:Int) - 1)) a) c g)
def H_qdg (f a:Int) (c e:LI) (d b:LI) (g:Bool) (k:Int→Int→LI→LI→LI→LI→Prop):Prop:=br (decide ((c.length:Int) > 0)) (br (decide ((c.length:Int) > a)) (H_qdg_j0 e c f a b d k) (br g (br ((c.length:Int)==a) (H_qdg_j0 e c f a b d k) (H_qdg_j1 e c f a b d k)) (H_qdg_j1 e c f a b d k))) (H_qdg_j1 e c f a b d k)
theorem G_qdg_eq (e c:Int) (f d:LI) (b a:LI) (g:Bool) (k:Int→Int→LI→LI→LI→LI→Prop):G_qdg e c f d b a g k=H_qdg e c f d b a g k:=by
 first
 | (simp only [G_qdg,H_qdg,G_qdg_j0,G_qdg_j1,G_qdg_j2,G_qdg_j3,H_qdg_j0,H_qdg_j1,and_self,and_true]; done)
 | (simp only [G_qdg,H_qdg,G_qdg_j0,G_qdg_j1,G_qdg_j2,G_qdg_j3,H_qdg_j0,H_qdg_j1,and_self,and_true,and_self_left,and_assoc]; refine propext ⟨fun h=>?_,fun h=>?_⟩ <;> (repeat (cases ‹_∧_›)) <;> (repeat' (apply And.intro)) <;> assumption)
def S_qdg (e c:Int) (f d:LI) (b a:LI) (g:Bool) (k:Int→Int→LI→LI→LI→LI→Prop):Prop:=H_qdg e c f d b a g k
def F_qdg (r t:Int) (o f wo wf:LI) (was:Bool) (k:Int→Int→LI→LI→LI→LI→Prop):Prop:=
 ((o.length≤100000000∧f.length≤100000000∧wo.length≤100000000∧wf.length≤100000000)∧0 < o.length+f.length)∧
 k r (mkRoom was ⟨t,o,f,wo,wf⟩).t (mkRoom was ⟨t,o,f,wo,wf⟩).o (mkRoom was ⟨t,o,f,wo,wf⟩).f (mkRoom was ⟨t,o,f,wo,wf⟩).wo (mkRoom was ⟨t,o,f,wo,wf⟩).wf
theorem F_qdg_S {r t:Int} {o f wo wf:LI} {was:Bool} {k:Int→Int→LI→LI→LI→LI→Prop} (h:F_qdg r t o f wo wf was k):S_qdg r t o f wo wf was k:=by
 obtain ⟨⟨⟨h1,h2,h3,h4⟩,h5⟩,hk⟩:=h
 have first:((0 < o.length∧((o.length:Int) > t∨was=true∧(o.length:Int)=t))∨f.length=0)→H_qdg_j0 f o r t wf wo k:=by
  intro hc
  unfold mkRoom at hk
  rw [if_pos hc] at hk
  have ho:0 < o.length:=by omega
  refine ⟨inR (by omega) (by omega),⟨by omega,by omega⟩,by omega,inR (by omega) (by omega),⟨by omega,by omega⟩,?_⟩
  rw [show ((o.length:Int) - 1).toNat=o.length - 1 by omega]
  exact hk
 have second:¬ (0 < o.length∧((o.length:Int) > t∨was=true∧(o.length:Int)=t))→H_qdg_j1 f o r t wf wo k:=by
  intro hc
  refine br_beq.2 ⟨fun h=>first (.inr (by omega)),fun h=>?_⟩
  unfold mkRoom at hk
  rw [if_neg (fun c=>c.elim hc (by intro h6; simp only at h6; omega))] at hk
  refine ⟨inR (by omega) (by omega),⟨by omega,by omega⟩,by omega,inR (by omega) (by omega),⟨by omega,by omega⟩,?_⟩
  rw [show ((f.length:Int) - 1).toNat=f.length - 1 by omega]
  exact hk
 refine br_dec.2 ⟨fun g1=>br_dec.2 ⟨fun g2=>first (.inl ⟨by omega,.inl g2⟩),fun g2=>br_iff.2 ⟨fun g3=>br_beq.2 ⟨fun g4=>first (.inl ⟨by omega,.inr ⟨g3,g4⟩⟩),fun g4=>second fun c=>?_⟩,fun g3=>second fun c=>?_⟩⟩,fun g1=>second fun c=>by omega⟩
 ·rcases c.2 with h | h
  ·exact g2 h
  ·exact g4 h.2
 ·rcases c.2 with h | h
  ·exact g2 h
  ·rw [g3] at h; cases h.1

def G_qda_j0 (d c:LI) (h i:Int) (a b:LI) (p:Int) (k:Int→Int→LI→LI→LI→LI→Prop):Prop:=br (((c.length:Int)+(b.length:Int))==h) (InR ((c.length:Int) - 1)∧(0≤((c.length:Int) - 1)∧((c.length:Int) - 1)≤(c.length:Int))∧F_qdb (List.take (Int.toNat ((c.length:Int) - 1)) c) p fun f=>k h i f d b a) (InR (((c.length:Int)+(b.length:Int))+(d.length:Int))∧InR ((((c.length:Int)+(b.length:Int))+(d.length:Int))+(a.length:Int))∧InR (2*h)∧br (((((c.length:Int)+(b.length:Int))+(d.length:Int))+(a.length:Int))==(2*h)) (InR ((a.length:Int) - 1)∧(0≤((a.length:Int) - 1)∧((a.length:Int) - 1)≤(a.length:Int))∧F_qdd h i c d b (List.take (Int.toNat ((a.length:Int) - 1)) a) fun o=>br o (F_qdg h i c d b (List.take (Int.toNat ((a.length:Int) - 1)) a) false fun m j n l g e=>F_qdb n p fun f=>k m j f l g e) (F_qdb c p fun f=>k h i f d b (List.take (Int.toNat ((a.length:Int) - 1)) a))) (F_qdd h i c d b a fun o=>br o (F_qdg h i c d b a false fun m j n l g e=>F_qdb n p fun f=>k m j f l g e) (F_qdb c p fun f=>k h i f d b a)))
def G_qda (e c:Int) (d f:LI) (a b:LI) (o:Int) (k:Int→Int→LI→LI→LI→LI→Prop):Prop:=InR ((d.length:Int)+(a.length:Int))∧br (((d.length:Int)+(a.length:Int))==e) (br (decide ((a.length:Int) > 0)) (InR ((a.length:Int) - 1)∧(0≤((a.length:Int) - 1)∧((a.length:Int) - 1)≤(a.length:Int))∧F_qdd e c d f (List.take (Int.toNat ((a.length:Int) - 1)) a) b fun p=>br p (F_qdg e c d f (List.take (Int.toNat ((a.length:Int) - 1)) a) b false fun l i m j h g=>F_qdb m o fun n=>k l i n j h g) (F_qdb d o fun n=>k e c n f (List.take (Int.toNat ((a.length:Int) - 1)) a) b)) (G_qda_j0 f d e c b a o k)) (G_qda_j0 f d e c b a o k)
def S_qda (e c:Int) (f d:LI) (b a:LI) (g:Int) (k:Int→Int→LI→LI→LI→LI→Prop):Prop:=G_qda e c f d b a g k
def F_qda (r t:Int) (o f wo wf:LI) (key:Int) (k:Int→Int→LI→LI→LI→LI→Prop):Prop:=
 VLists r ⟨t,o,f,wo,wf⟩∧k r (freshL r ⟨t,o,f,wo,wf⟩ key).t (freshL r ⟨t,o,f,wo,wf⟩ key).o (freshL r ⟨t,o,f,wo,wf⟩ key).f (freshL r ⟨t,o,f,wo,wf⟩ key).wo (freshL r ⟨t,o,f,wo,wf⟩ key).wf
theorem F_qda_S {r t:Int} {o f wo wf:LI} {key:Int} {k:Int→Int→LI→LI→LI→LI→Prop} (h:F_qda r t o f wo wf key k):S_qda r t o f wo wf key k:=by
 obtain ⟨v,hk⟩:=h
 obtain ⟨l1,l2,l3,l4⟩:=lists_len v
 have r1:=v.room1
 have i1:=v.inc
 have o1:=v.onc
 have t1:=v.tot
 simp only at l1 l2 l3 l4 i1 o1 t1
 have fit:∀ (wo wf:LI),wo.length≤8→wf.length≤16→(let b:=fitL r false ⟨t,o,f,wo,wf⟩; k r b.t (key :: b.o) b.f b.wo b.wf)→
   F_qdd r t o f wo wf fun c=>br c (F_qdg r t o f wo wf false fun r t o f wo wf=>F_qdb o key fun o=>k r t o f wo wf) (F_qdb o key fun o=>k r t o f wo wf):=by
  intro wo wf g1 g2 hk
  refine ⟨by omega,br_dec.2 ⟨fun hf=>⟨⟨by omega,by omega⟩,?_⟩,fun hf=>⟨by omega,?_⟩⟩⟩
  ·rw [fitL,if_pos hf] at hk
   have:=(mkRoom_len (was:=false) (a:=⟨t,o,f,wo,wf⟩) (by simp only; omega)).1
   simp only at this
   exact ⟨by omega,hk⟩
  ·rw [fitL,if_neg hf] at hk
   exact hk
 unfold freshL at hk
 have j0:¬ ((o.length:Int)+wo.length=r∧0 < wo.length)→G_qda_j0 f o r t wf wo key k:=by
  intro hn
  simp only [if_neg hn] at hk
  refine br_beq.2 ⟨fun e1=>?_,fun e1=>⟨inR (by omega) (by omega),inR (by omega) (by omega),inR (by omega) (by omega),br_beq.2 ⟨fun e2=>⟨inR (by omega) (by omega),⟨by omega,by omega⟩,fit _ _ (by omega) (by simp; omega) ?_⟩,fun e2=>fit _ _ (by omega) (by omega) ?_⟩⟩⟩
  ·simp only [if_pos e1] at hk
   refine ⟨inR (by omega) (by omega),⟨by omega,by omega⟩,by simp; omega,?_⟩
   rw [show ((o.length:Int) - 1).toNat=o.length - 1 by omega]
   exact hk
  ·simp only [if_neg e1,if_pos e2] at hk
   rw [show ((wf.length:Int) - 1).toNat=wf.length - 1 by omega]
   exact hk
  ·simp only [if_neg e1,if_neg e2] at hk
   exact hk
 refine ⟨inR (by omega) (by omega),br_beq.2 ⟨fun e1=>br_dec.2 ⟨fun e2=>⟨inR (by omega) (by omega),⟨by omega,by omega⟩,fit _ _ (by simp; omega) (by omega) ?_⟩,fun e2=>j0 fun c=>by omega⟩,fun e1=>j0 fun c=>e1 c.1⟩⟩
 simp only [if_pos (show (o.length:Int)+wo.length=r∧0 < wo.length from ⟨e1,by omega⟩)] at hk
 rw [show ((wo.length:Int) - 1).toNat=wo.length - 1 by omega]
 exact hk

def G_qco_j0 (d e:LI) (f c:Int) (a b:LI) (j g:Int) (k:Int→Int→LI→LI→LI→LI→Bool→Prop):Prop:=(F_qdw e g fun h=>(F_qdb d j fun i=>k f c h i b a true)∧(True))∧(True)
def G_qco_j1 (e a:LI) (f d:Int) (b c:LI) (h:Int) (k:Int→Int→LI→LI→LI→LI→Bool→Prop):Prop:=(F_qdl a h fun g=>G_qco_j0 e a f d b c h g k)∧(True)
def G_qco_j2 (d e:LI) (f c:Int) (a b:LI) (j g:Int) (k:Int→Int→LI→LI→LI→LI→Bool→Prop):Prop:=(F_qdw d g fun h=>(F_qdb h j fun i=>(k f c e i b a true)∧(True))∧(True))∧(True)
def G_qco_j3 (a e:LI) (f d:Int) (b c:LI) (h:Int) (k:Int→Int→LI→LI→LI→LI→Bool→Prop):Prop:=(F_qdl a h fun g=>G_qco_j2 a e f d b c h g k)∧(True)
def G_qco_j4 (e f:LI) (c d:Int) (a b:LI) (r p:Int) (k:Int→Int→LI→LI→LI→LI→Bool→Prop):Prop:=(F_qdw b p fun g=>(F_qdd c (if (d+(if 1 < (Int.tdiv (a.length:Int) (b.length:Int)) then (Int.tdiv (a.length:Int) (b.length:Int)) else 1)) < c then (d+(if 1 < (Int.tdiv (a.length:Int) (b.length:Int)) then (Int.tdiv (a.length:Int) (b.length:Int)) else 1)) else c) f e g a fun q=>br q (F_qdg c (if (d+(if 1 < (Int.tdiv (a.length:Int) (b.length:Int)) then (Int.tdiv (a.length:Int) (b.length:Int)) else 1)) < c then (d+(if 1 < (Int.tdiv (a.length:Int) (b.length:Int)) then (Int.tdiv (a.length:Int) (b.length:Int)) else 1)) else c) f e g a false fun m j n l i h=>F_qdb l r fun o=>k m j n o i h false) (F_qdb e r fun o=>k c (if (d+(if 1 < (Int.tdiv (a.length:Int) (b.length:Int)) then (Int.tdiv (a.length:Int) (b.length:Int)) else 1)) < c then (d+(if 1 < (Int.tdiv (a.length:Int) (b.length:Int)) then (Int.tdiv (a.length:Int) (b.length:Int)) else 1)) else c) f o g a false))∧(True))∧(True)
def G_qco_j5 (d e:LI) (f c:Int) (b a:LI) (h:Int) (k:Int→Int→LI→LI→LI→LI→Bool→Prop):Prop:=(F_qdl a h fun g=>G_qco_j4 d e f c b a h g k)∧(True)
def G_qco_j6 (d e:LI) (f c:Int) (b a:LI) (g:Int) (k:Int→Int→LI→LI→LI→LI→Bool→Prop):Prop:=(((G_qco_j5 d e f c b a g k)∧(True))∧(((G_qco_j5 d e f c b a g k)∧((F_qdl a g fun h=>(G_qco_j4 d e f c b a g h k)∧(True))∧(True)))∧(True)))∧(True)
def G_qco_j7 (d e:LI) (f c:Int) (a b:LI) (g:Int) (k:Int→Int→LI→LI→LI→LI→Bool→Prop):Prop:=InR (c+(if 1 < (Int.tdiv (a.length:Int) (b.length:Int)) then (Int.tdiv (a.length:Int) (b.length:Int)) else 1))∧G_qco_j6 d e f c a b g k
def G_qco_j8 (d e:LI) (f c:Int) (b a:LI) (g:Int) (k:Int→Int→LI→LI→LI→LI→Bool→Prop):Prop:=(((a.length:Int)≠0∧InR (Int.tdiv (b.length:Int) (a.length:Int)))∧G_qco_j7 d e f c b a g k)∧(True)
def G_qco_j9 (d e:LI) (f c:Int) (a b:LI) (g:Int) (k:Int→Int→LI→LI→LI→LI→Bool→Prop):Prop:=(G_qco_j8 d e f c a b g k)∧((G_qco_j8 d e f c a b g k)∧(True))
def G_qco_j10 (d e:LI) (f c:Int) (a b:LI) (g:Int) (k:Int→Int→LI→LI→LI→LI→Bool→Prop):Prop:=(G_qco_j7 d e f c a b g k)∧(True)
def G_qco_j11 (d e:LI) (f c:Int) (b a:LI) (g:Int) (k:Int→Int→LI→LI→LI→LI→Bool→Prop):Prop:=(G_qco_j8 d e f c b a g k)∧((((a.length:Int)≠0∧InR (Int.tdiv (b.length:Int) (a.length:Int)))∧G_qco_j10 d e f c b a g k)∧(True))
def G_qco_j12 (d e:LI) (f c:Int) (a b:LI) (g:Int) (k:Int→Int→LI→LI→LI→LI→Bool→Prop):Prop:=InR (c+(if 1 < (Int.tdiv (a.length:Int) (b.length:Int)) then (Int.tdiv (a.length:Int) (b.length:Int)) else 1))∧(G_qco_j6 d e f c a b g k)∧(True)
def G_qco_j13 (d e:LI) (f c:Int) (b a:LI) (g:Int) (k:Int→Int→LI→LI→LI→LI→Bool→Prop):Prop:=(G_qco_j8 d e f c b a g k)∧((((a.length:Int)≠0∧InR (Int.tdiv (b.length:Int) (a.length:Int)))∧G_qco_j12 d e f c b a g k)∧(True))
def G_qco_j14 (d e:LI) (f c:Int) (b a:LI) (g:Int) (k:Int→Int→LI→LI→LI→LI→Bool→Prop):Prop:=(G_qco_j11 d e f c b a g k)∧((G_qco_j13 d e f c b a g k)∧((((a.length:Int)≠0∧InR (Int.tdiv (b.length:Int) (a.length:Int)))∧(G_qco_j10 d e f c b a g k)∧((G_qco_j12 d e f c b a g k)∧(True)))∧(True)))
def G_qco_j15 (d e:LI) (f c:Int) (b a:LI) (r p:Int) (k:Int→Int→LI→LI→LI→LI→Bool→Prop):Prop:=(F_qdw b p fun g=>(F_qdd f (if 0 < (c - (if 1 < (Int.tdiv (a.length:Int) (b.length:Int)) then (Int.tdiv (a.length:Int) (b.length:Int)) else 1)) then (c - (if 1 < (Int.tdiv (a.length:Int) (b.length:Int)) then (Int.tdiv (a.length:Int) (b.length:Int)) else 1)) else 0) e d a g fun q=>br q (F_qdg f (if 0 < (c - (if 1 < (Int.tdiv (a.length:Int) (b.length:Int)) then (Int.tdiv (a.length:Int) (b.length:Int)) else 1)) then (c - (if 1 < (Int.tdiv (a.length:Int) (b.length:Int)) then (Int.tdiv (a.length:Int) (b.length:Int)) else 1)) else 0) e d a g true fun n j o l i h=>F_qdb l r fun m=>k n j o m i h false) (F_qdb d r fun m=>k f (if 0 < (c - (if 1 < (Int.tdiv (a.length:Int) (b.length:Int)) then (Int.tdiv (a.length:Int) (b.length:Int)) else 1)) then (c - (if 1 < (Int.tdiv (a.length:Int) (b.length:Int)) then (Int.tdiv (a.length:Int) (b.length:Int)) else 1)) else 0) e m a g false))∧(True))∧(True)
def G_qco_j16 (d e:LI) (f c:Int) (a b:LI) (h:Int) (k:Int→Int→LI→LI→LI→LI→Bool→Prop):Prop:=(F_qdl a h fun g=>G_qco_j15 d e f c a b h g k)∧(True)
def G_qco_j17 (d e:LI) (f c:Int) (a b:LI) (g:Int) (k:Int→Int→LI→LI→LI→LI→Bool→Prop):Prop:=InR (c - (if 1 < (Int.tdiv (b.length:Int) (a.length:Int)) then (Int.tdiv (b.length:Int) (a.length:Int)) else 1))∧(((G_qco_j16 d e f c a b g k)∧(True))∧(((G_qco_j16 d e f c a b g k)∧((F_qdl a g fun h=>(G_qco_j15 d e f c a b g h k)∧(True))∧(True)))∧(True)))∧(True)
def G_qco_j18 (d e:LI) (f c:Int) (a b:LI) (g:Int) (k:Int→Int→LI→LI→LI→LI→Bool→Prop):Prop:=(((a.length:Int)≠0∧InR (Int.tdiv (b.length:Int) (a.length:Int)))∧G_qco_j17 d e f c a b g k)∧(True)
def G_qco_j19 (d e:LI) (f c:Int) (a b:LI) (g:Int) (k:Int→Int→LI→LI→LI→LI→Bool→Prop):Prop:=(G_qco_j18 d e f c a b g k)∧((((a.length:Int)≠0∧InR (Int.tdiv (b.length:Int) (a.length:Int)))∧(G_qco_j17 d e f c a b g k)∧(True))∧(True))
def G_qco (u q:Int) (v r:LI) (p m:LI) (g:Int) (k:Int→Int→LI→LI→LI→LI→Bool→Prop):Prop:=F_qcu u q v r p m fun f d e c b a=>F_qde e g fun w=>br w (((G_qco_j1 c e f d a b g k)∧(True))∧(((G_qco_j1 c e f d a b g k)∧((F_qdl e g fun s=>(G_qco_j0 c e f d a b g s k)∧(True))∧(True)))∧(True))) (F_qde c g fun x=>br x (((G_qco_j3 c e f d a b g k)∧(True))∧(((G_qco_j3 c e f d a b g k)∧((F_qdl c g fun t=>(G_qco_j2 c e f d a b g t k)∧(True))∧(True)))∧(True))) (F_qde b g fun y=>br y (((G_qco_j9 c e f d a b g k)∧((G_qco_j11 c e f d a b g k)∧((G_qco_j11 c e f d a b g k)∧(True))))∧(((G_qco_j9 c e f d a b g k)∧((G_qco_j13 c e f d a b g k)∧((G_qco_j13 c e f d a b g k)∧(True))))∧((G_qco_j14 c e f d a b g k)∧((G_qco_j14 c e f d a b g k)∧(True))))) (F_qde a g fun z=>br z (((G_qco_j18 c e f d a b g k)∧((G_qco_j18 c e f d a b g k)∧(True)))∧((G_qco_j19 c e f d a b g k)∧((G_qco_j19 c e f d a b g k)∧(True)))) (F_qda f d e c b a g fun n j o l i h=>k n j o l i h false))))
def H_qco (ar ag:Int) (au ai:LI) (af ac:LI) (g:Int) (k:Int→Int→LI→LI→LI→LI→Bool→Prop):Prop:=F_qcu ar ag au ai af ac fun d c f e b a=>F_qde f g fun ay=>br ay (F_qdl f g fun aj=>F_qdw f aj fun al=>F_qdb e g fun aw=>k d c al aw b a true) (F_qde e g fun az=>br az (F_qdl e g fun am=>F_qdw e am fun ao=>F_qdb ao g fun ax=>k d c f ax b a true) (F_qde b g fun ba=>br ba (((b.length:Int)≠0∧InR (Int.tdiv (a.length:Int) (b.length:Int)))∧InR (c+(if 1 < (Int.tdiv (a.length:Int) (b.length:Int)) then (Int.tdiv (a.length:Int) (b.length:Int)) else 1))∧F_qdl b g fun ap=>F_qdw b ap fun j=>F_qdd d (if (c+(if 1 < (Int.tdiv (a.length:Int) (b.length:Int)) then (Int.tdiv (a.length:Int) (b.length:Int)) else 1)) < d then (c+(if 1 < (Int.tdiv (a.length:Int) (b.length:Int)) then (Int.tdiv (a.length:Int) (b.length:Int)) else 1)) else d) f e j a fun av=>br av (F_qdg d (if (c+(if 1 < (Int.tdiv (a.length:Int) (b.length:Int)) then (Int.tdiv (a.length:Int) (b.length:Int)) else 1)) < d then (c+(if 1 < (Int.tdiv (a.length:Int) (b.length:Int)) then (Int.tdiv (a.length:Int) (b.length:Int)) else 1)) else d) f e j a false fun x p y t n l=>F_qdb t g fun z=>k x p y z n l false) (F_qdb e g fun z=>k d (if (c+(if 1 < (Int.tdiv (a.length:Int) (b.length:Int)) then (Int.tdiv (a.length:Int) (b.length:Int)) else 1)) < d then (c+(if 1 < (Int.tdiv (a.length:Int) (b.length:Int)) then (Int.tdiv (a.length:Int) (b.length:Int)) else 1)) else d) f z j a false)) (F_qde a g fun bb=>br bb (((a.length:Int)≠0∧InR (Int.tdiv (b.length:Int) (a.length:Int)))∧InR (c - (if 1 < (Int.tdiv (b.length:Int) (a.length:Int)) then (Int.tdiv (b.length:Int) (a.length:Int)) else 1))∧F_qdl a g fun ah=>F_qdw a ah fun h=>F_qdd d (if 0 < (c - (if 1 < (Int.tdiv (b.length:Int) (a.length:Int)) then (Int.tdiv (b.length:Int) (a.length:Int)) else 1)) then (c - (if 1 < (Int.tdiv (b.length:Int) (a.length:Int)) then (Int.tdiv (b.length:Int) (a.length:Int)) else 1)) else 0) f e b h fun aq=>br aq (F_qdg d (if 0 < (c - (if 1 < (Int.tdiv (b.length:Int) (a.length:Int)) then (Int.tdiv (b.length:Int) (a.length:Int)) else 1)) then (c - (if 1 < (Int.tdiv (b.length:Int) (a.length:Int)) then (Int.tdiv (b.length:Int) (a.length:Int)) else 1)) else 0) f e b h true fun u o v q m i=>F_qdb q g fun r=>k u o v r m i false) (F_qdb e g fun r=>k d (if 0 < (c - (if 1 < (Int.tdiv (b.length:Int) (a.length:Int)) then (Int.tdiv (b.length:Int) (a.length:Int)) else 1)) then (c - (if 1 < (Int.tdiv (b.length:Int) (a.length:Int)) then (Int.tdiv (b.length:Int) (a.length:Int)) else 1)) else 0) f r b h false)) (F_qda d c f e b a g fun ad aa ae ab w s=>k ad aa ae ab w s false))))
theorem G_qco_eq (e c:Int) (f d:LI) (b a:LI) (g:Int) (k:Int→Int→LI→LI→LI→LI→Bool→Prop):G_qco e c f d b a g k=H_qco e c f d b a g k:=by
 first
 | (simp only [G_qco,H_qco,G_qco_j0,G_qco_j1,G_qco_j2,G_qco_j3,G_qco_j4,G_qco_j5,G_qco_j6,G_qco_j7,G_qco_j8,G_qco_j9,G_qco_j10,G_qco_j11,G_qco_j12,G_qco_j13,G_qco_j14,G_qco_j15,G_qco_j16,G_qco_j17,G_qco_j18,G_qco_j19,and_self,and_true]; done)
 | (simp only [G_qco,H_qco,G_qco_j0,G_qco_j1,G_qco_j2,G_qco_j3,G_qco_j4,G_qco_j5,G_qco_j6,G_qco_j7,G_qco_j8,G_qco_j9,G_qco_j10,G_qco_j11,G_qco_j12,G_qco_j13,G_qco_j14,G_qco_j15,G_qco_j16,G_qco_j17,G_qco_j18,G_qco_j19,and_self,and_true,and_self_left,and_assoc]; refine propext ⟨fun h=>?_,fun h=>?_⟩ <;> (repeat (cases ‹_∧_›)) <;> (repeat' (apply And.intro)) <;> assumption)
def S_qco (e c:Int) (f d:LI) (b a:LI) (g:Int) (k:Int→Int→LI→LI→LI→LI→Bool→Prop):Prop:=H_qco e c f d b a g k
def F_qco (r t:Int) (o f wo wf:LI) (key:Int) (k:Int→Int→LI→LI→LI→LI→Bool→Prop):Prop:=
 VLists r ⟨t,o,f,wo,wf⟩∧k r (adM r ⟨t,o,f,wo,wf⟩ key).1.t (adM r ⟨t,o,f,wo,wf⟩ key).1.o (adM r ⟨t,o,f,wo,wf⟩ key).1.f (adM r ⟨t,o,f,wo,wf⟩ key).1.wo (adM r ⟨t,o,f,wo,wf⟩ key).1.wf (adM r ⟨t,o,f,wo,wf⟩ key).2
theorem F_qco_S {r t:Int} {o f wo wf:LI} {key:Int} {k:Int→Int→LI→LI→LI→LI→Bool→Prop} (h:F_qco r t o f wo wf key k):S_qco r t o f wo wf key k:=by
 obtain ⟨v,hk⟩:=h
 obtain ⟨l1,l2,l3,l4⟩:=lists_len v
 have r1:=v.room1
 have i1:=v.inc
 have tg:=v.tgt
 have dis:=v.dis
 simp only at l1 l2 l3 l4 i1 tg dis
 have nd:∀ l:LI,(∀ x,l.count x≤1)→l.Nodup:=fun l h=>nodup_count.2 h
 have no:=nd o fun x=>by have:=dis x; omega
 have nf:=nd f fun x=>by have:=dis x; omega
 have nwo:=nd wo fun x=>by have:=dis x; omega
 have nwf:=nd wf fun x=>by have:=dis x; omega
 have out:∀ (l:LI) (K:LI→Prop),l.length≤16→l.Nodup→key∈l→((rmK l key).length≤16→K (rmK l key))→F_qdl l key fun p=>F_qdw l p K:=by
  intro l K hl hn hm hK
  obtain ⟨j,j1,j2,_,j3⟩:=plc_pos hm
  refine ⟨by omega,?_⟩
  rw [j3]
  refine ⟨⟨by omega,by omega,by omega⟩,?_⟩
  rw [Int.toNat_natCast,rmK_erase hn j2]
  have:=@rmK_le l key
  exact hK (by omega)
 have fit:∀ (was:Bool) (t:Int) (wo wf:LI),wo.length≤16→wf.length≤16→(let b:=fitL r was ⟨t,o,f,wo,wf⟩; k r b.t b.o (key :: b.f) b.wo b.wf false)→
   F_qdd r t o f wo wf fun c=>br c (F_qdg r t o f wo wf was fun r t o f wo wf=>F_qdb f key fun f=>k r t o f wo wf false) (F_qdb f key fun f=>k r t o f wo wf false):=by
  intro was t wo wf g1 g2 hk
  refine ⟨by omega,br_dec.2 ⟨fun hf=>⟨⟨by omega,by omega⟩,?_⟩,fun hf=>⟨by omega,?_⟩⟩⟩
  ·rw [fitL,if_pos hf] at hk
   have:=(mkRoom_len (was:=was) (a:=⟨t,o,f,wo,wf⟩) (by simp only; omega)).2.1
   simp only at this
   exact ⟨by omega,hk⟩
  ·rw [fitL,if_neg hf] at hk
   exact hk
 unfold adM at hk
 refine ⟨by omega,by omega,br_dec.2 ⟨fun m1=>?_,fun m1=>⟨by omega,br_dec.2 ⟨fun m2=>?_,fun m2=>⟨by omega,br_dec.2 ⟨fun m3=>?_,fun m3=>⟨by omega,br_dec.2 ⟨fun m4=>?_,fun m4=>?_⟩⟩⟩⟩⟩⟩⟩⟩
 ·rw [if_pos m1] at hk
  exact out o _ (by omega) no m1 fun _=>⟨by omega,hk⟩
 ·rw [if_neg m1,if_pos m2] at hk
  exact out f _ (by omega) nf m2 fun _=>⟨by omega,hk⟩
 ·rw [if_neg m1,if_neg m2,if_pos m3] at hk
  have hp:0 < wo.length:=List.length_pos_of_mem m3
  have q1:0≤Int.tdiv (wf.length:Int) wo.length:=Int.tdiv_nonneg (by omega) (by omega)
  have q2:Int.tdiv (wf.length:Int) wo.length≤wf.length:=Int.tdiv_le_self _ (by omega)
  have q3:1≤max1 (Int.tdiv (wf.length:Int) wo.length)∧max1 (Int.tdiv (wf.length:Int) wo.length)≤16:=⟨max1_pos _,by unfold max1; split <;> omega⟩
  refine ⟨⟨by omega,inR (by omega) (by omega)⟩,inR (show _≤t+max1 _ by omega) (show t+max1 _≤_ by omega),out wo _ (by omega) nwo m3 fun hl=>fit false _ _ _ (by omega) (by omega) hk⟩
 ·rw [if_neg m1,if_neg m2,if_neg m3,if_pos m4] at hk
  have hp:0 < wf.length:=List.length_pos_of_mem m4
  have q1:0≤Int.tdiv (wo.length:Int) wf.length:=Int.tdiv_nonneg (by omega) (by omega)
  have q2:Int.tdiv (wo.length:Int) wf.length≤wo.length:=Int.tdiv_le_self _ (by omega)
  have q3:1≤max1 (Int.tdiv (wo.length:Int) wf.length)∧max1 (Int.tdiv (wo.length:Int) wf.length)≤16:=⟨max1_pos _,by unfold max1; split <;> omega⟩
  refine ⟨⟨by omega,inR (by omega) (by omega)⟩,inR (show _≤t - max1 _ by omega) (show t - max1 _≤_ by omega),out wf _ (by omega) nwf m4 fun hl=>fit true _ _ _ (by omega) (by omega) hk⟩
 ·rw [if_neg m1,if_neg m2,if_neg m3,if_neg m4] at hk
  exact ⟨v,hk⟩

def T0_qci (x:LI) (w n:Int) (q r:Int) (s t:LI) (u v:LI) (k:Int→Int→LI→LI→LI→LI→Int→Prop) (B0:Int→Int→Int→Int→LI→LI→LI→LI→Prop):Prop:=br (decide (n < (x.length:Int))) ((0≤n∧n < (x.length:Int))∧((F_qco q r s t u v (List.getD x (Int.toNat n) (0:Int)) fun l i m j h e p=>(F_qds p fun o=>InR (w+o)∧InR (n+1)∧B0 (w+o) (n+1) l i m j h e)∧(True))∧(True))∧(True)) (F_qcu q r s t u v fun f c g d b a=>k f c g d b a w)
def U0_qci (x:LI) (w n:Int) (q r:Int) (s t:LI) (u v:LI) (k:Int→Int→LI→LI→LI→LI→Int→Prop) (B0:Int→Int→Int→Int→LI→LI→LI→LI→Prop):Prop:=br (decide (n < (x.length:Int))) ((0≤n∧n < (x.length:Int))∧F_qco q r s t u v (List.getD x (Int.toNat n) (0:Int)) fun l i m j h e p=>F_qds p fun o=>InR (w+o)∧InR (n+1)∧B0 (w+o) (n+1) l i m j h e) (F_qcu q r s t u v fun f c g d b a=>k f c g d b a w)
theorem T0_qci_eq (j:LI) (g i:Int) (a b:Int) (c d:LI) (e f:LI) (k:Int→Int→LI→LI→LI→LI→Int→Prop) (B0:Int→Int→Int→Int→LI→LI→LI→LI→Prop):T0_qci j g i a b c d e f k B0=U0_qci j g i a b c d e f k B0:=by
 first
 | (simp only [T0_qci,U0_qci,and_self,and_true]; done)
 | (simp only [T0_qci,U0_qci,and_self,and_true,and_self_left,and_assoc]; refine propext ⟨fun h=>?_,fun h=>?_⟩ <;> (repeat (cases ‹_∧_›)) <;> (repeat' (apply And.intro)) <;> assumption)
def L0_qci (g:LI) (k:Int→Int→LI→LI→LI→LI→Int→Prop):Nat→Int→Int→Int→Int→LI→LI→LI→LI→Prop | 0,_,_,_,_,_,_,_,_=>False | n+1,h,i,a,b,c,d,e,f=>U0_qci g h i a b c d e f k (L0_qci g k n)
def G_qci (d:LI) (c:Int) (k:Int→Int→LI→LI→LI→LI→Int→Prop) (I0:LI→Int→Int→Int→Int→LI→LI→LI→LI→Prop):Prop:=F_qdv d fun a=>br (!a) (k 0 0 ([]:LI) ([]:LI) ([]:LI) ([]:LI) (-1)) (F_qdc c (1:Int) (8:Int) fun b=>br (!b) (k 0 0 ([]:LI) ([]:LI) ([]:LI) ([]:LI) (-1)) (I0 d 0 0 c 0 ([]:LI) ([]:LI) ([]:LI) ([]:LI)))
def S_qci (h:LI) (a:Int) (k:Int→Int→LI→LI→LI→LI→Int→Prop):Prop:=G_qci h a k (fun h i l b c d e f g=>∃ j,L0_qci h k j i l b c d e f g)
def F_qci (t:LI) (room:Int) (k:Int→Int→LI→LI→LI→LI→Int→Prop):Prop:=
 ((VTrace t∧1≤room∧room≤8)→k room (runL room t ⟨0,[],[],[],[]⟩ 0).1.t (runL room t ⟨0,[],[],[],[]⟩ 0).1.o (runL room t ⟨0,[],[],[],[]⟩ 0).1.f (runL room t ⟨0,[],[],[],[]⟩ 0).1.wo (runL room t ⟨0,[],[],[],[]⟩ 0).1.wf (runL room t ⟨0,[],[],[],[]⟩ 0).2)∧
 (¬ (VTrace t∧1≤room∧room≤8)→k 0 0 [] [] [] [] (-1))
theorem F_qci_S {t:LI} {room:Int} {k:Int→Int→LI→LI→LI→LI→Int→Prop} (h:F_qci t room k):S_qci t room k:=by
 obtain ⟨hyes,hno⟩:=h
 intro b hb
 rw [br_not,br_iff]
 refine ⟨fun e=>br_not.2 (br_dec.2 ⟨fun hr=>?_,fun hr=>hno fun w=>hr w.2⟩),fun e=>hno fun v=>by rw [hb.2 v.1] at e; cases e⟩
 have v:=hb.1 e
 have hk:=hyes ⟨v,hr⟩
 have t1:=v.1
 have t2:=v.2
 have key:∀ (r:LI) (i:Nat) (a:AL) (n:Int),t.drop i=r→VLists room a→0≤n→n≤i→(let q:=runL room r a n; k room q.1.t q.1.o q.1.f q.1.wo q.1.wf q.2)→L0_qci t k (r.length+1) n (i:Int) room a.t a.o a.f a.wo a.wf:=by
  intro r
  induction r with
  | nil=>
   intro i a n hdr v n0 n1 hk
   have:=drop_nil' hdr
   obtain ⟨l1,l2,l3,l4⟩:=lists_len v
   rw [L0_qci,U0_qci]
   exact br_dec.2 ⟨fun h=>by omega,fun _=>⟨by omega,hk⟩⟩
  | cons x r ih=>
   intro i a n hdr v n0 n1 hk
   obtain ⟨h1,h2,h5,h3,h4⟩:=drop_cons' hdr
   have hx:=t2 x (List.mem_of_getElem? h5)
   rw [List.length_cons,L0_qci,U0_qci]
   simp only [br_dec,Int.toNat_natCast,h2]
   have:=toI_01 (adM room ⟨a.t,a.o,a.f,a.wo,a.wf⟩ x).2
   exact ⟨fun _=>⟨⟨by omega,by omega⟩,v,inR (by omega) (by omega),inR (by omega) (by omega),ih (i+1) _ _ h3 (adM_valid v hx) (by omega) (by omega) hk⟩,fun h=>by omega⟩
 exact ⟨_,key t 0 ⟨0,[],[],[],[]⟩ 0 rfl (lists0 hr (by omega)) (by omega) (by omega) hk⟩

def T0_qdh (c:Int) (b:LI) (a:Int) (k:Int→Prop) (B0:Int→Prop):Prop:=br (decide (a < (b.length:Int))) ((0≤a∧a < (b.length:Int))∧br ((List.getD b (Int.toNat a) (0:Int))==c) (k a) (InR (a+1)∧B0 (a+1))) (k (b.length:Int))
def L0_qdh (a:Int) (b:LI) (k:Int→Prop):Nat→Int→Prop | 0,_=>False | n+1,c=>T0_qdh a b c k (L0_qdh a b k n)
def G_qdh (c:LI) (a b:Int) (I0:Int→LI→Int→Prop):Prop:=I0 b c a
def S_qdh (c:LI) (b a:Int) (k:Int→Prop):Prop:=G_qdh c b a (fun a c d=>∃ j,L0_qdh a c k j d)
def F_qdh (t:LI) (i key:Int) (k:Int→Prop):Prop:=(0≤i∧i≤t.length∧t.length≤1000000000)∧k (nextM t i key)
theorem F_qdh_S {t:LI} {i key:Int} {k:Int→Prop} (h:F_qdh t i key k):S_qdh t i key k:=by
 obtain ⟨⟨h0,h1,h2⟩,hk⟩:=h
 have go:∀ (m j:Nat),j+m=t.length→(j:Int)+(nxt key (t.drop j):Int)=nextM t i key→L0_qdh key t k (m+1) (j:Int):=by
  intro m
  induction m with
  | zero=>
   intro j hj he
   rw [L0_qdh,T0_qdh]
   refine br_dec.2 ⟨fun h=>by omega,fun _=>?_⟩
   rw [List.drop_of_length_le (by omega)] at he
   simp only [nxt] at he
   rw [show (t.length:Int)=nextM t i key by omega]; exact hk
  | succ m ih=>
   intro j hj he
   rw [nxt_drop (by omega)] at he
   rw [L0_qdh,T0_qdh]
   simp only [br_dec,br_beq,Int.toNat_natCast]
   refine ⟨fun _=>⟨⟨by omega,by omega⟩,fun e=>?_,fun e=>⟨inR (by omega) (by omega),?_⟩⟩,fun h=>by omega⟩
   ·rw [if_pos e] at he
    rw [show (j:Int)=nextM t i key by omega]; exact hk
   ·rw [if_neg e] at he
    exact ih (j+1) (by omega) (by omega)
 have:=go (t.length - i.toNat) i.toNat (by omega) (by unfold nextM; omega)
 rw [Int.toNat_of_nonneg h0] at this
 exact ⟨_,this⟩

def T0_qcx (f:Int) (a g:LI) (c b:Int) (k:Int→Prop) (B0:Int→Int→Prop):Prop:=br (decide (b < (a.length:Int))) ((0≤b∧b < (a.length:Int))∧(0≤c∧c < (a.length:Int))∧(F_qdh g f (List.getD a (Int.toNat b) (0:Int)) fun d=>(F_qdh g f (List.getD a (Int.toNat c) (0:Int)) fun e=>br (decide (d > e)) (InR (b+1)∧B0 b (b+1)) (InR (b+1)∧B0 c (b+1)))∧(True))∧(True)) (k c)
def U0_qcx (f:Int) (a g:LI) (c b:Int) (k:Int→Prop) (B0:Int→Int→Prop):Prop:=br (decide (b < (a.length:Int))) ((0≤b∧b < (a.length:Int))∧(0≤c∧c < (a.length:Int))∧F_qdh g f (List.getD a (Int.toNat b) (0:Int)) fun d=>F_qdh g f (List.getD a (Int.toNat c) (0:Int)) fun e=>br (decide (d > e)) (InR (b+1)∧B0 b (b+1)) (InR (b+1)∧B0 c (b+1))) (k c)
theorem T0_qcx_eq (a:Int) (b e:LI) (c d:Int) (k:Int→Prop) (B0:Int→Int→Prop):T0_qcx a b e c d k B0=U0_qcx a b e c d k B0:=by
 first
 | (simp only [T0_qcx,U0_qcx,and_self,and_true]; done)
 | (simp only [T0_qcx,U0_qcx,and_self,and_true,and_self_left,and_assoc]; refine propext ⟨fun h=>?_,fun h=>?_⟩ <;> (repeat (cases ‹_∧_›)) <;> (repeat' (apply And.intro)) <;> assumption)
def L0_qcx (a:Int) (b d:LI) (k:Int→Prop):Nat→Int→Int→Prop | 0,_,_=>False | n+1,c,e=>U0_qcx a b d c e k (L0_qcx a b d k n)
def G_qcx (c:LI) (a:Int) (b:LI) (I0:Int→LI→LI→Int→Int→Prop):Prop:=I0 a b c 0 1
def S_qcx (c:LI) (a:Int) (b:LI) (k:Int→Prop):Prop:=G_qcx c a b (fun a b c d e=>∃ j,L0_qcx a b c k j d e)
def F_qcx (t:LI) (i:Int) (l:LI) (k:Int→Prop):Prop:=(0≤i∧i≤t.length∧t.length≤1000000∧0 < l.length∧l.length≤1000000)∧k (plc l (farM (t.drop i.toNat) l))
theorem F_qcx_S {t:LI} {i:Int} {l:LI} {k:Int→Prop} (h:F_qcx t i l k):S_qcx t i l k:=by
 obtain ⟨⟨h0,h1,h2,h3,h4⟩,hk⟩:=h
 have go:∀ (m j:Nat),0 < j→j+m=l.length→L0_qcx i l t k (m+1) (plc l (farM (t.drop i.toNat) (l.take j))) (j:Int):=by
  intro m
  induction m with
  | zero=>
   intro j hp hj
   rw [L0_qcx,U0_qcx,List.take_of_length_le (by omega)]
   exact br_dec.2 ⟨fun h=>by omega,fun _=>hk⟩
  | succ m ih=>
   intro j hp hj
   have hl:(l.take j).length=j:=by rw [List.length_take]; omega
   have hm:=farM_mem (r:=t.drop i.toNat) (C:=l.take j) (by omega)
   have hm2:=mem_take_plc.1 hm
   have hg:=some_of (l:=l) (i:=j) (d:=0) (by omega)
   have e:l.take (j+1)=l.take j++[l.getD j 0]:=by
    rw [List.take_add_one,hg]; rfl
   have next:=ih (j+1) (by omega) (by omega)
   rw [e,farM_snoc (by omega)] at next
   have hat:l.getD (plc l (farM (t.drop i.toNat) (l.take j))).toNat 0=farM (t.drop i.toNat) (l.take j):=by
    obtain ⟨q,q1,q2,_,q4⟩:=plc_pos (List.mem_of_mem_take hm)
    rw [q4,Int.toNat_natCast]; exact getD_of q2
   rw [L0_qcx,U0_qcx]
   simp only [br_dec,Int.toNat_natCast]
   rw [hat]
   refine ⟨fun _=>⟨⟨by omega,by omega⟩,⟨by omega,by omega⟩,⟨by omega,by omega,by omega⟩,⟨by omega,by omega,by omega⟩,fun g=>⟨inR (by omega) (by omega),?_⟩,fun g=>⟨inR (by omega) (by omega),?_⟩⟩,fun h=>by omega⟩
   ·have g2:nxt (farM (t.drop i.toNat) (l.take j)) (t.drop i.toNat) < nxt (l.getD j 0) (t.drop i.toNat):=by unfold nextM at g; omega
    rw [if_pos g2] at next
    have hnew:l.getD j 0 ∉ l.take j:=fun c=>by have:=farM_max (r:=t.drop i.toNat) c; omega
    have:plc l (l.getD j 0)=(j:Int):=by
     have a1:=mem_take_plc.1 (show l.getD j 0∈l.take (j+1) by rw [e]; simp)
     have a2:¬ (0≤plc l (l.getD j 0)∧plc l (l.getD j 0) < (j:Nat)):=fun c=>hnew (mem_take_plc.2 c)
     omega
    rw [this] at next
    exact next
   ·have g2:¬ nxt (farM (t.drop i.toNat) (l.take j)) (t.drop i.toNat) < nxt (l.getD j 0) (t.drop i.toNat):=by unfold nextM at g; omega
    rw [if_neg g2] at next
    exact next
 have:=go (l.length - 1) 1 (by omega) (by omega)
 have e:l.take 1=[l.getD 0 0]:=by
  cases l with
  | nil=>simp at h3
  | cons x l=>rfl
 have e2:plc l (farM (t.drop i.toNat) (l.take 1))=0:=by
  rw [e]
  show plc l (l.getD 0 0)=0
  have a1:=mem_take_plc.1 (show l.getD 0 0∈l.take 1 by rw [e]; simp)
  omega
 rw [e2] at this
 exact ⟨_,this⟩

def T0_qcq_j0 (a d:LI) (b c:Int) (B0:Int→Int→LI→Prop):Prop:=((a.length+1≤1000000000)∧InR (b+1)∧B0 c (b+1) (a++([(List.getD d (Int.toNat b) (0:Int))]:LI)))∧(True)
def T0_qcq_j1 (a d:LI) (b c:Int) (B0:Int→Int→LI→Prop):Prop:=(T0_qcq_j0 a d b c B0)∧(True)
def T0_qcq (i:Int) (f:LI) (e b:Int) (c:LI) (k:Int→Prop) (B0:Int→Int→LI→Prop):Prop:=br (decide (b < (f.length:Int))) ((0≤b∧b < (f.length:Int))∧F_qde c (List.getD f (Int.toNat b) (0:Int)) fun h=>br h (InR (e+1)∧InR (b+1)∧B0 (e+1) (b+1) c) (br ((c.length:Int)==i) (InR (b+1)∧F_qcx f (b+1) c fun g=>F_qdw c g fun d=>(0≤b∧b < (f.length:Int))∧(F_qct d fun a=>T0_qcq_j1 a f b e B0)∧(((F_qct d fun a=>T0_qcq_j0 a f b e B0)∧(True))∧(True))) ((0≤b∧b < (f.length:Int))∧(F_qct c fun a=>T0_qcq_j1 a f b e B0)∧(((F_qct c fun a=>T0_qcq_j0 a f b e B0)∧(True))∧(True))))) (k e)
def U0_qcq_j0 (a d:LI) (b c:Int) (B0:Int→Int→LI→Prop):Prop:=(a.length+1≤1000000000)∧InR (b+1)∧B0 c (b+1) (a++([(List.getD d (Int.toNat b) (0:Int))]:LI))
def U0_qcq (i:Int) (e:LI) (f a:Int) (b:LI) (k:Int→Prop) (B0:Int→Int→LI→Prop):Prop:=br (decide (a < (e.length:Int))) ((0≤a∧a < (e.length:Int))∧F_qde b (List.getD e (Int.toNat a) (0:Int)) fun h=>br h (InR (f+1)∧InR (a+1)∧B0 (f+1) (a+1) b) (br ((b.length:Int)==i) (InR (a+1)∧F_qcx e (a+1) b fun d=>F_qdw b d fun g=>(0≤a∧a < (e.length:Int))∧F_qct g fun c=>U0_qcq_j0 c e a f B0) ((0≤a∧a < (e.length:Int))∧F_qct b fun c=>U0_qcq_j0 c e a f B0))) (k f)
theorem T0_qcq_eq (b:Int) (e:LI) (c d:Int) (a:LI) (k:Int→Prop) (B0:Int→Int→LI→Prop):T0_qcq b e c d a k B0=U0_qcq b e c d a k B0:=by
 first
 | (simp only [T0_qcq,U0_qcq,T0_qcq_j0,T0_qcq_j1,U0_qcq_j0,and_self,and_true]; done)
 | (simp only [T0_qcq,U0_qcq,T0_qcq_j0,T0_qcq_j1,U0_qcq_j0,and_self,and_true,and_self_left,and_assoc]; refine propext ⟨fun h=>?_,fun h=>?_⟩ <;> (repeat (cases ‹_∧_›)) <;> (repeat' (apply And.intro)) <;> assumption)
def L0_qcq (a:Int) (c:LI) (k:Int→Prop):Nat→Int→Int→LI→Prop | 0,_,_,_=>False | n+1,d,e,b=>U0_qcq a c d e b k (L0_qcq a c k n)
def G_qcq (b:LI) (a:Int) (I0:Int→LI→Int→Int→LI→Prop):Prop:=I0 a b 0 0 ([]:LI)
def S_qcq (c:LI) (a:Int) (k:Int→Prop):Prop:=G_qcq c a (fun a c d e b=>∃ j,L0_qcq a c k j d e b)
def F_qcq (t:LI) (room:Int) (k:Int→Prop):Prop:=(t.length≤1000000∧1≤room∧room≤8)∧k (bestM room.toNat t []:Int)
theorem F_qcq_S {t:LI} {room:Int} {k:Int→Prop} (h:F_qcq t room k):S_qcq t room k:=by
 obtain ⟨⟨h0,h1,h2⟩,hk⟩:=h
 have go:∀ (r:LI) (i:Nat) (n:Int) (C:LI),t.drop i=r→0≤n→n≤i→C.Nodup→C.length≤room.toNat→n+(bestM room.toNat r C:Int)=(bestM room.toNat t []:Int)→L0_qcq room t k (r.length+1) n (i:Int) C:=by
  intro r
  induction r with
  | nil=>
   intro i n C hd n0 n1 hn hc he
   have:=drop_nil' hd
   rw [L0_qcq,U0_qcq]
   refine br_dec.2 ⟨fun h=>by omega,fun _=>?_⟩
   rw [show n=(bestM room.toNat t []:Int) by simpa [bestM] using he]; exact hk
  | cons x r ih=>
   intro i n C hd n0 n1 hn hc he
   obtain ⟨g1,g2,g5,g3,g4⟩:=drop_cons' hd
   rw [List.length_cons,L0_qcq,U0_qcq]
   simp only [Int.toNat_natCast,g2]
   refine br_dec.2 ⟨fun _=>⟨⟨by omega,by omega⟩,by omega,br_dec.2 ⟨fun hm=>?_,fun hm=>?_⟩⟩,fun h=>by omega⟩
   ·rw [bestM,if_pos hm] at he
    exact ⟨inR (by omega) (by omega),inR (by omega) (by omega),ih (i+1) _ C g3 (by omega) (by omega) hn hc (by omega)⟩
   ·rw [bestM,if_neg hm] at he
    obtain ⟨m1,m2,m3,m4⟩:=missB_ok (room:=room.toNat) (r:=r) (by omega) hn hc hm
    have last:=ih (i+1) n (missB room.toNat r C x) g3 n0 (by omega) m1 m2 he
    refine br_beq.2 ⟨fun hf=>?_,fun hf=>?_⟩
    ·have hp:0 < C.length:=by omega
     have hfm:=farM_mem (r:=r) (C:=C) hp
     obtain ⟨j,j1,j2,_,j3⟩:=plc_pos hfm
     have e1:C.take (plc C (farM r C)).toNat++C.drop ((plc C (farM r C)).toNat+1)=rmK C (farM r C):=by
      rw [j3,Int.toNat_natCast]; exact rmK_erase hn j2
     have e2:t.drop ((i:Int)+1).toNat=r:=by rw [show ((i:Int)+1).toNat=i+1 by omega]; exact g3
     refine ⟨inR (by omega) (by omega),⟨by omega,by omega,by omega,by omega,by omega⟩,?_⟩
     rw [e2]
     refine ⟨⟨by omega,by omega,by omega⟩,⟨by omega,by omega⟩,?_⟩
     rw [e1]
     have:=@rmK_le C (farM r C)
     rw [missB,if_pos (by omega)] at last
     exact ⟨by omega,by omega,inR (by omega) (by omega),by first | exact last | (rw [Int.toNat_natCast,g2]; exact last)⟩
    ·rw [missB,if_neg (by omega)] at last
     exact ⟨⟨by omega,by omega⟩,by omega,by omega,inR (by omega) (by omega),by first | exact last | (rw [Int.toNat_natCast,g2]; exact last)⟩
 exact ⟨_,go t 0 0 [] rfl (by omega) (by omega) (by simp) (by simp) (by omega)⟩

def G_qcb (e:LI) (c:Int) (k:Int→Prop):Prop:=F_qdv e fun a=>br (!a) (k (-1)) (F_qdc c (1:Int) (8:Int) fun b=>br (!b) (k (-1)) (F_qcq e c fun d=>k d))
def S_qcb (b:LI) (a:Int) (k:Int→Prop):Prop:=G_qcb b a k
def F_qcb (t:LI) (room:Int) (k:Int→Prop):Prop:=(VTrace t∧1≤room∧room≤8→k (bestM room.toNat t []:Int))∧(¬ (VTrace t∧1≤room∧room≤8)→k (-1))
theorem F_qcb_S {t:LI} {room:Int} {k:Int→Prop} (h:F_qcb t room k):S_qcb t room k:=by
 obtain ⟨hyes,hno⟩:=h
 intro b hb
 refine br_not.2 (br_iff.2 ⟨fun e=>?_,fun e=>hno fun w=>by rw [hb.2 w.1] at e; cases e⟩)
 have v:=hb.1 e
 exact br_not.2 (br_dec.2 ⟨fun hr=>⟨⟨by have:=v.1; omega,hr.1,hr.2⟩,hyes ⟨v,hr⟩⟩,fun hr=>hno fun w=>hr w.2⟩)

def T0_qdp (b:Int) (c:LI) (a:Int) (k:Int→Prop) (B0:Int→Prop):Prop:=InR (b+a)∧br (decide ((b+a) < (c.length:Int))) (InR (b+a)∧(0≤(b+a)∧(b+a) < (c.length:Int))∧(0≤b∧b < (c.length:Int))∧br ((List.getD c (Int.toNat (b+a)) (0:Int))==(List.getD c (Int.toNat b) (0:Int))) (InR (a+1)∧B0 (a+1)) (k a)) (k a)
def L0_qdp (a:Int) (b:LI) (k:Int→Prop):Nat→Int→Prop | 0,_=>False | n+1,c=>T0_qdp a b c k (L0_qdp a b k n)
def G_qdp (b:LI) (a:Int) (I0:Int→LI→Int→Prop):Prop:=I0 a b 1
def S_qdp (b:LI) (a:Int) (k:Int→Prop):Prop:=G_qdp b a (fun a b c=>∃ j,L0_qdp a b k j c)
def F_qdp (t:LI) (at_:Int) (k:Int→Prop):Prop:=(t.length≤1000000∧0≤at_∧at_ < t.length)∧k (runN (t.drop at_.toNat):Int)
theorem F_qdp_S {t:LI} {at_:Int} {k:Int→Prop} (h:F_qdp t at_ k):S_qdp t at_ k:=by
 obtain ⟨⟨hl,h0,h1⟩,hk⟩:=h
 obtain ⟨p,rfl⟩:∃ p:Nat,at_=p:=⟨at_.toNat,by omega⟩
 rw [Int.toNat_natCast] at hk
 have hd:t.drop p=t.getD p 0 :: t.drop (p+1):=by
  rw [List.drop_eq_getElem_cons (by omega),List.getD_eq_getElem?_getD,List.getElem?_eq_getElem (by omega)]; rfl
 have hp:=runN_pos (t.getD p 0) (t.drop (p+1))
 have hsame:=runN_same (t.getD p 0) (t.drop (p+1))
 have hstop:=runN_stop (t.getD p 0) (t.drop (p+1))
 rw [← hd] at hp hsame hstop
 rw [List.length_drop] at hp hstop
 have hget:∀ q,(t.drop p).getD q 0=t.getD (p+q) 0:=fun q=>by
  rw [List.getD_eq_getElem?_getD,List.getElem?_drop,← List.getD_eq_getElem?_getD]
 have go:∀ (m n:Nat),n+m=runN (t.drop p)→1≤n→L0_qdp (p:Int) t k (m+1) (n:Int):=by
  intro m
  induction m with
  | zero=>
   intro n hn h1
   rw [L0_qdp,T0_qdp]
   rw [show ((p:Int)+(n:Int)).toNat=p+n by omega,Int.toNat_natCast]
   rw [show n=runN (t.drop p) by omega]
   refine ⟨inR (by omega) (by omega),br_dec.2 ⟨fun c=>⟨inR (by omega) (by omega),⟨by omega,by omega⟩,⟨by omega,by omega⟩,br_ne ?_ hk⟩,fun _=>hk⟩⟩
   have:=hstop (by omega)
   rwa [hget] at this
  | succ m ih=>
   intro n hn h1
   rw [L0_qdp,T0_qdp]
   rw [show ((p:Int)+(n:Int)).toNat=p+n by omega,Int.toNat_natCast]
   have e:=hsame n (by omega)
   rw [hget] at e
   exact ⟨inR (by omega) (by omega),br_yd (by omega) ⟨inR (by omega) (by omega),⟨by omega,by omega⟩,⟨by omega,by omega⟩,br_ye e ⟨inR (by omega) (by omega),ih (n+1) (by omega) (by omega)⟩⟩⟩
 exact ⟨_,go (runN (t.drop p) - 1) 1 (by omega) (by omega)⟩

def T0_qcz (f:LI) (c:ByteArray) (b:Int) (k:ByteArray→Prop) (B0:ByteArray→Int→Prop):Prop:=br (decide (b < (f.length:Int))) (br (decide (b > 0)) ((ByteArray.size c+ByteArray.size (strOfNums [32])≤1000000000)∧(0≤b∧b < (f.length:Int))∧F_qcw (List.getD f (Int.toNat b) (0:Int)) fun a=>(ByteArray.size (c++(strOfNums [32]))+ByteArray.size a≤1000000000)∧F_qdp f b fun g=>br (decide (g > 1)) ((ByteArray.size ((c++(strOfNums [32]))++a)+ByteArray.size (strOfNums [42])≤1000000000)∧F_qdp f b fun h=>F_qcw h fun e=>(ByteArray.size (((c++(strOfNums [32]))++a)++(strOfNums [42]))+ByteArray.size e≤1000000000)∧F_qdp f b fun d=>InR (b+d)∧B0 ((((c++(strOfNums [32]))++a)++(strOfNums [42]))++e) (b+d)) (F_qdp f b fun d=>InR (b+d)∧B0 ((c++(strOfNums [32]))++a) (b+d))) ((0≤b∧b < (f.length:Int))∧F_qcw (List.getD f (Int.toNat b) (0:Int)) fun a=>(ByteArray.size c+ByteArray.size a≤1000000000)∧F_qdp f b fun g=>br (decide (g > 1)) ((ByteArray.size (c++a)+ByteArray.size (strOfNums [42])≤1000000000)∧F_qdp f b fun h=>F_qcw h fun e=>(ByteArray.size ((c++a)++(strOfNums [42]))+ByteArray.size e≤1000000000)∧F_qdp f b fun d=>InR (b+d)∧B0 (((c++a)++(strOfNums [42]))++e) (b+d)) (F_qdp f b fun d=>InR (b+d)∧B0 (c++a) (b+d)))) (k c)
def L0_qcz (b:LI) (k:ByteArray→Prop):Nat→ByteArray→Int→Prop | 0,_,_=>False | n+1,a,c=>T0_qcz b a c k (L0_qcz b k n)
def G_qcz (a:LI) (I0:LI→ByteArray→Int→Prop):Prop:=I0 a (strOfNums []) 0
def S_qcz (b:LI) (k:ByteArray→Prop):Prop:=G_qcz b (fun b a c=>∃ j,L0_qcz b k j a c)
def F_qcz (t:LI) (k:ByteArray→Prop):Prop:=(t.length≤1000∧∀ x∈t,0≤x∧x≤9999)∧k (strOfNums (fmtM t))
theorem F_qcz_S {t:LI} {k:ByteArray→Prop} (h:F_qcz t k):S_qcz t k:=by
 obtain ⟨⟨hl,hx⟩,hk⟩:=h
 have hf:=fmtM_len t
 have go:∀ (m i:Nat) (o:LI),t.length≤i+m→i≤t.length→o++((if 0 < i∧i < t.length then [32] else [])++fmtM (t.drop i))=fmtM t→L0_qcz t k (m+1) (strOfNums o) (i:Int):=by
  intro m
  induction m with
  | zero=>
   intro i o hm hi he
   rw [L0_qcz,T0_qcz]
   rw [if_neg (by omega),List.drop_eq_nil_of_le (by omega)] at he
   have:o=fmtM t:=by rw [← he]; simp [fmtM,grp,joinW]
   rw [this]
   exact br_nd (by omega) hk
  | succ m ih=>
   intro i o hm hi he
   by_cases c:i < t.length
   ·have hd:t.drop i=t.getD i 0 :: t.drop (i+1):=by
     rw [List.drop_eq_getElem_cons c,List.getD_eq_getElem?_getD,List.getElem?_eq_getElem c]; rfl
    have hp:=runN_pos (t.getD i 0) (t.drop (i+1))
    rw [← hd,List.length_drop] at hp
    have hxi:=hx _ (getI_mem (l:=t) (i:=i) c)
    have hw:=fmtM_cons (t.getD i 0) (t.drop (i+1))
    rw [← hd,List.drop_drop] at hw
    have hlen:=congrArg List.length he
    rw [hw] at he hlen
    simp only [List.length_append] at hlen
    have next:∀ o',o'=o++((if 0 < i∧i < t.length then [32] else [])++wordM (t.getD i 0,runN (t.drop i)))→L0_qcz t k (m+1) (strOfNums o') ((i:Int)+(runN (t.drop i):Int)):=by
     intro o' e
     have:=ih (i+runN (t.drop i)) o' (by omega) (by omega) (by
      rw [e,← he]
      simp only [List.append_assoc]
      congr 3
      by_cases q:i+runN (t.drop i) < t.length
      ·rw [if_pos ⟨by omega,q⟩,if_neg (by rw [List.drop_eq_nil_iff]; omega)]; rfl
      ·rw [if_neg (fun c=>q c.2),if_pos (List.drop_eq_nil_of_le (by omega)),List.drop_eq_nil_of_le (by omega)]; rfl)
     exact this
    have hdl:=decB_len (t.getD i 0)
    have hdl2:=decB_len (runN (t.drop i):Int)
    rw [L0_qcz,T0_qcz]
    rw [Int.toNat_natCast]
    refine br_yd (by omega) (br_dec.2 ⟨fun p=>?_,fun p=>?_⟩)
    ·rw [if_pos ⟨by omega,c⟩] at next
     simp only [str_append,str_size,List.length_append,List.length_singleton]
     have R:t.length≤1000000∧0≤(i:Int)∧(i:Int) < t.length:=⟨by omega,by omega,by omega⟩
     refine ⟨by omega,⟨by omega,by omega⟩,⟨⟨by omega,by omega⟩,?_⟩⟩
     simp only [str_append,str_size,List.length_append,List.length_singleton]
     refine ⟨by omega,R,?_⟩
     rw [Int.toNat_natCast]
     refine br_dec.2 ⟨fun q=>⟨by omega,R,?_⟩,fun q=>⟨R,?_⟩⟩
     ·rw [Int.toNat_natCast]
      refine ⟨⟨by omega,by omega⟩,?_⟩
      simp only [str_append,str_size,List.length_append,List.length_singleton]
      refine ⟨by omega,R,?_⟩
      rw [Int.toNat_natCast]
      refine ⟨inR (by omega) (by omega),next _ ?_⟩
      unfold wordM; rw [if_pos (show 1 < runN (t.drop i) by omega)]; simp
     ·rw [Int.toNat_natCast]
      refine ⟨inR (by omega) (by omega),next _ ?_⟩
      unfold wordM; rw [if_neg (show ¬ 1 < runN (t.drop i) by omega)]; simp
    ·rw [if_neg (fun d=>p (by omega))] at next
     have R:t.length≤1000000∧0≤(i:Int)∧(i:Int) < t.length:=⟨by omega,by omega,by omega⟩
     refine ⟨⟨by omega,by omega⟩,⟨⟨by omega,by omega⟩,?_⟩⟩
     simp only [str_append,str_size,List.length_append,List.length_singleton]
     refine ⟨by omega,R,?_⟩
     rw [Int.toNat_natCast]
     refine br_dec.2 ⟨fun q=>⟨by omega,R,?_⟩,fun q=>⟨R,?_⟩⟩
     ·rw [Int.toNat_natCast]
      refine ⟨⟨by omega,by omega⟩,?_⟩
      simp only [str_append,str_size,List.length_append,List.length_singleton]
      refine ⟨by omega,R,?_⟩
      rw [Int.toNat_natCast]
      refine ⟨inR (by omega) (by omega),next _ ?_⟩
      unfold wordM; rw [if_pos (show 1 < runN (t.drop i) by omega)]; simp
     ·rw [Int.toNat_natCast]
      refine ⟨inR (by omega) (by omega),next _ ?_⟩
      unfold wordM; rw [if_neg (show ¬ 1 < runN (t.drop i) by omega)]; simp
   ·rw [L0_qcz,T0_qcz]
    rw [if_neg (by omega),List.drop_eq_nil_of_le (by omega)] at he
    have:o=fmtM t:=by rw [← he]; simp [fmtM,grp,joinW]
    rw [this]
    exact br_nd (by omega) hk
 exact ⟨_,go t.length 0 [] (by omega) (by omega) (by simp)⟩

def G_qce (c:LI) (k:ByteArray→Prop):Prop:=F_qdv c fun b=>br (!b) (k (strOfNums [])) (F_qcz c fun a=>k a)
def S_qce (a:LI) (k:ByteArray→Prop):Prop:=G_qce a k
def F_qce (t:LI) (k:ByteArray→Prop):Prop:=(VTrace t→k (strOfNums (fmtM t)))∧(¬ VTrace t→k (strOfNums []))
theorem F_qce_S {t:LI} {k:ByteArray→Prop} (h:F_qce t k):S_qce t k:=by
 obtain ⟨hyes,hno⟩:=h
 intro b hb
 refine br_not.2 (br_iff.2 ⟨fun e=>?_,fun e=>hno fun v=>by rw [hb.2 v] at e; cases e⟩)
 have v:=hb.1 e
 have:=v.1
 exact ⟨⟨by omega,fun x hx=>by have:=v.2 x hx; omega⟩,hyes v⟩

def T0_qcc (a:LT) (e:Int) (d:LI) (b:Int) (c:LI) (k:LI→Prop) (B0:Int→LI→Prop):Prop:=br (decide (b < (a.length:Int))) ((0≤b∧b < (a.length:Int))∧br (List.getD a (Int.toNat b) ((0:Int),(0:Int),false)).2.2 ((0≤b∧b < (a.length:Int))∧(c.length+1≤1000000000)∧InR (b+1)∧B0 (b+1) (c++([(List.getD a (Int.toNat b) ((0:Int),(0:Int),false)).1]:LI))) (InR (b+1)∧B0 (b+1) c)) (k c)
def L0_qcc (a:LT) (c:Int) (b:LI) (k:LI→Prop):Nat→Int→LI→Prop | 0,_,_=>False | n+1,e,d=>T0_qcc a c b e d k (L0_qcc a c b k n)
def G_qcc (b:LI) (c:LT) (d:Int) (k:LI→Prop) (I0:LT→Int→LI→Int→LI→Prop):Prop:=F_qdu b c d fun a=>br (!a) (k ([]:LI)) (I0 c d b 0 ([]:LI))
def S_qcc (a:LI) (b:LT) (c:Int) (k:LI→Prop):Prop:=G_qcc a b c k (fun b c a e d=>∃ j,L0_qcc b c a k j e d)
def F_qcc (s:LI) (l:LT) (room:Int) (k:LI→Prop):Prop:=
 (s.length≤1000000000∧l.length≤1000000000)∧(VMem s l room→k (dirtyL l))∧(¬ VMem s l room→k [])
theorem F_qcc_S {s:LI} {l:LT} {room:Int} {k:LI→Prop} (h:F_qcc s l room k):S_qcc s l room k:=by
 obtain ⟨hl,hyes,hno⟩:=h
 refine ⟨hl,fun b hb=>br_not.2 (br_iff.2 ⟨fun e=>?_,fun e=>hno fun v=>by rw [hb.2 v] at e; cases e⟩)⟩
 have v:=hb.1 e
 have hlen:=v.len
 have go:∀ (m i:Nat),i+m=l.length→L0_qcc l room s k (m+1) (i:Int) (dirtyL (l.take i)):=by
  intro m
  induction m with
  | zero=>
   intro i hi
   rw [L0_qcc,T0_qcc,List.take_of_length_le (by omega)]
   exact br_nd (by omega) (hyes v)
  | succ m ih=>
   intro i hi
   have next:=ih (i+1) (by omega)
   have hd:=dirtyL_len (l.take i)
   rw [List.length_take] at hd
   rw [takeL (by omega),dirtyL,List.filter_append,List.map_append] at next
   rw [L0_qcc,T0_qcc]
   simp only [Int.toNat_natCast]
   refine br_yd (by omega) ⟨⟨by omega,by omega⟩,br_iff.2 ⟨fun g=>⟨⟨by omega,by omega⟩,by omega,inR (by omega) (by omega),?_⟩,fun g=>⟨inR (by omega) (by omega),?_⟩⟩⟩
   ·rw [List.filter_cons_of_pos (by simpa using g),List.filter_nil] at next
    exact next
   ·rw [List.filter_cons_of_neg (by rw [g]; decide),List.filter_nil,List.map_nil,List.append_nil] at next
    exact next
 exact ⟨_,go l.length 0 (by omega)⟩

def T0_qcd (c b:Int) (d:LI) (a:LT) (k:LI→LT→Int→Bool→Prop) (B0:Int→LI→LT→Prop):Prop:=br (decide (b < (a.length:Int))) ((0≤b∧b < (a.length:Int))∧(0≤b∧b < (a.length:Int))∧(0≤(List.getD a (Int.toNat b) ((0:Int),(0:Int),false)).1∧(List.getD a (Int.toNat b) ((0:Int),(0:Int),false)).1 < (d.length:Int))∧((0≤b∧b < (a.length:Int))∧InR (b+1)∧B0 (b+1) (List.set d (Int.toNat (List.getD a (Int.toNat b) ((0:Int),(0:Int),false)).1) (List.getD a (Int.toNat b) ((0:Int),(0:Int),false)).2.1) (List.set a (Int.toNat b) ((List.getD a (Int.toNat b) ((0:Int),(0:Int),false)).1,(List.getD a (Int.toNat b) ((0:Int),(0:Int),false)).2.1,false)))∧(True)) (k d a c true)
def U0_qcd (c b:Int) (d:LI) (a:LT) (k:LI→LT→Int→Bool→Prop) (B0:Int→LI→LT→Prop):Prop:=br (decide (b < (a.length:Int))) ((0≤b∧b < (a.length:Int))∧(0≤b∧b < (a.length:Int))∧(0≤(List.getD a (Int.toNat b) ((0:Int),(0:Int),false)).1∧(List.getD a (Int.toNat b) ((0:Int),(0:Int),false)).1 < (d.length:Int))∧(0≤b∧b < (a.length:Int))∧InR (b+1)∧B0 (b+1) (List.set d (Int.toNat (List.getD a (Int.toNat b) ((0:Int),(0:Int),false)).1) (List.getD a (Int.toNat b) ((0:Int),(0:Int),false)).2.1) (List.set a (Int.toNat b) ((List.getD a (Int.toNat b) ((0:Int),(0:Int),false)).1,(List.getD a (Int.toNat b) ((0:Int),(0:Int),false)).2.1,false))) (k d a c true)
theorem T0_qcd_eq (a d:Int) (c:LI) (b:LT) (k:LI→LT→Int→Bool→Prop) (B0:Int→LI→LT→Prop):T0_qcd a d c b k B0=U0_qcd a d c b k B0:=by
 first
 | (simp only [T0_qcd,U0_qcd,and_self,and_true]; done)
 | (simp only [T0_qcd,U0_qcd,and_self,and_true,and_self_left,and_assoc]; refine propext ⟨fun h=>?_,fun h=>?_⟩ <;> (repeat (cases ‹_∧_›)) <;> (repeat' (apply And.intro)) <;> assumption)
def L0_qcd (a:Int) (k:LI→LT→Int→Bool→Prop):Nat→Int→LI→LT→Prop | 0,_,_,_=>False | n+1,d,c,b=>U0_qcd a d c b k (L0_qcd a k n)
def G_qcd (e:LI) (f:LT) (g:Int) (k:LI→LT→Int→Bool→Prop) (I0:Int→Int→LI→LT→Prop):Prop:=F_qdu e f g fun d=>br (!d) (k ([]:LI) ([]:LT) 0 false) (F_qcv e f g fun a b c=>I0 c 0 a b)
def S_qcd (b:LI) (c:LT) (d:Int) (k:LI→LT→Int→Bool→Prop):Prop:=G_qcd b c d k (fun a g f e=>∃ j,L0_qcd a k j g f e)
def F_qcd (s:LI) (l:LT) (room:Int) (k:LI→LT→Int→Bool→Prop):Prop:=
 (s.length≤1000000000∧l.length≤1000000000)∧(VMem s l room→k (flushS l s) (flushL l) room true)∧(¬ VMem s l room→k [] [] 0 false)
theorem F_qcd_S {s:LI} {l:LT} {room:Int} {k:LI→LT→Int→Bool→Prop} (h:F_qcd s l room k):S_qcd s l room k:=by
 obtain ⟨hl,hyes,hno⟩:=h
 refine ⟨hl,fun b hb=>br_not.2 (br_iff.2 ⟨fun e=>⟨hl,?_⟩,fun e=>hno fun v=>by rw [hb.2 v] at e; cases e⟩)⟩
 have v:=hb.1 e
 have hlen:=v.len
 have go:∀ (m i:Nat),i+m=l.length→L0_qcd room k (m+1) (i:Int) (flushS (l.take i) s) (flushL (l.take i)++l.drop i):=by
  intro m
  induction m with
  | zero=>
   intro i hi
   rw [L0_qcd,U0_qcd,List.take_of_length_le (by omega),List.drop_eq_nil_of_le (by omega),List.append_nil]
   exact br_nd (by rw [flushL,List.length_map]; omega) (hyes v)
  | succ m ih=>
   intro i hi
   have next:=ih (i+1) (by omega)
   have hm:l.getD i ((0:Int),(0:Int),false)∈l:=getL_mem (by omega)
   have hb:=v.2.1.1.1 _ hm
   have h1:(flushL (l.take i)).length=i:=by rw [flushL,List.length_map,List.length_take]; omega
   have h2:(flushL (l.take i)++l.drop i).length=l.length:=by rw [List.length_append,h1,List.length_drop]; omega
   have h3:(flushL (l.take i)++l.drop i).getD i ((0:Int),(0:Int),false)=l.getD i ((0:Int),(0:Int),false):=by
    rw [List.getD_eq_getElem?_getD,List.getElem?_append_right (by omega),h1,List.getElem?_drop,Nat.sub_self,Nat.add_zero,← List.getD_eq_getElem?_getD]
   have h4:(flushS (l.take i) s).length=32:=(flushS_ok v.1 fun e he=>(v.2.1.1.1 e (List.mem_of_mem_take he)).2).1
   rw [takeL (by omega),flushS_snoc,flushL,List.map_append,List.append_assoc] at next
   rw [L0_qcd,U0_qcd]
   simp only [Int.toNat_natCast,h2,h3,h4]
   refine br_yd (by omega) ⟨⟨by omega,by omega⟩,⟨by omega,by omega⟩,⟨by omega,by omega⟩,⟨by omega,by omega⟩,inR (by omega) (by omega),?_⟩
   rw [dropL (l:=l) (i:=i) (by omega),set_mid h1]
   exact next
 exact ⟨_,go l.length 0 (by omega)⟩

def T0_qcl_j0 (b:LI) (c:LT) (d:Int) (e:LI) (f:Int) (a:ByteArray) (B0:ByteArray→Int→Int→LI→LT→LI→Prop):Prop:=(ByteArray.size a+ByteArray.size (strOfNums [110,111])≤1000000000)∧(ByteArray.size (a++(strOfNums [110,111]))+ByteArray.size (strOfNums [10])≤1000000000)∧InR (f+1)∧B0 ((a++(strOfNums [110,111]))++(strOfNums [10])) (f+1) d b c e
def T0_qcl_j1 (b:LI) (a:Int) (d:LT) (f:Int) (e:LI) (g j:Int) (h:ByteArray) (B0:ByteArray→Int→Int→LI→LT→LI→Prop):Prop:=(0≤(if 0 < (((List.length (b++([a]:LI))):Int) - 24) then (((List.length (b++([a]:LI))):Int) - 24) else 0)∧(if 0 < (((List.length (b++([a]:LI))):Int) - 24) then (((List.length (b++([a]:LI))):Int) - 24) else 0)≤((List.length (b++([a]:LI))):Int))∧(F_qct (List.take ((List.length (b++([a]:LI))) - (Int.toNat (if 0 < (((List.length (b++([a]:LI))):Int) - 24) then (((List.length (b++([a]:LI))):Int) - 24) else 0))) (List.drop (Int.toNat (if 0 < (((List.length (b++([a]:LI))):Int) - 24) then (((List.length (b++([a]:LI))):Int) - 24) else 0)) (b++([a]:LI)))) fun i=>(F_qcw g fun c=>(ByteArray.size h+ByteArray.size c≤1000000000)∧(ByteArray.size (h++c)+ByteArray.size (strOfNums [10])≤1000000000)∧InR (j+1)∧B0 ((h++c)++(strOfNums [10])) (j+1) f e d i)∧(True))∧(True)
def T0_qcl_j2 (b:LI) (a:Int) (c:LT) (e:Int) (d:LI) (h:Int) (f:ByteArray) (B0:ByteArray→Int→Int→LI→LT→LI→Prop):Prop:=(0≤(if 0 < (((List.length (b++([a]:LI))):Int) - 24) then (((List.length (b++([a]:LI))):Int) - 24) else 0)∧(if 0 < (((List.length (b++([a]:LI))):Int) - 24) then (((List.length (b++([a]:LI))):Int) - 24) else 0)≤((List.length (b++([a]:LI))):Int))∧(F_qct (List.take ((List.length (b++([a]:LI))) - (Int.toNat (if 0 < (((List.length (b++([a]:LI))):Int) - 24) then (((List.length (b++([a]:LI))):Int) - 24) else 0))) (List.drop (Int.toNat (if 0 < (((List.length (b++([a]:LI))):Int) - 24) then (((List.length (b++([a]:LI))):Int) - 24) else 0)) (b++([a]:LI)))) fun g=>((ByteArray.size f+ByteArray.size (strOfNums [111,107])≤1000000000)∧(ByteArray.size (f++(strOfNums [111,107]))+ByteArray.size (strOfNums [10])≤1000000000)∧InR (h+1)∧B0 ((f++(strOfNums [111,107]))++(strOfNums [10])) (h+1) e d c g)∧(True))∧(True)
def T0_qcl_j3 (a:Int) (o:LB) (g:LI) (h:LT) (i:Int) (j:LI) (p:Int) (f:ByteArray) (B0:ByteArray→Int→Int→LI→LT→LI→Prop):Prop:=(F_qdk (List.getD o 2 ByteArray.empty) fun l m=>F_qcm g h i a l fun c d e n=>br (!n) (T0_qcl_j0 g h i j p f B0) (br (!m) (T0_qcl_j0 g h i j p f B0) (F_qct j fun b=>(b.length+1≤1000000000)∧((InR (((List.length (b++([a]:LI))):Int) - 24)∧T0_qcl_j2 b a d e c p f B0)∧(True))∧((InR (((List.length (b++([a]:LI))):Int) - 24)∧(T0_qcl_j2 b a d e c p f B0)∧(True))∧(True)))))∧(True)
def T0_qcl_j4 (a:LB) (c:LI) (d:LT) (e:Int) (f:LI) (h:Int) (g:ByteArray) (B0:ByteArray→Int→Int→LI→LT→LI→Prop):Prop:=((F_qdi (List.getD a 1 ByteArray.empty) fun b=>T0_qcl_j3 b a c d e f h g B0)∧(True))∧(True)
def T0_qcl_j5 (a:ByteArray) (c:LI) (d:LT) (e:Int) (f:LI) (g:Int) (b:ByteArray) (B0:ByteArray→Int→Int→LI→LT→LI→Prop):Prop:=(ByteArray.size b+ByteArray.size a≤1000000000)∧(ByteArray.size (b++a)+ByteArray.size (strOfNums [10])≤1000000000)∧InR (g+1)∧B0 ((b++a)++(strOfNums [10])) (g+1) e c d f
def T0_qcl_j6 (f:Int) (h:LB) (c:LI) (d:LT) (e:Int) (a:LI) (i:Int) (g:ByteArray) (B0:ByteArray→Int→Int→LI→LT→LI→Prop):Prop:=(br (ByteArray.toList (List.getD h 1 ByteArray.empty)==ByteArray.toList (strOfNums [114,101,99,101,110,116])) (F_qck a f fun aa j=>br (decide (j < 0)) (T0_qcl_j0 c d e a i g B0) (F_qcw j fun b=>T0_qcl_j5 b c d e a i g B0)) (br (ByteArray.toList (List.getD h 1 ByteArray.empty)==ByteArray.toList (strOfNums [102,105,114,115,116])) (F_qch a f fun ab l=>br (decide (l < 0)) (T0_qcl_j0 c d e a i g B0) (F_qcw l fun b=>T0_qcl_j5 b c d e a i g B0)) (br (ByteArray.toList (List.getD h 1 ByteArray.empty)==ByteArray.toList (strOfNums [99,108,111,99,107])) (F_qcg a f fun u v w x m=>br (decide (m < 0)) (T0_qcl_j0 c d e a i g B0) (F_qcw m fun b=>T0_qcl_j5 b c d e a i g B0)) (br (ByteArray.toList (List.getD h 1 ByteArray.empty)==ByteArray.toList (strOfNums [111,102,116,101,110])) (F_qcj a f fun ac n=>br (decide (n < 0)) (T0_qcl_j0 c d e a i g B0) (F_qcw n fun b=>T0_qcl_j5 b c d e a i g B0)) (br (ByteArray.toList (List.getD h 1 ByteArray.empty)==ByteArray.toList (strOfNums [97,100,97,112,116,105,118,101])) (F_qci a f fun y s z t r q o=>br (decide (o < 0)) (T0_qcl_j0 c d e a i g B0) (F_qcw o fun b=>T0_qcl_j5 b c d e a i g B0)) (br (ByteArray.toList (List.getD h 1 ByteArray.empty)==ByteArray.toList (strOfNums [98,101,115,116])) (F_qcb a f fun p=>br (decide (p < 0)) (T0_qcl_j0 c d e a i g B0) (F_qcw p fun b=>T0_qcl_j5 b c d e a i g B0)) (T0_qcl_j0 c d e a i g B0)))))))∧(True)
def T0_qcl_j7 (a:LB) (c:LI) (d:LT) (e:Int) (f:LI) (h:Int) (g:ByteArray) (B0:ByteArray→Int→Int→LI→LT→LI→Prop):Prop:=(F_qdi (List.getD a 2 ByteArray.empty) fun b=>T0_qcl_j6 b a c d e f h g B0)∧(True)
def T0_qcl_j8 (m:LB) (d:LI) (e:LT) (f:Int) (g:LI) (h:Int) (a:ByteArray) (B0:ByteArray→Int→Int→LI→LT→LI→Prop):Prop:=br (ByteArray.toList (List.getD m (Int.toNat h) ByteArray.empty)==ByteArray.toList (strOfNums [116,114,97,99,101])) (F_qce g fun b=>(ByteArray.size a+ByteArray.size b≤1000000000)∧(ByteArray.size (a++b)+ByteArray.size (strOfNums [10])≤1000000000)∧InR (h+1)∧B0 ((a++b)++(strOfNums [10])) (h+1) f d e g) (br (ByteArray.toList (List.getD m (Int.toNat h) ByteArray.empty)==ByteArray.toList (strOfNums [100,105,114,116,121])) (F_qcc d e f fun n=>F_qcz n fun c=>(ByteArray.size a+ByteArray.size c≤1000000000)∧(ByteArray.size (a++c)+ByteArray.size (strOfNums [10])≤1000000000)∧InR (h+1)∧B0 ((a++c)++(strOfNums [10])) (h+1) f d e g) (br (ByteArray.toList (List.getD m (Int.toNat h) ByteArray.empty)==ByteArray.toList (strOfNums [102,108,117,115,104])) (F_qcd d e f fun i j l o=>(ByteArray.size a+ByteArray.size (strOfNums [111,107])≤1000000000)∧(ByteArray.size (a++(strOfNums [111,107]))+ByteArray.size (strOfNums [10])≤1000000000)∧InR (h+1)∧B0 ((a++(strOfNums [111,107]))++(strOfNums [10])) (h+1) l i j g) ((ByteArray.size a+ByteArray.size (strOfNums [119,104,97,116])≤1000000000)∧(ByteArray.size (a++(strOfNums [119,104,97,116]))+ByteArray.size (strOfNums [10])≤1000000000)∧InR (h+1)∧B0 ((a++(strOfNums [119,104,97,116]))++(strOfNums [10])) (h+1) f d e g)))
def T0_qcl_j9 (h a:LB) (b:LI) (c:LT) (d:Int) (e:LI) (i:Int) (f:ByteArray) (B0:ByteArray→Int→Int→LI→LT→LI→Prop):Prop:=(0≤(0:Int)∧0 < (a.length:Int))∧br (ByteArray.toList (List.getD a 0 ByteArray.empty)==ByteArray.toList (strOfNums [104,105,116,115])) (br ((a.length:Int)==3) ((0≤(1:Int)∧1 < (a.length:Int))∧(0≤(2:Int)∧2 < (a.length:Int))∧((T0_qcl_j7 a b c d e i f B0)∧(True))∧(((T0_qcl_j7 a b c d e i f B0)∧((F_qdi (List.getD a 2 ByteArray.empty) fun g=>(T0_qcl_j6 g a b c d e i f B0)∧(True))∧(True)))∧(True))) (T0_qcl_j8 h b c d e i f B0)) (T0_qcl_j8 h b c d e i f B0)
def T0_qcl_j10 (h a:LB) (b:LI) (c:LT) (d:Int) (e:LI) (i:Int) (f:ByteArray) (B0:ByteArray→Int→Int→LI→LT→LI→Prop):Prop:=(0≤(0:Int)∧0 < (a.length:Int))∧br (ByteArray.toList (List.getD a 0 ByteArray.empty)==ByteArray.toList (strOfNums [115,101,116])) (br ((a.length:Int)==3) ((0≤(1:Int)∧1 < (a.length:Int))∧(0≤(2:Int)∧2 < (a.length:Int))∧((F_qdi (List.getD a 1 ByteArray.empty) fun g=>(T0_qcl_j3 g a b c d e i f B0)∧(True))∧(T0_qcl_j4 a b c d e i f B0))∧((T0_qcl_j4 a b c d e i f B0)∧(True))) (T0_qcl_j9 h a b c d e i f B0)) (T0_qcl_j9 h a b c d e i f B0)
def T0_qcl (h:LB) (f:ByteArray) (i l:Int) (m:LI) (n:LT) (o:LI) (k:ByteArray→Prop) (B0:ByteArray→Int→Int→LI→LT→LI→Prop):Prop:=br (decide (i < (h.length:Int))) (br (decide (i < 20)) ((0≤i∧i < (h.length:Int))∧F_qdq (List.getD h (Int.toNat i) ByteArray.empty) (32:Int) fun a=>(0≤(0:Int)∧0 < (a.length:Int))∧br (ByteArray.toList (List.getD a 0 ByteArray.empty)==ByteArray.toList (strOfNums [103,101,116])) (br ((a.length:Int)==2) ((0≤(1:Int)∧1 < (a.length:Int))∧F_qdi (List.getD a 1 ByteArray.empty) fun b=>F_qcf m n l b fun d e g j p=>br (!p) (T0_qcl_j0 m n l o i f B0) (F_qct o fun c=>(c.length+1≤1000000000)∧((InR (((List.length (c++([b]:LI))):Int) - 24)∧T0_qcl_j1 c b e g d j i f B0)∧(True))∧((InR (((List.length (c++([b]:LI))):Int) - 24)∧(T0_qcl_j1 c b e g d j i f B0)∧(True))∧(True)))) (T0_qcl_j10 h a m n l o i f B0)) (T0_qcl_j10 h a m n l o i f B0)) (k f)) (k f)
def U0_qcl_j0 (b:LI) (c:LT) (d:Int) (e:LI) (f:Int) (a:ByteArray) (B0:ByteArray→Int→Int→LI→LT→LI→Prop):Prop:=(ByteArray.size a+ByteArray.size (strOfNums [110,111])≤1000000000)∧(ByteArray.size (a++(strOfNums [110,111]))+ByteArray.size (strOfNums [10])≤1000000000)∧InR (f+1)∧B0 ((a++(strOfNums [110,111]))++(strOfNums [10])) (f+1) d b c e
def U0_qcl_j1 (a:ByteArray) (c:LI) (d:LT) (e:Int) (f:LI) (g:Int) (b:ByteArray) (B0:ByteArray→Int→Int→LI→LT→LI→Prop):Prop:=(ByteArray.size b+ByteArray.size a≤1000000000)∧(ByteArray.size (b++a)+ByteArray.size (strOfNums [10])≤1000000000)∧InR (g+1)∧B0 ((b++a)++(strOfNums [10])) (g+1) e c d f
def U0_qcl_j2 (m:LB) (d:LI) (e:LT) (f:Int) (g:LI) (h:Int) (a:ByteArray) (B0:ByteArray→Int→Int→LI→LT→LI→Prop):Prop:=br (ByteArray.toList (List.getD m (Int.toNat h) ByteArray.empty)==ByteArray.toList (strOfNums [116,114,97,99,101])) (F_qce g fun b=>(ByteArray.size a+ByteArray.size b≤1000000000)∧(ByteArray.size (a++b)+ByteArray.size (strOfNums [10])≤1000000000)∧InR (h+1)∧B0 ((a++b)++(strOfNums [10])) (h+1) f d e g) (br (ByteArray.toList (List.getD m (Int.toNat h) ByteArray.empty)==ByteArray.toList (strOfNums [100,105,114,116,121])) (F_qcc d e f fun n=>F_qcz n fun c=>(ByteArray.size a+ByteArray.size c≤1000000000)∧(ByteArray.size (a++c)+ByteArray.size (strOfNums [10])≤1000000000)∧InR (h+1)∧B0 ((a++c)++(strOfNums [10])) (h+1) f d e g) (br (ByteArray.toList (List.getD m (Int.toNat h) ByteArray.empty)==ByteArray.toList (strOfNums [102,108,117,115,104])) (F_qcd d e f fun i j l o=>(ByteArray.size a+ByteArray.size (strOfNums [111,107])≤1000000000)∧(ByteArray.size (a++(strOfNums [111,107]))+ByteArray.size (strOfNums [10])≤1000000000)∧InR (h+1)∧B0 ((a++(strOfNums [111,107]))++(strOfNums [10])) (h+1) l i j g) ((ByteArray.size a+ByteArray.size (strOfNums [119,104,97,116])≤1000000000)∧(ByteArray.size (a++(strOfNums [119,104,97,116]))+ByteArray.size (strOfNums [10])≤1000000000)∧InR (h+1)∧B0 ((a++(strOfNums [119,104,97,116]))++(strOfNums [10])) (h+1) f d e g)))
def U0_qcl_j3 (q c:LB) (d:LI) (e:LT) (f:Int) (a:LI) (i:Int) (g:ByteArray) (B0:ByteArray→Int→Int→LI→LT→LI→Prop):Prop:=(0≤(0:Int)∧0 < (c.length:Int))∧br (ByteArray.toList (List.getD c 0 ByteArray.empty)==ByteArray.toList (strOfNums [104,105,116,115])) (br ((c.length:Int)==3) ((0≤(1:Int)∧1 < (c.length:Int))∧(0≤(2:Int)∧2 < (c.length:Int))∧F_qdi (List.getD c 2 ByteArray.empty) fun h=>br (ByteArray.toList (List.getD c 1 ByteArray.empty)==ByteArray.toList (strOfNums [114,101,99,101,110,116])) (F_qck a h fun ab j=>br (decide (j < 0)) (U0_qcl_j0 d e f a i g B0) (F_qcw j fun b=>U0_qcl_j1 b d e f a i g B0)) (br (ByteArray.toList (List.getD c 1 ByteArray.empty)==ByteArray.toList (strOfNums [102,105,114,115,116])) (F_qch a h fun ac l=>br (decide (l < 0)) (U0_qcl_j0 d e f a i g B0) (F_qcw l fun b=>U0_qcl_j1 b d e f a i g B0)) (br (ByteArray.toList (List.getD c 1 ByteArray.empty)==ByteArray.toList (strOfNums [99,108,111,99,107])) (F_qcg a h fun v w x y m=>br (decide (m < 0)) (U0_qcl_j0 d e f a i g B0) (F_qcw m fun b=>U0_qcl_j1 b d e f a i g B0)) (br (ByteArray.toList (List.getD c 1 ByteArray.empty)==ByteArray.toList (strOfNums [111,102,116,101,110])) (F_qcj a h fun ad n=>br (decide (n < 0)) (U0_qcl_j0 d e f a i g B0) (F_qcw n fun b=>U0_qcl_j1 b d e f a i g B0)) (br (ByteArray.toList (List.getD c 1 ByteArray.empty)==ByteArray.toList (strOfNums [97,100,97,112,116,105,118,101])) (F_qci a h fun z t aa u s r o=>br (decide (o < 0)) (U0_qcl_j0 d e f a i g B0) (F_qcw o fun b=>U0_qcl_j1 b d e f a i g B0)) (br (ByteArray.toList (List.getD c 1 ByteArray.empty)==ByteArray.toList (strOfNums [98,101,115,116])) (F_qcb a h fun p=>br (decide (p < 0)) (U0_qcl_j0 d e f a i g B0) (F_qcw p fun b=>U0_qcl_j1 b d e f a i g B0)) (U0_qcl_j0 d e f a i g B0))))))) (U0_qcl_j2 q d e f a i g B0)) (U0_qcl_j2 q d e f a i g B0)
def U0_qcl_j4 (r c:LB) (e:LI) (f:LT) (g:Int) (h:LI) (p:Int) (d:ByteArray) (B0:ByteArray→Int→Int→LI→LT→LI→Prop):Prop:=(0≤(0:Int)∧0 < (c.length:Int))∧br (ByteArray.toList (List.getD c 0 ByteArray.empty)==ByteArray.toList (strOfNums [115,101,116])) (br ((c.length:Int)==3) ((0≤(1:Int)∧1 < (c.length:Int))∧(0≤(2:Int)∧2 < (c.length:Int))∧F_qdi (List.getD c 1 ByteArray.empty) fun a=>F_qdk (List.getD c 2 ByteArray.empty) fun m n=>F_qcm e f g a m fun i j l o=>br (!o) (U0_qcl_j0 e f g h p d B0) (br (!n) (U0_qcl_j0 e f g h p d B0) (F_qct h fun b=>(b.length+1≤1000000000)∧InR (((List.length (b++([a]:LI))):Int) - 24)∧(0≤(if 0 < (((List.length (b++([a]:LI))):Int) - 24) then (((List.length (b++([a]:LI))):Int) - 24) else 0)∧(if 0 < (((List.length (b++([a]:LI))):Int) - 24) then (((List.length (b++([a]:LI))):Int) - 24) else 0)≤((List.length (b++([a]:LI))):Int))∧F_qct (List.take ((List.length (b++([a]:LI))) - (Int.toNat (if 0 < (((List.length (b++([a]:LI))):Int) - 24) then (((List.length (b++([a]:LI))):Int) - 24) else 0))) (List.drop (Int.toNat (if 0 < (((List.length (b++([a]:LI))):Int) - 24) then (((List.length (b++([a]:LI))):Int) - 24) else 0)) (b++([a]:LI)))) fun q=>(ByteArray.size d+ByteArray.size (strOfNums [111,107])≤1000000000)∧(ByteArray.size (d++(strOfNums [111,107]))+ByteArray.size (strOfNums [10])≤1000000000)∧InR (p+1)∧B0 ((d++(strOfNums [111,107]))++(strOfNums [10])) (p+1) l i j q))) (U0_qcl_j3 r c e f g h p d B0)) (U0_qcl_j3 r c e f g h p d B0)
def U0_qcl (e:LB) (d:ByteArray) (g h:Int) (i:LI) (j:LT) (l:LI) (k:ByteArray→Prop) (B0:ByteArray→Int→Int→LI→LT→LI→Prop):Prop:=br (decide (g < (e.length:Int))) (br (decide (g < 20)) ((0≤g∧g < (e.length:Int))∧F_qdq (List.getD e (Int.toNat g) ByteArray.empty) (32:Int) fun c=>(0≤(0:Int)∧0 < (c.length:Int))∧br (ByteArray.toList (List.getD c 0 ByteArray.empty)==ByteArray.toList (strOfNums [103,101,116])) (br ((c.length:Int)==2) ((0≤(1:Int)∧1 < (c.length:Int))∧F_qdi (List.getD c 1 ByteArray.empty) fun a=>F_qcf i j h a fun m n o p q=>br (!q) (U0_qcl_j0 i j h l g d B0) (F_qct l fun b=>(b.length+1≤1000000000)∧InR (((List.length (b++([a]:LI))):Int) - 24)∧(0≤(if 0 < (((List.length (b++([a]:LI))):Int) - 24) then (((List.length (b++([a]:LI))):Int) - 24) else 0)∧(if 0 < (((List.length (b++([a]:LI))):Int) - 24) then (((List.length (b++([a]:LI))):Int) - 24) else 0)≤((List.length (b++([a]:LI))):Int))∧F_qct (List.take ((List.length (b++([a]:LI))) - (Int.toNat (if 0 < (((List.length (b++([a]:LI))):Int) - 24) then (((List.length (b++([a]:LI))):Int) - 24) else 0))) (List.drop (Int.toNat (if 0 < (((List.length (b++([a]:LI))):Int) - 24) then (((List.length (b++([a]:LI))):Int) - 24) else 0)) (b++([a]:LI)))) fun r=>F_qcw p fun f=>(ByteArray.size d+ByteArray.size f≤1000000000)∧(ByteArray.size (d++f)+ByteArray.size (strOfNums [10])≤1000000000)∧InR (g+1)∧B0 ((d++f)++(strOfNums [10])) (g+1) o m n r)) (U0_qcl_j4 e c i j h l g d B0)) (U0_qcl_j4 e c i j h l g d B0)) (k d)) (k d)
theorem T0_qcl_eq (a:LB) (f:ByteArray) (g b:Int) (c:LI) (d:LT) (e:LI) (k:ByteArray→Prop) (B0:ByteArray→Int→Int→LI→LT→LI→Prop):T0_qcl a f g b c d e k B0=U0_qcl a f g b c d e k B0:=by
 first
 | (simp only [T0_qcl,U0_qcl,T0_qcl_j0,T0_qcl_j1,T0_qcl_j2,T0_qcl_j3,T0_qcl_j4,T0_qcl_j5,T0_qcl_j6,T0_qcl_j7,T0_qcl_j8,T0_qcl_j9,T0_qcl_j10,U0_qcl_j0,U0_qcl_j1,U0_qcl_j2,U0_qcl_j3,U0_qcl_j4,and_self,and_true]; done)
 | (simp only [T0_qcl,U0_qcl,T0_qcl_j0,T0_qcl_j1,T0_qcl_j2,T0_qcl_j3,T0_qcl_j4,T0_qcl_j5,T0_qcl_j6,T0_qcl_j7,T0_qcl_j8,T0_qcl_j9,T0_qcl_j10,U0_qcl_j0,U0_qcl_j1,U0_qcl_j2,U0_qcl_j3,U0_qcl_j4,and_self,and_true,and_self_left,and_assoc]; refine propext ⟨fun h=>?_,fun h=>?_⟩ <;> (repeat (cases ‹_∧_›)) <;> (repeat' (apply And.intro)) <;> assumption)
def L0_qcl (a:LB) (k:ByteArray→Prop):Nat→ByteArray→Int→Int→LI→LT→LI→Prop | 0,_,_,_,_,_,_=>False | n+1,f,g,b,c,d,e=>U0_qcl a f g b c d e k (L0_qcl a k n)
def G_qcl (a:LB) (I0:LB→ByteArray→Int→Int→LI→LT→LI→Prop):Prop:=((32:Int)=32∧0≤(32:Int)∧(32:Int)≤1000000000)∧I0 a (strOfNums []) 0 3 (List.replicate 32 (0:Int)) ([]:LT) ([]:LI)
def S_qcl (a:LB) (k:ByteArray→Prop):Prop:=G_qcl a (fun a f g b c d e=>∃ j,L0_qcl a k j f g b c d e)
def F_qcl (lines:List ByteArray) (k:ByteArray→Prop):Prop:=
 ∃ ls:List (LI),(lines=ls.map strOfNums∧(∀ a∈ls,BS a∧a.length≤10000000)∧ls.length≤10000000)∧k (strOfNums (sesM ls))
theorem F_qcl_S {lines:List ByteArray} {k:ByteArray→Prop} (h:F_qcl lines k):S_qcl lines k:=by
 obtain ⟨ls,⟨rfl,hls,hl⟩,hk⟩:=h
 have go:∀ (m i:Nat) (o:LI) (t:SesT),20≤i+m→i≤20→o.length≤400*i→VSes t→o++sesF ((ls.take 20).drop i) t=sesM ls→L0_qcl (ls.map strOfNums) k (m+1) (strOfNums o) (i:Int) 3 t.1 t.2.1 t.2.2:=by
  intro m
  induction m with
  | zero=>
   intro i o t hm hi ho v he
   rw [List.drop_eq_nil_of_le (by rw [List.length_take]; omega),sesF,List.append_nil] at he
   rw [L0_qcl,U0_qcl,he]
   exact br_dec.2 ⟨fun _=>br_nd (by omega) hk,fun _=>hk⟩
  | succ m ih=>
   intro i o t hm hi ho v he
   rw [L0_qcl,U0_qcl]
   by_cases c:i < ls.length∧i < 20
   ·obtain ⟨ci,c20⟩:=c
    have hd:(ls.take 20).drop i=ls[i] :: (ls.take 20).drop (i+1):=by
     rw [List.drop_eq_getElem_cons (by rw [List.length_take]; omega)]
     congr 1; simp
    obtain ⟨ha,hal⟩:=hls _ (List.getElem_mem ci)
    have hg:(ls.map strOfNums).getD (i:Int).toNat ByteArray.empty=strOfNums ls[i]:=by
     rw [getS,Int.toNat_natCast,List.getD_eq_getElem?_getD,List.getElem?_eq_getElem ci]; rfl
    rw [hd,sesF] at he
    obtain ⟨hsv,hsb,hsl⟩:=step_ok v ls[i]
    have hW:=fun w=>splitB_BS (c:=32) (w:=w) ha
    have hWn:=splitB_ne 32 ls[i]
    have emit:∀ (t':SesT) (x:LI),stepL t ls[i]=(t',x)→(ByteArray.size (strOfNums o)+ByteArray.size (strOfNums x)≤1000000000)∧(ByteArray.size (strOfNums o++strOfNums x)+ByteArray.size (strOfNums [10])≤1000000000)∧InR ((i:Int)+1)∧
      L0_qcl (ls.map strOfNums) k (m+1) ((strOfNums o++strOfNums x)++strOfNums [10]) ((i:Int)+1) 3 t'.1 t'.2.1 t'.2.2:=by
     intro t' x e
     rw [e] at hsv hsl he
     dsimp only at hsv hsl he
     simp only [str_append,str_size,List.length_append,List.length_singleton]
     have:=ih (i+1) (o++x++[10]) t' (by omega) (by omega) (by simp only [List.length_append,List.length_singleton]; omega) hsv (by rw [← he]; simp)
     exact ⟨by omega,by omega,inR (by omega) (by omega),this⟩
    have hstep:stepL t ls[i]=stepL t ls[i]:=rfl
    conv at hstep=>rhs; unfold stepL
    generalize stepL t ls[i]=S at *
    generalize hWe:splitB 32 ls[i]=W at *
    have hWb:∀ j,BS (W.getD j [])∧(W.getD j []).length≤10000000:=fun j=>by
     rw [List.getD_eq_getElem?_getD]
     cases e:W[j]? with
     | none=>exact ⟨fun x hx=>by simp at hx,by simp⟩
     | some w=>have:=hW w (List.mem_of_getElem? e); exact ⟨this.1,by show w.length≤_; omega⟩
    have hWp:0 < W.length:=List.length_pos_iff.2 hWn
    have bs:∀ {a:LI},(∀ x∈a,(0:Int)≤x∧x≤255)→BS a:=fun h=>h
    have hv:=v.1.ll
    have hv2:=v.2.1
    have j0:S=(t,[110,111])→U0_qcl_j0 t.1 t.2.1 3 t.2.2 (i:Int) (strOfNums o) (L0_qcl (ls.map strOfNums) k (m+1)):=fun e=>emit t _ e
    have j1:∀ n,S=(t,decB n)→U0_qcl_j1 (strOfNums (decB n)) t.1 t.2.1 3 t.2.2 (i:Int) (strOfNums o) (L0_qcl (ls.map strOfNums) k (m+1)):=fun n e=>emit t _ e
    have j2:S=(if ls[i]=[116,114,97,99,101] then (t,fmtM t.2.2) else if ls[i]=[100,105,114,116,121] then (t,fmtM (dirtyL t.2.1)) else if ls[i]=[102,108,117,115,104] then ((flushS t.2.1 t.1,flushL t.2.1,t.2.2),[111,107]) else (t,[119,104,97,116]))→
      U0_qcl_j2 (ls.map strOfNums) t.1 t.2.1 3 t.2.2 (i:Int) (strOfNums o) (L0_qcl (ls.map strOfNums) k (m+1)):=by
     intro e
     unfold U0_qcl_j2
     rw [hg,str_eq ha (bs (by decide)),str_eq ha (bs (by decide)),str_eq ha (bs (by decide))]
     refine br_dec.2 ⟨fun q=>?_,fun q=>br_dec.2 ⟨fun q2=>?_,fun q2=>br_dec.2 ⟨fun q3=>?_,fun q3=>?_⟩⟩⟩
     ·rw [if_pos q] at e; exact yes v.2 (emit _ _ e)
     ·rw [if_neg q,if_pos q2] at e
      have hdl:=dirtyL_len t.2.1
      have:=v.1.len
      refine ⟨hv,yes v.1 ⟨⟨by omega,fun x hx=>?_⟩,emit _ _ e⟩⟩
      obtain ⟨y,hy,hy1,_⟩:=dirtyL_mem.1 hx
      have:=(v.1.2.1.1.1 y hy).1; omega
     ·rw [if_neg q,if_neg q2,if_pos q3] at e
      exact ⟨hv,yes v.1 (emit _ _ e)⟩
     ·rw [if_neg q,if_neg q2,if_neg q3] at e
      exact emit _ _ e
    have j3:S=(if W.getD 0 []=[104,105,116,115]∧W.length=3 then (t,hitsOut (hitsM (W.getD 1 []) t.2.2 (numM (W.getD 2 [])))) else if ls[i]=[116,114,97,99,101] then (t,fmtM t.2.2) else if ls[i]=[100,105,114,116,121] then (t,fmtM (dirtyL t.2.1)) else if ls[i]=[102,108,117,115,104] then ((flushS t.2.1 t.1,flushL t.2.1,t.2.2),[111,107]) else (t,[119,104,97,116]))→
      U0_qcl_j3 (ls.map strOfNums) (W.map strOfNums) t.1 t.2.1 3 t.2.2 (i:Int) (strOfNums o) (L0_qcl (ls.map strOfNums) k (m+1)):=by
     intro e
     unfold U0_qcl_j3
     simp only [getS,List.length_map]
     rw [str_eq (hWb 0).1 (bs (by decide))]
     refine ⟨⟨by omega,by omega⟩,br_dec.2 ⟨fun q=>br_beq.2 ⟨fun q2=>⟨⟨by omega,by omega⟩,⟨by omega,by omega⟩,W.getD 2 [],⟨(hWb 2).1,rfl,by have:=(hWb 2).2; omega⟩,?_⟩,fun q2=>j2 (by rw [if_neg fun d=>q2 (by omega)] at e; exact e)⟩,fun q=>j2 (by rw [if_neg fun d=>q d.1] at e; exact e)⟩⟩
     rw [if_pos ⟨q,by omega⟩] at e
     have hsm:=hitsM_small (p:=W.getD 1 []) (room:=numM (W.getD 2 [])) v.2
     have hfin:∀ r:Int,hitsM (W.getD 1 []) t.2.2 (numM (W.getD 2 []))=r→br (decide (r < 0)) (U0_qcl_j0 t.1 t.2.1 3 t.2.2 (i:Int) (strOfNums o) (L0_qcl (ls.map strOfNums) k (m+1))) (F_qcw r fun d=>U0_qcl_j1 d t.1 t.2.1 3 t.2.2 (i:Int) (strOfNums o) (L0_qcl (ls.map strOfNums) k (m+1))):=by
      intro r hr
      rw [hr] at e hsm
      unfold hitsOut at e
      refine br_dec.2 ⟨fun g=>?_,fun g=>⟨⟨by omega,by omega⟩,?_⟩⟩
      ·rw [if_pos g] at e; exact j0 e
      ·rw [if_neg g] at e; exact j1 r e
     have hun:∀ r,1≤numM (W.getD 2 [])∧numM (W.getD 2 [])≤8→r=(if W.getD 1 []=[114,101,99,101,110,116] then (runR (numM (W.getD 2 [])) t.2.2 [] 0).2
       else if W.getD 1 []=[102,105,114,115,116] then (runF (numM (W.getD 2 [])) t.2.2 [] 0).2
       else if W.getD 1 []=[99,108,111,99,107] then (runC (numM (W.getD 2 [])) t.2.2 [] [] 0 0).2.2.2
       else if W.getD 1 []=[111,102,116,101,110] then (runO (numM (W.getD 2 [])) t.2.2 [] 0 0).2
       else if W.getD 1 []=[97,100,97,112,116,105,118,101] then (runL (numM (W.getD 2 [])) t.2.2 ⟨0,[],[],[],[]⟩ 0).2
       else if W.getD 1 []=[98,101,115,116] then (bestM (numM (W.getD 2 [])).toNat t.2.2 []:Int) else -1)→hitsM (W.getD 1 []) t.2.2 (numM (W.getD 2 []))=r:=fun r hr e=>by
      unfold hitsM; rw [if_pos hr,e]
     have hnr:¬ (1≤numM (W.getD 2 [])∧numM (W.getD 2 [])≤8)→hitsM (W.getD 1 []) t.2.2 (numM (W.getD 2 []))=-1:=fun h=>by unfold hitsM; rw [if_neg h]
     have two:∀ {A B:Prop},(1≤numM (W.getD 2 [])∧numM (W.getD 2 [])≤8→A)→(¬ (1≤numM (W.getD 2 [])∧numM (W.getD 2 [])≤8)→B)→((VTrace t.2.2∧1≤numM (W.getD 2 [])∧numM (W.getD 2 [])≤8→A)∧(¬ (VTrace t.2.2∧1≤numM (W.getD 2 [])∧numM (W.getD 2 [])≤8)→B)):=fun f g=>⟨fun h=>f h.2,fun h=>g fun q=>h ⟨v.2,q⟩⟩
     rw [str_eq (hWb 1).1 (bs (by decide)),str_eq (hWb 1).1 (bs (by decide)),str_eq (hWb 1).1 (bs (by decide)),str_eq (hWb 1).1 (bs (by decide)),str_eq (hWb 1).1 (bs (by decide)),str_eq (hWb 1).1 (bs (by decide))]
     refine br_dec.2 ⟨fun p1=>two (fun hr=>hfin _ (hun _ hr (by rw [if_pos p1]))) fun hr=>hfin _ (hnr hr),fun p1=>br_dec.2 ⟨fun p2=>two (fun hr=>hfin _ (hun _ hr (by rw [if_neg p1,if_pos p2]))) fun hr=>hfin _ (hnr hr),fun p2=>br_dec.2 ⟨fun p3=>two (fun hr=>hfin _ (hun _ hr (by rw [if_neg p1,if_neg p2,if_pos p3]))) fun hr=>hfin _ (hnr hr),fun p3=>br_dec.2 ⟨fun p4=>two (fun hr=>hfin _ (hun _ hr (by rw [if_neg p1,if_neg p2,if_neg p3,if_pos p4]))) fun hr=>hfin _ (hnr hr),fun p4=>br_dec.2 ⟨fun p5=>two (fun hr=>hfin _ (hun _ hr (by rw [if_neg p1,if_neg p2,if_neg p3,if_neg p4,if_pos p5]))) fun hr=>hfin _ (hnr hr),fun p5=>br_dec.2 ⟨fun p6=>two (fun hr=>hfin _ (hun _ hr (by rw [if_neg p1,if_neg p2,if_neg p3,if_neg p4,if_neg p5,if_pos p6]))) fun hr=>hfin _ (hnr hr),fun p6=>j0 ?_⟩⟩⟩⟩⟩⟩
     have:hitsM (W.getD 1 []) t.2.2 (numM (W.getD 2 []))=-1:=by
      by_cases hr:1≤numM (W.getD 2 [])∧numM (W.getD 2 [])≤8
      ·exact hun _ hr (by rw [if_neg p1,if_neg p2,if_neg p3,if_neg p4,if_neg p5,if_neg p6])
      ·exact hnr hr
     rw [this] at e; exact e
    have note:∀ (key:Int) (K:LI→Prop),K (noteM t.2.2 key)→F_qct t.2.2 fun copyInts9=>(copyInts9.length+1≤1000000000)∧InR (((List.length (copyInts9++([key]:LI))):Int) - 24)∧
      (0≤(if 0 < (((List.length (copyInts9++([key]:LI))):Int) - 24) then (((List.length (copyInts9++([key]:LI))):Int) - 24) else 0)∧(if 0 < (((List.length (copyInts9++([key]:LI))):Int) - 24) then (((List.length (copyInts9++([key]:LI))):Int) - 24) else 0)≤((List.length (copyInts9++([key]:LI))):Int))∧
      F_qct (List.take ((List.length (copyInts9++([key]:LI))) - (Int.toNat (if 0 < (((List.length (copyInts9++([key]:LI))):Int) - 24) then (((List.length (copyInts9++([key]:LI))):Int) - 24) else 0))) (List.drop (Int.toNat (if 0 < (((List.length (copyInts9++([key]:LI))):Int) - 24) then (((List.length (copyInts9++([key]:LI))):Int) - 24) else 0)) (copyInts9++([key]:LI)))) K:=by
     intro key K hK
     have hlen:(t.2.2++[key]).length=t.2.2.length+1:=by rw [List.length_append,List.length_singleton]
     have hmax:(if 0 < (((t.2.2++[key]).length:Int) - 24) then (((t.2.2++[key]).length:Int) - 24) else 0)=((t.2.2.length+1 - 24:Nat):Int):=by rw [hlen]; split <;> omega
     refine ⟨by omega,by omega,inR (by omega) (by omega),?_⟩
     rw [hmax,Int.toNat_natCast]
     refine ⟨⟨by omega,by omega⟩,?_⟩
     rw [List.take_of_length_le (by rw [List.length_drop]; omega)]
     exact ⟨by rw [List.length_drop]; omega,hK⟩
    have j4:S=(if W.getD 0 []=[115,101,116]∧W.length=3 then setM t (numM (W.getD 1 [])) (parseB (W.getD 2 [])) else if W.getD 0 []=[104,105,116,115]∧W.length=3 then (t,hitsOut (hitsM (W.getD 1 []) t.2.2 (numM (W.getD 2 [])))) else if ls[i]=[116,114,97,99,101] then (t,fmtM t.2.2) else if ls[i]=[100,105,114,116,121] then (t,fmtM (dirtyL t.2.1)) else if ls[i]=[102,108,117,115,104] then ((flushS t.2.1 t.1,flushL t.2.1,t.2.2),[111,107]) else (t,[119,104,97,116]))→
      U0_qcl_j4 (ls.map strOfNums) (W.map strOfNums) t.1 t.2.1 3 t.2.2 (i:Int) (strOfNums o) (L0_qcl (ls.map strOfNums) k (m+1)):=by
     intro e
     unfold U0_qcl_j4
     simp only [getS,List.length_map]
     rw [str_eq (hWb 0).1 (bs (by decide))]
     refine ⟨⟨by omega,by omega⟩,br_dec.2 ⟨fun q=>br_beq.2 ⟨fun q2=>⟨⟨by omega,by omega⟩,⟨by omega,by omega⟩,W.getD 1 [],⟨(hWb 1).1,rfl,by have:=(hWb 1).2; omega⟩,W.getD 2 [],⟨(hWb 2).1,rfl,by have:=(hWb 2).2; omega⟩,fun n hn=>?_,fun hn=>?_⟩,fun q2=>j3 (by rw [if_neg fun d=>q2 (by omega)] at e; exact e)⟩,fun q=>j3 (by rw [if_neg fun d=>q d.1] at e; exact e)⟩⟩
     ·rw [if_pos ⟨q,by omega⟩,parseB_iff.2 hn] at e
      unfold setM at e
      dsimp only at e
      by_cases g:(0≤numM (W.getD 1 [])∧numM (W.getD 1 [])≤31)∧-1000≤n∧n≤1000
      ·rw [if_pos g] at e
       exact ⟨hv,yes ⟨v.1,g⟩ (br_nt (br_nt (note _ _ (emit _ _ e))))⟩
      ·rw [if_neg g] at e
       exact ⟨hv,nay (fun h=>g h.2) (br_nf (j0 e))⟩
     ·have hp:parseB (W.getD 2 [])=none:=by
       cases h:parseB (W.getD 2 []) with
       | none=>rfl
       | some n=>exact absurd ⟨n,parseB_iff.1 h⟩ hn
      rw [if_pos ⟨q,by omega⟩,hp] at e
      have e:S=(t,[110,111]):=e
      by_cases g:(0≤numM (W.getD 1 [])∧numM (W.getD 1 [])≤31)∧(-1000:Int)≤0∧(0:Int)≤1000
      ·exact ⟨hv,yes ⟨v.1,g⟩ (br_nt (br_nf (j0 e)))⟩
      ·exact ⟨hv,nay (fun h=>g h.2) (br_nf (j0 e))⟩
    refine br_yd (by rw [List.length_map]; omega) (br_yd (by omega) ⟨⟨by omega,by rw [List.length_map]; omega⟩,?_⟩)
    rw [hg]
    refine ⟨ls[i],⟨ha,rfl,by omega⟩,?_⟩
    rw [hWe]
    simp only [getS,List.length_map]
    rw [str_eq (hWb 0).1 (bs (by decide))]
    refine ⟨⟨by omega,by omega⟩,br_dec.2 ⟨fun q=>br_beq.2 ⟨fun q2=>⟨⟨by omega,by omega⟩,W.getD 1 [],⟨(hWb 1).1,rfl,by have:=(hWb 1).2; omega⟩,?_⟩,fun q2=>j4 (by rw [if_neg fun d=>q2 (by omega)] at hstep; exact hstep)⟩,fun q=>j4 (by rw [if_neg fun d=>q d.1] at hstep; exact hstep)⟩⟩
    rw [if_pos ⟨q,by omega⟩] at hstep
    unfold getM at hstep
    by_cases g:0≤numM (W.getD 1 [])∧numM (W.getD 1 [])≤31
    ·rw [if_pos g] at hstep
     have hr:=v.1.val_range g
     exact ⟨hv,yes ⟨v.1,g⟩ (br_nt (note _ _ ⟨⟨by omega,by omega⟩,emit _ _ hstep⟩))⟩
    ·rw [if_neg g] at hstep
     exact ⟨hv,nay (fun h=>g h.2) (br_nf (j0 hstep))⟩
   ·have hnil:(ls.take 20).drop i=[]:=List.drop_eq_nil_of_le (by rw [List.length_take]; omega)
    rw [hnil,sesF,List.append_nil] at he
    rw [he]
    exact br_dec.2 ⟨fun q=>br_nd (by rw [List.length_map] at q; omega) hk,fun _=>hk⟩
 refine ⟨⟨rfl,by omega,by omega⟩,20+1,?_⟩
 exact go 20 0 [] ses0 (by omega) (by omega) (by simp) ses0_ok (by simp [sesM])

def F_qed (_s:ByteArray) (_n:Int) (_k:List ByteArray→Prop):Prop:=False

def F_qdz (s sep:ByteArray) (k:Int→Prop):Prop:=
 ∃ a c,(BS a∧s=strOfNums a)∧((0≤c∧c≤255)∧sep=strOfNums [c])∧k ((a.count c:Nat):Int)

def F_qbl (s sep:ByteArray) (k:Int→Prop):Prop:=
 ∃ a c,(BS a∧s=strOfNums a)∧((0≤c∧c≤255)∧sep=strOfNums [c])∧k (findB c a)

def G_qea (c a:ByteArray) (k:Int→Prop):Prop:=F_qbl c a fun b=>k b
def S_qea (b a:ByteArray) (k:Int→Prop):Prop:=G_qea b a k
abbrev F_qea (s sep:ByteArray) (k:Int→Prop):Prop:=F_qbl s sep k
theorem F_qea_S {s sep:ByteArray} {k:Int→Prop} (h:F_qea s sep k):S_qea s sep k:=h

def T0_qee_j0 (a:Int) (c:ByteArray) (b:LB) (k:LB→Prop):Prop:=(0≤a∧a < (b.length:Int))∧InR (a+1)∧(0≤(a+1)∧(a+1)≤((List.length (List.set b (Int.toNat a) c)):Int))∧k (List.take (Int.toNat (a+1)) (List.drop 0 (List.set b (Int.toNat a) c)))
def T0_qee (e:ByteArray) (b:Int) (d:ByteArray) (g c:Int) (f:LB) (k:LB→Prop) (B0:ByteArray→Int→Int→LB→Prop):Prop:=br (decide (c < g)) (F_qea d e fun a=>br (decide (a < 0)) (T0_qee_j0 c d f k) (InR (a+b)∧(0≤(a+b)∧(a+b)≤((ByteArray.size d):Int))∧(0≤c∧c < (f.length:Int))∧InR (a+((ByteArray.size e):Int))∧(0≤(a+((ByteArray.size e):Int))∧(a+((ByteArray.size e):Int))≤((ByteArray.size d):Int))∧InR (c+1)∧B0 (ByteArray.extract d (Int.toNat (a+((ByteArray.size e):Int))) (ByteArray.size d)) g (c+1) (List.set f (Int.toNat c) (ByteArray.extract d 0 (Int.toNat (a+b)))))) (T0_qee_j0 c d f k)
def L0_qee (b:ByteArray) (a:Int) (k:LB→Prop):Nat→ByteArray→Int→Int→LB→Prop | 0,_,_,_,_=>False | n+1,e,f,c,d=>T0_qee b a e f c d k (L0_qee b a k n)
def G_qee (b e:ByteArray) (d c:Int) (k:LB→Prop) (I0:ByteArray→Int→ByteArray→Int→Int→LB→Prop):Prop:=br (c==0) (k ([]:LB)) (br (ByteArray.toList e==ByteArray.toList (strOfNums [])) (F_qed b c fun f=>k f) (br (decide (c < 0)) (F_qdz b e fun a=>InR (a+1)∧InR (((ByteArray.size b):Int)+1)∧((if (((ByteArray.size b):Int)+1) < (a+1) then (((ByteArray.size b):Int)+1) else (a+1))=(if (((ByteArray.size b):Int)+1) < (a+1) then (((ByteArray.size b):Int)+1) else (a+1))∧0≤(if (((ByteArray.size b):Int)+1) < (a+1) then (((ByteArray.size b):Int)+1) else (a+1))∧(if (((ByteArray.size b):Int)+1) < (a+1) then (((ByteArray.size b):Int)+1) else (a+1))≤1000000000)∧InR ((if (((ByteArray.size b):Int)+1) < (a+1) then (((ByteArray.size b):Int)+1) else (a+1)) - 1)∧I0 e d b ((if (((ByteArray.size b):Int)+1) < (a+1) then (((ByteArray.size b):Int)+1) else (a+1)) - 1) 0 (List.replicate (Int.toNat (if (((ByteArray.size b):Int)+1) < (a+1) then (((ByteArray.size b):Int)+1) else (a+1))) ByteArray.empty)) (InR (((ByteArray.size b):Int)+1)∧((if (((ByteArray.size b):Int)+1) < c then (((ByteArray.size b):Int)+1) else c)=(if (((ByteArray.size b):Int)+1) < c then (((ByteArray.size b):Int)+1) else c)∧0≤(if (((ByteArray.size b):Int)+1) < c then (((ByteArray.size b):Int)+1) else c)∧(if (((ByteArray.size b):Int)+1) < c then (((ByteArray.size b):Int)+1) else c)≤1000000000)∧InR ((if (((ByteArray.size b):Int)+1) < c then (((ByteArray.size b):Int)+1) else c) - 1)∧I0 e d b ((if (((ByteArray.size b):Int)+1) < c then (((ByteArray.size b):Int)+1) else c) - 1) 0 (List.replicate (Int.toNat (if (((ByteArray.size b):Int)+1) < c then (((ByteArray.size b):Int)+1) else c)) ByteArray.empty))))
def S_qee (g b:ByteArray) (a h:Int) (k:LB→Prop):Prop:=G_qee g b a h k (fun b a e f c d=>∃ j,L0_qee b a k j e f c d)
def F_qee (s sep:ByteArray) (save n:Int) (k:List ByteArray→Prop):Prop:=
 save=0∧n=-1∧∃ a c,(BS a∧s=strOfNums a∧a.length≤100000000)∧((0≤c∧c≤255)∧sep=strOfNums [c])∧k ((splitB c a).map strOfNums)
theorem F_qee_S {s sep:ByteArray} {save n:Int} {k:List ByteArray→Prop} (h:F_qee s sep save n k):S_qee s sep save n k:=by
 obtain ⟨rfl,rfl,a,c,⟨hb,rfl,hl⟩,⟨hc,rfl⟩,hk⟩:=h
 have setL:∀ (dn:List (LI)) (m:Nat) (x:LI),List.set (dn.map strOfNums++List.replicate (m+1) ByteArray.empty) dn.length (strOfNums x)=(dn++[x]).map strOfNums++List.replicate m ByteArray.empty:=fun dn m x=>by
  rw [List.set_append_right _ _ (by rw [List.length_map]; omega),List.length_map,Nat.sub_self,List.replicate_succ,List.set_cons_zero,List.map_append,List.append_assoc]; rfl
 have fin:∀ (a':LI) (dn:List (LI)),dn.length≤100000000→(∀ x∈a',x≠c)→splitB c a=dn++splitB c a'→T0_qee_j0 (dn.length:Int) (strOfNums a') (dn.map strOfNums++List.replicate 1 ByteArray.empty) k:=by
  intro a' dn hd h0 he
  unfold T0_qee_j0
  rw [Int.toNat_natCast,setL,List.replicate_zero,List.append_nil]
  refine ⟨⟨by omega,by simp only [List.length_append,List.length_map,List.length_replicate]; omega⟩,inR (by omega) (by omega),⟨by omega,by simp only [List.length_append,List.length_map,List.length_singleton]; omega⟩,?_⟩
  rw [List.drop_zero,List.take_of_length_le (by simp only [List.length_append,List.length_map,List.length_singleton]; omega)]
  rw [splitB_none h0] at he
  rw [he] at hk
  exact hk
 have go:∀ (m:Nat) (a':LI) (dn:List (LI)),a'.count c=m→BS a'→a'.length≤100000000→dn.length+m≤100000000→splitB c a=dn++splitB c a'→
   L0_qee (strOfNums [c]) 0 k (m+1) (strOfNums a') ((dn.length+m:Nat):Int) (dn.length:Int) (dn.map strOfNums++List.replicate (m+1) ByteArray.empty):=by
  intro m
  induction m with
  | zero=>
   intro a' dn hm hb' hl' hd he
   rw [L0_qee,T0_qee]
   exact br_nd (by omega) (fin a' dn (by omega) (fun x hx e=>by subst e; exact List.not_mem_of_count_eq_zero hm hx) he)
  | succ m ih=>
   intro a' dn hm hb' hl' hd he
   rw [L0_qee,T0_qee]
   rcases findB_cases c a' with ⟨_,h0⟩ | ⟨u,v,hu,rfl,hf⟩
   ·rw [List.count_eq_zero_of_not_mem fun hx=>h0 c hx rfl] at hm; cases hm
   ·have hcv:v.count c=m:=by
     rw [List.count_append,List.count_cons_self,List.count_eq_zero_of_not_mem fun hx=>hu c hx rfl] at hm; omega
    have hlen:(u++c :: v).length=u.length+v.length+1:=by simp; omega
    rw [splitB_app hu] at he
    have hbv:BS v:=fun x hx=>hb' x (by simp [hx])
    refine br_yd (by omega) ⟨u++c :: v,c,⟨hb',rfl⟩,⟨hc,rfl⟩,?_⟩
    rw [hf]
    simp only [str_size,str_extract,List.length_singleton]
    refine br_nd (by omega) ⟨inR (by omega) (by omega),⟨by omega,by omega⟩,⟨by omega,by simp only [List.length_append,List.length_map,List.length_replicate]; omega⟩,inR (by omega) (by omega),⟨by omega,by omega⟩,inR (by omega) (by omega),?_⟩
    rw [show ((u.length:Int)+((1:Nat):Int)).toNat=u.length+1 by omega,show ((u.length:Int)+0).toNat=u.length by omega,Int.toNat_natCast,setL,List.take_length,
     show (u++c :: v).drop (u.length+1)=v by rw [List.drop_append,List.drop_eq_nil_of_le (by omega)]; simp,List.drop_zero,show (u++c :: v).take u.length=u by simp]
    have:=ih v (dn++[u]) hcv hbv (by omega) (by rw [List.length_append,List.length_singleton]; omega) (by rw [he,List.append_assoc]; rfl)
    rw [List.length_append,List.length_singleton] at this
    rw [show dn.length+(m+1)=dn.length+1+m by omega]
    exact this
 have hcl:a.count c≤a.length:=List.count_le_length
 have hlt:¬ ((a.length:Int)+1 < ((a.count c:Nat):Int)+1):=by omega
 unfold S_qee G_qee
 refine br_nd' (show (-1:Int)≠0 by omega) ?_
 rw [str_eq (BS.one hc) (b:=[]) (fun x hx=>by simp at hx)]
 refine br_nd (by simp) (br_yd (by omega) ⟨a,c,⟨hb,rfl⟩,⟨hc,rfl⟩,?_⟩)
 simp only [str_size,if_neg hlt]
 refine ⟨inR (by omega) (by omega),inR (by omega) (by omega),⟨trivial,by omega,by omega⟩,inR (by omega) (by omega),a.count c+1,?_⟩
 have:=go (a.count c) a [] rfl hb hl (by rw [List.length_nil]; omega) rfl
 rw [show (((a.count c:Nat):Int)+1).toNat=a.count c+1 by omega,show ((a.count c:Nat):Int)+1 - 1=((([]:List (LI)).length+a.count c:Nat):Int) by simp]
 exact this

def G_qec (c b:ByteArray) (k:LB→Prop):Prop:=F_qee c b (0:Int) (-1:Int) fun a=>k a
def S_qec (b a:ByteArray) (k:LB→Prop):Prop:=G_qec b a k
def F_qec (s sep:ByteArray) (k:List ByteArray→Prop):Prop:=
 ∃ a c,(BS a∧s=strOfNums a∧a.length≤100000000)∧((0≤c∧c≤255)∧sep=strOfNums [c])∧k ((splitB c a).map strOfNums)
theorem F_qec_S {s sep:ByteArray} {k:List ByteArray→Prop} (h:F_qec s sep k):S_qec s sep k:=by
 obtain ⟨a,c,ha,hc,hk⟩:=h
 exact ⟨rfl,rfl,a,c,ha,hc,hk⟩

def F_qdx (s:ByteArray) (k:Int→Value→Prop):Prop:=
 ∃ a,(BS a∧s=strOfNums a∧a.length≤1000000000)∧∀ (v:Int) (e:Value),InR v→ifV e=true→(nilV e=true→a.length≤4→-9999≤v∧v≤9999)→(∀ n:Int,NumB a n→nilV e=true∧v=n)→k v e

def F_qdy (n:Int) (k:ByteArray→Prop):Prop:=(-9999≤n∧n≤9999)∧k (strOfNums (decB n))

def G_qaj (c:ByteArray) (k:Int→Bool→Prop):Prop:=F_qdx c fun a b=>(ifV b=true)∧br (!nilV b) (k (-1) false) (br (decide (((ByteArray.size c):Int) > 4)) (k (-1) false) (F_qdy a fun d=>br (!(ByteArray.toList d==ByteArray.toList c)) (k (-1) false) (k a true)))
def S_qaj (a:ByteArray) (k:Int→Bool→Prop):Prop:=G_qaj a k
def F_qaj (s:ByteArray) (k:Int→Bool→Prop):Prop:=∃ a,(BS a∧s=strOfNums a∧a.length≤100000000)∧(∀ n,NumB a n→k n true)∧((¬ ∃ n,NumB a n)→k (-1) false)
theorem F_qaj_S {s:ByteArray} {k:Int→Bool→Prop} (h:F_qaj s k):S_qaj s k:=by
 obtain ⟨a,⟨hb,rfl,hl⟩,hyes,hno⟩:=h
 refine ⟨a,⟨hb,rfl,by omega⟩,fun v e hv hif hsm hnum=>⟨hif,?_⟩⟩
 have no:(∀ n,NumB a n→False)→k (-1) false:=fun h=>hno fun ⟨n,hn⟩=>h n hn
 cases hn:nilV e with
 | false=>exact br_nf (no fun n h=>by rw [(hnum n h).1] at hn; cases hn)
 | true=>
  refine br_nt ?_
  simp only [str_size]
  refine br_dec.2 ⟨fun c=>no fun n h=>by have:=h.2.2; omega,fun c=>?_⟩
  have hr:=hsm hn (by omega)
  refine ⟨hr,?_⟩
  dsimp only
  rw [str_eq (decB_BS v) hb]
  exact br_not.2 (br_dec.2 ⟨fun e2=>hyes v ⟨hr,e2,by omega⟩,fun e2=>no fun n h=>e2 (by rw [(hnum n h).2]; exact h.2.1)⟩)

def G_qbi (a:Int) (k:Bool→Prop):Prop:=br (decide ((-1000)≤a)) (k (decide (a≤1000))) (k false)
def S_qbi (a:Int) (k:Bool→Prop):Prop:=G_qbi a k
def F_qbi (n:Int) (k:Bool→Prop):Prop:=k (decide (-1000≤n∧n≤1000))
theorem F_qbi_S {n:Int} {k:Bool→Prop} (h:F_qbi n k):S_qbi n k:=by
 unfold F_qbi at h
 simp only [S_qbi,G_qbi,br_dec]
 refine ⟨fun h1=>?_,fun h1=>?_⟩
 ·simpa [h1] using h
 ·simpa [h1] using h

def T0_qbg (c:LI) (d a:Int) (k:Bool→Prop) (B0:Int→Prop):Prop:=br (decide (a < d)) ((0≤a∧a < (c.length:Int))∧F_qbi (List.getD c (Int.toNat a) (0:Int)) fun b=>br (!b) (k false) (InR (a+1)∧B0 (a+1))) (k true)
def L0_qbg (a:LI) (b:Int) (k:Bool→Prop):Nat→Int→Prop | 0,_=>False | n+1,c=>T0_qbg a b c k (L0_qbg a b k n)
def G_qbg (a:LI) (k:Bool→Prop) (I0:LI→Int→Int→Prop):Prop:=br ((a.length:Int) != 32) (k false) (I0 a (a.length:Int) 0)
def S_qbg (a:LI) (k:Bool→Prop):Prop:=G_qbg a k (fun a c b=>∃ j,L0_qbg a c k j b)
def F_qbg (s:LI) (k:Bool→Prop):Prop:=∀ b:Bool,(b=true↔VSt s)→k b
theorem F_qbg_S {s:LI} {k:Bool→Prop} (h:F_qbg s k):S_qbg s k:=by
 have hno:¬ VSt s→k false:=fun hv=>h false (by simp [hv])
 have key:s.length=32→∀ (r:LI) (i:Nat),s.drop i=r→(∀ x∈s.take i,-1000≤x∧x≤1000)→L0_qbg s (s.length:Int) k (r.length+1) (i:Int):=by
  intro hl r
  induction r with
  | nil=>
   intro i hd he
   have:=drop_nil' hd
   rw [List.take_of_length_le this] at he
   rw [L0_qbg,T0_qbg]
   exact br_nd (by omega) (h true (by simp only [true_iff]; exact ⟨hl,he⟩))
  | cons x r ih=>
   intro i hd he
   obtain ⟨h1,h2,h5,h3,h4⟩:=drop_cons' hd
   rw [List.length_cons,L0_qbg,T0_qbg]
   simp only [Int.toNat_natCast,h2]
   refine br_yd (by omega) ⟨⟨by omega,by omega⟩,br_not.2 (br_dec.2 ⟨fun hx=>⟨inR (by omega) (by omega),ih (i+1) h3 ?_⟩,fun hx=>hno fun v=>hx (v.2 x (List.mem_of_getElem? h5))⟩)⟩
   rw [h4]; intro y hy
   rcases List.mem_append.1 hy with hy | hy
   ·exact he y hy
   ·simp at hy; subst hy; exact hx
 refine br_bne.2 ⟨fun c=>hno fun v=>c (by have:=v.1; omega),fun c=>⟨_,key (by omega) s 0 rfl (by simp)⟩⟩

def T0_qaf (c:LT) (d a:Int) (b:LI) (k:LI→Prop) (B0:Int→LI→Prop):Prop:=br (decide (a < d)) ((0≤a∧a < (c.length:Int))∧(b.length+1≤1000000000)∧InR (a+1)∧B0 (a+1) (b++([(List.getD c (Int.toNat a) ((0:Int),(0:Int),false)).1]:LI))) (k b)
def L0_qaf (a:LT) (c:Int) (k:LI→Prop):Nat→Int→LI→Prop | 0,_,_=>False | n+1,d,b=>T0_qaf a c d b k (L0_qaf a c k n)
def G_qaf (a:LT) (I0:LT→Int→Int→LI→Prop):Prop:=I0 a (a.length:Int) 0 ([]:LI)
def S_qaf (a:LT) (k:LI→Prop):Prop:=G_qaf a (fun a c d b=>∃ j,L0_qaf a c k j d b)
def F_qaf (l:LT) (k:LI→Prop):Prop:=l.length≤1000000000∧k (l.map (·.1))
theorem F_qaf_S {l:LT} {k:LI→Prop} (h:F_qaf l k):S_qaf l k:=by
 obtain ⟨hl,hk⟩:=h
 have key:∀ (m i:Nat),i+m=l.length→L0_qaf l (l.length:Int) k (m+1) (i:Int) ((l.take i).map (·.1)):=by
  intro m
  induction m with
  | zero=>
   intro i hi
   rw [List.take_of_length_le (by omega),L0_qaf,T0_qaf]
   exact br_nd (by omega) hk
  | succ m ih=>
   intro i hi
   have next:=ih (i+1) (by omega)
   rw [takeL (by omega),List.map_append] at next
   rw [L0_qaf,T0_qaf]
   simp only [Int.toNat_natCast]
   exact br_yd (by omega) ⟨⟨by omega,by omega⟩,by rw [List.length_map,List.length_take]; omega,inR (by omega) (by omega),next⟩
 exact ⟨_,key l.length 0 (by omega)⟩

def G_qbf (a:Int) (k:Bool→Prop):Prop:=br (decide (1≤a)) (k (decide (a≤8))) (k false)
def S_qbf (a:Int) (k:Bool→Prop):Prop:=G_qbf a k
def F_qbf (n:Int) (k:Bool→Prop):Prop:=k (decide (1≤n∧n≤8))
theorem F_qbf_S {n:Int} {k:Bool→Prop} (h:F_qbf n k):S_qbf n k:=by
 unfold F_qbf at h
 simp only [S_qbf,G_qbf,br_dec]
 refine ⟨fun h1=>?_,fun h1=>?_⟩
 ·simpa [h1] using h
 ·simpa [h1] using h

def G_qbd (a:Int) (k:Bool→Prop):Prop:=br (decide (0≤a)) (k (decide (a≤31))) (k false)
def S_qbd (a:Int) (k:Bool→Prop):Prop:=G_qbd a k
def F_qbd (n:Int) (k:Bool→Prop):Prop:=k (decide (0≤n∧n≤31))
theorem F_qbd_S {n:Int} {k:Bool→Prop} (h:F_qbd n k):S_qbd n k:=by
 unfold F_qbd at h
 simp only [S_qbd,G_qbd,br_dec]
 refine ⟨fun h1=>?_,fun h1=>?_⟩
 ·simpa [h1] using h
 ·simpa [h1] using h

def T0_qby (b:LI) (d c a:Int) (k:Int→Prop) (B0:Int→Prop):Prop:=br (decide (a < c)) ((0≤a∧a < (b.length:Int))∧br (d==(List.getD b (Int.toNat a) (0:Int))) (k a) (InR (a+1)∧B0 (a+1))) (k (-1))
def L0_qby (b:LI) (c a:Int) (k:Int→Prop):Nat→Int→Prop | 0,_=>False | n+1,d=>T0_qby b c a d k (L0_qby b c a k n)
def G_qby (a:LI) (b:Int) (I0:LI→Int→Int→Int→Prop):Prop:=I0 a b (a.length:Int) 0
def S_qby (a:LI) (b:Int) (k:Int→Prop):Prop:=G_qby a b (fun a b c d=>∃ j,L0_qby a b c k j d)
def F_qby (l:LI) (n:Int) (k:Int→Prop):Prop:=l.length≤1000000000∧k (plc l n)
theorem F_qby_S {l:LI} {n:Int} {k:Int→Prop} (h:F_qby l n k):S_qby l n k:=by
 obtain ⟨hl,hk⟩:=h
 have key:∀ (r:LI) (i:Nat),l.drop i=r→plcF r n i=plc l n→L0_qby l n (l.length:Int) k (r.length+1) (i:Int):=by
  intro r
  induction r with
  | nil=>
   intro i hd he
   have:=drop_nil' hd
   rw [L0_qby,T0_qby]
   simp only [br_dec]
   exact ⟨fun h=>by omega,fun _=>by rw [show (-1:Int)=plc l n from he]; exact hk⟩
  | cons x r ih=>
   intro i hd he
   obtain ⟨h1,h2,_,h3,_⟩:=drop_cons' hd
   rw [List.length_cons,L0_qby,T0_qby]
   simp only [br_dec,br_beq,Int.toNat_natCast,h2]
   refine ⟨fun _=>⟨⟨by omega,by omega⟩,fun hx=>?_,fun hx=>⟨inR (by omega) (by omega),?_⟩⟩,fun h=>by omega⟩
   ·simp only [plcF,if_pos hx.symm] at he; rw [he]; exact hk
   ·simp only [plcF,if_neg (Ne.symm hx)] at he; exact ih (i+1) h3 he
 exact ⟨_,key l 0 rfl rfl⟩

def G_qbt (b:LI) (c:Int) (k:Bool→Prop):Prop:=F_qby b c fun a=>k (decide (a≥0))
def S_qbt (a:LI) (b:Int) (k:Bool→Prop):Prop:=G_qbt a b k
def F_qbt (l:LI) (n:Int) (k:Bool→Prop):Prop:=l.length≤1000000000∧k (decide (n∈l))
theorem F_qbt_S {l:LI} {n:Int} {k:Bool→Prop} (h:F_qbt l n k):S_qbt l n k:=by
 refine ⟨h.1,?_⟩
 have:decide (plc l n≥0)=decide (n∈l):=decide_eq_decide.2 plc_ge
 show k (decide (plc l n≥0))
 rw [this]; exact h.2

def T0_qac (b:LI) (e a:Int) (k:Bool→Prop) (B0:Int→Prop):Prop:=br (decide (a < e)) ((0≤a∧a < (b.length:Int))∧F_qbd (List.getD b (Int.toNat a) (0:Int)) fun c=>br (!c) (k false) ((0≤a∧a≤(b.length:Int))∧F_qbt (List.take (Int.toNat a) b) (List.getD b (Int.toNat a) (0:Int)) fun d=>br d (k false) (InR (a+1)∧B0 (a+1)))) (k true)
def L0_qac (a:LI) (b:Int) (k:Bool→Prop):Nat→Int→Prop | 0,_=>False | n+1,c=>T0_qac a b c k (L0_qac a b k n)
def G_qac (a:LI) (I0:LI→Int→Int→Prop):Prop:=I0 a (a.length:Int) 0
def S_qac (a:LI) (k:Bool→Prop):Prop:=G_qac a (fun a b c=>∃ j,L0_qac a b k j c)
def F_qac (l:LI) (k:Bool→Prop):Prop:=l.length≤1000000000∧∀ b:Bool,(b=true↔(∀ x∈l,0≤x∧x≤31)∧l.Nodup)→k b
theorem F_qac_S {l:LI} {k:Bool→Prop} (h:F_qac l k):S_qac l k:=by
 obtain ⟨hl,h⟩:=h
 have hno:¬ ((∀ x∈l,0≤x∧x≤31)∧l.Nodup)→k false:=fun hv=>h false (by simp only [Bool.false_eq_true,false_iff]; exact hv)
 have key:∀ (r:LI) (i:Nat),l.drop i=r→(∀ x∈l.take i,0≤x∧x≤31)→(l.take i).Nodup→L0_qac l (l.length:Int) k (r.length+1) (i:Int):=by
  intro r
  induction r with
  | nil=>
   intro i hd he hn
   have:=drop_nil' hd
   rw [List.take_of_length_le this] at he hn
   rw [L0_qac,T0_qac]
   simp only [br_dec]
   exact ⟨fun h=>by omega,fun _=>h true (by simp only [true_iff]; exact ⟨he,hn⟩)⟩
  | cons x r ih=>
   intro i hd he hn
   obtain ⟨h1,h2,h5,h3,h4⟩:=drop_cons' hd
   rw [List.length_cons,L0_qac,T0_qac]
   simp only [br_dec,F_qbd,F_qbt,Int.toNat_natCast,h2,br_not]
   have hxl:x∈l:=List.mem_of_getElem? h5
   refine ⟨fun _=>⟨⟨by omega,by omega⟩,fun hx=>⟨⟨by omega,by omega⟩,by simp; omega,fun hc=>?_,fun hc=>⟨inR (by omega) (by omega),?_⟩⟩,fun hx=>hno fun v=>hx (v.1 x hxl)⟩,fun h=>by omega⟩
   ·refine hno fun v=>?_
    have hn2:=v.2
    rw [← List.take_append_drop i l,hd] at hn2
    exact (List.nodup_append.1 hn2).2.2 x hc x (by simp) rfl
   ·refine ih (i+1) h3 ?_ ?_
    ·rw [h4]; intro y hy
     rcases List.mem_append.1 hy with hy | hy
     ·exact he y hy
     ·simp at hy; subst hy; exact hx
    ·rw [h4,List.nodup_append]
     refine ⟨hn,by simp,fun a ha b hb e=>?_⟩
     simp at hb; subst hb; subst e; exact hc ha
 exact ⟨_,key l 0 rfl (by simp) (by simp)⟩

def G_qx (c:LI) (d:Int) (k:Bool→Prop):Prop:=F_qbf d fun b=>br b (br (decide ((c.length:Int)≤d)) (F_qac c fun a=>k a) (k false)) (k false)
def S_qx (a:LI) (b:Int) (k:Bool→Prop):Prop:=G_qx a b k
def F_qx (l:LI) (room:Int) (k:Bool→Prop):Prop:=∀ b:Bool,(b=true↔VKeys l room)→k b
theorem F_qx_S {l:LI} {room:Int} {k:Bool→Prop} (h:F_qx l room k):S_qx l room k:=by
 have hno:¬ VKeys l room→k false:=fun hv=>h false (by simp [hv])
 refine br_dec.2 ⟨fun h1=>br_dec.2 ⟨fun h3=>⟨by omega,fun b hb=>h b ?_⟩,fun h3=>hno fun v=>by have:=v.2.2.1; omega⟩,fun h1=>hno fun v=>h1 ⟨v.1,v.2.1⟩⟩
 rw [hb]
 exact ⟨fun g=>⟨h1.1,h1.2,h3,g.1,g.2⟩,fun v=>v.2.2.2⟩

def T0_qz (a:LT) (f:Int) (d:LI) (e b:Int) (k:Bool→Prop) (B0:Int→Prop):Prop:=br (decide (b < e)) ((0≤b∧b < (a.length:Int))∧(F_qbi (List.getD a (Int.toNat b) ((0:Int),(0:Int),false)).2.1 fun c=>br (!c) (k false) (br (!(List.getD a (Int.toNat b) ((0:Int),(0:Int),false)).2.2) ((0≤(List.getD a (Int.toNat b) ((0:Int),(0:Int),false)).1∧(List.getD a (Int.toNat b) ((0:Int),(0:Int),false)).1 < (d.length:Int))∧br ((List.getD a (Int.toNat b) ((0:Int),(0:Int),false)).2.1 != (List.getD d (Int.toNat (List.getD a (Int.toNat b) ((0:Int),(0:Int),false)).1) (0:Int))) (k false) (InR (b+1)∧B0 (b+1))) (InR (b+1)∧B0 (b+1))))∧(True)) (k true)
def U0_qz (a:LT) (f:Int) (d:LI) (e b:Int) (k:Bool→Prop) (B0:Int→Prop):Prop:=br (decide (b < e)) ((0≤b∧b < (a.length:Int))∧F_qbi (List.getD a (Int.toNat b) ((0:Int),(0:Int),false)).2.1 fun c=>br (!c) (k false) (br (!(List.getD a (Int.toNat b) ((0:Int),(0:Int),false)).2.2) ((0≤(List.getD a (Int.toNat b) ((0:Int),(0:Int),false)).1∧(List.getD a (Int.toNat b) ((0:Int),(0:Int),false)).1 < (d.length:Int))∧br ((List.getD a (Int.toNat b) ((0:Int),(0:Int),false)).2.1 != (List.getD d (Int.toNat (List.getD a (Int.toNat b) ((0:Int),(0:Int),false)).1) (0:Int))) (k false) (InR (b+1)∧B0 (b+1))) (InR (b+1)∧B0 (b+1)))) (k true)
theorem T0_qz_eq (a:LT) (c:Int) (b:LI) (d e:Int) (k:Bool→Prop) (B0:Int→Prop):T0_qz a c b d e k B0=U0_qz a c b d e k B0:=by
 first
 | (simp only [T0_qz,U0_qz,and_self,and_true]; done)
 | (simp only [T0_qz,U0_qz,and_self,and_true,and_self_left,and_assoc]; refine propext ⟨fun h=>?_,fun h=>?_⟩ <;> (repeat (cases ‹_∧_›)) <;> (repeat' (apply And.intro)) <;> assumption)
def L0_qz (a:LT) (c:Int) (b:LI) (d:Int) (k:Bool→Prop):Nat→Int→Prop | 0,_=>False | n+1,e=>U0_qz a c b d e k (L0_qz a c b d k n)
def G_qz (d:LI) (a:LT) (f:Int) (k:Bool→Prop) (I0:LT→Int→LI→Int→Int→Prop):Prop:=(F_qbg d fun b=>br (!b) (((k false)∧(True))∧(True)) ((F_qaf a fun e=>(F_qx e f fun c=>br (!c) (k false) (I0 a f d (a.length:Int) 0))∧(True))∧(True)))∧(True)
def H_qz (d:LI) (a:LT) (f:Int) (k:Bool→Prop) (I0:LT→Int→LI→Int→Int→Prop):Prop:=F_qbg d fun b=>br (!b) (k false) (F_qaf a fun e=>F_qx e f fun c=>br (!c) (k false) (I0 a f d (a.length:Int) 0))
theorem G_qz_eq (a:LI) (b:LT) (c:Int) (k:Bool→Prop) (I0:LT→Int→LI→Int→Int→Prop):G_qz a b c k I0=H_qz a b c k I0:=by
 first
 | (simp only [G_qz,H_qz,and_self,and_true]; done)
 | (simp only [G_qz,H_qz,and_self,and_true,and_self_left,and_assoc]; refine propext ⟨fun h=>?_,fun h=>?_⟩ <;> (repeat (cases ‹_∧_›)) <;> (repeat' (apply And.intro)) <;> assumption)
def S_qz (a:LI) (b:LT) (c:Int) (k:Bool→Prop):Prop:=H_qz a b c k (fun b c a d e=>∃ j,L0_qz b c a d k j e)
def F_qz (s:LI) (l:LT) (room:Int) (k:Bool→Prop):Prop:=
 (s.length≤1000000000∧l.length≤1000000000)∧∀ b:Bool,(b=true↔VMem s l room)→k b
theorem F_qz_S {s:LI} {l:LT} {room:Int} {k:Bool→Prop} (h:F_qz s l room k):S_qz s l room k:=by
 obtain ⟨⟨h1,h2⟩,h⟩:=h
 have no:¬ VMem s l room→k false:=fun hv=>h false (by simp [hv])
 refine fun b hb=>br_not.2 (br_iff.2 ⟨fun e=>⟨h2,fun c hc=>br_not.2 (br_iff.2 ⟨fun e2=>?_,fun e2=>no fun v=>?_⟩)⟩,fun e=>no fun v=>by rw [hb.2 v.1] at e; cases e⟩)
 ·have hs:=hb.1 e
  have vk:=hc.1 e2
  have hk:∀ x∈l,0≤x.1∧x.1≤31:=fun x hx=>vk.2.2.2.1 x.1 (List.mem_map_of_mem (f:=(·.1)) hx)
  have hlen:(l.length:Int)≤room:=by have:=vk.2.2.1; rwa [List.length_map] at this
  have hsl:=hs.1
  have key:∀ (m i:Nat),i+m=l.length→((∀ x∈l.take i,-1000≤x.2.1∧x.2.1≤1000)∧Clean s (l.take i))→L0_qz l room s (l.length:Int) k (m+1) (i:Int):=by
   intro m
   induction m with
   | zero=>
    intro i hi hp
    rw [List.take_of_length_le (by omega)] at hp
    rw [L0_qz,U0_qz]
    exact br_nd (by omega) (h true (by simp only [true_iff]; exact ⟨hs,⟨⟨fun x hx=>⟨hk x hx,hp.1 x hx⟩,vk.2.2.2.2⟩,⟨vk.1,vk.2.1⟩,hlen⟩,hp.2⟩))
   | succ m ih=>
    intro i hi hp
    have hm:l.getD i ((0:Int),(0:Int),false)∈l:=getL_mem (by omega)
    have hb:=hk _ hm
    rw [L0_qz,U0_qz]
    simp only [Int.toNat_natCast]
    refine br_yd (by omega) ⟨⟨by omega,by omega⟩,br_not.2 (br_dec.2 ⟨fun r1=>?_,fun r1=>no fun v=>r1 (v.2.1.1.1 _ hm).2⟩)⟩
    have next:((l.getD i ((0:Int),(0:Int),false)).2.2=false→(l.getD i ((0:Int),(0:Int),false)).2.1=s.getD (l.getD i ((0:Int),(0:Int),false)).1.toNat 0)→L0_qz l room s (l.length:Int) k (m+1) ((i:Int)+1):=fun g=>ih (i+1) (by omega) (by
     rw [takeL (by omega)]
     refine ⟨fun x hx=>?_,fun x hx hd=>?_⟩
     ·rcases List.mem_append.1 hx with c | c
      ·exact hp.1 x c
      ·rw [List.mem_singleton.1 c]; exact r1
     ·rcases List.mem_append.1 hx with c | c
      ·exact hp.2 x c hd
      ·rw [List.mem_singleton.1 c] at hd ⊢; exact g hd)
    exact br_not.2 (br_iff.2 ⟨fun e=>⟨inR (by omega) (by omega),next fun c=>by rw [e] at c; cases c⟩,fun e=>⟨⟨by omega,by omega⟩,br_bne.2 ⟨fun g=>no fun v=>g (v.2.2 _ hm e),fun g=>⟨inR (by omega) (by omega),next fun _=>g⟩⟩⟩⟩)
  exact ⟨_,key l.length 0 (by omega) ⟨by simp,by intro e he; simp at he⟩⟩
 ·have g:=v.2.1
  rw [hc.2 ⟨g.2.1.1,g.2.1.2,by rw [List.length_map]; exact g.2.2,fun x hx=>by obtain ⟨y,hy,rfl⟩:=List.mem_map.1 hx; exact (g.1.1 y hy).1,g.1.2⟩] at e2
  cases e2

def T0_qag (c:Int) (a:LT) (e:Int) (d:LI) (f b:Int) (k:Int→Int→Bool→Prop) (B0:Int→Prop):Prop:=br (decide (b < f)) ((0≤b∧b < (a.length:Int))∧br ((List.getD a (Int.toNat b) ((0:Int),(0:Int),false)).1==c) (k (List.getD a (Int.toNat b) ((0:Int),(0:Int),false)).1 (List.getD a (Int.toNat b) ((0:Int),(0:Int),false)).2.1 (List.getD a (Int.toNat b) ((0:Int),(0:Int),false)).2.2) (InR (b+1)∧B0 (b+1))) ((0≤c∧c < (d.length:Int))∧k c (List.getD d (Int.toNat c) (0:Int)) false)
def L0_qag (d:Int) (a:LT) (c:Int) (b:LI) (e:Int) (k:Int→Int→Bool→Prop):Nat→Int→Prop | 0,_=>False | n+1,f=>T0_qag d a c b e f k (L0_qag d a c b e k n)
def G_qag (b:LI) (a:LT) (c d:Int) (I0:Int→LT→Int→LI→Int→Int→Prop):Prop:=I0 d a c b (a.length:Int) 0
def S_qag (a:LI) (b:LT) (c d:Int) (k:Int→Int→Bool→Prop):Prop:=G_qag a b c d (fun d b c a f e=>∃ j,L0_qag d b c a f k j e)
def F_qag (s:LI) (l:LT) (room key:Int) (k:Int→Int→Bool→Prop):Prop:=
 (s.length=32∧l.length≤1000000000∧0≤key∧key≤31)∧k (lnM s l key).1 (lnM s l key).2.1 (lnM s l key).2.2
theorem F_qag_S {s:LI} {l:LT} {room key:Int} {k:Int→Int→Bool→Prop} (h:F_qag s l room key k):S_qag s l room key k:=by
 obtain ⟨⟨hs,hl,hk1,hk2⟩,hk⟩:=h
 have go:∀ (r:LT) (i:Nat),l.drop i=r→k (lnM s r key).1 (lnM s r key).2.1 (lnM s r key).2.2→L0_qag key l room s (l.length:Int) k (r.length+1) (i:Int):=by
  intro r
  induction r with
  | nil=>
   intro i hd hk
   have hi:l.length≤i:=List.drop_eq_nil_iff.1 hd
   rw [L0_qag,T0_qag]
   exact br_nd (by omega) ⟨⟨by omega,by omega⟩,hk⟩
  | cons x r ih=>
   intro i hd hk
   have hi:i < l.length:=Nat.lt_of_not_le fun c=>by rw [List.drop_eq_nil_of_le c] at hd; cases hd
   rw [dropL hi] at hd
   injection hd with h1 h2
   rw [List.length_cons,L0_qag,T0_qag]
   simp only [Int.toNat_natCast]
   rw [h1]
   rw [lnM] at hk
   refine br_yd (by omega) ⟨⟨by omega,by omega⟩,br_beq.2 ⟨fun g=>?_,fun g=>⟨inR (by omega) (by omega),ih (i+1) h2 ?_⟩⟩⟩
   ·rw [if_pos g] at hk; exact hk
   ·rw [if_neg g] at hk; exact hk
 exact ⟨_,go l 0 rfl hk⟩

def G_qbp (b:LI) (k:LI→Prop):Prop:=∀ (a:Bool),(a=true→b.length=0)→br a (k ([]:LI)) ((0+b.length≤1000000000)∧k b)
def S_qbp (a:LI) (k:LI→Prop):Prop:=G_qbp a k
def F_qbp (l:LI) (k:LI→Prop):Prop:=l.length≤1000000000∧k l
theorem F_qbp_S {l:LI} {k:LI→Prop} (h:F_qbp l k):S_qbp l k:=by
 intro b hb
 refine br_iff.2 ⟨fun e=>?_,fun e=>⟨by have:=h.1; omega,h.2⟩⟩
 have:=List.eq_nil_of_length_eq_zero (hb e)
 subst this
 exact h.2

def T0_qbj (e:LI) (h:Bool) (f i:Int) (d:LT) (b g c:Int) (a:LT) (k:LI→LT→Int→Prop) (B0:Int→Int→LT→Prop):Prop:=br (decide (c < g)) ((0≤c∧c < (d.length:Int))∧br ((List.getD d (Int.toNat c) ((0:Int),(0:Int),false)).1 != f) ((a.length+1≤1000000000)∧InR (c+1)∧B0 g (c+1) (a++([((List.getD d (Int.toNat c) ((0:Int),(0:Int),false)).1,(List.getD d (Int.toNat c) ((0:Int),(0:Int),false)).2.1,(List.getD d (Int.toNat c) ((0:Int),(0:Int),false)).2.2)]:LT))) (InR (c+1)∧B0 g (c+1) a)) (br (decide ((a.length:Int) > b)) ((0≤b∧b < (a.length:Int))∧(0≤(List.getD a (Int.toNat b) ((0:Int),(0:Int),false)).1∧(List.getD a (Int.toNat b) ((0:Int),(0:Int),false)).1 < (e.length:Int))∧InR ((a.length:Int) - 1)∧(0≤((a.length:Int) - 1)∧((a.length:Int) - 1)≤(a.length:Int))∧k (List.set e (Int.toNat (List.getD a (Int.toNat b) ((0:Int),(0:Int),false)).1) (List.getD a (Int.toNat b) ((0:Int),(0:Int),false)).2.1) (List.take (Int.toNat ((a.length:Int) - 1)) (List.drop 0 a)) b) (k e a b))
def L0_qbj (d:LI) (a:Bool) (c b:Int) (e:LT) (f:Int) (k:LI→LT→Int→Prop):Nat→Int→Int→LT→Prop | 0,_,_,_=>False | n+1,h,i,g=>T0_qbj d a c b e f h i g k (L0_qbj d a c b e f k n)
def G_qbj_j0 (e:LI) (a:Bool) (c b:Int) (d:LT) (f:Int) (I0:LI→Bool→Int→Int→LT→Int→Int→Int→LT→Prop):Prop:=(I0 e a c b d f (d.length:Int) 0 ([(c,b,a)]:LT))∧(True)
def G_qbj_j1 (d:LI) (a:Bool) (c b:Int) (e:LT) (f:Int) (I0:LI→Bool→Int→Int→LT→Int→Int→Int→LT→Prop):Prop:=(G_qbj_j0 d a c b e f I0)∧(True)
def G_qbj_j2 (a:Bool) (d b:Int) (e:LT) (g:Int) (f:LI) (I0:LI→Bool→Int→Int→LT→Int→Int→Int→LT→Prop):Prop:=(F_qbp f fun c=>G_qbj_j1 c a d b e g I0)∧(((F_qbp f fun c=>G_qbj_j0 c a d b e g I0)∧(True))∧(True))
def G_qbj (f:LI) (d:LT) (e c a:Int) (b:Bool) (I0:LI→Bool→Int→Int→LT→Int→Int→Int→LT→Prop):Prop:=(F_qbp f fun g=>(G_qbj_j1 g b c a d e I0)∧((G_qbj_j1 g b c a d e I0)∧(True)))∧((G_qbj_j2 b c a d e f I0)∧((G_qbj_j2 b c a d e f I0)∧(True)))
def H_qbj (e:LI) (d:LT) (g c a:Int) (b:Bool) (I0:LI→Bool→Int→Int→LT→Int→Int→Int→LT→Prop):Prop:=F_qbp e fun f=>I0 f b c a d g (d.length:Int) 0 ([(c,a,b)]:LT)
theorem G_qbj_eq (d:LI) (e:LT) (f c a:Int) (b:Bool) (I0:LI→Bool→Int→Int→LT→Int→Int→Int→LT→Prop):G_qbj d e f c a b I0=H_qbj d e f c a b I0:=by
 first
 | (simp only [G_qbj,H_qbj,G_qbj_j0,G_qbj_j1,G_qbj_j2,and_self,and_true]; done)
 | (simp only [G_qbj,H_qbj,G_qbj_j0,G_qbj_j1,G_qbj_j2,and_self,and_true,and_self_left,and_assoc]; refine propext ⟨fun h=>?_,fun h=>?_⟩ <;> (repeat (cases ‹_∧_›)) <;> (repeat' (apply And.intro)) <;> assumption)
def S_qbj (f:LI) (d:LT) (e c a:Int) (b:Bool) (k:LI→LT→Int→Prop):Prop:=H_qbj f d e c a b (fun g b c a d e i l h=>∃ j,L0_qbj g b c a d e k j i l h)
def F_qbj (s:LI) (l:LT) (room key value:Int) (dirty:Bool) (k:LI→LT→Int→Prop):Prop:=
 (VMem s l room∧0≤key∧key≤31)∧k (accS s l room key) ((key,value,dirty) :: accR l room key) room
theorem F_qbj_S {s:LI} {l:LT} {room key value:Int} {dirty:Bool} {k:LI→LT→Int→Prop} (h:F_qbj s l room key value dirty k):S_qbj s l room key value dirty k:=by
 obtain ⟨⟨v,hk1,hk2⟩,hk⟩:=h
 have hl:=v.len
 have hv:=v.2.1.2
 have go:∀ (m i:Nat),i+m=l.length→L0_qbj s dirty key value l room k (m+1) (l.length:Int) (i:Int) ((key,value,dirty) :: othL (l.take i) key):=by
  intro m
  induction m with
  | zero=>
   intro i hi
   have ho:=othL_len l key
   rw [List.take_of_length_le (by omega),L0_qbj,T0_qbj]
   refine br_nd (by omega) ?_
   simp only [List.length_cons]
   unfold accS accR at hk
   refine br_dec.2 ⟨fun g=>?_,fun g=>?_⟩
   ·have hf:((othL l key).length:Int)=room:=by omega
    rw [if_pos hf,if_pos hf] at hk
    have hg:((key,value,dirty) :: othL l key).getD room.toNat ((0:Int),(0:Int),false)=lastL (othL l key):=by
     unfold lastL
     rw [show room.toNat=((othL l key).length - 1)+1 by omega,List.getD_cons_succ]
    have hm:=(v.2.1.1.1 _ (othL_mem.1 (lastL_mem (l:=othL l key) (by omega))).1).1
    rw [hg]
    refine ⟨⟨by omega,by omega⟩,⟨by omega,by omega⟩,inR (by omega) (by omega),⟨by omega,by omega⟩,?_⟩
    rw [show (((((othL l key).length+1:Nat):Int)) - 1).toNat=((othL l key).length - 1)+1 by omega,List.drop_zero,List.take_succ_cons]
    exact hk
   ·rw [if_neg (by omega),if_neg (by omega)] at hk
    exact hk
  | succ m ih=>
   intro i hi
   have next:=ih (i+1) (by omega)
   have ho:=othL_len (l.take i) key
   rw [List.length_take] at ho
   rw [takeL (by omega),othL,List.filter_append] at next
   rw [L0_qbj,T0_qbj]
   simp only [Int.toNat_natCast]
   refine br_yd (by omega) ⟨⟨by omega,by omega⟩,br_bne.2 ⟨fun g=>⟨by rw [List.length_cons]; omega,inR (by omega) (by omega),?_⟩,fun g=>⟨inR (by omega) (by omega),?_⟩⟩⟩
   ·rw [List.filter_cons_of_pos (by simpa using g),List.filter_nil] at next
    exact next
   ·rw [List.filter_cons_of_neg (by simpa using g),List.filter_nil,List.append_nil] at next
    exact next
 exact ⟨by omega,_,go l.length 0 (by omega)⟩

def G_qj (e:LI) (f:LT) (h m:Int) (k:LI→LT→Int→Int→Bool→Prop):Prop:=F_qz e f h fun i=>br (!i) (k ([]:LI) ([]:LT) 0 0 false) (F_qbd m fun l=>br (!l) (k ([]:LI) ([]:LT) 0 0 false) (F_qag e f h m fun j c g=>(F_qbj e f h j c g fun a b d=>(k a b d c true)∧(True))∧(True)))
def H_qj (e:LI) (f:LT) (h m:Int) (k:LI→LT→Int→Int→Bool→Prop):Prop:=F_qz e f h fun i=>br (!i) (k ([]:LI) ([]:LT) 0 0 false) (F_qbd m fun l=>br (!l) (k ([]:LI) ([]:LT) 0 0 false) (F_qag e f h m fun j c g=>F_qbj e f h j c g fun a b d=>k a b d c true))
theorem G_qj_eq (a:LI) (b:LT) (c d:Int) (k:LI→LT→Int→Int→Bool→Prop):G_qj a b c d k=H_qj a b c d k:=by
 first
 | (simp only [G_qj,H_qj,and_self,and_true]; done)
 | (simp only [G_qj,H_qj,and_self,and_true,and_self_left,and_assoc]; refine propext ⟨fun h=>?_,fun h=>?_⟩ <;> (repeat (cases ‹_∧_›)) <;> (repeat' (apply And.intro)) <;> assumption)
def S_qj (a:LI) (b:LT) (c d:Int) (k:LI→LT→Int→Int→Bool→Prop):Prop:=H_qj a b c d k
def F_qj (s:LI) (l:LT) (room key:Int) (k:LI→LT→Int→Int→Bool→Prop):Prop:=
 (s.length≤1000000000∧l.length≤1000000000)∧(VMem s l room∧0≤key∧key≤31→k (accS s l room key) (readM s l room key) room (valM s l key) true)∧(¬ (VMem s l room∧0≤key∧key≤31)→k [] [] 0 0 false)
theorem F_qj_S {s:LI} {l:LT} {room key:Int} {k:LI→LT→Int→Int→Bool→Prop} (h:F_qj s l room key k):S_qj s l room key k:=by
 obtain ⟨hl,hyes,hno⟩:=h
 refine ⟨hl,fun b hb=>br_not.2 (br_iff.2 ⟨fun e=>br_not.2 (br_dec.2 ⟨fun g=>?_,fun g=>hno fun v=>g v.2⟩),fun e=>hno fun v=>by rw [hb.2 v.1] at e; cases e⟩)⟩
 have v:=hb.1 e
 have hlen:=v.len
 have e1:=lnM_key s l key
 have hy:=hyes ⟨v,g⟩
 unfold readM valM at hy
 refine ⟨⟨by omega,by omega,g⟩,?_⟩
 generalize lnM s l key=x at *
 subst e1
 exact ⟨⟨v,g⟩,hy⟩

def G_qab (f:LI) (g:LT) (i l j:Int) (k:LI→LT→Int→Bool→Prop):Prop:=F_qz f g i fun d=>br (!d) (k ([]:LI) ([]:LT) 0 false) (F_qbd l fun h=>br (!h) (k ([]:LI) ([]:LT) 0 false) (F_qbi j fun e=>br (!e) (k ([]:LI) ([]:LT) 0 false) (F_qbj f g i l j true fun a b c=>k a b c true)))
def S_qab (a:LI) (b:LT) (c e d:Int) (k:LI→LT→Int→Bool→Prop):Prop:=G_qab a b c e d k
def F_qab (s:LI) (l:LT) (room key value:Int) (k:LI→LT→Int→Bool→Prop):Prop:=
 (s.length≤1000000000∧l.length≤1000000000)∧(VMem s l room∧(0≤key∧key≤31)∧-1000≤value∧value≤1000→k (accS s l room key) (wrtM l room key value) room true)∧(¬ (VMem s l room∧(0≤key∧key≤31)∧-1000≤value∧value≤1000)→k [] [] 0 false)
theorem F_qab_S {s:LI} {l:LT} {room key value:Int} {k:LI→LT→Int→Bool→Prop} (h:F_qab s l room key value k):S_qab s l room key value k:=by
 obtain ⟨hl,hyes,hno⟩:=h
 refine ⟨hl,fun b hb=>br_not.2 (br_iff.2 ⟨fun e=>br_not.2 (br_dec.2 ⟨fun g=>br_not.2 (br_dec.2 ⟨fun g2=>?_,fun g2=>hno fun v=>g2 v.2.2⟩),fun g=>hno fun v=>g v.2.1⟩),fun e=>hno fun v=>by rw [hb.2 v.1] at e; cases e⟩)⟩
 have v:=hb.1 e
 exact ⟨⟨v,g⟩,hyes ⟨v,g,g2⟩⟩

def T0_qaa (c:LI) (d a:Int) (k:Bool→Prop) (B0:Int→Prop):Prop:=br (decide (a < d)) ((0≤a∧a < (c.length:Int))∧F_qbd (List.getD c (Int.toNat a) (0:Int)) fun b=>br (!b) (k false) (InR (a+1)∧B0 (a+1))) (k true)
def L0_qaa (c:LI) (a:Int) (k:Bool→Prop):Nat→Int→Prop | 0,_=>False | n+1,b=>T0_qaa c a b k (L0_qaa c a k n)
def G_qaa (a:LI) (k:Bool→Prop) (I0:LI→Int→Int→Prop):Prop:=br (decide ((a.length:Int) > 24)) (k false) (I0 a (a.length:Int) 0)
def S_qaa (a:LI) (k:Bool→Prop):Prop:=G_qaa a k (fun a c b=>∃ j,L0_qaa a c k j b)
def F_qaa (t:LI) (k:Bool→Prop):Prop:=∀ b:Bool,(b=true↔VTrace t)→k b
theorem F_qaa_S {t:LI} {k:Bool→Prop} (h:F_qaa t k):S_qaa t k:=by
 have hno:¬ VTrace t→k false:=fun hv=>h false (by simp [hv])
 have key:t.length≤24→∀ (r:LI) (i:Nat),t.drop i=r→(∀ x∈t.take i,0≤x∧x≤31)→L0_qaa t (t.length:Int) k (r.length+1) (i:Int):=by
  intro hl r
  induction r with
  | nil=>
   intro i hd he
   have:=drop_nil' hd
   rw [List.take_of_length_le this] at he
   rw [L0_qaa,T0_qaa]
   simp only [br_dec]
   exact ⟨fun h=>by omega,fun _=>h true (by simp only [true_iff]; exact ⟨hl,he⟩)⟩
  | cons x r ih=>
   intro i hd he
   obtain ⟨h1,h2,h5,h3,h4⟩:=drop_cons' hd
   rw [List.length_cons,L0_qaa,T0_qaa]
   simp only [br_dec,F_qbd,Int.toNat_natCast,h2,br_not]
   refine ⟨fun _=>⟨⟨by omega,by omega⟩,fun hx=>⟨inR (by omega) (by omega),ih (i+1) h3 ?_⟩,fun hx=>hno fun v=>hx (v.2 x (List.mem_of_getElem? h5))⟩,fun h=>by omega⟩
   rw [h4]; intro y hy
   rcases List.mem_append.1 hy with hy | hy
   ·exact he y hy
   ·simp at hy; subst hy; exact hx
 exact br_dec.2 ⟨fun h3=>hno fun v=>by have:=v.1; omega,fun h3=>⟨_,key (by omega) t 0 rfl (by simp)⟩⟩

def T0_qbk (d:Int) (c:LI) (e a:Int) (b:LI) (k:LI→Prop) (B0:Int→LI→Prop):Prop:=br (decide (a < e)) ((0≤a∧a < (c.length:Int))∧br ((List.getD c (Int.toNat a) (0:Int)) != d) ((b.length+1≤1000000000)∧InR (a+1)∧B0 (a+1) (b++([(List.getD c (Int.toNat a) (0:Int))]:LI))) (InR (a+1)∧B0 (a+1) b)) (k b)
def L0_qbk (b:Int) (a:LI) (c:Int) (k:LI→Prop):Nat→Int→LI→Prop | 0,_,_=>False | n+1,e,d=>T0_qbk b a c e d k (L0_qbk b a c k n)
def G_qbk (a:LI) (b:Int) (I0:Int→LI→Int→Int→LI→Prop):Prop:=I0 b a (a.length:Int) 0 ([]:LI)
def S_qbk (a:LI) (b:Int) (k:LI→Prop):Prop:=G_qbk a b (fun b a d e c=>∃ j,L0_qbk b a d k j e c)
def F_qbk (l:LI) (key:Int) (k:LI→Prop):Prop:=l.length≤1000000000∧k (rmK l key)
theorem F_qbk_S {l:LI} {key:Int} {k:LI→Prop} (h:F_qbk l key k):S_qbk l key k:=by
 obtain ⟨hl,hk⟩:=h
 have key1:∀ (r:LI) (i:Nat) (out:LI),l.drop i=r→out.length≤i→out++rmK r key=rmK l key→L0_qbk key l (l.length:Int) k (r.length+1) (i:Int) out:=by
  intro r
  induction r with
  | nil=>
   intro i out hd ho he
   have:=drop_nil' hd
   rw [L0_qbk,T0_qbk]
   simp only [br_dec]
   refine ⟨fun h=>by omega,fun _=>?_⟩
   have:out=rmK l key:=by simpa [rmK] using he
   rw [this]; exact hk
  | cons x r ih=>
   intro i out hd ho he
   obtain ⟨h1,h2,_,h3,_⟩:=drop_cons' hd
   rw [List.length_cons,L0_qbk,T0_qbk]
   simp only [br_dec,br_bne,Int.toNat_natCast,h2]
   refine ⟨fun _=>⟨⟨by omega,by omega⟩,fun hx=>⟨by omega,inR (by omega) (by omega),?_⟩,fun hx=>⟨inR (by omega) (by omega),?_⟩⟩,fun h=>by omega⟩
   ·exact ih (i+1) (out++[x]) h3 (by simp; omega) (by rw [← he,rmK_cons_ne hx]; simp)
   ·exact ih (i+1) out h3 (by omega) (by rw [← he,hx,rmK_cons_eq])
 exact ⟨_,key1 l 0 [] rfl (by simp) rfl⟩

def G_qal (a:LI) (b:Int) (k:LI→Prop):Prop:=(1+a.length≤1000000000)∧k (([b]:LI)++a)
def S_qal (a:LI) (b:Int) (k:LI→Prop):Prop:=G_qal a b k
def F_qal (l:LI) (x:Int) (k:LI→Prop):Prop:=l.length≤999999999∧k (x :: l)
theorem F_qal_S {l:LI} {x:Int} {k:LI→Prop} (h:F_qal l x k):S_qal l x k:=⟨by have:=h.1; omega,h.2⟩

def G_qu (e:LI) (b f:Int) (k:LI→Bool→Prop):Prop:=F_qx e b fun d=>br (!d) (k ([]:LI) false) (F_qbd f fun g=>br (!g) (k ([]:LI) false) (F_qbk e f fun c=>F_qal c f fun a=>(0≤(if b < (a.length:Int) then b else (a.length:Int))∧(if b < (a.length:Int) then b else (a.length:Int))≤(a.length:Int))∧(F_qbt e f fun h=>k (List.take (Int.toNat (if b < (a.length:Int) then b else (a.length:Int))) (List.drop 0 a)) h)∧(True)))
def H_qu (e:LI) (b f:Int) (k:LI→Bool→Prop):Prop:=F_qx e b fun d=>br (!d) (k ([]:LI) false) (F_qbd f fun g=>br (!g) (k ([]:LI) false) (F_qbk e f fun c=>F_qal c f fun a=>(0≤(if b < (a.length:Int) then b else (a.length:Int))∧(if b < (a.length:Int) then b else (a.length:Int))≤(a.length:Int))∧F_qbt e f fun h=>k (List.take (Int.toNat (if b < (a.length:Int) then b else (a.length:Int))) (List.drop 0 a)) h))
theorem G_qu_eq (a:LI) (b c:Int) (k:LI→Bool→Prop):G_qu a b c k=H_qu a b c k:=by
 first
 | (simp only [G_qu,H_qu,and_self,and_true]; done)
 | (simp only [G_qu,H_qu,and_self,and_true,and_self_left,and_assoc]; refine propext ⟨fun h=>?_,fun h=>?_⟩ <;> (repeat (cases ‹_∧_›)) <;> (repeat' (apply And.intro)) <;> assumption)
def S_qu (a:LI) (b c:Int) (k:LI→Bool→Prop):Prop:=H_qu a b c k
def F_qu (l:LI) (room key:Int) (k:LI→Bool→Prop):Prop:=
 (VKeys l room∧0≤key∧key≤31→k (recM l room key) (decide (key∈l)))∧(¬ (VKeys l room∧0≤key∧key≤31)→k [] false)
theorem F_qu_S {l:LI} {room key:Int} {k:LI→Bool→Prop} (h:F_qu l room key k):S_qu l room key k:=by
 obtain ⟨hyes,hno⟩:=h
 intro b hb
 refine br_not.2 (br_iff.2 ⟨fun e=>br_not.2 (br_dec.2 ⟨fun hkey=>?_,fun hkey=>hno fun w=>hkey w.2⟩),fun e=>hno fun w=>by rw [hb.2 w.1] at e; cases e⟩)
 have v:=hb.1 e
 have hk:=hyes ⟨v,hkey⟩
 obtain ⟨v1,v2,v3,v4,v5⟩:=v
 have:=@rmK_le l key
 refine ⟨by omega,by omega,⟨?_,?_⟩,by omega,?_⟩
 ·split <;> omega
 ·split <;> omega
 ·show k (List.take (if room < (([key]++rmK l key).length:Int) then room else (([key]++rmK l key).length:Int)).toNat ([key]++rmK l key)) (decide (key∈l))
  rw [take_min2]; exact hk

def G_qar (c:LI) (d e:Int) (k:LI→Bool→Prop):Prop:=F_qu c e d fun a b=>k a b
def S_qar (a:LI) (b c:Int) (k:LI→Bool→Prop):Prop:=G_qar a b c k
abbrev F_qar (list0:LI) (key1:Int) (cap1:Int) (k:LI→Bool→Prop):Prop:=S_qar list0 key1 cap1 k
theorem F_qar_S {list0:LI} {key1:Int} {cap1:Int} {k:LI→Bool→Prop} (h:F_qar list0 key1 cap1 k):S_qar list0 key1 cap1 k:=h

def T0_qbb (h:LI) (f g:Int) (c b:Int) (e:LI) (k:LI→Int→Prop) (B0:Int→Int→LI→Prop):Prop:=br (decide (b < g)) ((0≤b∧b < (h.length:Int))∧F_qar e (List.getD h (Int.toNat b) (0:Int)) f fun a d=>br d (InR (c+1)∧InR (b+1)∧B0 (c+1) (b+1) a) (InR (b+1)∧B0 c (b+1) a)) (k e c)
def L0_qbb (f:LI) (a c:Int) (k:LI→Int→Prop):Nat→Int→Int→LI→Prop | 0,_,_,_=>False | n+1,d,e,b=>T0_qbb f a c d e b k (L0_qbb f a c k n)
def G_qbb (c a:LI) (b:Int) (I0:LI→Int→Int→Int→Int→LI→Prop):Prop:=I0 c b (c.length:Int) 0 0 a
def S_qbb (e c:LI) (a:Int) (k:LI→Int→Prop):Prop:=G_qbb e c a (fun e a f d g b=>∃ j,L0_qbb e a f k j d g b)
def F_qbb (t l:LI) (room:Int) (k:LI→Int→Prop):Prop:=(VTrace t∧VKeys l room)∧k (runR room t l 0).1 (runR room t l 0).2
theorem F_qbb_S {t l:LI} {room:Int} {k:LI→Int→Prop} (h:F_qbb t l room k):S_qbb t l room k:=by
 obtain ⟨⟨⟨t1,t2⟩,v⟩,hk⟩:=h
 have key:∀ (r:LI) (i:Nat) (l:LI) (n:Int),t.drop i=r→VKeys l room→0≤n→n≤i→k (runR room r l n).1 (runR room r l n).2→L0_qbb t room (t.length:Int) k (r.length+1) n (i:Int) l:=by
  intro r
  induction r with
  | nil=>
   intro i l n hdr v n0 n1 hk
   have:=drop_nil' hdr
   rw [L0_qbb,T0_qbb]
   simp only [br_dec]
   exact ⟨fun h=>by omega,fun _=>hk⟩
  | cons x r ih=>
   intro i l n hdr v n0 n1 hk
   obtain ⟨h1,h2,h5,h3,h4⟩:=drop_cons' hdr
   have hx:=t2 x (List.mem_of_getElem? h5)
   rw [List.length_cons,L0_qbb,T0_qbb]
   simp only [br_dec,Int.toNat_natCast,h2]
   refine ⟨fun _=>⟨⟨by omega,by omega⟩,fun _=>?_,fun hv=>absurd ⟨v,hx⟩ hv⟩,fun h=>by omega⟩
   rw [runR] at hk
   show br (decide (x∈l)) _ _
   rw [br_iff]
   refine ⟨fun e=>⟨inR (by omega) (by omega),inR (by omega) (by omega),?_⟩,fun e=>⟨inR (by omega) (by omega),?_⟩⟩
   ·rw [e] at hk
    exact ih (i+1) _ _ h3 (recM_valid v hx) (by omega) (by omega) hk
   ·rw [e] at hk
    rw [show n+toI false=n by simp [toI]] at hk
    exact ih (i+1) _ _ h3 (recM_valid v hx) (by omega) (by omega) hk
 exact ⟨_,key t 0 l 0 rfl v (by omega) (by omega) hk⟩

def G_qat (f:LI) (e:Int) (k:LI→Int→Prop):Prop:=F_qaa f fun a=>br (!a) (k ([]:LI) (-1)) (F_qbf e fun b=>br (!b) (k ([]:LI) (-1)) (F_qbb f ([]:LI) e fun c d=>k c d))
def S_qat (b:LI) (a:Int) (k:LI→Int→Prop):Prop:=G_qat b a k
def F_qat (t:LI) (room:Int) (k:LI→Int→Prop):Prop:=
 ((VTrace t∧1≤room∧room≤8)→k (runR room t [] 0).1 (runR room t [] 0).2)∧(¬ (VTrace t∧1≤room∧room≤8)→k [] (-1))
theorem F_qat_S {t:LI} {room:Int} {k:LI→Int→Prop} (h:F_qat t room k):S_qat t room k:=by
 obtain ⟨hyes,hno⟩:=h
 intro b hb
 rw [br_not,br_iff]
 refine ⟨fun e=>br_not.2 (br_dec.2 ⟨fun hr=>?_,fun hr=>hno fun w=>hr w.2⟩),fun e=>hno fun v=>by rw [hb.2 v.1] at e; cases e⟩
 have v:=hb.1 e
 exact ⟨⟨v,keys0 hr⟩,hyes ⟨v,hr⟩⟩

def G_qo (d:LI) (c:Int) (k:LI→Int→Prop):Prop:=F_qat d c fun a b=>k a b
def S_qo (b:LI) (a:Int) (k:LI→Int→Prop):Prop:=G_qo b a k
def F_qo (t:LI) (room:Int) (k:LI→Int→Prop):Prop:=
 ((VTrace t∧1≤room∧room≤8)→k (runR room t [] 0).1 (runR room t [] 0).2)∧(¬ (VTrace t∧1≤room∧room≤8)→k [] (-1))
theorem F_qo_S {t:LI} {room:Int} {k:LI→Int→Prop} (h:F_qo t room k):S_qo t room k:=h

def G_qr (a:LI) (c b:Int) (k:LI→Bool→Prop):Prop:=F_qx a c fun d=>br (!d) (k ([]:LI) false) (F_qbd b fun e=>br (!e) (k ([]:LI) false) ((0+a.length≤1000000000)∧F_qbt a b fun f=>br f (k a true) ((a.length+1≤1000000000)∧InR (((List.length (a++([b]:LI))):Int) - c)∧(0≤(if (((List.length (a++([b]:LI))):Int) - c) < 0 then (0:Int) else (((List.length (a++([b]:LI))):Int) - c))∧(if (((List.length (a++([b]:LI))):Int) - c) < 0 then (0:Int) else (((List.length (a++([b]:LI))):Int) - c))≤((List.length (a++([b]:LI))):Int))∧k (List.take ((List.length (a++([b]:LI))) - (Int.toNat (if (((List.length (a++([b]:LI))):Int) - c) < 0 then (0:Int) else (((List.length (a++([b]:LI))):Int) - c)))) (List.drop (Int.toNat (if (((List.length (a++([b]:LI))):Int) - c) < 0 then (0:Int) else (((List.length (a++([b]:LI))):Int) - c))) (a++([b]:LI)))) false)))
def S_qr (a:LI) (b c:Int) (k:LI→Bool→Prop):Prop:=G_qr a b c k
def F_qr (l:LI) (room key:Int) (k:LI→Bool→Prop):Prop:=
 (VKeys l room∧0≤key∧key≤31→k (firM l room key) (decide (key∈l)))∧(¬ (VKeys l room∧0≤key∧key≤31)→k [] false)
theorem F_qr_S {l:LI} {room key:Int} {k:LI→Bool→Prop} (h:F_qr l room key k):S_qr l room key k:=by
 obtain ⟨hyes,hno⟩:=h
 intro b hb
 rw [br_not,br_iff]
 refine ⟨fun e=>br_not.2 (br_dec.2 ⟨fun hkey=>?_,fun hkey=>hno fun w=>hkey w.2⟩),fun e=>hno fun w=>by rw [hb.2 w.1] at e; cases e⟩
 have v:=hb.1 e
 have hk:=hyes ⟨v,hkey⟩
 obtain ⟨v1,v2,v3,v4,v5⟩:=v
 unfold firM at hk
 refine ⟨by omega,by omega,br_dec.2 ⟨fun hm=>?_,fun hm=>?_⟩⟩
 ·rw [if_pos hm,decide_eq_true hm] at hk; exact hk
 ·rw [if_neg hm,decide_eq_false hm] at hk
  have hlen:(l++[key]).length=l.length+1:=by simp
  have hX:(if (((List.length (l++([key]:LI))):Int) - room) < 0 then (0:Int) else (((List.length (l++([key]:LI))):Int) - room)).toNat=l.length+1 - room.toNat:=by
   rw [hlen]; split <;> omega
  refine ⟨by omega,inR (by omega) (by omega),⟨?_,?_⟩,?_⟩
  ·split <;> omega
  ·split <;> omega
  ·rw [hX,List.take_of_length_le (by simp)]; exact hk

def G_qaq (c:LI) (d e:Int) (k:LI→Bool→Prop):Prop:=F_qr c e d fun a b=>k a b
def S_qaq (a:LI) (b c:Int) (k:LI→Bool→Prop):Prop:=G_qaq a b c k
abbrev F_qaq (list0:LI) (key1:Int) (cap1:Int) (k:LI→Bool→Prop):Prop:=S_qaq list0 key1 cap1 k
theorem F_qaq_S {list0:LI} {key1:Int} {cap1:Int} {k:LI→Bool→Prop} (h:F_qaq list0 key1 cap1 k):S_qaq list0 key1 cap1 k:=h

def T0_qba (h:LI) (f g:Int) (c b:Int) (e:LI) (k:LI→Int→Prop) (B0:Int→Int→LI→Prop):Prop:=br (decide (b < g)) ((0≤b∧b < (h.length:Int))∧F_qaq e (List.getD h (Int.toNat b) (0:Int)) f fun a d=>br d (InR (c+1)∧InR (b+1)∧B0 (c+1) (b+1) a) (InR (b+1)∧B0 c (b+1) a)) (k e c)
def L0_qba (f:LI) (a c:Int) (k:LI→Int→Prop):Nat→Int→Int→LI→Prop | 0,_,_,_=>False | n+1,d,e,b=>T0_qba f a c d e b k (L0_qba f a c k n)
def G_qba (c a:LI) (b:Int) (I0:LI→Int→Int→Int→Int→LI→Prop):Prop:=I0 c b (c.length:Int) 0 0 a
def S_qba (e c:LI) (a:Int) (k:LI→Int→Prop):Prop:=G_qba e c a (fun e a f d g b=>∃ j,L0_qba e a f k j d g b)
def F_qba (t l:LI) (room:Int) (k:LI→Int→Prop):Prop:=(VTrace t∧VKeys l room)∧k (runF room t l 0).1 (runF room t l 0).2
theorem F_qba_S {t l:LI} {room:Int} {k:LI→Int→Prop} (h:F_qba t l room k):S_qba t l room k:=by
 obtain ⟨⟨⟨t1,t2⟩,v⟩,hk⟩:=h
 have key:∀ (r:LI) (i:Nat) (l:LI) (n:Int),t.drop i=r→VKeys l room→0≤n→n≤i→k (runF room r l n).1 (runF room r l n).2→L0_qba t room (t.length:Int) k (r.length+1) n (i:Int) l:=by
  intro r
  induction r with
  | nil=>
   intro i l n hdr v n0 n1 hk
   have:=drop_nil' hdr
   rw [L0_qba,T0_qba]
   simp only [br_dec]
   exact ⟨fun h=>by omega,fun _=>hk⟩
  | cons x r ih=>
   intro i l n hdr v n0 n1 hk
   obtain ⟨h1,h2,h5,h3,h4⟩:=drop_cons' hdr
   have hx:=t2 x (List.mem_of_getElem? h5)
   rw [List.length_cons,L0_qba,T0_qba]
   simp only [br_dec,Int.toNat_natCast,h2]
   refine ⟨fun _=>⟨⟨by omega,by omega⟩,fun _=>?_,fun hv=>absurd ⟨v,hx⟩ hv⟩,fun h=>by omega⟩
   rw [runF] at hk
   show br (decide (x∈l)) _ _
   rw [br_iff]
   refine ⟨fun e=>⟨inR (by omega) (by omega),inR (by omega) (by omega),?_⟩,fun e=>⟨inR (by omega) (by omega),?_⟩⟩
   ·rw [e] at hk
    exact ih (i+1) _ _ h3 (firM_valid v hx) (by omega) (by omega) hk
   ·rw [e] at hk
    rw [show n+toI false=n by simp [toI]] at hk
    exact ih (i+1) _ _ h3 (firM_valid v hx) (by omega) (by omega) hk
 exact ⟨_,key t 0 l 0 rfl v (by omega) (by omega) hk⟩

def G_qas (f:LI) (e:Int) (k:LI→Int→Prop):Prop:=F_qaa f fun a=>br (!a) (k ([]:LI) (-1)) (F_qbf e fun b=>br (!b) (k ([]:LI) (-1)) (F_qba f ([]:LI) e fun c d=>k c d))
def S_qas (b:LI) (a:Int) (k:LI→Int→Prop):Prop:=G_qas b a k
def F_qas (t:LI) (room:Int) (k:LI→Int→Prop):Prop:=
 ((VTrace t∧1≤room∧room≤8)→k (runF room t [] 0).1 (runF room t [] 0).2)∧(¬ (VTrace t∧1≤room∧room≤8)→k [] (-1))
theorem F_qas_S {t:LI} {room:Int} {k:LI→Int→Prop} (h:F_qas t room k):S_qas t room k:=by
 obtain ⟨hyes,hno⟩:=h
 intro b hb
 rw [br_not,br_iff]
 refine ⟨fun e=>br_not.2 (br_dec.2 ⟨fun hr=>?_,fun hr=>hno fun w=>hr w.2⟩),fun e=>hno fun v=>by rw [hb.2 v.1] at e; cases e⟩
 have v:=hb.1 e
 exact ⟨⟨v,keys0 hr⟩,hyes ⟨v,hr⟩⟩

def G_ql (d:LI) (c:Int) (k:LI→Int→Prop):Prop:=F_qas d c fun a b=>k a b
def S_ql (b:LI) (a:Int) (k:LI→Int→Prop):Prop:=G_ql b a k
def F_ql (t:LI) (room:Int) (k:LI→Int→Prop):Prop:=
 ((VTrace t∧1≤room∧room≤8)→k (runF room t [] 0).1 (runF room t [] 0).2)∧(¬ (VTrace t∧1≤room∧room≤8)→k [] (-1))
theorem F_ql_S {t:LI} {room:Int} {k:LI→Int→Prop} (h:F_ql t room k):S_ql t room k:=h

def G_qv (d:Int) (a:LI) (e:List Bool) (b:Int) (k:Bool→Prop):Prop:=F_qx a d fun c=>br (!c) (k false) (br ((e.length:Int) != (a.length:Int)) (k false) (br (decide ((a.length:Int) < d)) (k (b==0)) (br (decide (0≤b)) (k (decide (b < (a.length:Int)))) (k false))))
def S_qv (a:Int) (b:LI) (c:List Bool) (d:Int) (k:Bool→Prop):Prop:=G_qv a b c d k
def F_qv (room:Int) (keys:LI) (used:List Bool) (hand:Int) (k:Bool→Prop):Prop:=∀ b:Bool,(b=true↔VClock room keys used hand)→k b
theorem F_qv_S {room:Int} {keys:LI} {used:List Bool} {hand:Int} {k:Bool→Prop} (h:F_qv room keys used hand k):S_qv room keys used hand k:=by
 have hno:¬ VClock room keys used hand→k false:=fun hv=>h false (by simp [hv])
 simp only [S_qv,G_qv,F_qx]
 intro b hb
 rw [br_not,br_iff]
 refine ⟨fun e=>?_,fun e=>hno fun v=>by rw [hb.2 v.1] at e; cases e⟩
 have hv:=hb.1 e
 refine br_bne.2 ⟨fun h2=>hno fun v=>h2 (by rw [v.2.1]),fun h2=>br_dec.2 ⟨fun h3=>h _ ?_,fun h3=>br_dec.2 ⟨fun h4=>h _ ?_,fun h4=>hno fun v=>h4 ?_⟩⟩⟩
 ·simp only [beq_iff_eq]
  exact ⟨fun e=>⟨hv,by omega,fun _=>e,fun h=>by omega⟩,fun v=>v.2.2.1 h3⟩
 ·simp only [decide_eq_true_eq]
  have:=hv.2.2.1
  exact ⟨fun e=>⟨hv,by omega,fun h=>absurd h h3,fun _=>⟨h4,e⟩⟩,fun v=>(v.2.2.2 (by omega)).2⟩
 ·have:=hv.2.2.1
  exact (v.2.2.2 (by omega)).1

def G_qah (c:Int) (a:LI) (d:List Bool) (b:Int) (k:Int→Prop):Prop:=InR (b+1)∧((a.length:Int)≠0)∧k (Int.tmod (b+1) (a.length:Int))
def S_qah (a:Int) (b:LI) (c:List Bool) (d:Int) (k:Int→Prop):Prop:=G_qah a b c d k
abbrev F_qah (c0Room:Int) (c0Keys:LI) (c0Used:List Bool) (c0Hand:Int) (k:Int→Prop):Prop:=S_qah c0Room c0Keys c0Used c0Hand k
theorem F_qah_S {c0Room:Int} {c0Keys:LI} {c0Used:List Bool} {c0Hand:Int} {k:Int→Prop} (h:F_qah c0Room c0Keys c0Used c0Hand k):S_qah c0Room c0Keys c0Used c0Hand k:=h

def T0_qq (c:LI) (d g a:Int) (b:List Bool) (k:Int→LI→List Bool→Int→Bool→Prop) (B0:Int→List Bool→Prop):Prop:=(0≤a∧a < (b.length:Int))∧br (List.getD b (Int.toNat a) false) ((0≤a∧a < (b.length:Int))∧F_qah d c (List.set b (Int.toNat a) false) a fun e=>B0 e (List.set b (Int.toNat a) false)) ((0≤a∧a < (c.length:Int))∧F_qah d (List.set c (Int.toNat a) g) b a fun f=>k d (List.set c (Int.toNat a) g) b f false)
def L0_qq (a:LI) (b c:Int) (k:Int→LI→List Bool→Int→Bool→Prop):Nat→Int→List Bool→Prop | 0,_,_=>False | n+1,d,e=>T0_qq a b c d e k (L0_qq a b c k n)
def G_qq_j0 (e:Int) (a:LI) (d:Int) (b:List Bool) (f:Int) (k:Int→LI→List Bool→Int→Bool→Prop) (I0:LI→Int→Int→Int→List Bool→Prop):Prop:=(F_qby a f fun c=>br (decide (c≥0)) ((0≤c∧c < (b.length:Int))∧k d a (List.set b (Int.toNat c) true) e true) (br (decide ((a.length:Int) < d)) ((a.length+1≤1000000000)∧(b.length+1≤1000000000)∧k d (a++([f]:LI)) (b++([false]:List Bool)) e false) (I0 a d f e b)))∧(True)
def G_qq_j1 (b:Int) (c:LI) (d:Int) (a:List Bool) (e:Int) (k:Int→LI→List Bool→Int→Bool→Prop) (I0:LI→Int→Int→Int→List Bool→Prop):Prop:=((0+a.length≤1000000000)∧G_qq_j0 b c d a e k I0)∧(True)
def G_qq_j2 (a:Int) (b:LI) (c:Int) (d:List Bool) (e:Int) (k:Int→LI→List Bool→Int→Bool→Prop) (I0:LI→Int→Int→Int→List Bool→Prop):Prop:=(G_qq_j1 a b c d e k I0)∧(True)
def G_qq_j3 (b:Int) (c:LI) (d:Int) (a:List Bool) (e:Int) (k:Int→LI→List Bool→Int→Bool→Prop) (I0:LI→Int→Int→Int→List Bool→Prop):Prop:=((0+a.length≤1000000000)∧(G_qq_j0 b c d a e k I0)∧(True))∧(G_qq_j2 b c d a e k I0)
def G_qq_j4 (b:Int) (a:LI) (c:Int) (d:List Bool) (e:Int) (k:Int→LI→List Bool→Int→Bool→Prop) (I0:LI→Int→Int→Int→List Bool→Prop):Prop:=(((0+a.length≤1000000000)∧G_qq_j1 b a c d e k I0)∧(True))∧(True)
def G_qq_j5 (b:Int) (a:LI) (c:Int) (d:List Bool) (e:Int) (k:Int→LI→List Bool→Int→Bool→Prop) (I0:LI→Int→Int→Int→List Bool→Prop):Prop:=((0+a.length≤1000000000)∧G_qq_j3 b a c d e k I0)∧(G_qq_j4 b a c d e k I0)
def G_qq_j6 (b:Int) (a:LI) (c:Int) (d:List Bool) (e:Int) (k:Int→LI→List Bool→Int→Bool→Prop) (I0:LI→Int→Int→Int→List Bool→Prop):Prop:=((0+a.length≤1000000000)∧G_qq_j2 b a c d e k I0)∧(G_qq_j4 b a c d e k I0)
def G_qq_j7 (a:Int) (b:LI) (c:Int) (d:List Bool) (e:Int) (k:Int→LI→List Bool→Int→Bool→Prop) (I0:LI→Int→Int→Int→List Bool→Prop):Prop:=(G_qq_j4 a b c d e k I0)∧(True)
def G_qq (b:Int) (a:LI) (c:List Bool) (d e:Int) (k:Int→LI→List Bool→Int→Bool→Prop) (I0:LI→Int→Int→Int→List Bool→Prop):Prop:=F_qv b a c d fun f=>br (!f) (k 0 ([]:LI) ([]:List Bool) 0 false) (F_qbd e fun g=>br (!g) (k 0 ([]:LI) ([]:List Bool) 0 false) ((((0+a.length≤1000000000)∧(G_qq_j3 d a b c e k I0)∧((G_qq_j2 d a b c e k I0)∧(True)))∧((G_qq_j5 d a b c e k I0)∧((G_qq_j6 d a b c e k I0)∧(True))))∧(((G_qq_j5 d a b c e k I0)∧(G_qq_j7 d a b c e k I0))∧(((G_qq_j6 d a b c e k I0)∧(G_qq_j7 d a b c e k I0))∧(True)))))
def H_qq (c:Int) (a:LI) (b:List Bool) (e g:Int) (k:Int→LI→List Bool→Int→Bool→Prop) (I0:LI→Int→Int→Int→List Bool→Prop):Prop:=F_qv c a b e fun f=>br (!f) (k 0 ([]:LI) ([]:List Bool) 0 false) (F_qbd g fun h=>br (!h) (k 0 ([]:LI) ([]:List Bool) 0 false) ((0+a.length≤1000000000)∧(0+b.length≤1000000000)∧F_qby a g fun d=>br (decide (d≥0)) ((0≤d∧d < (b.length:Int))∧k c a (List.set b (Int.toNat d) true) e true) (br (decide ((a.length:Int) < c)) ((a.length+1≤1000000000)∧(b.length+1≤1000000000)∧k c (a++([g]:LI)) (b++([false]:List Bool)) e false) (I0 a c g e b))))
theorem G_qq_eq (a:Int) (b:LI) (c:List Bool) (d e:Int) (k:Int→LI→List Bool→Int→Bool→Prop) (I0:LI→Int→Int→Int→List Bool→Prop):G_qq a b c d e k I0=H_qq a b c d e k I0:=by
 first
 | (simp only [G_qq,H_qq,G_qq_j0,G_qq_j1,G_qq_j2,G_qq_j3,G_qq_j4,G_qq_j5,G_qq_j6,G_qq_j7,and_self,and_true]; done)
 | (simp only [G_qq,H_qq,G_qq_j0,G_qq_j1,G_qq_j2,G_qq_j3,G_qq_j4,G_qq_j5,G_qq_j6,G_qq_j7,and_self,and_true,and_self_left,and_assoc]; refine propext ⟨fun h=>?_,fun h=>?_⟩ <;> (repeat (cases ‹_∧_›)) <;> (repeat' (apply And.intro)) <;> assumption)
def S_qq (a:Int) (b:LI) (d:List Bool) (e c:Int) (k:Int→LI→List Bool→Int→Bool→Prop):Prop:=H_qq a b d e c k (fun b a c f g=>∃ j,L0_qq b a c k j f g)
def F_qq (room:Int) (keys:LI) (used:List Bool) (hand key:Int) (k:Int→LI→List Bool→Int→Bool→Prop):Prop:=
 ((VClock room keys used hand∧0≤key∧key≤31)→k room (tickM room keys used hand key).1 (tickM room keys used hand key).2.1 (tickM room keys used hand key).2.2.1 (tickM room keys used hand key).2.2.2)∧
 (¬ (VClock room keys used hand∧0≤key∧key≤31)→k 0 [] [] 0 false)
theorem F_qq_S {room:Int} {keys:LI} {used:List Bool} {hand key:Int} {k:Int→LI→List Bool→Int→Bool→Prop} (h:F_qq room keys used hand key k):S_qq room keys used hand key k:=by
 obtain ⟨hyes,hno⟩:=h
 intro b hb
 rw [br_not,br_iff]
 refine ⟨fun e=>br_not.2 (br_dec.2 ⟨fun hkey=>?_,fun hkey=>hno fun w=>hkey w.2⟩),fun e=>hno fun w=>by rw [hb.2 w.1] at e; cases e⟩
 have v:=hb.1 e
 have hk:=hyes ⟨v,hkey⟩
 obtain ⟨⟨v1,v2,v3,v4,v5⟩,v6,v7,v8⟩:=v
 have key1:(keys.length:Int)=room→∀ (f:Nat) (u:List Bool) (h:Nat),u.length=keys.length→h < u.length→u.count true < f→
   k room (keys.set (sweep f u h).2 key) (sweep f u h).1 (((sweep f u h).2+1) % keys.length:Nat) false→L0_qq keys room key k f (h:Int) u:=by
  intro hr f
  induction f with
  | zero=>intro u h _ _ h3; omega
  | succ f ih=>
   intro u h h1 h2 h3 h4
   unfold sweep at h4
   rw [L0_qq,T0_qq]
   simp only [br_iff,Int.toNat_natCast]
   refine ⟨⟨by omega,by omega⟩,fun hu=>⟨⟨by omega,by omega⟩,inR (by omega) (by omega),by omega,?_⟩,fun hu=>⟨⟨by omega,by omega⟩,inR (by omega) (by omega),by rw [List.length_set]; omega,?_⟩⟩
   ·rw [if_pos hu] at h4
    rw [tmod_next,← h1]
    have:=count_clear hu
    refine ih _ _ (by simp [h1]) (by rw [List.length_set]; exact Nat.mod_lt _ (by omega)) (by omega) h4
   ·rw [if_neg (by rw [hu]; simp)] at h4
    rw [List.length_set,tmod_next]
    exact h4
 refine ⟨by omega,by omega,by omega,br_dec.2 ⟨fun hp=>?_,fun hp=>br_dec.2 ⟨fun hl=>?_,fun hl=>?_⟩⟩⟩
 ·have hm:=plc_ge.1 hp
  unfold tickM at hk
  rw [if_pos hm] at hk
  obtain ⟨j,j1,_,_,j2⟩:=plc_pos hm
  exact ⟨⟨by omega,by omega⟩,hk⟩
 ·have hm:key ∉ keys:=fun e=>hp (plc_ge.2 e)
  unfold tickM at hk
  rw [if_neg hm,if_pos hl] at hk
  exact ⟨by omega,by omega,hk⟩
 ·have hm:key ∉ keys:=fun e=>hp (plc_ge.2 e)
  unfold tickM at hk
  rw [if_neg hm,if_neg hl] at hk
  obtain ⟨w1,w2⟩:=v8 (by omega)
  refine ⟨used.length+1,?_⟩
  have:=key1 (by omega) (used.length+1) used hand.toNat v6 (by omega) (Nat.lt_succ_of_le List.count_le_length) hk
  rwa [Int.toNat_of_nonneg w1] at this

def T0_qaw (n:LI) (m f:Int) (e h i:Int) (j:LI) (l:List Bool) (k:Int→LI→List Bool→Int→Int→Prop) (B0:Int→Int→Int→Int→LI→List Bool→Prop):Prop:=br (decide (e < m)) ((0≤e∧e < (n.length:Int))∧F_qq h j l i (List.getD n (Int.toNat e) (0:Int)) fun a b c d g=>br g (InR (f+1)∧InR (e+1)∧B0 (f+1) (e+1) a d b c) (InR (e+1)∧B0 f (e+1) a d b c)) (k h j l i f)
def L0_qaw (h:LI) (a:Int) (k:Int→LI→List Bool→Int→Int→Prop):Nat→Int→Int→Int→Int→LI→List Bool→Prop | 0,_,_,_,_,_,_=>False | n+1,b,g,c,d,e,f=>T0_qaw h a b g c d e f k (L0_qaw h a k n)
def G_qaw (e:LI) (a:Int) (b:LI) (c:List Bool) (d:Int) (I0:LI→Int→Int→Int→Int→Int→LI→List Bool→Prop):Prop:=I0 e (e.length:Int) 0 0 a d b c
def S_qaw (l:LI) (a:Int) (b:LI) (c:List Bool) (d:Int) (k:Int→LI→List Bool→Int→Int→Prop):Prop:=G_qaw l a b c d (fun l m e n f g h i=>∃ j,L0_qaw l m k j e n f g h i)
def F_qaw (t:LI) (room:Int) (keys:LI) (used:List Bool) (hand:Int) (k:Int→LI→List Bool→Int→Int→Prop):Prop:=
 (VTrace t∧VClock room keys used hand)∧k room (runC room t keys used hand 0).1 (runC room t keys used hand 0).2.1 (runC room t keys used hand 0).2.2.1 (runC room t keys used hand 0).2.2.2
theorem F_qaw_S {t:LI} {room:Int} {keys:LI} {used:List Bool} {hand:Int} {k:Int→LI→List Bool→Int→Int→Prop} (h:F_qaw t room keys used hand k):S_qaw t room keys used hand k:=by
 obtain ⟨⟨⟨t1,t2⟩,v⟩,hk⟩:=h
 have key:∀ (r:LI) (i:Nat) (ks:LI) (us:List Bool) (hd n:Int),t.drop i=r→VClock room ks us hd→0≤n→n≤i→
   k room (runC room r ks us hd n).1 (runC room r ks us hd n).2.1 (runC room r ks us hd n).2.2.1 (runC room r ks us hd n).2.2.2→L0_qaw t (t.length:Int) k (r.length+1) n (i:Int) room hd ks us:=by
  intro r
  induction r with
  | nil=>
   intro i ks us hd n hdr v n0 n1 hk
   have:=drop_nil' hdr
   rw [L0_qaw,T0_qaw]
   simp only [br_dec]
   exact ⟨fun h=>by omega,fun _=>hk⟩
  | cons x r ih=>
   intro i ks us hd n hdr v n0 n1 hk
   obtain ⟨h1,h2,h5,h3,h4⟩:=drop_cons' hdr
   have hx:=t2 x (List.mem_of_getElem? h5)
   rw [List.length_cons,L0_qaw,T0_qaw]
   simp only [br_dec,Int.toNat_natCast,h2]
   refine ⟨fun _=>⟨⟨by omega,by omega⟩,fun _=>?_,fun hv=>absurd ⟨v,hx⟩ hv⟩,fun h=>by omega⟩
   rw [runC] at hk
   rw [br_iff]
   refine ⟨fun e=>⟨inR (by omega) (by omega),inR (by omega) (by omega),?_⟩,fun e=>⟨inR (by omega) (by omega),?_⟩⟩
   ·rw [e] at hk
    exact ih (i+1) _ _ _ _ h3 (tick_valid v hx) (by omega) (by omega) hk
   ·rw [e] at hk
    rw [show n+toI false=n by simp [toI]] at hk
    exact ih (i+1) _ _ _ _ h3 (tick_valid v hx) (by omega) (by omega) hk
 exact ⟨_,key t 0 keys used hand 0 rfl v (by omega) (by omega) hk⟩

def G_qk (i:LI) (h:Int) (k:Int→LI→List Bool→Int→Int→Prop):Prop:=F_qaa i fun e=>br (!e) (k 0 ([]:LI) ([]:List Bool) 0 (-1)) (F_qbf h fun f=>br (!f) (k 0 ([]:LI) ([]:List Bool) 0 (-1)) (F_qaw i h ([]:LI) ([]:List Bool) (0:Int) fun a b c d g=>k a b c d g))
def S_qk (b:LI) (a:Int) (k:Int→LI→List Bool→Int→Int→Prop):Prop:=G_qk b a k
def F_qk (t:LI) (room:Int) (k:Int→LI→List Bool→Int→Int→Prop):Prop:=
 ((VTrace t∧1≤room∧room≤8)→k room (runC room t [] [] 0 0).1 (runC room t [] [] 0 0).2.1 (runC room t [] [] 0 0).2.2.1 (runC room t [] [] 0 0).2.2.2)∧
 (¬ (VTrace t∧1≤room∧room≤8)→k 0 [] [] 0 (-1))
theorem F_qk_S {t:LI} {room:Int} {k:Int→LI→List Bool→Int→Int→Prop} (h:F_qk t room k):S_qk t room k:=by
 obtain ⟨hyes,hno⟩:=h
 intro b hb
 rw [br_not,br_iff]
 refine ⟨fun e=>br_not.2 (br_dec.2 ⟨fun hr=>?_,fun hr=>hno fun w=>hr w.2⟩),fun e=>hno fun v=>by rw [hb.2 v.1] at e; cases e⟩
 have v:=hb.1 e
 exact ⟨⟨v,clock0 hr⟩,hyes ⟨v,hr⟩⟩

def G_qbh (a:Int) (k:Bool→Prop):Prop:=br (decide (0≤a)) (k (decide (a≤1000))) (k false)
def S_qbh (a:Int) (k:Bool→Prop):Prop:=G_qbh a k
def F_qbh (n:Int) (k:Bool→Prop):Prop:=k (decide (0≤n∧n≤1000))
theorem F_qbh_S {n:Int} {k:Bool→Prop} (h:F_qbh n k):S_qbh n k:=by
 unfold F_qbh at h
 simp only [S_qbh,G_qbh,br_dec]
 refine ⟨fun h1=>?_,fun h1=>?_⟩
 ·simpa [h1] using h
 ·simpa [h1] using h

def G_qbc (e b d:Int) (k:Bool→Prop):Prop:=F_qbd e fun c=>br c (br (decide (1≤b)) (br (decide (b≤100)) (F_qbh d fun a=>k a) (k false)) (k false)) (k false)
def S_qbc (c a b:Int) (k:Bool→Prop):Prop:=G_qbc c a b k
def F_qbc (a b c:Int) (k:Bool→Prop):Prop:=∀ r:Bool,(r=true↔EntR (a,b,c))→k r
theorem F_qbc_S {a b c:Int} {k:Bool→Prop} (h:F_qbc a b c k):S_qbc a b c k:=by
 have hno:¬ EntR (a,b,c)→k false:=fun hv=>h false (by simp [hv])
 refine br_dec.2 ⟨fun h1=>br_dec.2 ⟨fun h2=>br_dec.2 ⟨fun h3=>?_,fun h3=>hno fun v=>h3 v.2.1.2⟩,fun h2=>hno fun v=>h2 v.2.1.1⟩,fun h1=>hno fun v=>h1 v.1⟩
 refine h _ ⟨fun e=>?_,fun e=>?_⟩
 ·have:=of_decide_eq_true e
  exact ⟨h1,⟨h2,h3⟩,this.1,this.2⟩
 ·exact decide_eq_true ⟨e.2.2.1,e.2.2.2⟩

def G_qf (e f:Int) (c b:Int) (d a:Int) (k:Bool→Prop):Prop:=br (e==b) (k true) (k (c==a))
def S_qf (f d:Int) (e c:Int) (a b:Int) (k:Bool→Prop):Prop:=G_qf f d e c a b k
def F_qf (a1 a2 a3 b1 b2 b3:Int) (k:Bool→Prop):Prop:=k (decide (a1=b1∨a3=b3))
theorem F_qf_S {a1 a2 a3 b1 b2 b3:Int} {k:Bool→Prop} (h:F_qf a1 a2 a3 b1 b2 b3 k):S_qf a1 a2 a3 b1 b2 b3 k:=by
 unfold F_qf at h
 refine br_beq.2 ⟨fun h1=>?_,fun h1=>?_⟩
 ·simpa [h1] using h
 ·have:(a3==b3)=decide (a1=b1∨a3=b3):=by simp [h1]; rfl
  rw [this]; exact h

def T0_qbw (c d e:Int) (f:List (Int×Int×Int)) (g a:Int) (k:Int→Prop) (B0:Int→Prop):Prop:=br (decide (a < g)) ((0≤a∧a < (f.length:Int))∧F_qf c d e (List.getD f (Int.toNat a) ((0:Int),(0:Int),(0:Int))).1 (List.getD f (Int.toNat a) ((0:Int),(0:Int),(0:Int))).2.1 (List.getD f (Int.toNat a) ((0:Int),(0:Int),(0:Int))).2.2 fun b=>br b (k a) (InR (a+1)∧B0 (a+1))) (k (-1))
def L0_qbw (a b c:Int) (e:List (Int×Int×Int)) (d:Int) (k:Int→Prop):Nat→Int→Prop | 0,_=>False | n+1,f=>T0_qbw a b c e d f k (L0_qbw a b c e d k n)
def G_qbw (d:List (Int×Int×Int)) (a b c:Int) (I0:Int→Int→Int→List (Int×Int×Int)→Int→Int→Prop):Prop:=I0 a b c d (d.length:Int) 0
def S_qbw (d:List (Int×Int×Int)) (a b c:Int) (k:Int→Prop):Prop:=G_qbw d a b c (fun a b c d e f=>∃ j,L0_qbw a b c d e k j f)
def F_qbw (l:List Ent) (a b c:Int) (k:Int→Prop):Prop:=l.length≤1000000000∧∀ r:Int,(0≤r↔∃ e∈l,a=e.1∨c=e.2.2)→k r
theorem F_qbw_S {l:List Ent} {a b c:Int} {k:Int→Prop} (h:F_qbw l a b c k):S_qbw l a b c k:=by
 obtain ⟨hl,hk⟩:=h
 have key:∀ (r:List Ent) (i:Nat),l.drop i=r→(∀ e∈l.take i,¬ (a=e.1∨c=e.2.2))→L0_qbw a b c l (l.length:Int) k (r.length+1) (i:Int):=by
  intro r
  induction r with
  | nil=>
   intro i hd hn
   have hi:=drop_nil' hd
   rw [List.take_of_length_le hi] at hn
   rw [L0_qbw,T0_qbw]
   simp only [br_dec]
   exact ⟨fun h=>by omega,fun _=>hk _ ⟨fun h=>by omega,fun ⟨e,h1,h2⟩=>absurd h2 (hn e h1)⟩⟩
  | cons x r ih=>
   intro i hd hn
   obtain ⟨h1,h2,h5,h3,h4⟩:=drop_cons' hd
   rw [List.length_cons,L0_qbw,T0_qbw]
   simp only [br_dec,F_qf,Int.toNat_natCast,h2]
   refine ⟨fun _=>⟨⟨by omega,by omega⟩,fun hc=>hk _ ⟨fun _=>⟨x,List.mem_of_getElem? h5,hc⟩,fun _=>by omega⟩,fun hc=>⟨inR (by omega) (by omega),ih (i+1) h3 fun e he=>?_⟩⟩,fun h=>by omega⟩
   rw [h4] at he
   rcases List.mem_append.1 he with h | h
   ·exact hn e h
   ·rw [List.mem_singleton.1 h]; exact hc
 exact ⟨_,key l 0 rfl (by simp)⟩

def G_qbs (e:List (Int×Int×Int)) (b c d:Int) (k:Bool→Prop):Prop:=F_qbw e b c d fun a=>k (decide (a≥0))
def S_qbs (d:List (Int×Int×Int)) (a b c:Int) (k:Bool→Prop):Prop:=G_qbs d a b c k
def F_qbs (l:List Ent) (a b c:Int) (k:Bool→Prop):Prop:=l.length≤1000000000∧∀ r:Bool,(r=true↔∃ e∈l,a=e.1∨c=e.2.2)→k r
theorem F_qbs_S {l:List Ent} {a b c:Int} {k:Bool→Prop} (h:F_qbs l a b c k):S_qbs l a b c k:=
 ⟨h.1,fun r hr=>h.2 _ (by simpa using hr)⟩

def T0_qw (b:List (Int×Int×Int)) (e a:Int) (k:Bool→Prop) (B0:Int→Prop):Prop:=br (decide (a < e)) ((0≤a∧a < (b.length:Int))∧(F_qbc (List.getD b (Int.toNat a) ((0:Int),(0:Int),(0:Int))).1 (List.getD b (Int.toNat a) ((0:Int),(0:Int),(0:Int))).2.1 (List.getD b (Int.toNat a) ((0:Int),(0:Int),(0:Int))).2.2 fun d=>br (!d) ((k false)∧(True)) ((0≤a∧a≤(b.length:Int))∧(F_qbs (List.take (Int.toNat a) b) (List.getD b (Int.toNat a) ((0:Int),(0:Int),(0:Int))).1 (List.getD b (Int.toNat a) ((0:Int),(0:Int),(0:Int))).2.1 (List.getD b (Int.toNat a) ((0:Int),(0:Int),(0:Int))).2.2 fun c=>br c (k false) (InR (a+1)∧B0 (a+1)))∧(True)))∧(True)) (k true)
def U0_qw (b:List (Int×Int×Int)) (e a:Int) (k:Bool→Prop) (B0:Int→Prop):Prop:=br (decide (a < e)) ((0≤a∧a < (b.length:Int))∧F_qbc (List.getD b (Int.toNat a) ((0:Int),(0:Int),(0:Int))).1 (List.getD b (Int.toNat a) ((0:Int),(0:Int),(0:Int))).2.1 (List.getD b (Int.toNat a) ((0:Int),(0:Int),(0:Int))).2.2 fun d=>br (!d) (k false) ((0≤a∧a≤(b.length:Int))∧F_qbs (List.take (Int.toNat a) b) (List.getD b (Int.toNat a) ((0:Int),(0:Int),(0:Int))).1 (List.getD b (Int.toNat a) ((0:Int),(0:Int),(0:Int))).2.1 (List.getD b (Int.toNat a) ((0:Int),(0:Int),(0:Int))).2.2 fun c=>br c (k false) (InR (a+1)∧B0 (a+1)))) (k true)
theorem T0_qw_eq (a:List (Int×Int×Int)) (b c:Int) (k:Bool→Prop) (B0:Int→Prop):T0_qw a b c k B0=U0_qw a b c k B0:=by
 first
 | (simp only [T0_qw,U0_qw,and_self,and_true]; done)
 | (simp only [T0_qw,U0_qw,and_self,and_true,and_self_left,and_assoc]; refine propext ⟨fun h=>?_,fun h=>?_⟩ <;> (repeat (cases ‹_∧_›)) <;> (repeat' (apply And.intro)) <;> assumption)
def L0_qw (a:List (Int×Int×Int)) (b:Int) (k:Bool→Prop):Nat→Int→Prop | 0,_=>False | n+1,c=>U0_qw a b c k (L0_qw a b k n)
def G_qw (a:List (Int×Int×Int)) (c:Int) (k:Bool→Prop) (I0:List (Int×Int×Int)→Int→Int→Prop):Prop:=F_qbf c fun b=>br (!b) (k false) (br (decide ((a.length:Int) > c)) (k false) (I0 a (a.length:Int) 0))
def S_qw (a:List (Int×Int×Int)) (b:Int) (k:Bool→Prop):Prop:=G_qw a b k (fun a c d=>∃ j,L0_qw a c k j d)
def F_qw (l:List Ent) (room:Int) (k:Bool→Prop):Prop:=l.length≤1000000000∧∀ b:Bool,(b=true↔VEnt l room)→k b
theorem F_qw_S {l:List Ent} {room:Int} {k:Bool→Prop} (h:F_qw l room k):S_qw l room k:=by
 obtain ⟨hl,h⟩:=h
 have hno:¬ VEnt l room→k false:=fun hv=>h false (by simp [hv])
 have key:(1≤room∧room≤8)→(l.length:Int)≤room→∀ (r:List Ent) (i:Nat),l.drop i=r→PEnt (l.take i)→L0_qw l (l.length:Int) k (r.length+1) (i:Int):=by
  intro g1 g3 r
  induction r with
  | nil=>
   intro i hd hp
   have hi:=drop_nil' hd
   rw [List.take_of_length_le hi] at hp
   rw [L0_qw,U0_qw]
   simp only [br_dec]
   exact ⟨fun h=>by omega,fun _=>h true (by simp only [true_iff]; exact ⟨g1,g3,hp⟩)⟩
  | cons x r ih=>
   intro i hd hp
   obtain ⟨h1,h2,h5,h3,h4⟩:=drop_cons' hd
   have hxl:x∈l:=List.mem_of_getElem? h5
   rw [List.length_cons,L0_qw,U0_qw]
   simp only [br_dec,Int.toNat_natCast,h2]
   refine ⟨fun _=>⟨⟨by omega,by omega⟩,fun b hb=>?_⟩,fun h=>by omega⟩
   refine br_not.2 (br_iff.2 ⟨fun e=>⟨⟨by omega,by omega⟩,by simp; omega,fun c hc=>?_⟩,fun e=>hno fun v=>by rw [hb.2 (v.2.2.1 x hxl)] at e; cases e⟩)
   refine br_iff.2 ⟨fun ec=>hno fun v=>?_,fun ec=>⟨inR (by omega) (by omega),ih (i+1) h3 ?_⟩⟩
   ·obtain ⟨y,hy,hyx⟩:=hc.1 ec
    have hsplit:l=l.take i++x :: r:=by rw [← hd,List.take_append_drop]
    have hn1:=v.2.2.2.1
    have hn2:=v.2.2.2.2
    rw [hsplit,List.map_append,List.nodup_append] at hn1 hn2
    rcases hyx with e1 | e1
    ·exact hn1.2.2 _ (List.mem_map.2 ⟨y,hy,rfl⟩) x.1 (by simp) e1.symm
    ·exact hn2.2.2 _ (List.mem_map.2 ⟨y,hy,rfl⟩) x.2.2 (by simp) e1.symm
   ·rw [h4]
    refine hp.snoc (hb.1 e) fun y hy=>⟨fun c=>?_,fun c=>?_⟩
    ·rw [hc.2 ⟨y,hy,.inl c.symm⟩] at ec; cases ec
    ·rw [hc.2 ⟨y,hy,.inr c.symm⟩] at ec; cases ec
 show br (!decide (1≤room∧room≤8)) _ _
 rw [br_not]
 refine br_dec.2 ⟨fun h1=>br_dec.2 ⟨fun h3=>hno fun v=>by have:=v.2.1; omega,fun h3=>?_⟩,fun h1=>hno fun v=>h1 v.1⟩
 exact ⟨_,key h1 (by omega) l 0 rfl ⟨by simp,by simp,by simp⟩⟩

def G_qc (a:Int) (k:Bool→Prop):Prop:=k (a != a)
def S_qc (a:Int) (k:Bool→Prop):Prop:=G_qc a k
abbrev F_qc (x0:Int) (k:Bool→Prop):Prop:=S_qc x0 k
theorem F_qc_S {x0:Int} {k:Bool→Prop} (h:F_qc x0 k):S_qc x0 k:=h

def G_qa (c d:Int) (k:Int→Prop):Prop:=F_qc c fun b=>F_qc d fun a=>br b (br a (k 0) (k (-1))) (br a (k 1) (br (decide (c < d)) (k (-1)) (br (decide (c > d)) (k 1) (k 0))))
def S_qa (a b:Int) (k:Int→Prop):Prop:=G_qa a b k
def F_qa (x y:Int) (k:Int→Prop):Prop:=k (cmpI x y)
theorem F_qa_S {x y:Int} {k:Int→Prop} (h:F_qa x y k):S_qa x y k:=by
 unfold F_qa cmpI at h
 show br (x != x) (br (y != y) _ _) (br (y != y) _ _)
 rw [bne_self_eq_false,bne_self_eq_false,br_f,br_f]
 refine br_dec.2 ⟨fun h1=>?_,fun h1=>br_dec.2 ⟨fun h2=>?_,fun h2=>?_⟩⟩
 ·rwa [if_pos h1] at h
 ·rwa [if_neg h1,if_pos (show y < x from h2)] at h
 ·rwa [if_neg h1,if_neg (show ¬ y < x from h2)] at h

def T0_qb (b:LI) (c a:Int) (k:Int→Prop) (B0:Int→Prop):Prop:=br (decide (a < c)) ((0≤a∧a < (b.length:Int))∧br ((List.getD b (Int.toNat a) (0:Int)) != 0) (k (List.getD b (Int.toNat a) (0:Int))) (InR (a+1)∧B0 (a+1))) (k 0)
def L0_qb (a:LI) (b:Int) (k:Int→Prop):Nat→Int→Prop | 0,_=>False | n+1,c=>T0_qb a b c k (L0_qb a b k n)
def G_qb (a:LI) (I0:LI→Int→Int→Prop):Prop:=I0 a (a.length:Int) 0
def S_qb (a:LI) (k:Int→Prop):Prop:=G_qb a (fun a b c=>∃ j,L0_qb a b k j c)
def F_qb (l:LI) (k:Int→Prop):Prop:=l.length≤1000000000∧k (orI l)
theorem F_qb_S {l:LI} {k:Int→Prop} (h:F_qb l k):S_qb l k:=by
 obtain ⟨hl,hk⟩:=h
 have key:∀ (r:LI) (i:Nat),l.drop i=r→orI r=orI l→L0_qb l (l.length:Int) k (r.length+1) (i:Int):=by
  intro r
  induction r with
  | nil=>
   intro i hd he
   have:=drop_nil' hd
   rw [L0_qb,T0_qb]
   simp only [br_dec]
   exact ⟨fun h=>by omega,fun _=>by rw [show (0:Int)=orI l from he]; exact hk⟩
  | cons x r ih=>
   intro i hd he
   obtain ⟨h1,h2,_,h3,_⟩:=drop_cons' hd
   rw [List.length_cons,L0_qb,T0_qb]
   simp only [br_dec,br_bne,Int.toNat_natCast,h2]
   refine ⟨fun _=>⟨⟨by omega,by omega⟩,fun hx=>?_,fun hx=>⟨inR (by omega) (by omega),?_⟩⟩,fun h=>by omega⟩
   ·simp only [orI,if_pos hx] at he; rw [he]; exact hk
   ·rw [orI,if_neg (by simpa using hx)] at he; exact ih (i+1) h3 he
 exact ⟨_,key l 0 rfl rfl⟩

def G_qan (h c:Int) (e i:Int) (d f:Int) (k:Int→Prop):Prop:=(F_qa c d fun b=>(F_qa e f fun a=>((F_qb ([b,a]:LI) fun g=>k g)∧(True))∧(True))∧(True))∧(True)
def H_qan (h c:Int) (e i:Int) (d f:Int) (k:Int→Prop):Prop:=F_qa c d fun b=>F_qa e f fun a=>F_qb ([b,a]:LI) fun g=>k g
theorem G_qan_eq (e a:Int) (c f:Int) (b d:Int) (k:Int→Prop):G_qan e a c f b d k=H_qan e a c f b d k:=by
 first
 | (simp only [G_qan,H_qan,and_self,and_true]; done)
 | (simp only [G_qan,H_qan,and_self,and_true,and_self_left,and_assoc]; refine propext ⟨fun h=>?_,fun h=>?_⟩ <;> (repeat (cases ‹_∧_›)) <;> (repeat' (apply And.intro)) <;> assumption)
def S_qan (e a:Int) (c f:Int) (b d:Int) (k:Int→Prop):Prop:=H_qan e a c f b d k
def F_qan (a1 a2 a3 b1 b2 b3:Int) (k:Int→Prop):Prop:=∀ n:Int,(n < 0↔Rar (a1,a2,a3) (b1,b2,b3))→k n
theorem F_qan_S {a1 a2 a3 b1 b2 b3:Int} {k:Int→Prop} (h:F_qan a1 a2 a3 b1 b2 b3 k):S_qan a1 a2 a3 b1 b2 b3 k:=by
 refine ⟨by simp,h _ ?_⟩
 rw [← cmpI_rar (a1:=a1) (a3:=a3) (b1:=b1)]
 simp only [orI]
 by_cases h1:cmpI a2 b2≠0
 ·rw [if_pos h1,if_pos h1]
 ·rw [if_neg h1,if_neg h1]
  by_cases h2:cmpI a3 b3≠0
  ·rw [if_pos h2]
  ·rw [if_neg h2]; simp only [ne_eq,Decidable.not_not] at h2; rw [h2]

def T0_qca (c:List (Int×Int×Int)) (a d:Int) (e f:Int) (k:Int→Int→Int→Prop) (B0:Int→Int→Int→Int→Prop):Prop:=br (decide (a < (c.length:Int))) ((0≤a∧a < (c.length:Int))∧(F_qan (List.getD c (Int.toNat a) ((0:Int),(0:Int),(0:Int))).1 (List.getD c (Int.toNat a) ((0:Int),(0:Int),(0:Int))).2.1 (List.getD c (Int.toNat a) ((0:Int),(0:Int),(0:Int))).2.2 d e f fun b=>br (decide (b < 0)) ((0≤a∧a < (c.length:Int))∧InR (a+1)∧B0 (a+1) (List.getD c (Int.toNat a) ((0:Int),(0:Int),(0:Int))).1 (List.getD c (Int.toNat a) ((0:Int),(0:Int),(0:Int))).2.1 (List.getD c (Int.toNat a) ((0:Int),(0:Int),(0:Int))).2.2) (InR (a+1)∧B0 (a+1) d e f))∧(True)) (k d e f)
def U0_qca (c:List (Int×Int×Int)) (a d:Int) (e f:Int) (k:Int→Int→Int→Prop) (B0:Int→Int→Int→Int→Prop):Prop:=br (decide (a < (c.length:Int))) ((0≤a∧a < (c.length:Int))∧F_qan (List.getD c (Int.toNat a) ((0:Int),(0:Int),(0:Int))).1 (List.getD c (Int.toNat a) ((0:Int),(0:Int),(0:Int))).2.1 (List.getD c (Int.toNat a) ((0:Int),(0:Int),(0:Int))).2.2 d e f fun b=>br (decide (b < 0)) ((0≤a∧a < (c.length:Int))∧InR (a+1)∧B0 (a+1) (List.getD c (Int.toNat a) ((0:Int),(0:Int),(0:Int))).1 (List.getD c (Int.toNat a) ((0:Int),(0:Int),(0:Int))).2.1 (List.getD c (Int.toNat a) ((0:Int),(0:Int),(0:Int))).2.2) (InR (a+1)∧B0 (a+1) d e f)) (k d e f)
theorem T0_qca_eq (e:List (Int×Int×Int)) (d a:Int) (b c:Int) (k:Int→Int→Int→Prop) (B0:Int→Int→Int→Int→Prop):T0_qca e d a b c k B0=U0_qca e d a b c k B0:=by
 first
 | (simp only [T0_qca,U0_qca,and_self,and_true]; done)
 | (simp only [T0_qca,U0_qca,and_self,and_true,and_self_left,and_assoc]; refine propext ⟨fun h=>?_,fun h=>?_⟩ <;> (repeat (cases ‹_∧_›)) <;> (repeat' (apply And.intro)) <;> assumption)
def L0_qca (d:List (Int×Int×Int)) (k:Int→Int→Int→Prop):Nat→Int→Int→Int→Int→Prop | 0,_,_,_,_=>False | n+1,e,a,b,c=>U0_qca d e a b c k (L0_qca d k n)
def G_qca (a:List (Int×Int×Int)) (I0:List (Int×Int×Int)→Int→Int→Int→Int→Prop):Prop:=br (decide ((a.length:Int) < 1)) (False) ((0≤(0:Int)∧0 < (a.length:Int))∧I0 a 1 (List.getD a 0 ((0:Int),(0:Int),(0:Int))).1 (List.getD a 0 ((0:Int),(0:Int),(0:Int))).2.1 (List.getD a 0 ((0:Int),(0:Int),(0:Int))).2.2)
def S_qca (d:List (Int×Int×Int)) (k:Int→Int→Int→Prop):Prop:=G_qca d (fun d e a b c=>∃ j,L0_qca d k j e a b c)
def F_qca (l:List Ent) (k:Int→Int→Int→Prop):Prop:=(0 < l.length∧l.length≤1000000000)∧k (l.getD (rareM l) ent0).1 (l.getD (rareM l) ent0).2.1 (l.getD (rareM l) ent0).2.2
theorem F_qca_S {l:List Ent} {k:Int→Int→Int→Prop} (h:F_qca l k):S_qca l k:=by
 obtain ⟨⟨h0,h1⟩,hk⟩:=h
 have key:∀ (r:List Ent) (i p:Nat),l.drop i=r→p < i→i≤l.length→rareS l r i p=rareM l→L0_qca l k (r.length+1) (i:Int) (l.getD p ent0).1 (l.getD p ent0).2.1 (l.getD p ent0).2.2:=by
  intro r
  induction r with
  | nil=>
   intro i p hd hp hi he
   have:=drop_nil' hd
   rw [L0_qca,U0_qca]
   simp only [br_dec]
   exact ⟨fun h=>by omega,fun _=>by rw [show p=rareM l from he]; exact hk⟩
  | cons x r ih=>
   intro i p hd hp hi he
   obtain ⟨g1,g2,_,g3,_⟩:=drop_cons' hd
   rw [rareS] at he
   rw [List.length_cons,L0_qca,U0_qca]
   simp only [br_dec,Int.toNat_natCast,g2]
   refine ⟨fun _=>⟨⟨by omega,by omega⟩,fun n hn=>⟨fun hr=>⟨⟨by omega,by omega⟩,inR (by omega) (by omega),?_⟩,fun hr=>⟨inR (by omega) (by omega),?_⟩⟩⟩,fun h=>by omega⟩
   ·rw [if_pos (hn.1 hr)] at he
    have:=ih (i+1) i g3 (by omega) (by omega) he
    rwa [g2] at this
   ·rw [if_neg fun c=>hr (hn.2 c)] at he
    exact ih (i+1) p g3 (by omega) (by omega) he
 refine br_dec.2 ⟨fun h=>by omega,fun _=>⟨⟨by omega,by omega⟩,_,key (l.drop 1) 1 0 rfl (by omega) (by omega) rfl⟩⟩

def G_qam (d:List (Int×Int×Int)) (k:Int→Int→Int→Prop):Prop:=F_qca d fun c a b=>k c a b
def S_qam (a:List (Int×Int×Int)) (k:Int→Int→Int→Prop):Prop:=G_qam a k
def F_qam (l:List Ent) (k:Int→Int→Int→Prop):Prop:=(0 < l.length∧l.length≤1000000000)∧k (l.getD (rareM l) ent0).1 (l.getD (rareM l) ent0).2.1 (l.getD (rareM l) ent0).2.2
theorem F_qam_S {l:List Ent} {k:Int→Int→Int→Prop} (h:F_qam l k):S_qam l k:=h

def T0_qbx (d:List (Int×Int×Int)) (b e:Int) (c f a:Int) (k:Int→Prop) (B0:Int→Prop):Prop:=br (decide (a < f)) ((0≤a∧a < (d.length:Int))∧br ((e==(List.getD d (Int.toNat a) ((0:Int),(0:Int),(0:Int))).1) && ((b==(List.getD d (Int.toNat a) ((0:Int),(0:Int),(0:Int))).2.1) && (c==(List.getD d (Int.toNat a) ((0:Int),(0:Int),(0:Int))).2.2))) (k a) (InR (a+1)∧B0 (a+1))) (k (-1))
def L0_qbx (e:List (Int×Int×Int)) (a c:Int) (b d:Int) (k:Int→Prop):Nat→Int→Prop | 0,_=>False | n+1,f=>T0_qbx e a c b d f k (L0_qbx e a c b d k n)
def G_qbx (d:List (Int×Int×Int)) (c a b:Int) (I0:List (Int×Int×Int)→Int→Int→Int→Int→Int→Prop):Prop:=I0 d a c b (d.length:Int) 0
def S_qbx (d:List (Int×Int×Int)) (c a b:Int) (k:Int→Prop):Prop:=G_qbx d c a b (fun d a c b e f=>∃ j,L0_qbx d a c b e k j f)
def F_qbx (l:List Ent) (a b c:Int) (k:Int→Prop):Prop:=l.length≤1000000000∧∀ r:Int,FirstAt l (a,b,c) r→k r
theorem F_qbx_S {l:List Ent} {a b c:Int} {k:Int→Prop} (h:F_qbx l a b c k):S_qbx l a b c k:=by
 obtain ⟨hl,hk⟩:=h
 have key:∀ (r:List Ent) (i:Nat),l.drop i=r→(∀ q,q < i→l[q]?≠some (a,b,c))→L0_qbx l b a c (l.length:Int) k (r.length+1) (i:Int):=by
  intro r
  induction r with
  | nil=>
   intro i hd hn
   have hi:=drop_nil' hd
   rw [L0_qbx,T0_qbx]
   simp only [br_dec]
   refine ⟨fun h=>by omega,fun _=>hk _ (.inr ⟨rfl,fun hm=>?_⟩)⟩
   obtain ⟨q,hq,e⟩:=List.getElem_of_mem hm
   exact hn q (by omega) (by rw [List.getElem?_eq_getElem hq,e])
  | cons x r ih=>
   intro i hd hn
   obtain ⟨h1,h2,h5,h3,h4⟩:=drop_cons' hd
   rw [List.length_cons,L0_qbx,T0_qbx]
   simp only [br_dec,Int.toNat_natCast,h2]
   refine ⟨fun _=>⟨⟨by omega,by omega⟩,?_⟩,fun h=>by omega⟩
   rw [show ((a==x.1) && ((b==x.2.1) && (c==x.2.2)))=decide ((a,b,c)=x) from eq3 (x:=(a,b,c)) (y:=x)]
   refine br_dec.2 ⟨fun e=>hk _ (.inl ⟨i,rfl,h1,by rw [h5,e],hn⟩),fun e=>⟨inR (by omega) (by omega),ih (i+1) h3 fun q hq=>?_⟩⟩
   by_cases eq:q=i
   ·subst eq; rw [h5]; intro c; injection c with c; exact e c.symm
   ·exact hn q (by omega)
 exact ⟨_,key l 0 rfl (by simp)⟩

def G_qbu (a:List (Int×Int×Int)) (c b:Int) (k:List (Int×Int×Int)→Prop):Prop:=(0≤c∧c≤b∧b≤(a.length:Int)∧(a.length:Int)≤(a.length:Int))∧br (c==b) (k a) ((0≤c∧c≤(a.length:Int))∧(0≤b∧b≤(a.length:Int))∧((((0+(Int.toNat c))+(List.length (List.take (a.length - (Int.toNat b)) (List.drop (Int.toNat b) a))))≤a.length)∧(0≤(((Int.toNat c)+(List.length (List.take (a.length - (Int.toNat b)) (List.drop (Int.toNat b) a)))):Int)∧(((Int.toNat c)+(List.length (List.take (a.length - (Int.toNat b)) (List.drop (Int.toNat b) a)))):Int)≤(a.length:Int)∧(0:Int)+(a.length:Int)≤((List.length (midA a (0+(Int.toNat c)) (List.take (a.length - (Int.toNat b)) (List.drop (Int.toNat b) a)))):Int))∧k (List.take ((Int.toNat c)+(List.length (List.take (a.length - (Int.toNat b)) (List.drop (Int.toNat b) a)))) (List.drop 0 (midA (midA a (0+(Int.toNat c)) (List.take (a.length - (Int.toNat b)) (List.drop (Int.toNat b) a))) (0+(Int.toNat (((Int.toNat c)+(List.length (List.take (a.length - (Int.toNat b)) (List.drop (Int.toNat b) a)))):Int))) (List.replicate ((Int.toNat (a.length:Int)) - (Int.toNat (((Int.toNat c)+(List.length (List.take (a.length - (Int.toNat b)) (List.drop (Int.toNat b) a)))):Int))) ((0:Int),(0:Int),(0:Int)))))))∧(True))
def H_qbu (a:List (Int×Int×Int)) (c b:Int) (k:List (Int×Int×Int)→Prop):Prop:=(0≤c∧c≤b∧b≤(a.length:Int)∧(a.length:Int)≤(a.length:Int))∧br (c==b) (k a) ((0≤c∧c≤(a.length:Int))∧(0≤b∧b≤(a.length:Int))∧(((0+(Int.toNat c))+(List.length (List.take (a.length - (Int.toNat b)) (List.drop (Int.toNat b) a))))≤a.length)∧(0≤(((Int.toNat c)+(List.length (List.take (a.length - (Int.toNat b)) (List.drop (Int.toNat b) a)))):Int)∧(((Int.toNat c)+(List.length (List.take (a.length - (Int.toNat b)) (List.drop (Int.toNat b) a)))):Int)≤(a.length:Int)∧(0:Int)+(a.length:Int)≤((List.length (midA a (0+(Int.toNat c)) (List.take (a.length - (Int.toNat b)) (List.drop (Int.toNat b) a)))):Int))∧k (List.take ((Int.toNat c)+(List.length (List.take (a.length - (Int.toNat b)) (List.drop (Int.toNat b) a)))) (List.drop 0 (midA (midA a (0+(Int.toNat c)) (List.take (a.length - (Int.toNat b)) (List.drop (Int.toNat b) a))) (0+(Int.toNat (((Int.toNat c)+(List.length (List.take (a.length - (Int.toNat b)) (List.drop (Int.toNat b) a)))):Int))) (List.replicate ((Int.toNat (a.length:Int)) - (Int.toNat (((Int.toNat c)+(List.length (List.take (a.length - (Int.toNat b)) (List.drop (Int.toNat b) a)))):Int))) ((0:Int),(0:Int),(0:Int)))))))
theorem G_qbu_eq (a:List (Int×Int×Int)) (b c:Int) (k:List (Int×Int×Int)→Prop):G_qbu a b c k=H_qbu a b c k:=by
 first
 | (simp only [G_qbu,H_qbu,and_self,and_true]; done)
 | (simp only [G_qbu,H_qbu,and_self,and_true,and_self_left,and_assoc]; refine propext ⟨fun h=>?_,fun h=>?_⟩ <;> (repeat (cases ‹_∧_›)) <;> (repeat' (apply And.intro)) <;> assumption)
def S_qbu (a:List (Int×Int×Int)) (b c:Int) (k:List (Int×Int×Int)→Prop):Prop:=H_qbu a b c k
def F_qbu (l:List Ent) (i j:Int) (k:List Ent→Prop):Prop:=(0≤i∧i≤j∧j≤l.length∧l.length≤1000000000)∧k (l.take i.toNat++l.drop j.toNat)
theorem F_qbu_S {l:List Ent} {i j:Int} {k:List Ent→Prop} (h:F_qbu l i j k):S_qbu l i j k:=by
 obtain ⟨⟨h1,h2,h3,h4⟩,hk⟩:=h
 refine ⟨⟨h1,h2,h3,Int.le_refl _⟩,br_beq.2 ⟨fun e=>?_,fun e=>?_⟩⟩
 ·rw [← e,List.take_append_drop] at hk; exact hk
 ·have hD:List.take (l.length - j.toNat) (l.drop j.toNat)=l.drop j.toNat:=List.take_of_length_le (by simp)
  rw [hD]
  have hDl:(l.drop j.toNat).length=l.length - j.toNat:=by simp
  have hm:(midA l (0+i.toNat) (l.drop j.toNat)).length=l.length:=by simp only [midA,List.length_append,List.length_take,List.length_drop]; omega
  refine ⟨⟨h1,by omega⟩,⟨by omega,h3⟩,by omega,⟨by omega,by omega,by omega⟩,?_⟩
  rw [List.drop_zero]
  have e0:((i.toNat:Int)+((l.drop j.toNat).length:Int)).toNat=i.toNat+(l.drop j.toNat).length:=by omega
  have e2:=fun Z:List Ent=>mid_take0 (l:=midA l (0+i.toNat) (l.drop j.toNat)) (r:=Z) (i:=0+(i.toNat+(l.drop j.toNat).length)) (by rw [hm]; omega)
  have e3:=mid_take1 (l:=l) (r:=l.drop j.toNat) (i:=0+i.toNat) (n:=0+(i.toNat+(l.drop j.toNat).length)) (by omega) (by omega)
  have e4:=fun Z=>(e2 Z).trans e3
  simp only [Nat.zero_add] at e4
  rw [e0]
  simp only [Nat.zero_add]
  rw [e4]; exact hk

def T0_qt (l:Int) (c:List (Int×Int×Int)) (j m n:Int) (h:Bool) (b:Int) (a:List (Int×Int×Int)) (k:List (Int×Int×Int)→Bool→Prop) (B0:Bool→Int→List (Int×Int×Int)→Prop):Prop:=br (decide (b < n)) ((0≤b∧b < (c.length:Int))∧br (decide ((List.getD c (Int.toNat b) ((0:Int),(0:Int),(0:Int))).2.2≥j)) (k ([]:List (Int×Int×Int)) false) (br ((List.getD c (Int.toNat b) ((0:Int),(0:Int),(0:Int))).1==l) (InR ((List.getD c (Int.toNat b) ((0:Int),(0:Int),(0:Int))).2.1+1)∧(a.length+1≤1000000000)∧InR (b+1)∧B0 true (b+1) (a++([((List.getD c (Int.toNat b) ((0:Int),(0:Int),(0:Int))).1,(if 100 < ((List.getD c (Int.toNat b) ((0:Int),(0:Int),(0:Int))).2.1+1) then (100:Int) else ((List.getD c (Int.toNat b) ((0:Int),(0:Int),(0:Int))).2.1+1)),j)]:List (Int×Int×Int)))) ((a.length+1≤1000000000)∧InR (b+1)∧B0 h (b+1) (a++([((List.getD c (Int.toNat b) ((0:Int),(0:Int),(0:Int))).1,(List.getD c (Int.toNat b) ((0:Int),(0:Int),(0:Int))).2.1,(List.getD c (Int.toNat b) ((0:Int),(0:Int),(0:Int))).2.2)]:List (Int×Int×Int)))))) (br h (k a true) (br ((a.length:Int)==m) (F_qam a fun f d e=>F_qbx a f d e fun g=>InR (g+1)∧F_qbu a g (g+1) fun i=>(i.length+1≤1000000000)∧k (i++([(l,(1:Int),j)]:List (Int×Int×Int))) false) ((a.length+1≤1000000000)∧k (a++([(l,(1:Int),j)]:List (Int×Int×Int))) false)))
def L0_qt (d:Int) (b:List (Int×Int×Int)) (e c f:Int) (k:List (Int×Int×Int)→Bool→Prop):Nat→Bool→Int→List (Int×Int×Int)→Prop | 0,_,_,_=>False | n+1,a,h,g=>T0_qt d b e c f a h g k (L0_qt d b e c f k n)
def G_qt (c:List (Int×Int×Int)) (e f g:Int) (k:List (Int×Int×Int)→Bool→Prop) (I0:Int→List (Int×Int×Int)→Int→Int→Int→Bool→Int→List (Int×Int×Int)→Prop):Prop:=F_qw c e fun a=>br (!a) (k ([]:List (Int×Int×Int)) false) (F_qbd f fun d=>br (!d) (k ([]:List (Int×Int×Int)) false) (F_qbh g fun b=>br (!b) (k ([]:List (Int×Int×Int)) false) (I0 f c g e (c.length:Int) false 0 ([]:List (Int×Int×Int)))))
def S_qt (a:List (Int×Int×Int)) (b c d:Int) (k:List (Int×Int×Int)→Bool→Prop):Prop:=G_qt a b c d k (fun c a d b g e h f=>∃ j,L0_qt c a d b g k j e h f)
def F_qt (l:List Ent) (room key now:Int) (k:List Ent→Bool→Prop):Prop:=
 l.length≤1000000000∧(VUse l room key now→k (oftM l room key now).1 (oftM l room key now).2)∧(¬ VUse l room key now→k [] false)
theorem F_qt_S {l:List Ent} {room key now:Int} {k:List Ent→Bool→Prop} (h:F_qt l room key now k):S_qt l room key now k:=by
 obtain ⟨hl,hyes,hno⟩:=h
 refine ⟨hl,?_⟩; intro b hb
 refine br_not.2 (br_iff.2 ⟨fun e=>br_not.2 (br_dec.2 ⟨fun hkey=>br_not.2 (br_dec.2 ⟨fun hnow=>?_,fun hnow=>hno fun w=>hnow w.2.2.2⟩),fun hkey=>hno fun w=>hkey w.2.1⟩),fun e=>hno fun w=>by rw [hb.2 w.1] at e; cases e⟩)
 have v:=hb.1 e
 have v1:=v.1
 have v2:=v.2.1
 have key1:∀ (r:List Ent) (i:Nat),l.drop i=r→(∀ e∈l.take i,e.2.2 < now)→L0_qt key l now room (l.length:Int) k (r.length+1) (decide (key∈(l.take i).map (·.1))) (i:Int) ((l.take i).map (upE key now)):=by
  intro r
  induction r with
  | nil=>
   intro i hd hn
   have hi:=drop_nil' hd
   rw [List.take_of_length_le hi] at hn ⊢
   have hu:VUse l room key now:=⟨v,hkey,hn,hnow⟩
   have hk:=hyes hu
   rw [L0_qt,T0_qt]
   refine br_dec.2 ⟨fun h=>by omega,fun _=>br_dec.2 ⟨fun hm=>?_,fun hm=>?_⟩⟩
   ·rw [oftM_map v.2.2.2.1 hm] at hk; exact hk
   ·rw [upE_not hm]
    unfold oftM at hk
    rw [if_neg hm] at hk
    refine br_beq.2 ⟨fun hf=>?_,fun hf=>?_⟩
    ·have hne:l≠[]:=fun e=>by rw [e] at hf; simp at hf; omega
     have hp:=List.length_pos_iff.2 hne
     have hlt:=(rareM_ok hne).1
     refine ⟨⟨hp,hl⟩,hl,fun q hq=>?_⟩
     have hq:=firstAt_rare v.2.2.2.1 hne hq
     subst hq
     refine ⟨inR (by omega) (by omega),⟨by omega,by omega,by omega,hl⟩,?_⟩
     rw [Int.toNat_natCast,show ((rareM l:Int)+1).toNat=rareM l+1 by omega,← List.eraseIdx_eq_take_drop_succ]
     rw [if_pos hf] at hk
     exact ⟨by have:=List.length_eraseIdx_le l (rareM l); omega,hk⟩
    ·rw [if_neg hf] at hk
     exact ⟨by omega,hk⟩
  | cons x r ih=>
   intro i hd hn
   obtain ⟨h1,h2,h5,h3,h4⟩:=drop_cons' hd
   have hxl:x∈l:=List.mem_of_getElem? h5
   have hr:=v.2.2.1 x hxl
   have hlen:((l.take i).map (upE key now)).length≤8:=by simp; omega
   rw [List.length_cons,L0_qt,T0_qt]
   simp only [br_dec,br_beq,Int.toNat_natCast,h2]
   refine ⟨fun _=>⟨⟨by omega,by omega⟩,fun hge=>hno fun w=>?_,fun hlt=>?_⟩,fun h=>by omega⟩
   ·have:=w.2.2.1 x hxl; omega
   ·have hn':∀ e∈l.take (i+1),e.2.2 < now:=by
     rw [h4]; intro e he
     rcases List.mem_append.1 he with h | h
     ·exact hn e h
     ·rw [List.mem_singleton.1 h]; omega
    have:=ih (i+1) h3 hn'
    rw [h4,List.map_append,List.map_append,List.map_singleton,List.map_singleton] at this
    refine ⟨fun hx=>⟨inR (by have:=hr.2.1; omega) (by have:=hr.2.1; omega),by omega,inR (by omega) (by omega),?_⟩,fun hx=>⟨by omega,inR (by omega) (by omega),?_⟩⟩
    ·rw [upE,if_pos hx] at this
     have hd2:decide (key∈(l.take i).map (·.1)++[x.1])=true:=by simp [hx]
     rw [hd2] at this; exact this
    ·rw [upE,if_neg hx] at this
     have hd2:decide (key∈(l.take i).map (·.1)++[x.1])=decide (key∈(l.take i).map (·.1)):=by
      refine decide_eq_decide.2 ⟨fun h=>?_,fun h=>List.mem_append_left _ h⟩
      rcases List.mem_append.1 h with h | h
      ·exact h
      ·exact absurd (List.mem_singleton.1 h).symm hx
     rw [hd2] at this; exact this
 exact ⟨_,by simpa using key1 l 0 rfl (by simp)⟩

def T0_qn (h:Int) (i:LI) (g b a:Int) (f:List (Int×Int×Int)) (d:Int) (k:List (Int×Int×Int)→Int→Prop) (B0:Int→Int→List (Int×Int×Int)→Int→Prop):Prop:=br (decide (a < g)) ((0≤a∧a < (i.length:Int))∧F_qt f h (List.getD i (Int.toNat a) (0:Int)) d fun c e=>InR (d+1)∧br e (InR (b+1)∧InR (a+1)∧B0 (b+1) (a+1) c (d+1)) (InR (a+1)∧B0 b (a+1) c (d+1))) (k f b)
def L0_qn (c:Int) (g:LI) (a:Int) (k:List (Int×Int×Int)→Int→Prop):Nat→Int→Int→List (Int×Int×Int)→Int→Prop | 0,_,_,_,_=>False | n+1,b,e,d,f=>T0_qn c g a b e d f k (L0_qn c g a k n)
def G_qn (d:LI) (c:Int) (k:List (Int×Int×Int)→Int→Prop) (I0:Int→LI→Int→Int→Int→List (Int×Int×Int)→Int→Prop):Prop:=F_qaa d fun a=>br (!a) (k ([]:List (Int×Int×Int)) (-1)) (F_qbf c fun b=>br (!b) (k ([]:List (Int×Int×Int)) (-1)) (I0 c d (d.length:Int) 0 0 ([]:List (Int×Int×Int)) 0))
def S_qn (g:LI) (a:Int) (k:List (Int×Int×Int)→Int→Prop):Prop:=G_qn g a k (fun a g d b e c f=>∃ j,L0_qn a g d k j b e c f)
def F_qn (t:LI) (room:Int) (k:List Ent→Int→Prop):Prop:=
 ((VTrace t∧1≤room∧room≤8)→k (runO room t [] 0 0).1 (runO room t [] 0 0).2)∧(¬ (VTrace t∧1≤room∧room≤8)→k [] (-1))
theorem F_qn_S {t:LI} {room:Int} {k:List Ent→Int→Prop} (h:F_qn t room k):S_qn t room k:=by
 obtain ⟨hyes,hno⟩:=h
 intro b hb
 refine br_not.2 (br_iff.2 ⟨fun e=>br_not.2 (br_dec.2 ⟨fun hr=>?_,fun hr=>hno fun w=>hr w.2⟩),fun e=>hno fun v=>by rw [hb.2 v.1] at e; cases e⟩)
 have v:=hb.1 e
 have hk:=hyes ⟨v,hr⟩
 have t1:=v.1
 have t2:=v.2
 have key:∀ (r:LI) (i:Nat) (l:List Ent) (n:Int),t.drop i=r→VEnt l room→(∀ e∈l,e.2.2 < (i:Int))→0≤n→n≤i→k (runO room r l i n).1 (runO room r l i n).2→L0_qn room t (t.length:Int) k (r.length+1) n (i:Int) l (i:Int):=by
  intro r
  induction r with
  | nil=>
   intro i l n hdr v hl n0 n1 hk
   have:=drop_nil' hdr
   rw [L0_qn,T0_qn]
   simp only [br_dec]
   exact ⟨fun h=>by omega,fun _=>hk⟩
  | cons x r ih=>
   intro i l n hdr v hl n0 n1 hk
   obtain ⟨h1,h2,h5,h3,h4⟩:=drop_cons' hdr
   have hx:=t2 x (List.mem_of_getElem? h5)
   rw [List.length_cons,L0_qn,T0_qn]
   simp only [br_dec,Int.toNat_natCast,h2]
   have hu:VUse l room x i:=⟨v,hx,hl,by omega,by omega⟩
   refine ⟨fun _=>⟨⟨by omega,by omega⟩,by have:=v.2.1; omega,fun _=>⟨inR (by omega) (by omega),br_iff.2 ⟨fun e=>⟨inR (by omega) (by omega),inR (by omega) (by omega),?_⟩,fun e=>⟨inR (by omega) (by omega),?_⟩⟩⟩,fun hv=>absurd hu hv⟩,fun h=>by omega⟩
   ·have:=ih (i+1) (oftM l room x i).1 (n+1) h3 (oftM_valid v hx hl (by omega)) (by have:=oftM_last (room:=room) (key:=x) hl; simpa using this) (by omega) (by omega) (by rw [runO,e] at hk; simpa [toI] using hk)
    simpa using this
   ·have:=ih (i+1) (oftM l room x i).1 n h3 (oftM_valid v hx hl (by omega)) (by have:=oftM_last (room:=room) (key:=x) hl; simpa using this) (by omega) (by omega) (by rw [runO,e] at hk; simpa [toI] using hk)
    simpa using this
 exact ⟨_,key t 0 [] 0 rfl (ent_nil hr) (by simp) (by omega) (by omega) (by simpa using hk)⟩

def T1_qbq (c:List (LI)) (d b:Int) (a:LI) (k:LI→Prop) (B1:Int→Int→LI→Prop):Prop:=br (decide (b < d)) ((0≤b∧b < (c.length:Int))∧(a.length+(List.length (List.getD c (Int.toNat b) []))≤1000000000)∧InR (b+1)∧B1 d (b+1) (a++(List.getD c (Int.toNat b) []))) (k a)
def L1_qbq (a:List (LI)) (k:LI→Prop):Nat→Int→Int→LI→Prop | 0,_,_,_=>False | n+1,c,d,b=>T1_qbq a c d b k (L1_qbq a k n)
def T0_qbq (b:List (LI)) (d a c:Int) (B0:Int→Int→Prop) (I1:List (LI)→Int→Int→LI→Prop):Prop:=br (decide (c < d)) ((0≤c∧c < (b.length:Int))∧InR (a+((List.length (List.getD b (Int.toNat c) [])):Int))∧br (decide ((a+((List.length (List.getD b (Int.toNat c) [])):Int)) < 0)) (False) (InR (c+1)∧B0 (a+((List.length (List.getD b (Int.toNat c) [])):Int)) (c+1))) (br (decide (a < 0)) (False) (InR ((0:Int) - 0)∧InR (a - 0)∧br (decide ((a - 0) > 0)) (((0:Int)=0)∧(0≤(a - 0)∧(a - 0)≤1000000000)∧(0≤(0:Int)∧0≤((List.length (List.replicate (Int.toNat (a - 0)) (0:Int))):Int))∧I1 b (b.length:Int) 0 (List.take 0 (List.drop 0 (List.replicate (Int.toNat (a - 0)) (0:Int))))) (I1 b (b.length:Int) 0 ([]:LI))))
def L0_qbq (a:List (LI)) (c:Int) (k:LI→Prop):Nat→Int→Int→Prop | 0,_,_=>False | n+1,d,e=>T0_qbq a c d e (L0_qbq a c k n) (fun a f g b=>∃ j,L1_qbq a k j f g b)
def G_qbq (a:List (LI)) (I0:List (LI)→Int→Int→Int→Prop):Prop:=I0 a (a.length:Int) 0 0
def S_qbq (a:List (LI)) (k:LI→Prop):Prop:=G_qbq a (fun a c b d=>∃ j,L0_qbq a c k j b d)
def F_qbq (ls:List (LI)) (k:LI→Prop):Prop:=(ls.length≤1000000000∧ls.flatten.length≤1000000000)∧k ls.flatten
theorem F_qbq_S {ls:List (LI)} {k:LI→Prop} (h:F_qbq ls k):S_qbq ls k:=by
 obtain ⟨⟨hl,ht⟩,hk⟩:=h
 have le:∀ i,(ls.take i).flatten.length≤ls.flatten.length:=fun i=>by
  have:=congrArg List.length (congrArg List.flatten (List.take_append_drop i ls))
  rw [List.flatten_append,List.length_append] at this
  omega
 have key1:∀ (r:List (LI)) (i:Nat),ls.drop i=r→L1_qbq ls k (r.length+1) (ls.length:Int) (i:Int) (ls.take i).flatten:=by
  intro r
  induction r with
  | nil=>
   intro i hd
   have:=drop_nil' hd
   rw [List.take_of_length_le this,L1_qbq,T1_qbq]
   exact br_dec.2 ⟨fun h=>by omega,fun _=>hk⟩
  | cons x r ih=>
   intro i hd
   obtain ⟨h1,h2,h5,h3,h4⟩:=drop_cons' hd
   have hle:=le (i+1)
   have he:(ls.take (i+1)).flatten=(ls.take i).flatten++x:=by rw [h4]; simp
   have:=ih (i+1) h3
   rw [he] at this hle
   rw [List.length_append] at hle
   rw [List.length_cons,L1_qbq,T1_qbq]
   simp only [br_dec,Int.toNat_natCast,h2]
   exact ⟨fun _=>⟨⟨by omega,by omega⟩,by omega,inR (by omega) (by omega),this⟩,fun h=>by omega⟩
 have key:∀ (r:List (LI)) (i:Nat),ls.drop i=r→L0_qbq ls (ls.length:Int) k (r.length+1) ((ls.take i).flatten.length:Int) (i:Int):=by
  intro r
  induction r with
  | nil=>
   intro i hd
   have:=drop_nil' hd
   rw [List.take_of_length_le this,L0_qbq,T0_qbq]
   refine br_dec.2 ⟨fun h=>by omega,fun _=>br_dec.2 ⟨fun h=>by omega,fun _=>⟨inR (by omega) (by omega),inR (by omega) (by omega),br_dec.2 ⟨fun h=>⟨rfl,⟨by omega,by omega⟩,⟨by omega,by omega⟩,⟨_,key1 ls 0 rfl⟩⟩,fun h=>⟨_,key1 ls 0 rfl⟩⟩⟩⟩⟩
  | cons x r ih=>
   intro i hd
   obtain ⟨h1,h2,h5,h3,h4⟩:=drop_cons' hd
   have hle:=le (i+1)
   have he:(ls.take (i+1)).flatten=(ls.take i).flatten++x:=by rw [h4]; simp
   have:=ih (i+1) h3
   rw [he,List.length_append] at this hle
   rw [List.length_cons,L0_qbq,T0_qbq]
   simp only [br_dec,Int.toNat_natCast,h2]
   have e2:(((ls.take i).flatten.length+x.length:Nat):Int)=((ls.take i).flatten.length:Int)+(x.length:Int):=by omega
   rw [e2] at this
   refine ⟨fun _=>⟨⟨by omega,by omega⟩,inR (by omega) (by omega),fun h=>by omega,fun _=>⟨inR (by omega) (by omega),this⟩⟩,fun h=>by omega⟩
 exact ⟨_,key ls 0 rfl⟩

def G_qy (e g:Int) (d c:LI) (a b:LI) (k:Bool→Prop):Prop:=F_qbf e fun h=>br (!h) (k false) (br (decide (g < 0)) (k false) (br (decide (g > e)) (k false) (InR ((d.length:Int)+(a.length:Int))∧InR ((c.length:Int)+(b.length:Int))∧InR ((d.length:Int)+(c.length:Int))∧br (decide (((d.length:Int)+(c.length:Int)) > e)) (k false) (br (decide (((d.length:Int)+(a.length:Int)) > e)) (k false) (InR (((d.length:Int)+(a.length:Int))+((c.length:Int)+(b.length:Int)))∧InR (2*e)∧br (decide ((((d.length:Int)+(a.length:Int))+((c.length:Int)+(b.length:Int))) > (2*e))) (k false) (F_qbq ([d,c,a,b]:List (LI)) fun i=>F_qac i fun f=>k f))))))
def S_qy (e c:Int) (f d:LI) (b a:LI) (k:Bool→Prop):Prop:=G_qy e c f d b a k
def F_qy (r t:Int) (o f wo wf:LI) (k:Bool→Prop):Prop:=
 (o.length≤100000000∧f.length≤100000000∧wo.length≤100000000∧wf.length≤100000000)∧∀ b:Bool,(b=true↔VLists r ⟨t,o,f,wo,wf⟩)→k b
theorem F_qy_S {r t:Int} {o f wo wf:LI} {k:Bool→Prop} (h:F_qy r t o f wo wf k):S_qy r t o f wo wf k:=by
 obtain ⟨⟨h1,h2,h3,h4⟩,hk⟩:=h
 have no:¬ VLists r ⟨t,o,f,wo,wf⟩→k false:=fun hv=>hk false (by simp [hv])
 refine br_not.2 (br_dec.2 ⟨fun g1=>?_,fun g1=>no fun v=>g1 v.room1⟩)
 refine br_dec.2 ⟨fun g=>no fun v=>by have:=v.tgt; simp only at this; omega,fun g2=>br_dec.2 ⟨fun g=>no fun v=>by have:=v.tgt; simp only at this; omega,fun g3=>?_⟩⟩
 refine ⟨inR (by omega) (by omega),inR (by omega) (by omega),inR (by omega) (by omega),?_⟩
 refine br_dec.2 ⟨fun g=>no fun v=>by have:=v.inc; simp only at this; omega,fun g4=>br_dec.2 ⟨fun g=>no fun v=>by have:=v.onc; simp only at this; omega,fun g5=>?_⟩⟩
 refine ⟨inR (by omega) (by omega),inR (by omega) (by omega),?_⟩
 refine br_dec.2 ⟨fun g=>no fun v=>by have:=v.tot; simp only at this; omega,fun g6=>?_⟩
 have e:([o,f,wo,wf]:List (LI)).flatten=((o++f)++wo)++wf:=by simp
 refine ⟨⟨by simp,by rw [e]; simp; omega⟩,?_⟩
 rw [e]
 refine ⟨by simp; omega,fun b hb=>hk b ?_⟩
 rw [hb]
 have e2:∀ x,x∈((o++f)++wo)++wf↔(x∈o∨x∈f∨x∈wo∨x∈wf):=fun x=>by simp [List.mem_append,or_assoc]
 exact ⟨fun ⟨h5,h6⟩=>⟨g1,⟨by simp only; omega,by simp only; omega⟩,by simp only; omega,by simp only; omega,by simp only; omega,D4_nodup.1 h6,fun x hx=>h5 x ((e2 x).2 hx)⟩,fun v=>⟨fun x hx=>v.rng x ((e2 x).1 hx),D4_nodup.2 v.dis⟩⟩

def G_qai (e c:Int) (i h:LI) (b a:LI) (g:Int) (k:Int→Prop):Prop:=F_qbt b g fun f=>br f (((b.length:Int)≠0∧InR (Int.tdiv (a.length:Int) (b.length:Int)))∧InR (c+(if (Int.tdiv (a.length:Int) (b.length:Int)) < 1 then (1:Int) else (Int.tdiv (a.length:Int) (b.length:Int))))∧k (if e < (c+(if (Int.tdiv (a.length:Int) (b.length:Int)) < 1 then (1:Int) else (Int.tdiv (a.length:Int) (b.length:Int)))) then e else (c+(if (Int.tdiv (a.length:Int) (b.length:Int)) < 1 then (1:Int) else (Int.tdiv (a.length:Int) (b.length:Int)))))) (F_qbt a g fun d=>br d (((a.length:Int)≠0∧InR (Int.tdiv (b.length:Int) (a.length:Int)))∧InR (c - (if (Int.tdiv (b.length:Int) (a.length:Int)) < 1 then (1:Int) else (Int.tdiv (b.length:Int) (a.length:Int))))∧k (if (c - (if (Int.tdiv (b.length:Int) (a.length:Int)) < 1 then (1:Int) else (Int.tdiv (b.length:Int) (a.length:Int)))) < 0 then (0:Int) else (c - (if (Int.tdiv (b.length:Int) (a.length:Int)) < 1 then (1:Int) else (Int.tdiv (b.length:Int) (a.length:Int)))))) (k c))
def S_qai (e c:Int) (f d:LI) (b a:LI) (g:Int) (k:Int→Prop):Prop:=G_qai e c f d b a g k
def F_qai (r t:Int) (o f wo wf:LI) (key:Int) (k:Int→Prop):Prop:=VLists r ⟨t,o,f,wo,wf⟩∧k (nextT r ⟨t,o,f,wo,wf⟩ key)
theorem F_qai_S {r t:Int} {o f wo wf:LI} {key:Int} {k:Int→Prop} (h:F_qai r t o f wo wf key k):S_qai r t o f wo wf key k:=by
 obtain ⟨v,hk⟩:=h
 obtain ⟨l1,l2,l3,l4⟩:=lists_len v
 have r1:=v.room1
 have tg:=v.tgt
 simp only at l1 l2 l3 l4 tg
 have mx:∀ x:Int,(if x < 1 then (1:Int) else x)=max1 x:=fun x=>by unfold max1; split <;> split <;> omega
 unfold nextT at hk
 refine ⟨by omega,br_dec.2 ⟨fun m3=>?_,fun m3=>⟨by omega,br_dec.2 ⟨fun m4=>?_,fun m4=>?_⟩⟩⟩⟩
 ·rw [if_pos m3] at hk
  have hp:0 < wo.length:=List.length_pos_of_mem m3
  have q1:0≤Int.tdiv (wf.length:Int) wo.length:=Int.tdiv_nonneg (by omega) (by omega)
  have q2:Int.tdiv (wf.length:Int) wo.length≤wf.length:=Int.tdiv_le_self _ (by omega)
  have q3:1≤max1 (Int.tdiv (wf.length:Int) wo.length)∧max1 (Int.tdiv (wf.length:Int) wo.length)≤16:=⟨max1_pos _,by unfold max1; split <;> omega⟩
  rw [mx]
  refine ⟨⟨by omega,inR (by omega) (by omega)⟩,inR (by omega) (by omega),?_⟩
  have e:(if r < t+max1 (Int.tdiv (wf.length:Int) wo.length) then r else t+max1 (Int.tdiv (wf.length:Int) wo.length))=(if t+max1 (Int.tdiv (wf.length:Int) wo.length) < r then t+max1 (Int.tdiv (wf.length:Int) wo.length) else r):=by split <;> split <;> omega
  rw [e]; exact hk
 ·rw [if_neg m3,if_pos m4] at hk
  have hp:0 < wf.length:=List.length_pos_of_mem m4
  have q1:0≤Int.tdiv (wo.length:Int) wf.length:=Int.tdiv_nonneg (by omega) (by omega)
  have q2:Int.tdiv (wo.length:Int) wf.length≤wo.length:=Int.tdiv_le_self _ (by omega)
  have q3:1≤max1 (Int.tdiv (wo.length:Int) wf.length)∧max1 (Int.tdiv (wo.length:Int) wf.length)≤16:=⟨max1_pos _,by unfold max1; split <;> omega⟩
  rw [mx]
  refine ⟨⟨by omega,inR (by omega) (by omega)⟩,inR (by omega) (by omega),?_⟩
  have e:(if t - max1 (Int.tdiv (wo.length:Int) wf.length) < 0 then (0:Int) else t - max1 (Int.tdiv (wo.length:Int) wf.length))=(if 0 < t - max1 (Int.tdiv (wo.length:Int) wf.length) then t - max1 (Int.tdiv (wo.length:Int) wf.length) else 0):=by split <;> split <;> omega
  rw [e]; exact hk
 ·rw [if_neg m3,if_neg m4] at hk
  exact hk

def T5_qs_j0 (g l a:Int) (b c:LI) (m h:LI) (i j:Bool) (k:Int→Int→LI→LI→LI→LI→Bool→Prop):Prop:=(F_qal m (List.getD c (Int.toNat ((c.length:Int) - 1)) (0:Int)) fun d=>((br j (F_qal b l fun e=>k g a (List.take (Int.toNat ((c.length:Int) - 1)) (List.drop 0 c)) e d h i) (F_qal (List.take (Int.toNat ((c.length:Int) - 1)) (List.drop 0 c)) l fun f=>k g a f b d h i))∧(True))∧(True))∧(True)
def T5_qs_j1 (e i b:Int) (c a:LI) (f g:LI) (h d:Bool) (k:Int→Int→LI→LI→LI→LI→Bool→Prop):Prop:=((InR ((a.length:Int) - 1)∧(0≤((a.length:Int) - 1)∧((a.length:Int) - 1) < (a.length:Int))∧(InR ((a.length:Int) - 1)∧(0≤((a.length:Int) - 1)∧((a.length:Int) - 1)≤(a.length:Int))∧(T5_qs_j0 e i b c a f g h d k)∧(True))∧(((InR ((a.length:Int) - 1)∧(0≤((a.length:Int) - 1)∧((a.length:Int) - 1)≤(a.length:Int))∧T5_qs_j0 e i b c a f g h d k)∧(True))∧(True)))∧(True))∧(True)
def T5_qs (d i a:Int) (b e:LI) (f g:LI) (h c:Bool) (k:Int→Int→LI→LI→LI→LI→Bool→Prop):Prop:=(T5_qs_j1 d i a b e f g h c k)∧((T5_qs_j1 d i a b e f g h c k)∧(True))
def U5_qs (g l b:Int) (c a:LI) (m h:LI) (i j:Bool) (k:Int→Int→LI→LI→LI→LI→Bool→Prop):Prop:=InR ((a.length:Int) - 1)∧(0≤((a.length:Int) - 1)∧((a.length:Int) - 1) < (a.length:Int))∧InR ((a.length:Int) - 1)∧(0≤((a.length:Int) - 1)∧((a.length:Int) - 1)≤(a.length:Int))∧F_qal m (List.getD a (Int.toNat ((a.length:Int) - 1)) (0:Int)) fun d=>br j (F_qal c l fun e=>k g b (List.take (Int.toNat ((a.length:Int) - 1)) (List.drop 0 a)) e d h i) (F_qal (List.take (Int.toNat ((a.length:Int) - 1)) (List.drop 0 a)) l fun f=>k g b f c d h i)
theorem T5_qs_eq (d j a:Int) (b e:LI) (f g:LI) (i c:Bool) (k:Int→Int→LI→LI→LI→LI→Bool→Prop):T5_qs d j a b e f g i c k=U5_qs d j a b e f g i c k:=by
 first
 | (simp only [T5_qs,U5_qs,T5_qs_j0,T5_qs_j1,and_self,and_true]; done)
 | (simp only [T5_qs,U5_qs,T5_qs_j0,T5_qs_j1,and_self,and_true,and_self_left,and_assoc]; refine propext ⟨fun h=>?_,fun h=>?_⟩ <;> (repeat (cases ‹_∧_›)) <;> (repeat' (apply And.intro)) <;> assumption)
def L5_qs (d i a:Int) (b e:LI) (f g:LI) (h c:Bool) (k:Int→Int→LI→LI→LI→LI→Bool→Prop):Prop:=U5_qs d i a b e f g h c k
def T4_qs_j0 (f l b:Int) (a g:LI) (h m:LI) (i j:Bool) (k:Int→Int→LI→LI→LI→LI→Bool→Prop):Prop:=(F_qal m (List.getD a (Int.toNat ((a.length:Int) - 1)) (0:Int)) fun c=>((br j (F_qal (List.take (Int.toNat ((a.length:Int) - 1)) (List.drop 0 a)) l fun d=>k f b g d h c i) (F_qal g l fun e=>k f b e (List.take (Int.toNat ((a.length:Int) - 1)) (List.drop 0 a)) h c i))∧(True))∧(True))∧(True)
def T4_qs_j1 (d i b:Int) (a e:LI) (f g:LI) (h c:Bool) (k:Int→Int→LI→LI→LI→LI→Bool→Prop):Prop:=((InR ((a.length:Int) - 1)∧(0≤((a.length:Int) - 1)∧((a.length:Int) - 1) < (a.length:Int))∧(InR ((a.length:Int) - 1)∧(0≤((a.length:Int) - 1)∧((a.length:Int) - 1)≤(a.length:Int))∧(T4_qs_j0 d i b a e f g h c k)∧(True))∧(((InR ((a.length:Int) - 1)∧(0≤((a.length:Int) - 1)∧((a.length:Int) - 1)≤(a.length:Int))∧T4_qs_j0 d i b a e f g h c k)∧(True))∧(True)))∧(True))∧(True)
def T4_qs (d i b:Int) (a e:LI) (f g:LI) (h c:Bool) (l j:Bool) (k:Int→Int→LI→LI→LI→LI→Bool→Prop) (I5:Int→Int→Int→LI→LI→LI→LI→Bool→Bool→Prop):Prop:=br l (I5 d i b a e f g h c) (br j (I5 d i b a e f g h c) (br ((a.length:Int)==0) (I5 d i b a e f g h c) ((T4_qs_j1 d i b a e f g h c k)∧((T4_qs_j1 d i b a e f g h c k)∧(True)))))
def U4_qs (c j b:Int) (a e:LI) (f i:LI) (g d:Bool) (o l:Bool) (k:Int→Int→LI→LI→LI→LI→Bool→Prop) (I5:Int→Int→Int→LI→LI→LI→LI→Bool→Bool→Prop):Prop:=br o (I5 c j b a e f i g d) (br l (I5 c j b a e f i g d) (br ((a.length:Int)==0) (I5 c j b a e f i g d) (InR ((a.length:Int) - 1)∧(0≤((a.length:Int) - 1)∧((a.length:Int) - 1) < (a.length:Int))∧InR ((a.length:Int) - 1)∧(0≤((a.length:Int) - 1)∧((a.length:Int) - 1)≤(a.length:Int))∧F_qal i (List.getD a (Int.toNat ((a.length:Int) - 1)) (0:Int)) fun h=>br d (F_qal (List.take (Int.toNat ((a.length:Int) - 1)) (List.drop 0 a)) j fun m=>k c b e m f h g) (F_qal e j fun n=>k c b n (List.take (Int.toNat ((a.length:Int) - 1)) (List.drop 0 a)) f h g))))
theorem T4_qs_eq (f m a:Int) (b g:LI) (i j:LI) (l e:Bool) (d c:Bool) (k:Int→Int→LI→LI→LI→LI→Bool→Prop) (I5:Int→Int→Int→LI→LI→LI→LI→Bool→Bool→Prop):T4_qs f m a b g i j l e d c k I5=U4_qs f m a b g i j l e d c k I5:=by
 first
 | (simp only [T4_qs,U4_qs,T4_qs_j0,T4_qs_j1,and_self,and_true]; done)
 | (simp only [T4_qs,U4_qs,T4_qs_j0,T4_qs_j1,and_self,and_true,and_self_left,and_assoc]; refine propext ⟨fun h=>?_,fun h=>?_⟩ <;> (repeat (cases ‹_∧_›)) <;> (repeat' (apply And.intro)) <;> assumption)
def L4_qs (d j a:Int) (b e:LI) (f g:LI) (h c:Bool) (k:Int→Int→LI→LI→LI→LI→Bool→Prop) (l i:Bool):Prop:=U4_qs d j a b e f g h c l i k (fun d j a b e f g h c=>L5_qs d j a b e f g h c k)
def T3_qs (d:Int) (j:Bool) (i a:Int) (b:LI) (f e:Bool) (c g h:LI) (k:Int→Int→LI→LI→LI→LI→Bool→Prop) (I4:Int→Int→Int→LI→LI→LI→LI→Bool→Bool→Bool→Bool→Prop):Prop:=InR ((c.length:Int)+(b.length:Int))∧br (((c.length:Int)+(b.length:Int))==d) (br j (br (decide ((c.length:Int) > 0)) (I4 d i a b c g h f e (decide ((c.length:Int) > a)) ((c.length:Int)==a)) (I4 d i a b c g h f e (decide ((c.length:Int) > a)) false)) (I4 d i a b c g h f e (decide ((c.length:Int) > a)) false)) (br e (F_qal b i fun l=>k d a c l g h f) (F_qal c i fun m=>k d a m b g h f))
def L3_qs (d:Int) (e:Bool) (l a:Int) (b:LI) (f c:Bool) (k:Int→Int→LI→LI→LI→LI→Bool→Prop) (g h i:LI):Prop:=T3_qs d e l a b f c g h i k (fun d l a b g h i f c m j=>L4_qs d l a b g h i f c k m j)
def T2_qs_j0 (f:Int) (g:Bool) (j e:Int) (a d:LI) (c b:LI) (i h:Bool) (I3:Int→Bool→Int→Int→LI→Bool→Bool→LI→LI→LI→Prop):Prop:=br (((a.length:Int)+(c.length:Int))==f) (InR ((a.length:Int) - 1)∧(0≤((a.length:Int) - 1)∧((a.length:Int) - 1)≤(a.length:Int))∧I3 f g j e d i h (List.take (Int.toNat ((a.length:Int) - 1)) (List.drop 0 a)) c b) (InR (((a.length:Int)+(c.length:Int))+((d.length:Int)+(b.length:Int)))∧InR (2*f)∧br ((((a.length:Int)+(c.length:Int))+((d.length:Int)+(b.length:Int)))==(2*f)) (InR ((b.length:Int) - 1)∧(0≤((b.length:Int) - 1)∧((b.length:Int) - 1)≤(b.length:Int))∧I3 f g j e d i h a c (List.take (Int.toNat ((b.length:Int) - 1)) (List.drop 0 b))) (I3 f g j e d i h a c b))
def T2_qs (h:Int) (f:Bool) (j e:Int) (b c:LI) (a d:LI) (i g:Bool) (I3:Int→Bool→Int→Int→LI→Bool→Bool→LI→LI→LI→Prop):Prop:=br (!g) (InR ((b.length:Int)+(a.length:Int))∧InR ((c.length:Int)+(d.length:Int))∧br (((b.length:Int)+(a.length:Int))==h) (br (decide ((a.length:Int) > 0)) (InR ((a.length:Int) - 1)∧(0≤((a.length:Int) - 1)∧((a.length:Int) - 1)≤(a.length:Int))∧I3 h f j e c i g b (List.take (Int.toNat ((a.length:Int) - 1)) (List.drop 0 a)) d) (T2_qs_j0 h f j e b c a d i g I3)) (T2_qs_j0 h f j e b c a d i g I3)) (I3 h f j e c i g b a d)
def L2_qs (e:Int) (c:Bool) (j a:Int) (f b:LI) (g h:LI) (i:Bool) (k:Int→Int→LI→LI→LI→LI→Bool→Prop) (d:Bool):Prop:=T2_qs e c j a f b g h i d (fun e c j a b i d l m n=>L3_qs e c j a b i d k l m n)
def T1_qs (o p:LI) (h n:Int) (j m:LI) (i b:Int) (c d:LI) (e f:LI) (g:Bool) (I2:Int→Bool→Int→Int→LI→LI→LI→LI→Bool→Bool→Prop):Prop:=F_qbt j i fun a=>br g (I2 h a i b c d e f g true) (br a (I2 h a i b c d e f g true) (F_qbt m i fun l=>I2 h a i b c d e f g l))
def L1_qs (n p:LI) (f l:Int) (g j:LI) (m a:Int) (b c:LI) (d e:LI) (k:Int→Int→LI→LI→LI→LI→Bool→Prop) (h:Bool):Prop:=T1_qs n p f l g j m a b c d e h (fun f i m a b c d e h o=>L2_qs f i m a b c d e h k o)
def T0_qs (g i:LI) (o j:Int) (f h:LI) (l a:Int) (b c:LI) (d e:LI) (I1:LI→LI→Int→Int→LI→LI→Int→Int→LI→LI→LI→LI→Bool→Prop):Prop:=F_qbt i l fun m=>br m (I1 g i o j f h l a b c d e true) (F_qbt g l fun n=>I1 g i o j f h l a b c d e n)
def L0_qs (i j:LI) (l h:Int) (f g:LI) (m a:Int) (b c:LI) (d e:LI) (k:Int→Int→LI→LI→LI→LI→Bool→Prop):Prop:=T0_qs i j l h f g m a b c d e (fun i j l h f g m a b c d e n=>L1_qs i j l h f g m a b c d e k n)
def G_qs_j0 (i j:LI) (l h:Int) (f g:LI) (m a:Int) (b c:LI) (d e:LI) (I0:LI→LI→Int→Int→LI→LI→Int→Int→LI→LI→LI→LI→Prop):Prop:=(I0 i j l h f g m a b c d e)∧(True)
def G_qs_j1 (i j:LI) (l h:Int) (a g:LI) (m b:Int) (c d e:LI) (I0:LI→LI→Int→Int→LI→LI→Int→Int→LI→LI→LI→LI→Prop):Prop:=(F_qbk a m fun f=>G_qs_j0 i j l h a g m b c d e f I0)∧(True)
def G_qs_j2 (h i:LI) (j g:Int) (f a:LI) (l b:Int) (c d:LI) (I0:LI→LI→Int→Int→LI→LI→Int→Int→LI→LI→LI→LI→Prop):Prop:=(F_qbk a l fun e=>G_qs_j1 h i j g f a l b c d e I0)∧(True)
def G_qs_j3 (d h:LI) (i g:Int) (e f:LI) (j a:Int) (b:LI) (I0:LI→LI→Int→Int→LI→LI→Int→Int→LI→LI→LI→LI→Prop):Prop:=(F_qbk d j fun c=>G_qs_j2 d h i g e f j a b c I0)∧(True)
def G_qs_j4 (g d:LI) (h f:Int) (c e:LI) (i a:Int) (I0:LI→LI→Int→Int→LI→LI→Int→Int→LI→LI→LI→LI→Prop):Prop:=(F_qbk d i fun b=>G_qs_j3 g d h f c e i a b I0)∧(True)
def G_qs (g d:Int) (f e:LI) (b a:LI) (i:Int) (k:Int→Int→LI→LI→LI→LI→Bool→Prop) (I0:LI→LI→Int→Int→LI→LI→Int→Int→LI→LI→LI→LI→Prop):Prop:=F_qy g d f e b a fun m=>br (!m) (k 0 0 ([]:LI) ([]:LI) ([]:LI) ([]:LI) false) (F_qbd i fun o=>br (!o) (k 0 0 ([]:LI) ([]:LI) ([]:LI) ([]:LI) false) ((F_qai g d f e b a i fun c=>(F_qbk f i fun h=>(F_qbk e i fun j=>(F_qbk b i fun l=>(F_qbk a i fun n=>(G_qs_j0 e f g d a b i c h j l n I0)∧(True))∧((G_qs_j1 e f g d a b i c h j l I0)∧(True)))∧((G_qs_j2 e f g d a b i c h j I0)∧(True)))∧((G_qs_j3 e f g d a b i c h I0)∧(True)))∧((G_qs_j4 e f g d a b i c I0)∧(True)))∧(((F_qai g d f e b a i fun c=>G_qs_j4 e f g d a b i c I0)∧(True))∧(True))))
def H_qs (g d:Int) (f c:LI) (b a:LI) (e:Int) (k:Int→Int→LI→LI→LI→LI→Bool→Prop) (I0:LI→LI→Int→Int→LI→LI→Int→Int→LI→LI→LI→LI→Prop):Prop:=F_qy g d f c b a fun h=>br (!h) (k 0 0 ([]:LI) ([]:LI) ([]:LI) ([]:LI) false) (F_qbd e fun o=>br (!o) (k 0 0 ([]:LI) ([]:LI) ([]:LI) ([]:LI) false) (F_qai g d f c b a e fun i=>F_qbk f e fun j=>F_qbk c e fun l=>F_qbk b e fun m=>F_qbk a e fun n=>I0 c f g d a b e i j l m n))
theorem G_qs_eq (e c:Int) (f d:LI) (b a:LI) (g:Int) (k:Int→Int→LI→LI→LI→LI→Bool→Prop) (I0:LI→LI→Int→Int→LI→LI→Int→Int→LI→LI→LI→LI→Prop):G_qs e c f d b a g k I0=H_qs e c f d b a g k I0:=by
 first
 | (simp only [G_qs,H_qs,G_qs_j0,G_qs_j1,G_qs_j2,G_qs_j3,G_qs_j4,and_self,and_true]; done)
 | (simp only [G_qs,H_qs,G_qs_j0,G_qs_j1,G_qs_j2,G_qs_j3,G_qs_j4,and_self,and_true,and_self_left,and_assoc]; refine propext ⟨fun h=>?_,fun h=>?_⟩ <;> (repeat (cases ‹_∧_›)) <;> (repeat' (apply And.intro)) <;> assumption)
def S_qs (e c:Int) (f d:LI) (b a:LI) (m:Int) (k:Int→Int→LI→LI→LI→LI→Bool→Prop):Prop:=H_qs e c f d b a m k (fun d f e c a b m g h i j l=>L0_qs d f e c a b m g h i j l k)
def F_qs (r t:Int) (o f wo wf:LI) (key:Int) (k:Int→Int→LI→LI→LI→LI→Bool→Prop):Prop:=
 (o.length≤100000000∧f.length≤100000000∧wo.length≤100000000∧wf.length≤100000000)∧
 ((VLists r ⟨t,o,f,wo,wf⟩∧0≤key∧key≤31)→k r (adM r ⟨t,o,f,wo,wf⟩ key).1.t (adM r ⟨t,o,f,wo,wf⟩ key).1.o (adM r ⟨t,o,f,wo,wf⟩ key).1.f (adM r ⟨t,o,f,wo,wf⟩ key).1.wo (adM r ⟨t,o,f,wo,wf⟩ key).1.wf (adM r ⟨t,o,f,wo,wf⟩ key).2)∧
 (¬ (VLists r ⟨t,o,f,wo,wf⟩∧0≤key∧key≤31)→k 0 0 [] [] [] [] false)
theorem F_qs_S {r t:Int} {o f wo wf:LI} {key:Int} {k:Int→Int→LI→LI→LI→LI→Bool→Prop} (h:F_qs r t o f wo wf key k):S_qs r t o f wo wf key k:=by
 obtain ⟨hl,hyes,hno⟩:=h
 refine ⟨hl,?_⟩
 intro b hb
 refine br_not.2 (br_iff.2 ⟨fun e=>?_,fun e=>hno fun w=>by rw [hb.2 w.1] at e; cases e⟩)
 refine br_not.2 (br_dec.2 ⟨fun hkey=>?_,fun hkey=>hno fun w=>hkey w.2⟩)
 have v:=hb.1 e
 have hk:=hyes ⟨v,hkey⟩
 simp only [useL_adM v] at hk
 obtain ⟨l1,l2,l3,l4⟩:=lists_len v
 have r1:=v.room1
 have tg:=v.tgt
 have hinc:=v.inc
 have honc:=v.onc
 have htot:=v.tot
 simp only at l1 l2 l3 l4 tg hinc honc htot
 let K:Bool→Bool→AL→Prop:=fun kn hit b=>k r (inL (kn=true) key b).t (inL (kn=true) key b).o (inL (kn=true) key b).f (inL (kn=true) key b).wo (inL (kn=true) key b).wf hit
 have put:∀ (kn hit:Bool) (b:AL),b.f.length≤100→b.o.length≤100→K kn hit b→
   br kn (F_qal b.f key fun p=>k r b.t b.o p b.wo b.wf hit) (F_qal b.o key fun p=>k r b.t p b.f b.wo b.wf hit):=by
  intro kn hit b g1 g2 hK
  cases kn
  ·exact ⟨by omega,hK⟩
  ·exact ⟨by omega,hK⟩
 have cut:∀ l:LI,0 < l.length→l.length≤100→(((l.length:Int) - 1).toNat=l.length - 1):=fun l _ _=>by omega
 have s5:∀ (t':Int) (f o wo wf:LI) (hit kn:Bool),0 < o.length→o.length≤50→f.length≤50→wo.length≤50→wf.length≤50→
   K kn hit ⟨t',o.take (o.length - 1),f,lastI o :: wo,wf⟩→L5_qs r key t' f o wo wf hit kn k:=by
  intro t' f o wo wf hit kn g1 g2 g3 g4 g5 hK
  refine ⟨inR (by omega) (by omega),⟨by omega,by omega⟩,inR (by omega) (by omega),⟨by omega,by omega⟩,by omega,?_⟩
  rw [cut o g1 (by omega)]
  exact put kn hit ⟨t',o.take (o.length - 1),f,lastI o :: wo,wf⟩ (by simp only; omega) (by simp only [List.length_take]; omega) hK
 have s4:∀ (t':Int) (f o wo wf:LI) (hit kn was en:Bool),0≤t'→0 < o.length+f.length→o.length≤50→f.length≤50→wo.length≤50→wf.length≤50→
   (en=true↔was=true∧0 < o.length∧(o.length:Int)=t')→
   K kn hit (mkRoom was ⟨t',o,f,wo,wf⟩)→L4_qs r key t' f o wo wf hit kn k (decide ((o.length:Int) > t')) en:=by
  intro t' f o wo wf hit kn was en g0 g1 g2 g3 g4 g5 hen hK
  unfold mkRoom at hK
  have yes:((0 < o.length∧((o.length:Int) > t'∨was=true∧(o.length:Int)=t'))∨f.length=0)→L5_qs r key t' f o wo wf hit kn k:=by
   intro c
   rw [if_pos c] at hK
   exact s5 t' f o wo wf hit kn (by omega) g2 g3 g4 g5 hK
  refine br_dec.2 ⟨fun c=>yes (.inl ⟨by omega,.inl c⟩),fun c1=>br_iff.2 ⟨fun c=>yes (.inl ⟨(hen.1 c).2.1,.inr ⟨(hen.1 c).1,(hen.1 c).2.2⟩⟩),fun c2=>br_beq.2 ⟨fun c=>yes (.inr (by omega)),fun c3=>?_⟩⟩⟩
  have hf:0 < f.length:=by omega
  rw [if_neg (fun c=>by
   rcases c with ⟨c4,c5 | c5⟩ | c
   ·exact c1 c5
   ·rw [hen.2 ⟨c5.1,c4,c5.2⟩] at c2; cases c2
   ·simp only at c; omega)] at hK
  refine ⟨inR (by omega) (by omega),⟨by omega,by omega⟩,inR (by omega) (by omega),⟨by omega,by omega⟩,by omega,?_⟩
  rw [cut f hf (by omega)]
  exact put kn hit ⟨t',o,f.take (f.length - 1),wo,lastI f :: wf⟩ (by simp only [List.length_take]; omega) (by simp only; omega) hK
 have s3:∀ (t':Int) (f o wo wf:LI) (hit kn was:Bool),0≤t'→o.length≤50→f.length≤50→wo.length≤50→wf.length≤50→
   K kn hit (fitL r was ⟨t',o,f,wo,wf⟩)→L3_qs r was key t' f hit kn k o wo wf:=by
  intro t' f o wo wf hit kn was g0 g2 g3 g4 g5 hK
  refine ⟨inR (by omega) (by omega),br_beq.2 ⟨fun c=>?_,fun c=>?_⟩⟩
  ·rw [fitL,if_pos c] at hK
   refine br_iff.2 ⟨fun hw=>br_dec.2 ⟨fun ho=>?_,fun ho=>?_⟩,fun hw=>?_⟩
   ·exact s4 t' f o wo wf hit kn was _ g0 (by omega) g2 g3 g4 g5 (by simp only [beq_iff_eq]; exact ⟨fun h=>⟨hw,by omega,h⟩,fun h=>h.2.2⟩) hK
   ·exact s4 t' f o wo wf hit kn was _ g0 (by omega) g2 g3 g4 g5 (by simp only [Bool.false_eq_true,false_iff]; intro h; omega) hK
   ·exact s4 t' f o wo wf hit kn was _ g0 (by omega) g2 g3 g4 g5 (by rw [hw]; simp) hK
  ·rw [fitL,if_neg c] at hK
   exact put kn hit ⟨t',o,f,wo,wf⟩ (by simp only; omega) (by simp only; omega) hK
 have s2:∀ (t':Int) (f o wo wf:LI) (hit kn was:Bool),0≤t'→o.length≤50→f.length≤50→wo.length≤50→wf.length≤50→
   (kn=false→(o.length:Int)+f.length≤r∧(o.length:Int)+wo.length≤r)→
   K kn hit (fitL r was (if kn=true then ⟨t',o,f,wo,wf⟩ else forgetL r ⟨t',o,f,wo,wf⟩))→L2_qs r was key t' o f wo wf hit k kn:=by
  intro t' f o wo wf hit kn was g0 g2 g3 g4 g5 g6 hK
  refine br_not.2 (br_iff.2 ⟨fun c=>?_,fun c=>?_⟩)
  ·rw [if_pos c] at hK
   exact s3 t' f o wo wf hit kn was g0 g2 g3 g4 g5 hK
  ·obtain ⟨g7,g8⟩:=g6 c
   rw [if_neg (by rw [c]; simp)] at hK
   unfold forgetL at hK
   have tail:¬ ((o.length:Int)+wo.length=r∧0 < wo.length)→T2_qs_j0 r was key t' o f wo wf hit kn (fun a0Room contains54 key1 nextTarget23 withoutKey31 xhit7 xknown9 xb6c2 xb6c4 xb6c5=>L3_qs a0Room contains54 key1 nextTarget23 withoutKey31 xhit7 xknown9 k xb6c2 xb6c4 xb6c5):=by
    intro n1
    rw [if_neg n1] at hK
    refine br_beq.2 ⟨fun c=>?_,fun c=>⟨inR (by omega) (by omega),inR (by omega) (by omega),br_beq.2 ⟨fun c2=>?_,fun c2=>?_⟩⟩⟩
    ·rw [if_pos c] at hK
     refine ⟨inR (by omega) (by omega),⟨by omega,by omega⟩,?_⟩
     rw [cut o (by omega) (by omega)]
     exact s3 t' f _ wo wf hit kn was g0 (by simp [List.length_take]; omega) g3 g4 g5 hK
    ·rw [if_neg c,if_pos (show (o.length:Int)+wo.length+f.length+wf.length=2*r by omega)] at hK
     refine ⟨inR (by omega) (by omega),⟨by omega,by omega⟩,?_⟩
     rw [cut wf (by omega) (by omega)]
     exact s3 t' f o wo _ hit kn was g0 g2 g3 g4 (by simp [List.length_take]; omega) hK
    ·rw [if_neg c,if_neg (show ¬ ((o.length:Int)+wo.length+f.length+wf.length=2*r) by omega)] at hK
     exact s3 t' f o wo wf hit kn was g0 g2 g3 g4 g5 hK
   refine ⟨inR (by omega) (by omega),inR (by omega) (by omega),br_beq.2 ⟨fun c1=>br_dec.2 ⟨fun c2=>?_,fun c2=>tail (by omega)⟩,fun c1=>tail (by omega)⟩⟩
   rw [if_pos (show (o.length:Int)+wo.length=r∧0 < wo.length from ⟨c1,by omega⟩)] at hK
   refine ⟨inR (by omega) (by omega),⟨by omega,by omega⟩,?_⟩
   rw [cut wo (by omega) (by omega)]
   exact s3 t' f o _ wf hit kn was g0 g2 g3 (by simp [List.length_take]; omega) g5 hK
 have b1:=@rmK_le o key
 have b2:=@rmK_le f key
 have b3:=@rmK_le wo key
 have b4:=@rmK_le wf key
 have nt:0≤nextT r ⟨t,o,f,wo,wf⟩ key:=by
  unfold nextT
  have:=max1_pos (Int.tdiv (wf.length:Int) wo.length)
  split
  ·simp only; split <;> omega
  ·split
   ·simp only; split <;> omega
   ·exact tg.1
 have fin:∀ (kn hit:Bool),(kn=true↔knownL ⟨t,o,f,wo,wf⟩ key)→hit=decide (key∈o∨key∈f)→
   L2_qs r (decide (key∈wf)) key (nextT r ⟨t,o,f,wo,wf⟩ key) (rmK o key) (rmK f key) (rmK wo key) (rmK wf key) hit k kn:=by
  intro kn hit h1 h2
  refine s2 _ _ _ _ _ hit kn _ nt (by omega) (by omega) (by omega) (by omega) (fun _=>by omega) ?_
  show k r _ _ _ _ _ hit
  rw [h2]
  have e1:∀ b,inL (kn=true) key b=inL (knownL ⟨t,o,f,wo,wf⟩ key) key b:=fun b=>by unfold inL; simp only [h1]
  simp only [e1,h1]
  exact hk
 refine ⟨v,by omega,by omega,by omega,by omega,by omega,br_dec.2 ⟨fun m1=>?_,fun m1=>⟨by omega,?_⟩⟩⟩
 ·refine ⟨by omega,?_⟩
  exact fin true true (by simp [knownL,m1]) (by simp [m1])
 ·refine ⟨by omega,br_dec.2 ⟨fun m2=>?_,fun m2=>br_dec.2 ⟨fun m4=>?_,fun m4=>⟨by omega,?_⟩⟩⟩⟩
  ·exact fin true _ (by simp [knownL,m2]) (by simp [m1])
  ·exact fin true _ (by simp [knownL,m4]) (by simp [m1])
  ·exact fin _ _ (by simp [knownL,m1,m2,m4]) (by simp [m1])

def T0_qay (r:LI) (q h:Int) (g j l:Int) (m n:LI) (o p:LI) (k:Int→Int→LI→LI→LI→LI→Int→Prop) (B0:Int→Int→Int→Int→LI→LI→LI→LI→Prop):Prop:=br (decide (g < q)) ((0≤g∧g < (r.length:Int))∧F_qs j l m n o p (List.getD r (Int.toNat g) (0:Int)) fun e c f d b a i=>br i (InR (h+1)∧InR (g+1)∧B0 (h+1) (g+1) e c f d b a) (InR (g+1)∧B0 h (g+1) e c f d b a)) (k j l m n o p h)
def L0_qay (j:LI) (a:Int) (k:Int→Int→LI→LI→LI→LI→Int→Prop):Nat→Int→Int→Int→Int→LI→LI→LI→LI→Prop | 0,_,_,_,_,_,_,_,_=>False | n+1,b,i,c,d,e,f,g,h=>T0_qay j a b i c d e f g h k (L0_qay j a k n)
def G_qay (g:LI) (e c:Int) (f d:LI) (b a:LI) (I0:LI→Int→Int→Int→Int→Int→LI→LI→LI→LI→Prop):Prop:=I0 g (g.length:Int) 0 0 e c f d b a
def S_qay (p:LI) (e c:Int) (f d:LI) (b a:LI) (k:Int→Int→LI→LI→LI→LI→Int→Prop):Prop:=G_qay p e c f d b a (fun p q g r h i l m n o=>∃ j,L0_qay p q k j g r h i l m n o)
def F_qay (t:LI) (room tg:Int) (o f wo wf:LI) (k:Int→Int→LI→LI→LI→LI→Int→Prop):Prop:=
 (VTrace t∧VLists room ⟨tg,o,f,wo,wf⟩)∧k room (runL room t ⟨tg,o,f,wo,wf⟩ 0).1.t (runL room t ⟨tg,o,f,wo,wf⟩ 0).1.o (runL room t ⟨tg,o,f,wo,wf⟩ 0).1.f (runL room t ⟨tg,o,f,wo,wf⟩ 0).1.wo (runL room t ⟨tg,o,f,wo,wf⟩ 0).1.wf (runL room t ⟨tg,o,f,wo,wf⟩ 0).2
theorem F_qay_S {t:LI} {room tg:Int} {o f wo wf:LI} {k:Int→Int→LI→LI→LI→LI→Int→Prop} (h:F_qay t room tg o f wo wf k):S_qay t room tg o f wo wf k:=by
 obtain ⟨⟨⟨t1,t2⟩,v⟩,hk⟩:=h
 have key:∀ (r:LI) (i:Nat) (a:AL) (n:Int),t.drop i=r→VLists room a→0≤n→n≤i→(let q:=runL room r a n; k room q.1.t q.1.o q.1.f q.1.wo q.1.wf q.2)→L0_qay t (t.length:Int) k (r.length+1) n (i:Int) room a.t a.o a.f a.wo a.wf:=by
  intro r
  induction r with
  | nil=>
   intro i a n hdr v n0 n1 hk
   have:=drop_nil' hdr
   rw [L0_qay,T0_qay]
   exact br_dec.2 ⟨fun h=>by omega,fun _=>hk⟩
  | cons x r ih=>
   intro i a n hdr v n0 n1 hk
   obtain ⟨h1,h2,h5,h3,h4⟩:=drop_cons' hdr
   have hx:=t2 x (List.mem_of_getElem? h5)
   obtain ⟨l1,l2,l3,l4⟩:=lists_len v
   rw [List.length_cons,L0_qay,T0_qay]
   simp only [br_dec,Int.toNat_natCast,h2]
   refine ⟨fun _=>⟨⟨by omega,by omega⟩,by omega,fun _=>?_,fun hv=>absurd ⟨v,hx⟩ hv⟩,fun h=>by omega⟩
   change (let q:=runL room r (adM room a x).1 (n+toI (adM room a x).2); k room q.1.t q.1.o q.1.f q.1.wo q.1.wf q.2) at hk
   refine br_iff.2 ⟨fun e=>⟨inR (by omega) (by omega),inR (by omega) (by omega),?_⟩,fun e=>⟨inR (by omega) (by omega),?_⟩⟩
   ·rw [show (adM room a x).2=true from e] at hk
    exact ih (i+1) _ _ h3 (adM_valid v hx) (by omega) (by omega) hk
   ·rw [show (adM room a x).2=false from e,show n+toI false=n by simp [toI]] at hk
    exact ih (i+1) _ _ h3 (adM_valid v hx) (by omega) (by omega) hk
 exact ⟨_,key t 0 ⟨tg,o,f,wo,wf⟩ 0 rfl v (by omega) (by omega) hk⟩

def G_qm (l:LI) (j:Int) (k:Int→Int→LI→LI→LI→LI→Int→Prop):Prop:=F_qaa l fun g=>br (!g) (k 0 0 ([]:LI) ([]:LI) ([]:LI) ([]:LI) (-1)) (F_qbf j fun h=>br (!h) (k 0 0 ([]:LI) ([]:LI) ([]:LI) ([]:LI) (-1)) (F_qay l j (0:Int) ([]:LI) ([]:LI) ([]:LI) ([]:LI) fun e c f d b a i=>k e c f d b a i))
def S_qm (b:LI) (a:Int) (k:Int→Int→LI→LI→LI→LI→Int→Prop):Prop:=G_qm b a k
def F_qm (t:LI) (room:Int) (k:Int→Int→LI→LI→LI→LI→Int→Prop):Prop:=
 ((VTrace t∧1≤room∧room≤8)→k room (runL room t ⟨0,[],[],[],[]⟩ 0).1.t (runL room t ⟨0,[],[],[],[]⟩ 0).1.o (runL room t ⟨0,[],[],[],[]⟩ 0).1.f (runL room t ⟨0,[],[],[],[]⟩ 0).1.wo (runL room t ⟨0,[],[],[],[]⟩ 0).1.wf (runL room t ⟨0,[],[],[],[]⟩ 0).2)∧
 (¬ (VTrace t∧1≤room∧room≤8)→k 0 0 [] [] [] [] (-1))
theorem F_qm_S {t:LI} {room:Int} {k:Int→Int→LI→LI→LI→LI→Int→Prop} (h:F_qm t room k):S_qm t room k:=by
 obtain ⟨hyes,hno⟩:=h
 intro b hb
 refine br_not.2 (br_iff.2 ⟨fun e=>br_not.2 (br_dec.2 ⟨fun hr=>?_,fun hr=>hno fun w=>hr w.2⟩),fun e=>hno fun v=>by rw [hb.2 v.1] at e; cases e⟩)
 have v:=hb.1 e
 exact ⟨⟨v,lists0 hr (by omega)⟩,hyes ⟨v,hr⟩⟩

def G_qbe (b:LI) (a:Int) (k:Bool→Prop):Prop:=br (decide (0≤a)) (k (decide (a≤(b.length:Int)))) (k false)
def S_qbe (b:LI) (a:Int) (k:Bool→Prop):Prop:=G_qbe b a k
def F_qbe (t:LI) (p:Int) (k:Bool→Prop):Prop:=k (decide (0≤p∧p≤t.length))
theorem F_qbe_S {t:LI} {p:Int} {k:Bool→Prop} (h:F_qbe t p k):S_qbe t p k:=by
 unfold F_qbe at h
 simp only [S_qbe,G_qbe,br_dec]
 refine ⟨fun h1=>?_,fun h1=>?_⟩
 ·simpa [h1] using h
 ·simpa [h1] using h

def G_qi (f:LI) (a g:Int) (k:Int→Prop):Prop:=F_qaa f fun d=>br (!d) (k (-1)) (F_qbe f a fun c=>br (!c) (k (-1)) (F_qbd g fun e=>br (!e) (k (-1)) ((0≤a∧a≤(f.length:Int))∧F_qby (List.drop (Int.toNat a) f) g fun b=>br (decide (b≥0)) (InR (a+b)∧k (a+b)) (k (f.length:Int)))))
def S_qi (c:LI) (a b:Int) (k:Int→Prop):Prop:=G_qi c a b k
def F_qi (t:LI) (i:Int) (key:Int) (k:Int→Prop):Prop:=(VTrace t∧(0≤i∧i≤t.length)∧0≤key∧key≤31→k (nextM t i key))∧(¬ (VTrace t∧(0≤i∧i≤t.length)∧0≤key∧key≤31)→k (-1))
theorem F_qi_S {t:LI} {i:Int} {key:Int} {k:Int→Prop} (h:F_qi t i key k):S_qi t i key k:=by
 obtain ⟨hyes,hno⟩:=h
 intro b hb
 refine br_not.2 (br_iff.2 ⟨fun e=>?_,fun e=>hno fun w=>by rw [hb.2 w.1] at e; cases e⟩)
 have v:=hb.1 e
 have hl:=v.1
 refine br_not.2 (br_dec.2 ⟨fun hi=>br_not.2 (br_dec.2 ⟨fun hkey=>?_,fun hkey=>hno fun w=>hkey w.2.2⟩),fun hi=>hno fun w=>hi w.2.1⟩)
 have hk:=hyes ⟨v,hi,hkey⟩
 have hd:(t.drop i.toNat).length=t.length - i.toNat:=List.length_drop
 refine ⟨hi,by omega,br_dec.2 ⟨fun hm=>?_,fun hm=>?_⟩⟩
 ·have:=plc_nxt (plc_ge.1 hm)
  have:=nxt_le key (t.drop i.toNat)
  rw [show nextM t i key=i+plc (t.drop i.toNat) key by unfold nextM; omega] at hk
  exact ⟨inR (by omega) (by omega),hk⟩
 ·have:=nxt_out (fun c=>hm (plc_ge.2 c))
  rw [show nextM t i key=(t.length:Int) by unfold nextM; omega] at hk
  exact hk

def T0_qae (c:LI) (f:Int) (h:LI) (g b a:Int) (k:Int→Prop) (B0:Int→Int→Prop):Prop:=br (decide (a < g)) ((0≤a∧a < (c.length:Int))∧F_qi h f (List.getD c (Int.toNat a) (0:Int)) fun d=>F_qi h f b fun e=>br (decide (d > e)) (InR (a+1)∧B0 (List.getD c (Int.toNat a) (0:Int)) (a+1)) (InR (a+1)∧B0 b (a+1))) (k b)
def L0_qae (a:LI) (c:Int) (f:LI) (d:Int) (k:Int→Prop):Nat→Int→Int→Prop | 0,_,_=>False | n+1,b,e=>T0_qae a c f d b e k (L0_qae a c f d k n)
def G_qae (c:LI) (b:Int) (a:LI) (I0:LI→Int→LI→Int→Int→Int→Prop):Prop:=(0≤(0:Int)∧0 < (a.length:Int))∧I0 a b c (a.length:Int) (List.getD a 0 (0:Int)) 0
def S_qae (d:LI) (b:Int) (a:LI) (k:Int→Prop):Prop:=G_qae d b a (fun a b d e c f=>∃ j,L0_qae a b d e k j c f)
def F_qae (t:LI) (i:Int) (l:LI) (k:Int→Prop):Prop:=(VTrace t∧(0≤i∧i≤t.length)∧(0 < l.length∧l.length≤1000000)∧∀ x∈l,0≤x∧x≤31)∧k (farM (t.drop i.toNat) l)
theorem F_qae_S {t:LI} {i:Int} {l:LI} {k:Int→Prop} (h:F_qae t i l k):S_qae t i l k:=by
 obtain ⟨⟨v,hi,hp,hr⟩,hk⟩:=h
 have h0:l.getD 0 0∈l:=mem_getD (by omega)
 have go:∀ (m j:Nat),j+m=l.length→L0_qae l i t (l.length:Int) k (m+1) (farK (t.drop i.toNat) (l.take j) (l.getD 0 0)) (j:Int):=by
  intro m
  induction m with
  | zero=>
   intro j hj
   rw [L0_qae,T0_qae,List.take_of_length_le (by omega)]
   refine br_dec.2 ⟨fun h=>by omega,fun _=>?_⟩
   have:farK (t.drop i.toNat) l (l.getD 0 0)=farM (t.drop i.toNat) l:=by
    cases l with
    | nil=>simp at hp
    | cons y l=>exact farK_self _ _ _
   rw [this]; exact hk
  | succ m ih=>
   intro j hj
   have next:=ih (j+1) (by omega)
   rw [take_get (by omega),farK_snoc] at next
   have hin:l.getD j 0∈l:=mem_getD (by omega)
   have hfar:farK (t.drop i.toNat) (l.take j) (l.getD 0 0)∈l:=by
    rcases List.mem_cons.1 (farK_mem (t.drop i.toNat) (l.take j) (l.getD 0 0)) with h | h
    ·rw [h]; exact h0
    ·exact List.mem_of_mem_take h
   rw [L0_qae,T0_qae]
   simp only [Int.toNat_natCast]
   refine br_yd (by omega) ⟨⟨by omega,by omega⟩,yes ⟨v,hi,hr _ hin⟩ (yes ⟨v,hi,hr _ hfar⟩ (br_dec.2 ⟨fun g=>⟨inR (by omega) (by omega),?_⟩,fun g=>⟨inR (by omega) (by omega),?_⟩⟩))⟩
   ·rw [if_pos (by unfold nextM at g; omega)] at next; exact next
   ·rw [if_neg (by unfold nextM at g; omega)] at next; exact next
 exact ⟨⟨by omega,by omega⟩,_,go l.length 0 (by omega)⟩

def T0_qd (h:Int) (g:LI) (i c a:Int) (b:LI) (k:Int→Prop) (B0:Int→Int→LI→Prop):Prop:=br (decide (a < i)) ((0≤a∧a < (g.length:Int))∧F_qbt b (List.getD g (Int.toNat a) (0:Int)) fun f=>br f (InR (c+1)∧InR (a+1)∧B0 (c+1) (a+1) b) (br ((b.length:Int)==h) (InR (a+1)∧F_qae g (a+1) b fun e=>F_qbk b e fun d=>(d.length+1≤1000000000)∧InR (a+1)∧B0 c (a+1) (d++([(List.getD g (Int.toNat a) (0:Int))]:LI))) ((b.length+1≤1000000000)∧InR (a+1)∧B0 c (a+1) (b++([(List.getD g (Int.toNat a) (0:Int))]:LI))))) (k c)
def L0_qd (a:Int) (f:LI) (c:Int) (k:Int→Prop):Nat→Int→Int→LI→Prop | 0,_,_,_=>False | n+1,d,e,b=>T0_qd a f c d e b k (L0_qd a f c k n)
def G_qd (d:LI) (c:Int) (k:Int→Prop) (I0:Int→LI→Int→Int→Int→LI→Prop):Prop:=F_qaa d fun a=>br (!a) (k (-1)) (F_qbf c fun b=>br (!b) (k (-1)) (I0 c d (d.length:Int) 0 0 ([]:LI)))
def S_qd (d:LI) (a:Int) (k:Int→Prop):Prop:=G_qd d a k (fun a d e c f b=>∃ j,L0_qd a d e k j c f b)
def F_qd (t:LI) (room:Int) (k:Int→Prop):Prop:=(VTrace t∧1≤room∧room≤8→k (bestM room.toNat t []:Int))∧(¬ (VTrace t∧1≤room∧room≤8)→k (-1))
theorem F_qd_S {t:LI} {room:Int} {k:Int→Prop} (h:F_qd t room k):S_qd t room k:=by
 obtain ⟨hyes,hno⟩:=h
 intro b hb
 refine br_not.2 (br_iff.2 ⟨fun e=>?_,fun e=>hno fun w=>by rw [hb.2 w.1] at e; cases e⟩)
 have v:=hb.1 e
 refine br_not.2 (br_dec.2 ⟨fun hr=>?_,fun hr=>hno fun w=>hr w.2⟩)
 have hk:=hyes ⟨v,hr⟩
 have h0:=v.1
 have go:∀ (r:LI) (i:Nat) (n:Int) (C:LI),t.drop i=r→0≤n→n≤i→C.Nodup→C.length≤room.toNat→(∀ x∈C,0≤x∧x≤31)→n+(bestM room.toNat r C:Int)=(bestM room.toNat t []:Int)→L0_qd room t (t.length:Int) k (r.length+1) n (i:Int) C:=by
  intro r
  induction r with
  | nil=>
   intro i n C hd n0 n1 hn hc hC he
   have:=drop_nil' hd
   rw [L0_qd,T0_qd]
   refine br_dec.2 ⟨fun h=>by omega,fun _=>?_⟩
   rw [show n=(bestM room.toNat t []:Int) by simpa [bestM] using he]; exact hk
  | cons x r ih=>
   intro i n C hd n0 n1 hn hc hC he
   obtain ⟨g1,g2,g5,g3,g4⟩:=drop_cons' hd
   have hx:=v.2 x (List.mem_of_getElem? g5)
   rw [List.length_cons,L0_qd,T0_qd]
   simp only [Int.toNat_natCast,g2]
   refine br_yd (by omega) ⟨⟨by omega,by omega⟩,by omega,br_dec.2 ⟨fun hm=>?_,fun hm=>?_⟩⟩
   ·rw [bestM,if_pos hm] at he
    exact ⟨inR (by omega) (by omega),inR (by omega) (by omega),ih (i+1) _ C g3 (by omega) (by omega) hn hc hC (by omega)⟩
   ·rw [bestM,if_neg hm] at he
    obtain ⟨m1,m2,m3,m4⟩:=missB_ok (room:=room.toNat) (r:=r) (by omega) hn hc hm
    have last:=ih (i+1) n (missB room.toNat r C x) g3 n0 (by omega) m1 m2 (fun y hy=>by
     rcases m4 y hy with h | h
     ·rw [h]; exact hx
     ·exact hC y h) he
    refine br_beq.2 ⟨fun hf=>⟨inR (by omega) (by omega),⟨v,⟨by omega,by omega⟩,⟨by omega,by omega⟩,hC⟩,?_⟩,fun hf=>?_⟩
    ·rw [show ((i:Int)+1).toNat=i+1 by omega,g3]
     have:=@rmK_le C (farM r C)
     rw [missB,if_pos (by omega)] at last
     exact ⟨by omega,by omega,inR (by omega) (by omega),last⟩
    ·rw [missB,if_neg (by omega)] at last
     exact ⟨by omega,inR (by omega) (by omega),last⟩
 exact ⟨_,go t 0 0 [] rfl (by omega) (by omega) (by simp) (by simp) (by simp) (by omega)⟩

def G_qak (n:LI) (a:ByteArray) (b:Int) (k:Int→Prop):Prop:=br (ByteArray.toList a==ByteArray.toList (strOfNums [114,101,99,101,110,116])) (F_qo n b fun u c=>k c) (br (ByteArray.toList a==ByteArray.toList (strOfNums [102,105,114,115,116])) (F_ql n b fun v d=>k d) (br (ByteArray.toList a==ByteArray.toList (strOfNums [99,108,111,99,107])) (F_qk n b fun o p q r e=>k e) (br (ByteArray.toList a==ByteArray.toList (strOfNums [111,102,116,101,110])) (F_qn n b fun w f=>k f) (br (ByteArray.toList a==ByteArray.toList (strOfNums [97,100,97,112,116,105,118,101])) (F_qm n b fun s l t m j i g=>k g) (br (ByteArray.toList a==ByteArray.toList (strOfNums [98,101,115,116])) (F_qd n b fun h=>k h) (k (-1)))))))
def S_qak (c:LI) (a:ByteArray) (b:Int) (k:Int→Prop):Prop:=G_qak c a b k
def F_qak (t:LI) (p:ByteArray) (room:Int) (k:Int→Prop):Prop:=∃ a,(BS a∧p=strOfNums a)∧VTrace t∧k (hitsM a t room)
theorem F_qak_S {t:LI} {p:ByteArray} {room:Int} {k:Int→Prop} (h:F_qak t p room k):S_qak t p room k:=by
 obtain ⟨a,⟨hb,rfl⟩,v,hk⟩:=h
 have bs:∀ {a:LI},(∀ x∈a,(0:Int)≤x∧x≤255)→BS a:=fun h=>h
 unfold S_qak G_qak
 rw [str_eq hb (bs (by decide)),str_eq hb (bs (by decide)),str_eq hb (bs (by decide)),str_eq hb (bs (by decide)),str_eq hb (bs (by decide)),str_eq hb (bs (by decide))]
 have two:∀ {A B:Prop},(1≤room∧room≤8→A)→(¬ (1≤room∧room≤8)→B)→((VTrace t∧1≤room∧room≤8→A)∧(¬ (VTrace t∧1≤room∧room≤8)→B)):=fun f g=>⟨fun h=>f h.2,fun h=>g fun q=>h ⟨v,q⟩⟩
 unfold hitsM at hk
 have no:¬ (1≤room∧room≤8)→k (-1):=fun h=>by rw [if_neg h] at hk; exact hk
 refine br_dec.2 ⟨fun p1=>two (fun hr=>?_) no,fun p1=>br_dec.2 ⟨fun p2=>two (fun hr=>?_) no,fun p2=>br_dec.2 ⟨fun p3=>two (fun hr=>?_) no,fun p3=>br_dec.2 ⟨fun p4=>two (fun hr=>?_) no,fun p4=>br_dec.2 ⟨fun p5=>two (fun hr=>?_) no,fun p5=>br_dec.2 ⟨fun p6=>two (fun hr=>?_) no,fun p6=>?_⟩⟩⟩⟩⟩⟩
 ·rw [if_pos hr,if_pos p1] at hk; exact hk
 ·rw [if_pos hr,if_neg p1,if_pos p2] at hk; exact hk
 ·rw [if_pos hr,if_neg p1,if_neg p2,if_pos p3] at hk; exact hk
 ·rw [if_pos hr,if_neg p1,if_neg p2,if_neg p3,if_pos p4] at hk; exact hk
 ·rw [if_pos hr,if_neg p1,if_neg p2,if_neg p3,if_neg p4,if_pos p5] at hk; exact hk
 ·rw [if_pos hr,if_neg p1,if_neg p2,if_neg p3,if_neg p4,if_neg p5,if_pos p6] at hk; exact hk
 ·by_cases hr:1≤room∧room≤8
  ·rw [if_pos hr,if_neg p1,if_neg p2,if_neg p3,if_neg p4,if_neg p5,if_neg p6] at hk; exact hk
  ·exact no hr

def T0_qad (b:LI) (c a:Int) (k:Int→Prop) (B0:Int→Prop):Prop:=br (decide (a < c)) ((0≤a∧a < (b.length:Int))∧(0≤(0:Int)∧0 < (b.length:Int))∧br ((List.getD b (Int.toNat a) (0:Int)) != (List.getD b 0 (0:Int))) (k a) (InR (a+1)∧B0 (a+1))) (k (b.length:Int))
def L0_qad (b:LI) (a:Int) (k:Int→Prop):Nat→Int→Prop | 0,_=>False | n+1,c=>T0_qad b a c k (L0_qad b a k n)
def G_qad (a:LI) (I0:LI→Int→Int→Prop):Prop:=I0 a (a.length:Int) 0
def S_qad (a:LI) (k:Int→Prop):Prop:=G_qad a (fun a b c=>∃ j,L0_qad a b k j c)
def F_qad (t:LI) (k:Int→Prop):Prop:=(t≠[]∧t.length≤1000000000)∧k (runN t:Int)
theorem F_qad_S {t:LI} {k:Int→Prop} (h:F_qad t k):S_qad t k:=by
 obtain ⟨⟨hne,hl⟩,hk⟩:=h
 obtain ⟨x,r,rfl⟩:∃ x r,t=x :: r:=by
  cases t with
  | nil=>exact absurd rfl hne
  | cons x r=>exact ⟨x,r,rfl⟩
 have hp:=runN_pos x r
 have hsame:=runN_same x r
 have hstop:=runN_stop x r
 rw [List.length_cons] at hl
 have go:∀ (m i:Nat),i+m=runN (x :: r)→L0_qad (x :: r) ((x :: r).length:Int) k (m+1) (i:Int):=by
  intro m
  induction m with
  | zero=>
   intro i hi
   rw [L0_qad,T0_qad]
   simp only [Int.toNat_natCast]
   have hi:i=runN (x :: r):=by omega
   refine br_dec.2 ⟨fun c=>⟨⟨by omega,by omega⟩,⟨by omega,by rw [List.length_cons]; omega⟩,br_bne.2 ⟨fun _=>by rw [hi]; exact hk,fun e=>?_⟩⟩,fun c=>?_⟩
   ·rw [List.length_cons] at c
    exact absurd e (by rw [hi]; exact hstop (by omega))
   ·rw [List.length_cons] at c ⊢
    rw [show ((r.length+1:Nat):Int)=(runN (x :: r):Int) by omega]; exact hk
  | succ m ih=>
   intro i hi
   have next:=ih (i+1) (by omega)
   rw [L0_qad,T0_qad]
   simp only [Int.toNat_natCast]
   refine br_yd (by rw [List.length_cons]; omega) ⟨⟨by omega,by rw [List.length_cons]; omega⟩,⟨by omega,by rw [List.length_cons]; omega⟩,br_bne.2 ⟨fun e=>absurd (hsame i (by omega)) e,fun _=>⟨inR (by omega) (by omega),next⟩⟩⟩
 exact ⟨_,go (runN (x :: r)) 0 (by omega)⟩

def G_qau (d b:Int) (k:ByteArray→Prop):Prop:=br (b==1) (F_qdy d fun e=>k e) (F_qdy d fun a=>(ByteArray.size a+ByteArray.size (strOfNums [42])≤1000000000)∧F_qdy b fun c=>(ByteArray.size (a++(strOfNums [42]))+ByteArray.size c≤1000000000)∧k ((a++(strOfNums [42]))++c))
def S_qau (b a:Int) (k:ByteArray→Prop):Prop:=G_qau b a k
def F_qau (x n:Int) (k:ByteArray→Prop):Prop:=((0≤x∧x≤31)∧1≤n∧n≤24)∧k (strOfNums (wordM (x,n.toNat)))
theorem F_qau_S {x n:Int} {k:ByteArray→Prop} (h:F_qau x n k):S_qau x n k:=by
 obtain ⟨⟨⟨x1,x2⟩,n1,n2⟩,hk⟩:=h
 unfold wordM at hk
 refine br_beq.2 ⟨fun e=>⟨⟨by omega,by omega⟩,?_⟩,fun e=>⟨⟨by omega,by omega⟩,?_,⟨by omega,by omega⟩,?_,?_⟩⟩
 ·rw [if_neg (show ¬ 1 < n.toNat by omega),List.append_nil] at hk; exact hk
 ·rw [str_size,str_size]; have:=decB_len x; rw [List.length_singleton]; omega
 ·rw [str_append,str_size,str_size]
  have h1:=decB_len x
  have h2:=decB_len n
  rw [List.length_append,List.length_singleton]; omega
 ·rw [if_pos (show 1 < n.toNat by omega),Int.toNat_of_nonneg (by omega)] at hk
  rw [str_append,str_append,List.append_assoc]; exact hk

def F_qeb (xs:List ByteArray) (sep:ByteArray) (k:ByteArray→Prop):Prop:=
 ∃ (W:List (LI)) (s:LI),(xs=W.map strOfNums∧sep=strOfNums s∧W.length≤1000000000∧(joinB s W).length≤1000000000)∧k (strOfNums (joinB s W))

def T0_qh (b:LI) (c:LB) (k:ByteArray→Prop) (B0:LI→LB→Prop):Prop:=br (decide ((b.length:Int) > 0)) (F_qad b fun a=>(0≤(0:Int)∧0 < (b.length:Int))∧F_qau (List.getD b 0 (0:Int)) a fun d=>(c.length+1≤1000000000)∧(0≤a∧a≤(b.length:Int))∧B0 (List.drop (Int.toNat a) b) (c++([d]:LB))) (F_qeb c (strOfNums [32]) fun e=>k e)
def L0_qh (k:ByteArray→Prop):Nat→LI→LB→Prop | 0,_,_=>False | n+1,b,a=>T0_qh b a k (L0_qh k n)
def G_qh (b:LI) (k:ByteArray→Prop) (I0:LI→LB→Prop):Prop:=F_qaa b fun a=>br (!a) (k (strOfNums [])) (I0 b ([]:LB))
def S_qh (c:LI) (k:ByteArray→Prop):Prop:=G_qh c k (fun b a=>∃ j,L0_qh k j b a)
def F_qh (t:LI) (k:ByteArray→Prop):Prop:=(VTrace t→k (strOfNums (fmtM t)))∧(¬ VTrace t→k (strOfNums []))
theorem F_qh_S {t:LI} {k:ByteArray→Prop} (h:F_qh t k):S_qh t k:=by
 obtain ⟨hyes,hno⟩:=h
 intro b hb
 refine br_not.2 (br_iff.2 ⟨fun e=>?_,fun e=>hno fun v=>by rw [hb.2 v] at e; cases e⟩)
 have v:=hb.1 e
 have v1:=v.1
 have go:∀ (m:Nat) (l:LI) (W:List (LI)),l.length≤m→l.length≤24→(∀ x∈l,0≤x∧x≤31)→W.length+l.length≤24→W++(grp l).map wordM=(grp t).map wordM→L0_qh k (m+1) l (W.map strOfNums):=by
  intro m
  induction m with
  | zero=>
   intro l W hl h24 hv hW he
   have:l=[]:=List.eq_nil_of_length_eq_zero (by omega)
   subst this
   rw [L0_qh,T0_qh]
   have e:W=(grp t).map wordM:=by rw [← he]; simp [grp]
   have hj:=fmtM_len t
   rw [← join_words,← e] at hj
   refine br_nd (by simp) ⟨W,[32],⟨rfl,rfl,by omega,by omega⟩,?_⟩
   rw [e,join_words]; exact hyes v
  | succ m ih=>
   intro l W hl h24 hv hW he
   rw [L0_qh,T0_qh]
   cases l with
   | nil=>
    have e:W=(grp t).map wordM:=by rw [← he]; simp [grp]
    have hj:=fmtM_len t
    rw [← join_words,← e] at hj
    simp only [List.length_nil] at hW
    refine br_nd (by simp) ⟨W,[32],⟨rfl,rfl,by omega,by omega⟩,?_⟩
    rw [e,join_words]; exact hyes v
   | cons x r=>
    have hp:=runN_pos x r
    have hx:=hv x List.mem_cons_self
    rw [List.length_cons] at h24 hW hl
    refine br_yd (by rw [List.length_cons]; omega) ⟨⟨by simp,by rw [List.length_cons]; omega⟩,⟨by omega,by rw [List.length_cons]; omega⟩,⟨⟨⟨hx.1,hx.2⟩,by omega,by omega⟩,by rw [List.length_map]; omega,⟨by omega,by rw [List.length_cons]; omega⟩,?_⟩⟩
    rw [Int.toNat_natCast]
    have:=ih ((x :: r).drop (runN (x :: r))) (W++[wordM (x,runN (x :: r))]) (by rw [List.length_drop,List.length_cons]; omega) (by rw [List.length_drop,List.length_cons]; omega) (fun y hy=>hv y (List.mem_of_mem_drop hy)) (by rw [List.length_append,List.length_singleton,List.length_drop,List.length_cons]; omega) (by
     rw [grp_run,List.map_cons] at he
     rw [List.append_assoc]; exact he)
    rw [List.map_append] at this
    exact this
 exact ⟨_,go 24 t [] v1 v1 v.2 (by simpa using v1) rfl⟩

def T0_qe (b:LT) (d a:Int) (c:LI) (k:LI→Prop) (B0:Int→LI→Prop):Prop:=br (decide (a < d)) ((0≤a∧a < (b.length:Int))∧br (List.getD b (Int.toNat a) ((0:Int),(0:Int),false)).2.2 ((c.length+1≤1000000000)∧InR (a+1)∧B0 (a+1) (c++([(List.getD b (Int.toNat a) ((0:Int),(0:Int),false)).1]:LI))) (InR (a+1)∧B0 (a+1) c)) (k c)
def L0_qe (a:LT) (b:Int) (k:LI→Prop):Nat→Int→LI→Prop | 0,_,_=>False | n+1,d,c=>T0_qe a b d c k (L0_qe a b k n)
def G_qe (c:LI) (a:LT) (d:Int) (k:LI→Prop) (I0:LT→Int→Int→LI→Prop):Prop:=F_qz c a d fun b=>br (!b) (k ([]:LI)) (I0 a (a.length:Int) 0 ([]:LI))
def S_qe (b:LI) (a:LT) (c:Int) (k:LI→Prop):Prop:=G_qe b a c k (fun a e f d=>∃ j,L0_qe a e k j f d)
def F_qe (s:LI) (l:LT) (room:Int) (k:LI→Prop):Prop:=
 (s.length≤1000000000∧l.length≤1000000000)∧(VMem s l room→k (dirtyL l))∧(¬ VMem s l room→k [])
theorem F_qe_S {s:LI} {l:LT} {room:Int} {k:LI→Prop} (h:F_qe s l room k):S_qe s l room k:=by
 obtain ⟨hl,hyes,hno⟩:=h
 refine ⟨hl,fun b hb=>br_not.2 (br_iff.2 ⟨fun e=>?_,fun e=>hno fun v=>by rw [hb.2 v] at e; cases e⟩)⟩
 have v:=hb.1 e
 have hlen:=v.len
 have go:∀ (m i:Nat),i+m=l.length→L0_qe l (l.length:Int) k (m+1) (i:Int) (dirtyL (l.take i)):=by
  intro m
  induction m with
  | zero=>
   intro i hi
   rw [L0_qe,T0_qe,List.take_of_length_le (by omega)]
   exact br_nd (by omega) (hyes v)
  | succ m ih=>
   intro i hi
   have next:=ih (i+1) (by omega)
   have hd:=dirtyL_len (l.take i)
   rw [List.length_take] at hd
   rw [takeL (by omega),dirtyL,List.filter_append,List.map_append] at next
   rw [L0_qe,T0_qe]
   simp only [Int.toNat_natCast]
   refine br_yd (by omega) ⟨⟨by omega,by omega⟩,br_iff.2 ⟨fun g=>⟨by omega,inR (by omega) (by omega),?_⟩,fun g=>⟨inR (by omega) (by omega),?_⟩⟩⟩
   ·rw [List.filter_cons_of_pos (by simpa using g),List.filter_nil] at next
    exact next
   ·rw [List.filter_cons_of_neg (by rw [g]; decide),List.filter_nil,List.map_nil,List.append_nil] at next
    exact next
 exact ⟨_,go l.length 0 (by omega)⟩

end Go.Ev
