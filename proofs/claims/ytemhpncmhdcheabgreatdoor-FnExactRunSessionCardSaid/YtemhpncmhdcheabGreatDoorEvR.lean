/- The end of a function. No statement is proved here. -/
import Derived.Test.YtemhpncmhdcheabGreatDoorEvQ
namespace Go.Ev
set_option linter.unusedVariables false
set_option linter.unusedSimpArgs false
open Go
abbrev Pl:=Option (Nat×Nat×Nat)
def place (μ:Mu) (τ:Ty):C→Pl
 | .ow k=>μ k
 | .sub k off _=>(μ k).map fun p=>(p.1,p.2.1+off*τ.sz,p.2.2)
 | _=>none
def plC (μ:Mu) (k:Nat):C→C→List (Nat×Pl)
 | c,.ro τ _=>[(k,place μ τ c)]
 | _,_=>[]
def plCs (μ:Mu):Nat→List C→List C→List (Nat×Pl)
 | k,c :: cs,d :: ds=>plC μ k c d++plCs μ (instC k d).2.2 cs ds
 | _,_,_=>[]
def pl1 (μ:Mu) (k:Nat):A1→A1→List (Nat×Pl)
 | .c x,.c y=>plC μ k x y
 | .agg l,.agg l'=>plCs μ k l l'
 | _,_=>[]
def pl1s (μ:Mu):Nat→List A1→List A1→List (Nat×Pl)
 | k,c :: cs,d :: ds=>pl1 μ k c d++pl1s μ (inst1 k d).2.2 cs ds
 | _,_,_=>[]
def RowAt (w:World) (p:Pl) (τ:Ty) (l:List τ.D):Prop:=
 (p=none∧l=[])∨∃ g o s cur T,p=some (g,o,s)∧w.heap[g]?=some (.cells cur T (0,0))∧cur.size=s∧o+l.length*τ.sz≤s∧RowIs cur o τ l
structure Inst (S:Sk) (μ:Mu) (w:World) (keys:List Nat) (k k2:Nat) (obs:List (Nat×OB)) (pl:List (Nat×Pl)):Prop where
 le:k≤k2
 dom:∀ i ob,lkp obs i=some ob→k≤i∧i < k2∧∃ τ,∃ l:List τ.D,ob=.row τ l∧∃ p,lkp pl i=some p∧RowAt w p τ l
 rng:∀ i p,lkp pl i=some p→k≤i∧i < k2
 src:∀ i q,lkp pl i=some (some q)→∃ k'∈keys,S k'≠none∧∃ q',μ k'=some q'∧q'.1=q.1
 inj:∀ i i' q q',lkp pl i=some (some q)→lkp pl i'=some (some q')→q.1=q'.1→i=i'
def Fits (S1:Sk) (μ1:Mu) (obs:List (Nat×OB)) (pl:List (Nat×Pl)):Prop:=∀ i ob p,lkp obs i=some ob→lkp pl i=some p→S1 i=some ob.sk∧μ1 i=p
section
variable {P:Program} {T:Tab} {N:Nat} {w0:World} {M:Nat→Prop} {W:Wd} {lk:List Nat} {μ:Mu} {st:St} {a:Act} {w:World}
theorem inst_nil {S:Sk} (k:Nat) (keys:List Nat):Inst S μ w keys k k [] []:=
 ⟨Nat.le_refl _,fun i ob h=>(by cases h),fun i p h=>(by cases h),fun i q h=>(by cases h),fun i i' q q' h=>(by cases h)⟩
theorem inst_app {S:Sk} {ks1 ks2:List Nat} {k1 k2 k3:Nat} {obs1 obs2:List (Nat×OB)} {pl1 pl2:List (Nat×Pl)} (hinj:∀ k k' p p',S k≠none→S k'≠none→μ k=some p→μ k'=some p'→p.1=p'.1→k=k')
  (h1:Inst S μ w ks1 k1 k2 obs1 pl1) (h2:Inst S μ w ks2 k2 k3 obs2 pl2) (hn:(ks1++ks2).Nodup):Inst S μ w (ks1++ks2) k1 k3 (obs1++obs2) (pl1++pl2):=by
 have hp1:∀ i p,lkp (pl1++pl2) i=some p→(lkp pl1 i=some p∧i < k2)∨(lkp pl2 i=some p∧k2≤i):=by
  intro i p h
  rw [lkp_append] at h
  cases e:lkp pl1 i with
  | some q=>rw [e] at h; injection h with h; subst h; exact .inl ⟨rfl,(h1.rng i q e).2⟩
  | none=>rw [e] at h; exact .inr ⟨h,(h2.rng i p h).1⟩
 refine ⟨Nat.le_trans h1.le h2.le,fun i ob h=>?_,fun i p h=>?_,fun i q h=>?_,fun i i' q q' h h' e=>?_⟩
 ·rw [lkp_append] at h
  cases e:lkp obs1 i with
  | some ob1=>
   rw [e] at h; injection h with h; subst h
   obtain ⟨a1,a2,τ,l,rfl,p,a3,a4⟩:=h1.dom i ob1 e
   exact ⟨a1,Nat.lt_of_lt_of_le a2 h2.le,τ,l,rfl,p,by rw [lkp_append,a3],a4⟩
  | none=>
   rw [e] at h
   obtain ⟨a1,a2,τ,l,rfl,p,a3,a4⟩:=h2.dom i ob h
   refine ⟨Nat.le_trans h1.le a1,a2,τ,l,rfl,p,?_,a4⟩
   rw [lkp_append]
   cases e2:lkp pl1 i with
   | none=>exact a3
   | some q=>have:=(h1.rng i q e2).2; omega
 ·rcases hp1 i p h with ⟨h,_⟩ | ⟨h,_⟩
  ·exact ⟨(h1.rng i p h).1,Nat.lt_of_lt_of_le (h1.rng i p h).2 h2.le⟩
  ·exact ⟨Nat.le_trans h1.le (h2.rng i p h).1,(h2.rng i p h).2⟩
 ·rcases hp1 i _ h with ⟨h,_⟩ | ⟨h,_⟩
  ·obtain ⟨k',b1,b2⟩:=h1.src i q h; exact ⟨k',by simp [b1],b2⟩
  ·obtain ⟨k',b1,b2⟩:=h2.src i q h; exact ⟨k',by simp [b1],b2⟩
 ·have hd:=(List.nodup_append.1 hn).2.2
  rcases hp1 i _ h with ⟨h,_⟩ | ⟨h,_⟩ <;> rcases hp1 i' _ h' with ⟨h',_⟩ | ⟨h',_⟩
  ·exact h1.inj i i' q q' h h' e
  ·obtain ⟨k',b1,b2,r,b3,b4⟩:=h1.src i q h
   obtain ⟨k2',c1,c2,r2,c3,c4⟩:=h2.src i' q' h'
   exact absurd (hinj k' k2' r r2 b2 c2 b3 c3 (by omega)) (fun e=>hd k' b1 k2' c1 e)
  ·obtain ⟨k',b1,b2,r,b3,b4⟩:=h2.src i q h
   obtain ⟨k2',c1,c2,r2,c3,c4⟩:=h1.src i' q' h'
   exact absurd (hinj k2' k' r2 r c2 b2 c3 b3 (by omega)) (fun e=>hd k2' c1 k' b1 e)
  ·exact h2.inj i i' q q' h h' e
theorem fits_l {S1:Sk} {μ1:Mu} {S:Sk} {ks1 ks2:List Nat} {k1 k2 k3:Nat} {obs1 obs2:List (Nat×OB)} {pl1 pl2:List (Nat×Pl)} (h:Fits S1 μ1 (obs1++obs2) (pl1++pl2)):Fits S1 μ1 obs1 pl1:=
 fun i ob p a b=>h i ob p (by rw [lkp_append,a]) (by rw [lkp_append,b])
theorem fits_r {S1:Sk} {μ1:Mu} {S:Sk} {ks1 ks2:List Nat} {k1 k2 k3:Nat} {obs1 obs2:List (Nat×OB)} {pl1 pl2:List (Nat×Pl)} (h1:Inst S μ w ks1 k1 k2 obs1 pl1) (h2:Inst S μ w ks2 k2 k3 obs2 pl2) (h:Fits S1 μ1 (obs1++obs2) (pl1++pl2)):Fits S1 μ1 obs2 pl2:=by
 intro i ob p a b
 have hge:=(h2.rng i p b).1
 refine h i ob p ?_ ?_
 ·rw [lkp_append]
  cases e:lkp obs1 i with
  | none=>exact a
  | some ob1=>have:=(h1.dom i ob1 e).2.1; omega
 ·rw [lkp_append]
  cases e:lkp pl1 i with
  | none=>exact b
  | some q=>have:=(h1.rng i q e).2; omega
theorem instC_fresh (hR:RepM N w0 M W lk μ st a w) {t:CT} {c c':C} {y:Value} {k:Nat} (h:RC (skel st.o) μ w c y) (hc:argC st.o t c=some c') (hf:freshC c=true) :
  Inst (skel st.o) μ w (keyC c) k (instC k c').2.2 (instC k c').2.1 (plC μ k c c')∧∀ S1 μ1,Fits S1 μ1 (instC k c').2.1 (plC μ k c c')→RC S1 μ1 w (instC k c').1 y:=by
 have hone:∀ (τ:Ty) (l:List τ.D) (p:Pl),RowAt w p τ l→(∀ q,p=some q→∃ k'∈keyC c,skel st.o k'≠none∧∃ q',μ k'=some q'∧q'.1=q.1)→Inst (skel st.o) μ w (keyC c) k (k+1) [(k,.row τ l)] [(k,p)]:=by
  intro τ l p hrow hsrc
  have hk:∀ {α:Type} {x:α} {i:Nat} {z:α},lkp [(k,x)] i=some z→i=k∧z=x:=by
   intro α x i z h
   rcases beq_cases k i with ⟨rfl,_⟩ | ⟨hne,_⟩
   ·rw [lkp_cons_same] at h; injection h with h; exact ⟨rfl,h.symm⟩
   ·rw [lkp_cons_ne _ _ hne] at h; cases h
  refine ⟨Nat.le_succ k,fun i ob h=>?_,fun i q h=>?_,fun i q h=>?_,fun i i' q q' h h' _=>?_⟩
  ·obtain ⟨rfl,rfl⟩:=hk h
   exact ⟨Nat.le_refl _,Nat.lt_succ_self _,τ,l,rfl,p,lkp_cons_same _ _ _,hrow⟩
  ·obtain ⟨rfl,_⟩:=hk h; exact ⟨Nat.le_refl _,Nat.lt_succ_self _⟩
  ·obtain ⟨rfl,e⟩:=hk h; exact hsrc q e.symm
  ·rw [(hk h).1,(hk h').1]
 unfold argC at hc
 split at hc
 rotate_left
 ·cases hc
 rename_i c1 hd
 unfold confC at hc
 split at hc
 ·-- a value
  injection hc with hc; subst hc
  cases c with
  | v x=>injection hd with hd; injection hd with hd; subst hd; exact ⟨inst_nil k _,fun S1 μ1 _=>h⟩
  | cl f cs=>cases hf
  | ow k'=>simp only [deepC] at hd; split at hd <;> cases hd
  | sub k' off n=>simp only [deepC] at hd; split at hd <;> cases hd
  | _=>cases hd
 ·-- a function's value
  injection hc with hc; subst hc
  cases c with
  | v x=>injection hd with hd; injection hd with hd; subst hd; exact ⟨inst_nil k _,fun S1 μ1 _=>h⟩
  | cl f cs=>cases hf
  | ow k'=>simp only [deepC] at hd; split at hd <;> cases hd
  | sub k' off n=>simp only [deepC] at hd; split at hd <;> cases hd
  | _=>cases hd
 ·injection hc with hc; subst hc
  cases c with
  | cl f cs=>cases hf
  | ow k'=>simp only [deepC] at hd; split at hd <;> cases hd
  | sub k' off n=>simp only [deepC] at hd; split at hd <;> cases hd
  | _=>cases hd
 ·injection hc with hc; subst hc
  cases c with
  | pe l j=>cases hf
  | cl f cs=>cases hf
  | ow k'=>simp only [deepC] at hd; split at hd <;> cases hd
  | sub k' off n=>simp only [deepC] at hd; split at hd <;> cases hd
  | _=>cases hd
 ·injection hc with hc; subst hc
  cases c with
  | arr l=>injection hd with hd; injection hd with hd; subst hd; exact ⟨inst_nil k _,fun S1 μ1 _=>h⟩
  | cl f cs=>cases hf
  | ow k'=>simp only [deepC] at hd; split at hd <;> cases hd
  | sub k' off n=>simp only [deepC] at hd; split at hd <;> cases hd
  | _=>cases hd
 ·-- nil
  rename_i τ
  injection hc with hc; subst hc
  cases c with
  | nil=>
   refine ⟨hone τ [] none (.inl ⟨rfl,rfl⟩) (fun q h=>by cases h),fun S1 μ1 hfit=>?_⟩
   obtain ⟨e1,e2⟩:=hfit k _ _ (lkp_cons_same _ _ _) (lkp_cons_same _ _ _)
   exact ⟨none,0,0,τ,h,e1,Nat.le_refl _,Nat.zero_le _,.inl ⟨rfl,rfl⟩⟩
  | cl f cs=>cases hf
  | ow k'=>simp only [deepC] at hd; split at hd <;> cases hd
  | sub k' off n=>simp only [deepC] at hd; split at hd <;> cases hd
  | _=>cases hd
 ·-- a slice
  rename_i τ σ l
  split at hc
  rotate_left
  ·cases hc
  rename_i l' hl'
  injection hc with hc; subst hc
  obtain ⟨rfl,rfl⟩:=castL_ok2 hl'
  cases c with
  | ro _ _=>cases hf
  | cl f cs=>cases hf
  | ow k'=>
   simp only [deepC] at hd
   split at hd
   ·rename_i τ0 l0 hl
    injection hd with hd
    injection hd with e1 e2; subst e1; cases e2
    have hrow:RowAt w (μ k') τ0 l0:=hR.ob k' _ hl
    refine ⟨hone τ0 l0 (μ k') hrow (fun q hq=>⟨k',by simp [keyC],skel_ne hl,q,hq,rfl⟩),fun S1 μ1 hfit=>?_⟩
    obtain ⟨e1,e2⟩:=hfit k _ _ (lkp_cons_same _ _ _) (lkp_cons_same _ _ _)
    obtain ⟨A,n,c,τ2,rfl,hs,hh⟩:=h
    rw [skel_of hl] at hs
    injection hs with hs; injection hs with a1 a2; subst a1; subst a2
    refine ⟨A,_,c,τ0,rfl,e1,?_⟩
    unfold Hd at *
    have e3:μ1 k=μ k':=e2
    rw [e3]; exact hh
   ·cases hd
  | sub k' off n=>
   simp only [deepC] at hd
   split at hd
   ·rename_i τ0 l0 hl
    injection hd with hd
    injection hd with e1 e2; subst e1; cases e2
    obtain ⟨A,c,τ2,m,rfl,hs,hm,_,hh⟩:=h
    rw [skel_of hl] at hs
    injection hs with hs; injection hs with a1 a2; subst a1; subst a2
    have hlen:((l0.drop off).take n).length=n:=by simp; omega
    have hrow:RowAt w (place μ τ0 (.sub k' off n)) τ0 ((l0.drop off).take n):=by
     rcases hR.ob k' _ hl with ⟨b1,b2⟩ | ⟨g,o,s,cur,ty,b1,b2,b3,b4,b5⟩
     ·refine .inl ⟨by simp [place,b1],?_⟩
      subst b2; simp
     ·refine .inr ⟨g,o+off*τ0.sz,s,cur,ty,by simp [place,b1],b2,b3,?_,rowIs_cut b5 off n⟩
      rw [hlen]
      have:(off+n)*τ0.sz≤l0.length*τ0.sz:=Nat.mul_le_mul_right _ hm
      rw [Nat.add_mul] at this
      omega
    refine ⟨hone τ0 _ _ hrow (fun q hq=>?_),fun S1 μ1 hfit=>?_⟩
    ·simp only [place] at hq
     cases e:μ k' with
     | none=>rw [e] at hq; cases hq
     | some p=>rw [e] at hq; injection hq with hq; exact ⟨k',by simp [keyC],skel_ne hl,p,e,by rw [← hq]⟩
    ·obtain ⟨e1,e2⟩:=hfit k _ _ (lkp_cons_same _ _ _) (lkp_cons_same _ _ _)
     have e1':S1 k=some (.row τ0 n):=by rw [e1]; simp only [OB.sk,hlen]
     refine ⟨A,n,c,τ0,rfl,e1',?_⟩
     obtain ⟨h1,h2,h3⟩:=hh
     refine ⟨h1,h2,h3.imp id fun ⟨g,o,s,o',hm',hA,hf1,hf2⟩=>⟨g,o+off*τ0.sz,s,o',?_,hA,hf1,fun hn=>by simpa using hf2 hn⟩⟩
     rw [e2]; simp [place,hm']
   ·cases hd
  | v x=>injection hd with hd; cases hd
  | nil=>injection hd with hd; cases hd
  | _=>cases hd
 ·-- nil,for a slice of slices
  injection hc with hc; subst hc
  cases c with
  | nil=>exact ⟨inst_nil k _,fun S1 μ1 _=>trivial⟩
  | cl f cs=>cases hf
  | ow k'=>simp only [deepC] at hd; split at hd <;> cases hd
  | sub k' off n=>simp only [deepC] at hd; split at hd <;> cases hd
  | _=>cases hd
 ·split at hc
  ·injection hc with hc; subst hc
   cases c with
   | rol _ _=>cases hf
   | cl f cs=>cases hf
   | ow k'=>simp only [deepC] at hd; split at hd <;> cases hd
   | sub k' off n=>simp only [deepC] at hd; split at hd <;> cases hd
   | _=>cases hd
  ·cases hc
 ·cases hc
theorem freshCs_tail {c:C} {cs:List C} (h:freshCs (c :: cs)=true):freshC c=true∧freshCs cs=true:=by
 unfold freshCs at h; split at h
 ·rename_i h1; exact ⟨h1,h⟩
 ·cases h
theorem instCs_fresh (hR:RepM N w0 M W lk μ st a w):∀ {ts:List CT} {cs cs':List C} {ys:List Value} {k:Nat},RCs (skel st.o) μ w cs ys→argCs st.o ts cs=some cs'→freshCs cs=true→(keysCs cs).Nodup→
  Inst (skel st.o) μ w (keysCs cs) k (instCs k cs').2.2 (instCs k cs').2.1 (plCs μ k cs cs')∧∀ S1 μ1,Fits S1 μ1 (instCs k cs').2.1 (plCs μ k cs cs')→RCs S1 μ1 w (instCs k cs').1 ys
 | [],[],cs',[],k,_,hc,_,_=>by injection hc with hc; subst hc; exact ⟨inst_nil k _,fun _ _ _=>trivial⟩
 | t :: ts,c :: cs,cs',y :: ys,k,h,hc,hf,hn=>by
  unfold argCs at hc
  split at hc
  ·rename_i c1 l1 h1 h2
   injection hc with hc; subst hc
   obtain ⟨f1,f2⟩:=freshCs_tail hf
   obtain ⟨i1,v1⟩:=instC_fresh hR (k:=k) h.1 h1 f1
   obtain ⟨i2,v2⟩:=instCs_fresh hR (k:=(instC k c1).2.2) h.2.2 h2 f2 (List.nodup_append.1 hn).2.1
   exact ⟨inst_app hR.inj i1 i2 hn,fun S1 μ1 hfit=>⟨v1 S1 μ1 (fits_l (S:=skel st.o) (ks1:=[]) (ks2:=[]) (k1:=0) (k2:=0) (k3:=0) hfit),h.2.1,v2 S1 μ1 (fits_r i1 i2 hfit)⟩⟩
  ·cases hc
 | [],_ :: _,_,_,_,_,hc,_,_=>by cases hc
 | _ :: _,[],_,_,_,_,hc,_,_=>by cases hc
 | [],[],_,_ :: _,_,h,_,_,_=>h.elim
 | _ :: _,_ :: _,_,[],_,h,_,_,_=>h.elim
theorem inst1_fresh (hR:RepM N w0 M W lk μ st a w) {t:RT} {x x':A1} {y:Value} {k:Nat} (h:R1 (skel st.o) μ w x y) (hc:res1 st.o t x=some x') (hf:fresh1 x=true) (hn:(keys1 x).Nodup) :
  Inst (skel st.o) μ w (keys1 x) k (inst1 k x').2.2 (inst1 k x').2.1 (pl1 μ k x x')∧∀ S1 μ1,Fits S1 μ1 (inst1 k x').2.1 (pl1 μ k x x')→R1 S1 μ1 w (inst1 k x').1 y:=by
 unfold res1 at hc
 split at hc
 ·split at hc
  ·rename_i c' hc'
   injection hc with hc; subst hc
   exact instC_fresh hR h hc' hf
  ·cases hc
 ·split at hc
  ·rename_i l' hc'
   injection hc with hc; subst hc
   obtain ⟨vs,rfl,hh⟩:=h
   obtain ⟨i1,v1⟩:=instCs_fresh hR (k:=k) hh hc' hf hn
   exact ⟨i1,fun S1 μ1 hfit=>⟨vs,rfl,v1 S1 μ1 hfit⟩⟩
  ·cases hc
 ·cases hc
theorem fresh1s_tail {c:A1} {cs:List A1} (h:fresh1s (c :: cs)=true):fresh1 c=true∧fresh1s cs=true:=by
 unfold fresh1s at h; split at h
 ·rename_i h1; exact ⟨h1,h⟩
 ·cases h
theorem inst1s_fresh (hR:RepM N w0 M W lk μ st a w):∀ {ts:List RT} {cs cs':List A1} {ys:List Value} {k:Nat},R1s (skel st.o) μ w cs ys→res1s st.o ts cs=some cs'→fresh1s cs=true→(keys1s cs).Nodup→
  Inst (skel st.o) μ w (keys1s cs) k (inst1s k cs').2.2 (inst1s k cs').2.1 (pl1s μ k cs cs')∧∀ S1 μ1,Fits S1 μ1 (inst1s k cs').2.1 (pl1s μ k cs cs')→R1s S1 μ1 w (inst1s k cs').1 ys
 | [],[],cs',[],k,_,hc,_,_=>by injection hc with hc; subst hc; exact ⟨inst_nil k _,fun _ _ _=>trivial⟩
 | t :: ts,c :: cs,cs',y :: ys,k,h,hc,hf,hn=>by
  unfold res1s at hc
  split at hc
  ·rename_i c1 l1 h1 h2
   injection hc with hc; subst hc
   obtain ⟨f1,f2⟩:=fresh1s_tail hf
   obtain ⟨i1,v1⟩:=inst1_fresh hR (k:=k) h.1 h1 f1 (List.nodup_append.1 hn).1
   obtain ⟨i2,v2⟩:=inst1s_fresh hR (k:=(inst1 k c1).2.2) h.2 h2 f2 (List.nodup_append.1 hn).2.1
   exact ⟨inst_app hR.inj i1 i2 hn,fun S1 μ1 hfit=>⟨v1 S1 μ1 (fits_l (S:=skel st.o) (ks1:=[]) (ks2:=[]) (k1:=0) (k2:=0) (k3:=0) hfit),v2 S1 μ1 (fits_r i1 i2 hfit)⟩⟩
  ·cases hc
 | [],_ :: _,_,_,_,_,hc,_,_=>by cases hc
 | _ :: _,[],_,_,_,_,hc,_,_=>by cases hc
 | [],[],_,_ :: _,_,h,_,_,_=>h.elim
 | _ :: _,_ :: _,_,[],_,h,_,_,_=>h.elim
theorem instC_nro (k:Nat) (c:C):(instC k c).2.2=k+nroC c:=by cases c <;> rfl
theorem instCs_nro:∀ (l:List C) (k:Nat),(instCs k l).2.2=k+nroCs l
 | [],k=>rfl
 | c :: l,k=>by simp only [instCs,nroCs]; rw [instCs_nro l,instC_nro]; omega
theorem inst1_nro (k:Nat) (x:A1):(inst1 k x).2.2=k+nro1 x:=by
 cases x with
 | c x=>exact instC_nro k x
 | agg l=>exact instCs_nro l k
 | ptr l=>rfl
theorem inst1s_nro:∀ (l:List A1) (k:Nat),(inst1s k l).2.2=k+nro1s l
 | [],k=>rfl
 | c :: l,k=>by simp only [inst1s,nro1s]; rw [inst1s_nro l,inst1_nro]; omega
end
end Go.Ev
