/- Operations that only yield a value,the end: every one of them. No statement is proved here. -/
import Derived.Test.YtemhpncmhdcheabGreatDoorEvD
namespace Go.Ev
set_option linter.unusedVariables false
set_option linter.unusedSimpArgs false
open Go
theorem setsL_eq:∀ (vs l:List Value) (o:Nat),o+vs.length≤l.length→setsL l o vs=l.take o++vs++l.drop (o+vs.length)
 | [],l,o,_=>by simp [setsL]
 | v :: vs,l,o,h=>by
  simp only [List.length_cons] at h
  rw [setsL,setsL_eq vs (l.set o v) (o+1) (by simp; omega)]
  have e:=list_seg_step l o v vs (by omega)
  simpa [Nat.add_assoc,Nat.add_comm 1] using e
section
variable {P:Program} {T:Tab} {S:Sk} {μ:Mu} {w:World}
theorem RCs.sets:∀ {cs ds:List C} {ys zs:List Value} (o:Nat),RCs S μ w cs ys→RCs S μ w ds zs→RCs S μ w (setsL cs o ds) (setsL ys o zs)
 | cs,[],ys,[],_,h,_=>h
 | cs,d :: ds,ys,z :: zs,o,h,h'=>RCs.sets (o+1) (h.set h'.1 h'.2.1 o) h'.2.2
 | _,[],_,_ :: _,_,_,h'=>h'.elim
 | _,_ :: _,_,[],_,_,h'=>h'.elim
theorem cellsA_ok {X:AV} {x:Value} {l:List C} (h:RA S μ w X x) (hc:cellsA X=some l):RCs S μ w l x.cells.toList:=by
 unfold cellsA at hc
 split at hc
 ·injection hc with hc; subst hc
  obtain ⟨vs,rfl,h⟩:=h; exact h
 ·cases hc
 ·cases hc
 ·split at hc
  ·rename_i hv
   injection hc with hc; subst hc
   obtain rfl:=h.v
   cases x <;> first | (cases hv; done) | exact ⟨rfl,hv,trivial⟩
  ·cases hc
 ·rename_i c hne hna hnv
  injection hc with hc; subst hc
  have h':RC S μ w c x:=h
  cases c with
  | v x=>exact absurd rfl (hnv x)
  | un=>exact absurd rfl hne
  | arr l=>exact absurd rfl (hna l)
  | sb k n=>have h2:=h'; obtain ⟨g,o,s,c,rfl,_⟩:=h2; exact ⟨h',rfl,trivial⟩
  | nil=>subst h'; exact ⟨rfl,rfl,trivial⟩
  | ro τ l=>have h2:=h'; obtain ⟨A,n,c,rfl,_⟩:=h2; exact ⟨h',rfl,trivial⟩
  | ow k=>have h2:=h'; obtain ⟨A,n,c,τ,rfl,_⟩:=h2; exact ⟨h',rfl,trivial⟩
  | sub k off len=>have h2:=h'; obtain ⟨A,c,τ,n,rfl,_⟩:=h2; exact ⟨h',rfl,trivial⟩
  | pb k j=>have h2:=h'; obtain ⟨g,o,s,_,_,rfl⟩:=h2; exact ⟨h',rfl,trivial⟩
  | pr k i j=>have h2:=h'; obtain ⟨g,o,s,τ,n,_,_,_,rfl⟩:=h2; exact ⟨h',rfl,trivial⟩
  | pe cells j=>have h2:=h'; obtain ⟨b,o,rfl,_⟩:=h2; exact ⟨h',rfl,trivial⟩
  | cl f cs=>have h2:=h'; obtain ⟨ps,e,_⟩:=h2; rw [e.cells.1]; exact ⟨h',e.cells.2,trivial⟩
  | rol τ l=>have h2:=h'; obtain ⟨A,n,c,rfl,_⟩:=h2; exact ⟨h',rfl,trivial⟩
  | pel τ l=>have h2:=h'; obtain ⟨b,o,z,rfl,_⟩:=h2; exact ⟨h',rfl,trivial⟩
  | xs k off len c=>have h2:=h'; obtain ⟨A,τ,n,rfl,_⟩:=h2; exact ⟨h',rfl,trivial⟩
 ·cases hc
theorem fold_sets:∀ (vs:List Value) (k:Nat) (cells:Array Value) (off:Nat),
  ((vs.zipIdx k).foldl (fun cs (x:Value×Nat)=>cs.setIfInBounds (off+x.2) x.1) cells).toList=setsL cells.toList (off+k) vs
 | [],k,cells,off=>rfl
 | v :: vs,k,cells,off=>by
  rw [List.zipIdx_cons,List.foldl_cons,fold_sets vs (k+1) _ off,setsL,Array.toList_setIfInBounds]; rfl
def Parts (S:Sk) (μ:Mu) (w:World):List (Nat×AV)→List (Nat×Value)→Prop
 | [],[]=>True
 | (i,x) :: r,(j,y) :: r'=>i=j∧RA S μ w x y∧Parts S μ w r r'
 | _,_=>False
theorem fill_ok {fs:List (Nat×Nat)} {place:Nat→Option (Nat×Nat)} (hp:∀ i,place i=fs[i]?):∀ {ps:List (Nat×AV)} {qs:List (Nat×Value)} {cells:List C} {ys:Array Value} {l:List C},
  Parts S μ w ps qs→RCs S μ w cells ys.toList→buildA fs ps cells=some l→∃ ys',Instr.fill place ys qs=some ys'∧RCs S μ w l ys'.toList
 | [],[],cells,ys,l,_,hy,h=>by injection h with h; subst h; exact ⟨ys,rfl,hy⟩
 | (i,x) :: ps,(j,y) :: qs,cells,ys,l,hq,hy,h=>by
  obtain ⟨rfl,hx,hq⟩:=hq
  unfold buildA at h
  split at h
  ·rename_i off size lc e1 e2
   split at h
   ·rename_i b1 b2
    have e3:lc.length=size:=Nat.eq_of_beq_eq_true b1
    have e4:off+lc.length≤cells.length:=Nat.ble_eq.mp b2
    have hc:=cellsA_ok hx e2
    have hl:=hc.len
    have hl2:=hy.len
    have hl':y.cells.size=lc.length:=by simpa using hl
    have hl2':ys.size=cells.length:=by simpa using hl2
    unfold Instr.fill
    rw [hp i,e1]
    simp only []
    rw [if_neg (by simp; omega)]
    refine fill_ok hp hq ?_ h
    have e:=fold_sets y.cells.toList 0 ys off
    have e':(Array.foldl (fun cs (x:Value×Nat)=>cs.setIfInBounds (off+x.2) x.1) ys y.cells.zipIdx).toList=setsL ys.toList off y.cells.toList:=by
     rw [← Array.foldl_toList,Array.toList_zipIdx]; simpa using e
    have:=hy.sets off hc
    rw [← e'] at this
    exact this
   ·cases h
  ·cases h
 | [],_ :: _,_,_,_,hq,_,_=>hq.elim
 | _ :: _,[],_,_,_,hq,_,_=>hq.elim
theorem places_ok {fs:List (Nat×Nat)}:∀ {flds:List Field},flds.length=fs.length→(∀ (n:Nat) (f:Field),flds[n]?=some f→∃ i',P.info? f.type=some i'∧fs[n]?=some (f.offset,i'.size))→
  flds.mapM (fun f=>(P.info? f.type).map fun i=>(f.offset,i.size))=some fs:=by
 induction fs with
 | nil=>intro flds hl _; have:flds=[]:=List.eq_nil_of_length_eq_zero (by simpa using hl); subst this; rfl
 | cons p fs ih=>
  intro flds hl h
  cases flds with
  | nil=>simp at hl
  | cons f flds=>
   obtain ⟨i',h1,h2⟩:=h 0 f rfl
   have h2':p=(f.offset,i'.size):=by simpa using h2
   have:=ih (flds:=flds) (by simpa using hl) (fun n f' hf'=>by
    obtain ⟨i2,a1,a2⟩:=h (n+1) f' (by simpa using hf')
    exact ⟨i2,a1,by simpa using a2⟩)
   simp [List.mapM_cons,h1,this,h2']
theorem build_ok (hT:TabOK P T) {t:TypeId} {fs:List (Nat×Nat)} {z:List Value} (ht:lkp T t=some (.st fs z)) {ps:List (Nat×AV)} {qs:Array (Nat×Value)} {l:List C}
  (hq:Parts S μ w ps qs.toList) (h:buildA fs ps (z.map cst1)=some l):∃ vs:Array Value,RCs S μ w l vs.toList∧∀ w',(Instr.build t qs).run P w'=.ok (.agg vs) w':=by
 obtain ⟨i,flds,h1,h2,h3,h4,h5,h6,h7⟩:=hT _ _ ht
 have hz:RCs S μ w (z.map cst1) z.toArray.toList:=by simpa using okVs_RCs h4
 obtain ⟨ys',hf,hr⟩:=fill_ok (fs:=fs) (place:=fun i=>fs.toArray[i]?) (by simp) hq hz h
 refine ⟨ys',hr,fun w'=>run_build w' t qs ys' ?_⟩
 have hpl:=places_ok (P:=P) (fs:=fs) (flds:=flds.toList) (by simpa using h6) (fun n f hf=>by obtain ⟨i',a1,a2,_⟩:=h7 n f (by simpa using hf); exact ⟨i',a1,a2⟩)
 unfold Program.built
 simp only [h1,h5,h3,hpl]
 exact hf
theorem parts_of {N:Nat} {w0:World} {M:Nat→Prop} {W:Wd} {lk:List Nat} {st:St} {a:Act} (hR:RepM N w0 M W lk μ st a w):∀ (ps:List (Nat×Operand)),Parts (skel st.o) μ w (argsA st ps) (ps.map fun x=>(x.1,a.eval x.2))
 | []=>trivial
 | (i,x) :: r=>⟨rfl,RA_ev hR x,parts_of hR r⟩
theorem pes_of {N:Nat} {w0:World} {M:Nat→Prop} {W:Wd} {lk:List Nat} {st:St} {a:Act} (hR:RepM N w0 M W lk μ st a w):∀ {ps:List Operand} {l:List Cap},pesA st ps=some l→
  (ps.map a.eval).length=l.length∧∀ (i:Nat) x p,l[i]?=some x→(ps.map a.eval)[i]?=some p→CapAt (skel st.o) μ w x p
 | [],l,h=>by injection h with h; subst h; exact ⟨rfl,fun i x p hx=>by simp at hx⟩
 | q :: r,l,h=>by
  unfold pesA at h
  split at h
  ·rename_i y l' hy hl'
   injection h with h; subst h
   obtain ⟨h1,h2⟩:=pes_of hR hl'
   refine ⟨by simp [← h1],fun i x p hx hp=>?_⟩
   cases i with
   | zero=>
    simp only [List.getElem?_cons_zero,Option.some.injEq,List.map_cons] at hx hp
    subst hx; subst hp
    have:=RA_ev hR q
    rw [hy] at this
    exact this
   | succ i=>exact h2 i x p (by simpa using hx) (by simpa using hp)
  ·rename_i k l' hy hl'
   injection h with h; subst h
   obtain ⟨h1,h2⟩:=pes_of hR hl'
   refine ⟨by simp [← h1],fun i x p hx hp=>?_⟩
   cases i with
   | zero=>
    simp only [List.getElem?_cons_zero,Option.some.injEq,List.map_cons] at hx hp
    subst hx; subst hp
    have:=RA_ev hR q
    rw [hy] at this
    exact this
   | succ i=>exact h2 i x p (by simpa using hx) (by simpa using hp)
  ·rename_i y l' hy hl'
   split at h
   ·rename_i hok
    injection h with h; subst h
    obtain ⟨h1,h2⟩:=pes_of hR hl'
    refine ⟨by simp [← h1],fun i x p hx hp=>?_⟩
    cases i with
    | zero=>
     simp only [List.getElem?_cons_zero,Option.some.injEq,List.map_cons] at hx hp
     subst hx; subst hp
     have:=RA_ev hR q
     rw [hy] at this
     exact ⟨this.v,hok⟩
    | succ i=>exact h2 i x p (by simpa using hx) (by simpa using hp)
   ·cases h
  ·cases h
theorem cvals_ok {S:Sk} {μ:Mu} {w:World}:∀ {l:List C} {ys vs:List Value},RCs S μ w l ys→cvals l=some vs→ys=vs
 | [],[],vs,_,h=>by injection h
 | [],_ :: _,_,h,_=>h.elim
 | _ :: _,[],_,h,_=>h.elim
 | c :: l,y :: ys,vs,h,hc=>by
  unfold cvals at hc
  split at hc
  ·rename_i e; cases e
  ·rename_i x r e
   injection e with e1 e2; subst e1; subst e2
   split at hc
   ·rename_i l' hl'
    injection hc with hc; subst hc
    obtain rfl:y=x:=h.1
    rw [cvals_ok h.2.2 hl']
   ·cases hc
  ·cases hc
theorem valA_ok {S:Sk} {μ:Mu} {w:World} {X:AV} {y v:Value} (h:RA S μ w X y) (hv:valA X=some v):y=v:=by
 unfold valA at hv
 split at hv
 ·injection hv with hv; subst hv; exact h.v
 ·rename_i l
  split at hv
  ·rename_i vs hvs
   injection hv with hv; subst hv
   obtain ⟨ws,rfl,hw⟩:=h
   have:=cvals_ok hw hvs
   rw [← this]
  ·cases hv
 ·cases hv
theorem vals_of {N:Nat} {w0:World} {M:Nat→Prop} {W:Wd} {lk:List Nat} {st:St} {a:Act} (hR:RepM N w0 M W lk μ st a w):∀ {ps:List Operand} {l:List Value},valsA st ps=some l→ps.map a.eval=l
 | [],l,h=>Option.some.inj h
 | x :: r,l,h=>by
  unfold valsA at h
  split at h
  ·rename_i y hy
   split at h
   ·rename_i l' hl'
    injection h with h; subst h
    rw [List.map_cons,valA_ok (RA_ev hR x) hy,vals_of hR hl']
   ·cases h
  ·cases h
theorem sliceA_ok {N:Nat} {w0:World} {M:Nat→Prop} {W:Wd} {lk:List Nat} {st:St} {a:Act} (hR:RepM N w0 M W lk μ st a w) {t e:TypeId} {i:TypeInfo} {τ:Ty} (hu:P.underlying t=some (.slice e)) (hi:P.info? e=some i)
  (hsz:i.size=τ.sz) {A z:AV} {y:Value} (hA:RA (skel st.o) μ w A y) (hty:isTy st.o τ A=true) {lo hi':Option Int} {lo2 hi2:Option Value}
  (h1:lo2=lo.map (Value.int .i64)) (h2:hi2=hi'.map (Value.int .i64)) (h:(sliceA st.o A lo hi').gives z) :
  ∃ v,RA (skel st.o) μ w z v∧∀ w',(Instr.sliceAt t y lo2 hi2 none).run P w'=.ok v w':=by
 have bnds:∀ {x:Option Int} {x2:Option Value} {d q:Nat},x2=x.map (Value.int .i64)→(∀ n,x=some n→0≤n∧q=n.toNat)→(x=none→q=d)→(x2=none∧q=d)∨x2=some (.int .i64 (q:Int)):=by
  intro x x2 d q e f g
  cases x with
  | none=>exact .inl ⟨e,g rfl⟩
  | some n=>obtain ⟨f1,f2⟩:=f n rfl; exact .inr (by rw [e,f2,Int.toNat_of_nonneg f1]; rfl)
 have owned:∀ {k:Nat} {y:Value},RA (skel st.o) μ w (.one (.c (.ow k))) y→isTy st.o τ (.one (.c (.ow k)))=true→∃ A n c τ',∃ l:List τ'.D,y=.slice A n c∧lkp st.o k=some (.row τ' l)∧skel st.o k=some (.row τ' l.length)∧τ'=τ∧n=l.length∧Hd μ k τ' A 0 n c:=by
  intro k y hA hty
  obtain ⟨A,n,c,σ,rfl,hs,hh⟩:=hA
  simp only [isTy] at hty
  split at hty
  ·rename_i l hl
   have hsk:=skel_of hl
   rw [hs] at hsk
   injection hsk with hsk; injection hsk with e1 e2; subst e1; subst e2
   exact ⟨_,_,_,_,l,rfl,hl,hs,(eqb_true hty).symm,rfl,hh⟩
  ·cases hty
 unfold sliceA at h
 split at h
 -- ro
 ·rename_i σ l
  obtain ⟨A,n,c,rfl,hr,ho⟩:=hA
  obtain rfl:=eqb_true hty
  simp only [PR.gives] at h; subst h
  refine ⟨_,⟨A,n,c,rfl,hr,ho⟩,fun w'=>?_⟩
  rw [run_slice hu hi (l:=0) (h:=n) (bnds h1 (fun n hn=>by cases hn) fun _=>rfl) (bnds h2 (fun n hn=>by cases hn) fun _=>rfl) (Nat.zero_le _) hr.2.1]
  congr 2
  ·split
   ·rfl
   ·cases A <;> simp [Addr.add]
 ·rename_i σ l a'
  obtain ⟨A,n,c,rfl,hr,ho⟩:=hA
  obtain rfl:=eqb_true hty
  obtain ⟨⟨b1,b2⟩,rfl⟩:=h
  have hn:=hr.1
  have hcut:=hr.cut (i:=a'.toNat) (j:=n) (by omega) (Nat.le_refl _)
  rw [List.take_of_length_le (by simp; omega)] at hcut
  refine ⟨_,⟨_,_,_,rfl,hcut,fun hn' b hb=>?_⟩,fun w'=>?_⟩
  ·have hne:¬ c=a'.toNat:=by have:=hcut.2.1; omega
   rw [if_neg hne] at hb
   cases A with
   | none=>cases hb
   | some b0=>
    simp only [Option.map_some,Option.some.injEq] at hb
    have:=ho (by omega) b0 rfl
    rw [← hb]; unfold Addr.add; split <;> exact this
  ·rw [run_slice hu hi (l:=a'.toNat) (h:=n) (bnds h1 (fun n hn=>by injection hn with hn; subst hn; exact ⟨b1,rfl⟩) fun e=>by cases e) (bnds h2 (fun n hn=>by cases hn) fun _=>rfl) (by omega) hr.2.1,hsz]
 ·rename_i σ l b'
  obtain ⟨A,n,c,rfl,hr,ho⟩:=hA
  obtain rfl:=eqb_true hty
  obtain ⟨⟨b1,b2⟩,rfl⟩:=h
  have hn:=hr.1
  have hcut:=hr.cut (i:=0) (j:=b'.toNat) (Nat.zero_le _) (by omega)
  simp only [Nat.sub_zero,List.drop_zero] at hcut
  refine ⟨_,⟨_,_,_,rfl,hcut,fun hn' b hb=>?_⟩,fun w'=>?_⟩
  ·have hne:¬ c=0:=by have:=hcut.2.1; omega
   rw [if_neg hne] at hb
   cases A with
   | none=>cases hb
   | some b0=>
    simp only [Option.map_some,Option.some.injEq] at hb
    have:=ho (by omega) b0 rfl
    rw [← hb]; unfold Addr.add; split <;> exact this
  ·rw [run_slice hu hi (l:=0) (h:=b'.toNat) (bnds h1 (fun n hn=>by cases hn) fun _=>rfl) (bnds h2 (fun n hn=>by injection hn with hn; subst hn; exact ⟨b1,rfl⟩) fun e=>by cases e) (by omega) (by have:=hr.2.1; omega),hsz]
   simp
 ·rename_i σ l a' b'
  obtain ⟨A,n,c,rfl,hr,ho⟩:=hA
  obtain rfl:=eqb_true hty
  obtain ⟨⟨b1,b2,b3⟩,rfl⟩:=h
  have hn:=hr.1
  have hcut:=hr.cut (i:=a'.toNat) (j:=b'.toNat) (by omega) (by omega)
  refine ⟨_,⟨_,_,_,rfl,hcut,fun hn' b hb=>?_⟩,fun w'=>?_⟩
  ·have hne:¬ c=a'.toNat:=by have:=hcut.2.1; omega
   rw [if_neg hne] at hb
   cases A with
   | none=>cases hb
   | some b0=>
    simp only [Option.map_some,Option.some.injEq] at hb
    have:=ho (by omega) b0 rfl
    rw [← hb]; unfold Addr.add; split <;> exact this
  ·rw [run_slice hu hi (l:=a'.toNat) (h:=b'.toNat) (bnds h1 (fun n hn=>by injection hn with hn; subst hn; exact ⟨b1,rfl⟩) fun e=>by cases e) (bnds h2 (fun n hn=>by injection hn with hn; subst hn; exact ⟨by omega,rfl⟩) fun e=>by cases e) (by omega) (by have:=hr.2.1; omega),hsz]
 -- ow
 ·rename_i k
  simp only [PR.gives] at h; subst h
  obtain ⟨A,n,c,σ,rfl,hs,hh⟩:=hA
  refine ⟨_,⟨A,n,c,σ,rfl,hs,hh⟩,fun w'=>?_⟩
  rw [run_slice hu hi (l:=0) (h:=n) (bnds h1 (fun n hn=>by cases hn) fun _=>rfl) (bnds h2 (fun n hn=>by cases hn) fun _=>rfl) (Nat.zero_le _) hh.1]
  congr 2
  ·split
   ·rfl
   ·cases A <;> simp [Addr.add]
 ·rename_i k a'
  obtain ⟨A,n,c,τ,l,rfl,hl,hs,rfl,rfl,hh⟩:=owned hA hty
  simp only [rowLen,hl] at h
  obtain ⟨⟨b1,b2⟩,rfl⟩:=h
  refine ⟨_,⟨_,_,_,_,rfl,hs,?_,?_,?_⟩,fun w'=>run_slice hu hi (l:=a'.toNat) (h:=l.length) (bnds h1 (fun n hn=>by injection hn with hn; subst hn; exact ⟨b1,rfl⟩) fun e=>by cases e) (bnds h2 (fun n hn=>by cases hn) fun _=>rfl) (by omega) hh.1 w'⟩
  ·omega
  ·have:=hh.1; omega
  ·have:=hh.cut (i:=a'.toNat) (j:=l.length) (by omega) (by have:=hh.1; omega)
   rw [hsz]; simpa using this
 ·rename_i k b'
  obtain ⟨A,n,c,τ,l,rfl,hl,hs,rfl,rfl,hh⟩:=owned hA hty
  simp only [rowLen,hl] at h
  obtain ⟨⟨b1,b2⟩,rfl⟩:=h
  refine ⟨.slice (if c=0 then A else A.map (fun x=>x.add (0*i.size))) b'.toNat c,⟨_,c,_,_,rfl,hs,?_,?_,?_⟩,fun w'=>(run_slice hu hi (l:=0) (h:=b'.toNat) (bnds h1 (fun n hn=>by cases hn) fun _=>rfl) (bnds h2 (fun n hn=>by injection hn with hn; subst hn; exact ⟨b1,rfl⟩) fun e=>by cases e) (by omega) (by have:=hh.1; omega) w').trans (by simp only [Nat.sub_zero])⟩
  ·omega
  ·have:=hh.1; omega
  ·have:=hh.cut (i:=0) (j:=b'.toNat) (Nat.zero_le _) (by have:=hh.1; omega)
   rw [hsz]; simpa using this
 ·rename_i k a' b'
  obtain ⟨A,n,c,τ,l,rfl,hl,hs,rfl,rfl,hh⟩:=owned hA hty
  simp only [rowLen,hl] at h
  obtain ⟨⟨b1,b2,b3⟩,rfl⟩:=h
  refine ⟨_,⟨_,_,_,_,rfl,hs,?_,?_,?_⟩,fun w'=>run_slice hu hi (l:=a'.toNat) (h:=b'.toNat) (bnds h1 (fun n hn=>by injection hn with hn; subst hn; exact ⟨b1,rfl⟩) fun e=>by cases e) (bnds h2 (fun n hn=>by injection hn with hn; subst hn; exact ⟨by omega,rfl⟩) fun e=>by cases e) (by omega) (by have:=hh.1; omega) w'⟩
  ·omega
  ·have:=hh.1; omega
  ·have:=hh.cut (i:=a'.toNat) (j:=b'.toNat) (by omega) (by have:=hh.1; omega)
   rw [hsz]; simpa using this
 -- sub
 ·rename_i k off n
  obtain ⟨A,c,σ,m,rfl,hs,hm,hmc,hh⟩:=hA
  obtain ⟨l,hl,rfl,hσ⟩:∃ l:List σ.D,lkp st.o k=some (.row σ l)∧m=l.length∧σ=τ:=by
   simp only [isTy] at hty
   split at hty
   ·rename_i hl
    have hsk:=skel_of hl
    rw [hs] at hsk
    injection hsk with hsk; injection hsk with e1 e2; subst e1; subst e2
    exact ⟨_,hl,rfl,(eqb_true hty).symm⟩
   ·cases hty
  subst hσ
  split at h
  ·simp only [PR.gives] at h; subst h
   refine ⟨_,⟨A,c,_,_,rfl,hs,hm,hmc,hh⟩,fun w'=>?_⟩
   rw [run_slice hu hi (l:=0) (h:=n) (bnds h1 (fun n hn=>by cases hn) fun _=>rfl) (bnds h2 (fun n hn=>by cases hn) fun _=>rfl) (Nat.zero_le _) hh.1]
   congr 2
   ·split
    ·rfl
    ·cases A <;> simp [Addr.add]
  ·obtain ⟨⟨b1,b2⟩,rfl⟩:=h
   rename_i a'
   refine ⟨_,⟨_,_,_,_,rfl,hs,?_,?_,?_⟩,fun w'=>run_slice hu hi (l:=a'.toNat) (bnds h1 (fun n hn=>by injection hn with hn; subst hn; exact ⟨b1,rfl⟩) fun e=>by cases e) (bnds h2 (fun n hn=>by cases hn) fun _=>rfl) (by omega) hh.1 w'⟩
   ·omega
   ·have:=hh.1; omega
   ·have:=hh.cut (i:=a'.toNat) (j:=n) (by omega) (by have:=hh.1; omega)
    rw [hsz]; exact this
  ·simp only [rowLen,hl] at h
   obtain ⟨⟨b1,b2⟩,rfl⟩:=h
   rename_i b'
   refine ⟨.slice (if c=0 then A else A.map (fun x=>x.add (0*i.size))) b'.toNat c,⟨_,c,_,_,rfl,hs,?_,hmc,?_⟩,fun w'=>(run_slice hu hi (l:=0) (h:=b'.toNat) (bnds h1 (fun n hn=>by cases hn) fun _=>rfl) (bnds h2 (fun n hn=>by injection hn with hn; subst hn; exact ⟨b1,rfl⟩) fun e=>by cases e) (by omega) (by have:=hh.1; omega) w').trans (by simp only [Nat.sub_zero])⟩
   ·omega
   ·have:=hh.cut (i:=0) (j:=b'.toNat) (Nat.zero_le _) (by have:=hh.1; omega)
    rw [hsz]; simpa using this
  ·simp only [rowLen,hl] at h
   obtain ⟨⟨b1,b2,b3⟩,rfl⟩:=h
   rename_i a' b'
   refine ⟨_,⟨_,_,_,_,rfl,hs,?_,?_,?_⟩,fun w'=>run_slice hu hi (l:=a'.toNat) (h:=b'.toNat) (bnds h1 (fun n hn=>by injection hn with hn; subst hn; exact ⟨b1,rfl⟩) fun e=>by cases e) (bnds h2 (fun n hn=>by injection hn with hn; subst hn; exact ⟨by omega,rfl⟩) fun e=>by cases e) (by omega) (by have:=hh.1; omega) w'⟩
   ·omega
   ·have:=hh.1; omega
   ·have:=hh.cut (i:=a'.toNat) (j:=b'.toNat) (by omega) (by have:=hh.1; omega)
    rw [hsz]; exact this
 -- a slice whose capacity is known
 ·rename_i k off n c
  obtain ⟨A,σ,m,rfl,hs,hh⟩:=hA
  obtain ⟨l,hl,rfl,hσ⟩:∃ l:List σ.D,lkp st.o k=some (.row σ l)∧m=l.length∧σ=τ:=by
   simp only [isTy] at hty
   split at hty
   ·rename_i hl
    have hsk:=skel_of hl
    rw [hs] at hsk
    injection hsk with hsk; injection hsk with e1 e2; subst e1; subst e2
    exact ⟨_,hl,rfl,(eqb_true hty).symm⟩
   ·cases hty
  subst hσ
  split at h
  ·simp only [PR.gives] at h; subst h
   refine ⟨_,⟨A,_,_,rfl,hs,hh⟩,fun w'=>?_⟩
   rw [run_slice hu hi (l:=0) (h:=n) (bnds h1 (fun n hn=>by cases hn) fun _=>rfl) (bnds h2 (fun n hn=>by cases hn) fun _=>rfl) (Nat.zero_le _) hh.1]
   congr 2
   ·split
    ·rfl
    ·cases A <;> simp [Addr.add]
  ·obtain ⟨⟨b1,b2⟩,rfl⟩:=h
   rename_i a'
   refine ⟨_,⟨_,_,_,rfl,hs,?_⟩,fun w'=>run_slice hu hi (l:=a'.toNat) (bnds h1 (fun n hn=>by injection hn with hn; subst hn; exact ⟨b1,rfl⟩) fun e=>by cases e) (bnds h2 (fun n hn=>by cases hn) fun _=>rfl) (by omega) hh.1 w'⟩
   have:=hh.cut (i:=a'.toNat) (j:=n) (by omega) (by have:=hh.1; omega)
   rw [hsz]; exact this
  ·obtain ⟨⟨b1,b2⟩,rfl⟩:=h
   rename_i b'
   refine ⟨.slice (if c=0 then A else A.map (fun x=>x.add (0*i.size))) b'.toNat c,⟨_,_,_,rfl,hs,?_⟩,fun w'=>(run_slice hu hi (l:=0) (h:=b'.toNat) (bnds h1 (fun n hn=>by cases hn) fun _=>rfl) (bnds h2 (fun n hn=>by injection hn with hn; subst hn; exact ⟨b1,rfl⟩) fun e=>by cases e) (by omega) (by omega) w').trans (by simp only [Nat.sub_zero])⟩
   have:=hh.cut (i:=0) (j:=b'.toNat) (Nat.zero_le _) (by omega)
   rw [hsz]; simpa using this
  ·obtain ⟨⟨b1,b2,b3⟩,rfl⟩:=h
   rename_i a' b'
   refine ⟨_,⟨_,_,_,rfl,hs,?_⟩,fun w'=>run_slice hu hi (l:=a'.toNat) (h:=b'.toNat) (bnds h1 (fun n hn=>by injection hn with hn; subst hn; exact ⟨b1,rfl⟩) fun e=>by cases e) (bnds h2 (fun n hn=>by injection hn with hn; subst hn; exact ⟨by omega,rfl⟩) fun e=>by cases e) (by omega) (by omega) w'⟩
   have:=hh.cut (i:=a'.toNat) (j:=b'.toNat) (by omega) (by omega)
   rw [hsz]; exact this
 -- nil
 ·simp only [PR.gives] at h; subst h
  obtain rfl:y=_:=hA
  exact ⟨_,rfl,fun w'=>by rw [run_slice hu hi (l:=0) (h:=0) (bnds h1 (fun n hn=>by cases hn) fun _=>rfl) (bnds h2 (fun n hn=>by cases hn) fun _=>rfl) (Nat.le_refl _) (Nat.le_refl _)]; rfl⟩
 ·obtain ⟨rfl,rfl⟩:=h
  obtain rfl:y=_:=hA
  exact ⟨_,rfl,fun w'=>by rw [run_slice hu hi (l:=0) (h:=0) (bnds h1 (fun n hn=>by injection hn with hn; subst hn; exact ⟨Int.le_refl _,rfl⟩) fun _=>rfl) (bnds h2 (fun n hn=>by cases hn) fun _=>rfl) (Nat.le_refl _) (Nat.le_refl _)]; rfl⟩
 ·obtain ⟨rfl,rfl⟩:=h
  obtain rfl:y=_:=hA
  exact ⟨_,rfl,fun w'=>by rw [run_slice hu hi (l:=0) (h:=0) (bnds h1 (fun n hn=>by cases hn) fun _=>rfl) (bnds h2 (fun n hn=>by injection hn with hn; subst hn; exact ⟨Int.le_refl _,rfl⟩) fun _=>rfl) (Nat.le_refl _) (Nat.le_refl _)]; rfl⟩
 ·obtain ⟨⟨rfl,rfl⟩,rfl⟩:=h
  obtain rfl:y=_:=hA
  exact ⟨_,rfl,fun w'=>by rw [run_slice hu hi (l:=0) (h:=0) (bnds h1 (fun n hn=>by injection hn with hn; subst hn; exact ⟨Int.le_refl _,rfl⟩) fun _=>rfl) (bnds h2 (fun n hn=>by injection hn with hn; subst hn; exact ⟨Int.le_refl _,rfl⟩) fun _=>rfl) (Nat.le_refl _) (Nat.le_refl _)]; rfl⟩
 ·simp [isTy] at hty
 ·exact h.elim
theorem sliceStr_ok {st:St} {t:TypeId} (hu:P.underlying t=some .string)
  {A z:AV} {y:Value} (hA:RA (skel st.o) μ w A y) (hty:isStr A=true) {lo hi':Option Int} {lo2 hi2:Option Value}
  (h1:lo2=lo.map (Value.int .i64)) (h2:hi2=hi'.map (Value.int .i64)) (h:(sliceA st.o A lo hi').gives z) :
  ∃ v,RA (skel st.o) μ w z v∧∀ w',(Instr.sliceAt t y lo2 hi2 none).run P w'=.ok v w':=by
 have bnds:∀ {x:Option Int} {x2:Option Value} {d q:Nat},x2=x.map (Value.int .i64)→(∀ n,x=some n→0≤n∧q=n.toNat)→(x=none→q=d)→(x2=none∧q=d)∨x2=some (.int .i64 (q:Int)):=by
  intro x x2 d q e f g
  cases x with
  | none=>exact .inl ⟨e,g rfl⟩
  | some n=>obtain ⟨f1,f2⟩:=f n rfl; exact .inr (by rw [e,f2,Int.toNat_of_nonneg f1]; rfl)
 unfold isStr at hty
 split at hty
 ·rename_i s
  obtain rfl:=hA.v
  cases lo with
  | none=>
   cases hi' with
   | none=>
    have h':V (.string s)=z:=h
    subst h'
    exact ⟨_,rfl,fun w'=>(run_sliceStr hu (l:=0) (h:=s.size) (bnds h1 (fun n hn=>by cases hn) fun _=>rfl) (bnds h2 (fun n hn=>by cases hn) fun _=>rfl) (Nat.zero_le _) (Nat.le_refl _) w').trans (by simp)⟩
   | some b'=>
    obtain ⟨⟨b1,b2⟩,rfl⟩:=h
    exact ⟨_,rfl,fun w'=>run_sliceStr hu (l:=0) (h:=b'.toNat) (bnds h1 (fun n hn=>by cases hn) fun _=>rfl) (bnds h2 (fun n hn=>by injection hn with hn; subst hn; exact ⟨b1,rfl⟩) fun e=>by cases e) (by omega) (by omega) w'⟩
  | some a'=>
   cases hi' with
   | none=>
    obtain ⟨⟨b1,b2⟩,rfl⟩:=h
    exact ⟨_,rfl,fun w'=>run_sliceStr hu (l:=a'.toNat) (h:=s.size) (bnds h1 (fun n hn=>by injection hn with hn; subst hn; exact ⟨b1,rfl⟩) fun e=>by cases e) (bnds h2 (fun n hn=>by cases hn) fun _=>rfl) (by omega) (Nat.le_refl _) w'⟩
   | some b'=>
    obtain ⟨⟨b1,b2,b3⟩,rfl⟩:=h
    exact ⟨_,rfl,fun w'=>run_sliceStr hu (l:=a'.toNat) (h:=b'.toNat) (bnds h1 (fun n hn=>by injection hn with hn; subst hn; exact ⟨b1,rfl⟩) fun e=>by cases e) (bnds h2 (fun n hn=>by injection hn with hn; subst hn; exact ⟨by omega,rfl⟩) fun e=>by cases e) (by omega) (by omega) w'⟩
 ·cases hty
theorem run_index {t e:TypeId} {i:TypeInfo} (hu:P.underlying t=some (.slice e)) (hi:P.info? e=some i) {ad:Addr} {n c:Nat} {q:Int} (h0:0≤q) (h1:q < (n:Int)) (w:World) :
  (Instr.indexAt t (.slice (some ad) n c) (.int .i64 q)).run P w=.ok (.pointer (some (ad.add (q.toNat*i.size)))) w:=by
 simp [Instr.indexAt,run_underlying hu,run_size hi,asIntOf,h0,h1]
theorem indexA_ok {N:Nat} {w0:World} {M:Nat→Prop} {W:Wd} {lk:List Nat} {st:St} {a:Act} (hR:RepM N w0 M W lk μ st a w) {t e:TypeId} {i:TypeInfo} {τ:Ty} (hu:P.underlying t=some (.slice e)) (hi:P.info? e=some i)
  (hsz:i.size=τ.sz) {A z:AV} {y:Value} (hA:RA (skel st.o) μ w A y) (hty:isTy st.o τ A=true) {q:Int} (h:(indexA st.o A q).gives z) :
  ∃ v,RA (skel st.o) μ w z v∧∀ w',(Instr.indexAt t y (.int .i64 q)).run P w'=.ok v w':=by
 unfold indexA at h
 split at h
 ·rename_i q' σ l
  obtain ⟨A,n,c,rfl,hr,ho⟩:=hA
  obtain rfl:=eqb_true hty
  obtain ⟨⟨b1,b2⟩,rfl⟩:=h
  have hn:=hr.1
  have hlt:q.toNat < l.length:=by omega
  obtain ⟨b,e1,e2⟩:=hr.blk (by omega)
  have ho':=ho (by omega) b e1
  obtain ⟨_,h2,h3,⟨rfl,_⟩ | ⟨ad,rfl,ha⟩⟩:=hr
  ·cases e1
  ·obtain ⟨b',o,rfl,hc⟩:=ha (by omega)
   injection e1 with e1; subst e1
   refine ⟨.pointer (some ⟨b',o+q.toNat*τ.sz,none⟩),⟨b',o+q.toNat*τ.sz,rfl,fun j x hx=>?_,e2,ho',enc_ok τ _⟩,fun w'=>?_⟩
   ·have hgl:l[q.toNat]?=some (l.getD q.toNat τ.zero):=by simp [hlt]
    exact hc _ _ hgl _ _ hx
   ·rw [run_index hu hi b1 (by omega),hsz,Addr_add]
 ·rename_i q' k
  obtain ⟨A,n,c,σ,rfl,hs,hh⟩:=hA
  cases hl:lkp st.o k with
  | none=>simp [rowLen,hl,PR.gives] at h
  | some ob=>
   cases ob with
   | box l=>simp [rowLen,hl,PR.gives] at h
   | row ρ l=>
    simp only [rowLen,hl] at h
    simp only [isTy,hl] at hty
    obtain rfl:=eqb_true hty
    have hsk:=skel_of hl
    rw [hs] at hsk
    injection hsk with hsk; injection hsk with e1 e2; subst e1; subst e2
    obtain ⟨⟨b1,b2⟩,rfl⟩:=h
    obtain ⟨g1,g2,⟨rfl,g3⟩ | ⟨g,o,s,o',hm,rfl,g4,g5⟩⟩:=hh
    ·omega
    ·have g6:=g5 (by omega)
     simp only [Nat.zero_mul,Nat.add_zero] at g6
     subst g6
     refine ⟨_,⟨g,o',s,_,_,hs,by omega,hm,rfl⟩,fun w'=>?_⟩
     rw [run_index hu hi b1 b2,hsz,Addr_add]
     simp
 ·rename_i q' k off n
  obtain ⟨A,c,σ,m,rfl,hs,hm',_,hh⟩:=hA
  have hσ:σ=τ:=by
   simp only [isTy] at hty
   split at hty
   ·rename_i hl
    have hsk:=skel_of hl
    rw [hs] at hsk
    injection hsk with hsk; injection hsk with e1 e2; subst e1
    exact (eqb_true hty).symm
   ·cases hty
  subst hσ
  obtain ⟨⟨b1,b2⟩,rfl⟩:=h
  obtain ⟨g1,g2,⟨rfl,g3⟩ | ⟨g,o,s,o',hm,rfl,g4,g5⟩⟩:=hh
  ·omega
  ·have g6:=g5 (by omega)
   subst g6
   refine ⟨_,⟨g,o,s,_,_,hs,by omega,hm,rfl⟩,fun w'=>?_⟩
   rw [run_index hu hi b1 b2,hsz,Addr_add,Nat.add_mul]
   simp [Nat.add_assoc]
 ·exact h.elim
theorem indexL_ok {t e:TypeId} {i:TypeInfo} {τ:Ty} (hu:P.underlying t=some (.slice e)) (hi:P.info? e=some i) (hsz:i.size=1) {ls:List (List τ.D)} {y:Value} (hA:RC S μ w (.rol τ ls) y) {q:Int} (h0:0≤q) (h1:q < ls.length) :
  ∃ v,RC S μ w (.pel τ (ls.getD q.toNat [])) v∧∀ w',(Instr.indexAt t y (.int .i64 q)).run P w'=.ok v w':=by
 obtain ⟨A,n,c,rfl,hn,g1,g2,g3⟩:=hA
 obtain ⟨b,o,rfl,hno,hlt,hc⟩:=g3 (by omega)
 have hlt2:q.toNat < ls.length:=by omega
 obtain ⟨z,z1,z2⟩:=hc q.toNat _ (show ls[q.toNat]?=some (ls.getD q.toNat []) by simp [hlt2])
 refine ⟨.pointer (some ⟨b,o+q.toNat,none⟩),⟨b,_,z,rfl,hno,hlt,z1,z2⟩,fun w'=>?_⟩
 rw [run_index hu hi h0 (by omega),hsz,Addr_add,Nat.mul_one]
theorem run_indexAr {t e:TypeId} {i:TypeInfo} {n:Nat} (hu:P.underlying t=some (.array n e)) (hi:P.info? e=some i) {ad:Addr} {q:Int} (h0:0≤q) (h1:q < n) (w:World) :
  (Instr.indexAt t (.pointer (some ad)) (.int .i64 q)).run P w=.ok (.pointer (some (ad.add (q.toNat*i.size)))) w:=by
 simp [Instr.indexAt,Instr.sureAddr,run_underlying hu,run_size hi,asIntOf,h0,h1]
theorem run_slice3 {t e:TypeId} {i:TypeInfo} (hu:P.underlying t=some (.slice e)) (hi:P.info? e=some i) {A:Option Addr} {n c:Nat} {l h m:Nat}
  (hlh:l≤h) (hhm:h≤m) (hm:m≤n) (hc:n≤c) (w:World) :
  ∃ v,∀ w:World,(Instr.sliceAt t (.slice A n c) (some (.int .i64 (l:Int))) (some (.int .i64 (h:Int))) (some (.int .i64 (m:Int)))).run P w=.ok v w:=by
 have b1:m≤c:=by omega
 refine ⟨.slice (if m=l then A else A.map (·.add (l*i.size))) (h - l) (m - l),fun w=>?_⟩
 simp [Instr.sliceAt,Instr.slice,Instr.sliceBounds,Instr.sliceBound,run_underlying hu,run_size hi,asIntOf,b1,hlh,hhm]
 try (intros; omega)
theorem field_ok (hT:TabOK P T) {s:TypeId} {f off:Nat} (hf:fieldOff T s f=some off) {A z:AV} {y:Value} (hA:RA S μ w A y) (h:(fieldA off A).gives z) :
  ∃ v,RA S μ w z v∧∀ w',(Instr.fieldAt s y f).run P w'=.ok v w':=by
 unfold fieldOff at hf
 split at hf
 ·rename_i fs zz hl
  obtain ⟨i,flds,h1,h2,h3,h4,h5,h6,h7⟩:=hT _ _ hl
  split at hf
  ·rename_i off' size e1
   split at hf
   ·rename_i e2
    injection hf with hf; subst hf
    have e3:1≤size:=Nat.ble_eq.mp e2
    have hlt:f < flds.size:=by rw [h6]; exact (List.getElem?_eq_some_iff.1 e1).1
    obtain ⟨i',a1,a2,_⟩:=h7 f flds[f] (by simp [hlt])
    rw [e1] at a2
    injection a2 with a2; injection a2 with a2 a3
    have hrun:∀ (b o:Nat) (w':World),(Instr.fieldAt s (.pointer (some ⟨b,o,none⟩)) f).run P w'=.ok (.pointer (some ⟨b,o+off',none⟩)) w':=by
     intro b o w'
     have hne:¬ i'.size=0:=by omega
     simp [Instr.fieldAt,run_underlying h5,hlt,Instr.sureAddr,fieldPlace,run_size a1,hne,Addr_add,a2]
    unfold fieldA at h
    split at h
    ·simp only [PR.gives] at h; subst h
     obtain ⟨g,o,s',hs,hm,rfl⟩:=hA
     exact ⟨_,⟨g,o,s',hs,hm,by rw [← Nat.add_assoc]⟩,fun w'=>hrun _ _ _⟩
    ·simp only [PR.gives] at h; subst h
     obtain ⟨g,o,s',τ,n,hs,hi,hm,rfl⟩:=hA
     exact ⟨_,⟨g,o,s',τ,n,hs,hi,hm,by rw [← Nat.add_assoc]⟩,fun w'=>hrun _ _ _⟩
    ·simp only [PR.gives] at h; subst h
     obtain ⟨b,o,rfl,hc,hlt',hno,hok⟩:=hA
     exact ⟨_,⟨b,o,by rw [← Nat.add_assoc],hc,hlt',hno,hok⟩,fun w'=>hrun _ _ _⟩
    ·exact h.elim
   ·cases hf
  ·cases hf
 ·cases hf
end
end Go.Ev
