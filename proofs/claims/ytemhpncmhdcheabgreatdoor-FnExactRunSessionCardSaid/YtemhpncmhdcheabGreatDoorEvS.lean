/- A function that the evaluator has gone through keeps its contract. No statement is proved here. -/
import Derived.Test.YtemhpncmhdcheabGreatDoorEvR
namespace Go.Ev
set_option linter.unusedVariables false
set_option linter.unusedSimpArgs false
open Go
section
variable {P:Program} {T:Tab} {N:Nat} {w0:World} {M:Nat→Prop} {W:Wd} {lk:List Nat} {μ:Mu} {st:St} {a:Act} {w:World}
def resM (tmps:Array Value):ResultVar→Sem Value
 | .tmp t=>pure (tmps.getD t undef)
 | .cell a t=>do loadVar t (← asAddr (tmps.getD a undef))
theorem resVar_ok (hT:TabOK P T) (hR:RepM N w0 M W lk μ st a w) {r:ResultVar} {x:A1} (h:resVar T st r=some x):∃ v,R1 (skel st.o) μ w x v∧(resM a.tmps r).run P w=.ok v w:=by
 unfold resVar at h
 split at h
 ·rename_i t
  split at h
  ·rename_i b hb
   injection h with h; subst h
   have:=hR.tmp t
   rw [hb] at this
   exact ⟨_,this,rfl⟩
  ·cases h
 ·rename_i c t
  split at h
  ·rename_i y hy
   injection h with h; subst h
   have ht:=hR.tmp c
   obtain ⟨v,h1,h2⟩:=loadA_ok hT hR (z:=.one y) ht (by rw [hy]; rfl)
   refine ⟨v,h1,?_⟩
   have h3:=h2 w (.inl rfl)
   -- what is loaded from is a pointer
   have hptr:∃ ad,a.tmps.getD c undef=.pointer (some ad):=by
    unfold loadA at hy
    split at hy
    ·rename_i hA; rw [hA] at ht; obtain ⟨g,o,s,_,_,e⟩:=ht; exact ⟨_,e⟩
    ·rename_i hA; rw [hA] at ht; obtain ⟨g,o,s,τ,n,_,_,_,e⟩:=ht; exact ⟨_,e⟩
    ·rename_i hA; rw [hA] at ht; obtain ⟨b,o,e,_⟩:=ht; exact ⟨_,e⟩
    ·rename_i hA; rw [hA] at ht; obtain ⟨b,o,z,e,_⟩:=ht; exact ⟨_,e⟩
    ·cases hy
   obtain ⟨ad,hptr⟩:=hptr
   rw [hptr] at h3
   simp only [resM,hptr,asAddr]
   simpa [Instr.loadAt,Instr.sureAddr] using h3
  ·cases h
theorem resVars_ok (hT:TabOK P T) (hR:RepM N w0 M W lk μ st a w):∀ {rs:List ResultVar} {l:List A1},resVars T st rs=some l→∃ ys,R1s (skel st.o) μ w l ys∧(rs.mapM (resM a.tmps)).run P w=.ok ys w
 | [],l,h=>by injection h with h; subst h; exact ⟨[],trivial,rfl⟩
 | r :: rs,l,h=>by
  unfold resVars at h
  split at h
  ·rename_i x l' h1 h2
   injection h with h; subst h
   obtain ⟨v,e1,e2⟩:=resVar_ok hT hR h1
   obtain ⟨ys,e3,e4⟩:=resVars_ok hT hR h2
   exact ⟨v :: ys,⟨e1,e3⟩,by simp [List.mapM_cons,e2,e4]⟩
  ·cases h
theorem resVarQ_ok (hT:TabOK P T) (hR:RepM N w0 M W lk μ st a w) {r:ResultVar} {c:Prop} {x:A1} (h:resVarQ T st r=some (c,x)) (hc:c):∃ v,R1 (skel st.o) μ w x v∧(resM a.tmps r).run P w=.ok v w:=by
 unfold resVarQ at h
 split at h
 ·rename_i a0 t
  split at h
  ·rename_i c0 y hy
   injection h with h; injection h with e1 e2; subst e1; subst e2
   have ht:=hR.tmp a0
   obtain ⟨v,h1,h2⟩:=loadA_ok hT hR (z:=.one y) ht (by rw [hy]; exact ⟨hc,rfl⟩)
   refine ⟨v,h1,?_⟩
   have h3:=h2 w (.inl rfl)
   -- what is loaded from is a pointer
   have hptr:∃ ad,a.tmps.getD a0 undef=.pointer (some ad):=by
    unfold loadA at hy
    split at hy
    ·rename_i hA; rw [hA] at ht; obtain ⟨g,o,s,_,_,e⟩:=ht; exact ⟨_,e⟩
    ·rename_i hA; rw [hA] at ht; obtain ⟨g,o,s,τ,n,_,_,_,e⟩:=ht; exact ⟨_,e⟩
    ·rename_i hA; rw [hA] at ht; obtain ⟨b,o,e,_⟩:=ht; exact ⟨_,e⟩
    ·rename_i hA; rw [hA] at ht; obtain ⟨b,o,z,e,_⟩:=ht; exact ⟨_,e⟩
    ·cases hy
   obtain ⟨ad,hptr⟩:=hptr
   rw [hptr] at h3
   simp only [resM,hptr,asAddr]
   simpa [Instr.loadAt,Instr.sureAddr] using h3
  ·cases h
 ·cases h
theorem resVarsQ_ok (hT:TabOK P T) (hR:RepM N w0 M W lk μ st a w) {rs:List ResultVar} {c:Prop} {l:List A1} (h:resVarsQ T st rs=some (c,l)) (hc:c):∃ ys,R1s (skel st.o) μ w l ys∧(rs.mapM (resM a.tmps)).run P w=.ok ys w:=by
 unfold resVarsQ at h
 split at h
 ·split at h
  ·rename_i c0 x h1
   injection h with h; injection h with e1 e2; subst e1; subst e2
   obtain ⟨v,e1,e2⟩:=resVarQ_ok hT hR h1 hc
   exact ⟨[v],⟨e1,trivial⟩,by simp [List.mapM_cons,e2]⟩
  ·cases h
 ·cases h
def packV:List Value→Value
 | [y]=>y
 | l=>.tuple l.toArray
theorem results_run {fn:Func} {ys:List Value} (h:(fn.results.toList.mapM (resM a.tmps)).run P w=.ok ys w):(results fn a.tmps).run P w=.ok (packV ys) w:=by
 have e:results fn a.tmps=(List.toArray <$> (fn.results.toList.mapM (resM a.tmps))) >>= fun vs=>pure (if h:vs.size=1 then vs[0] else .tuple vs):=by
  rw [← Array.mapM_eq_mapM_toList]; rfl
 rw [e]
 simp [h]
 match ys with
 | []=>rfl
 | [y]=>rfl
 | y :: z :: r=>simp [packV]
theorem outCs_obs {o:List (Nat×OB)}:∀ {l:List C} {k0:Nat} {ys:List C},(∀ c∈l,confd c=true)→outCs o (entCs k0 l).1=some ys→
  ∃ no,outObs k0 l ys=some no∧∀ k ob,lkp no k=some ob→k0≤k∧lkp o k=some ob∧(∃ τ,∃ l:List τ.D,ob=.row τ l)∧lkp (entCs k0 l).2 k≠none
 | [],k0,ys,_,h=>by injection h with h; subst h; exact ⟨[],rfl,fun k ob h=>by cases h⟩
 | c :: l,k0,ys,hc,h=>by
  have hc0:=hc c (by simp)
  simp only [entCs,outCs] at h
  split at h
  ·rename_i y l' h1 h2
   injection h with h; subst h
   obtain ⟨no,e1,e2⟩:=outCs_obs (k0:=k0+1) (fun c hm=>hc c (by simp [hm])) h2
   cases c with
   | v x=>
    injection h1 with h1; subst h1
    refine ⟨no,e1,fun k ob hk=>?_⟩
    obtain ⟨a1,a2,a3,a4⟩:=e2 k ob hk
    exact ⟨by omega,a2,a3,a4⟩
   | ro τ x=>
    simp only [entC,outC] at h1
    split at h1
    ·rename_i τ' l0 hl
     injection h1 with h1; subst h1
     refine ⟨(k0,.row τ' l0) :: no,by simp only [outObs,e1],fun k ob hk=>?_⟩
     have hent:(entCs k0 (.ro τ x :: l)).2=(k0,OB.row τ x) :: (entCs (k0+1) l).2:=rfl
     rcases beq_cases k0 k with ⟨rfl,_⟩ | ⟨hne,_⟩
     ·rw [lkp_cons_same] at hk; injection hk with hk; subst hk
      exact ⟨Nat.le_refl _,hl,⟨τ',l0,rfl⟩,by rw [hent,lkp_cons_same]; simp⟩
     ·rw [lkp_cons_ne _ _ hne] at hk
      obtain ⟨a1,a2,a3,a4⟩:=e2 k ob hk
      exact ⟨by omega,a2,a3,by rw [hent,lkp_cons_ne _ _ hne]; exact a4⟩
    ·cases h1
   | pe l j=>simp [entC,outC] at h1
   | cl f cs=>simp [entC,outC] at h1
   | rol τ ls=>simp [entC,outC] at h1
   | arr l=>simp [entC,outC] at h1
   | _=>cases hc0
  ·cases h
theorem outs_ok {ms:List Md} {vs os:List A1} (hcf:∀ m a,mutA ms vs=some (m,a)→∀ c∈cells1 a,confd c=true) (h:outs st.o ms vs=some os) :
  ∃ no,noOf ms vs os=some no∧(∀ k ob,lkp no k=some ob→100000≤k∧lkp st.o k=some ob∧lkp (entO ms vs) k≠none∧((∃ τ,∃ l:List τ.D,ob=.row τ l)∨∃ l,ob=.box l∧plainCs l=true))∧((∃ k,lkp no k≠none)→mvEnt ms vs=[]):=by
 unfold outs at h
 split at h
 ·rename_i a ha
  have hcf:=hcf _ _ ha
  split at h
  ·rename_i y hy
   injection h with h; subst h
   have hmv:mvEnt ms vs=[]:=by simp [mvEnt,ha]
   simp only [noOf,ha,entO]
   cases a with
   | ptr l0=>
    simp only [entK,out1] at hy
    split at hy
    ·rename_i l hl
     split at hy
     ·rename_i hp
      injection hy with hy; subst hy
      refine ⟨_,rfl,fun k ob hk=>?_,fun _=>hmv⟩
      rcases beq_cases 100000 k with ⟨rfl,_⟩ | ⟨hne,_⟩
      ·rw [lkp_cons_same] at hk; injection hk with hk; subst hk
       exact ⟨Nat.le_refl _,hl,by simp [entK,lkp],.inr ⟨l,rfl,hp⟩⟩
      ·rw [lkp_cons_ne _ _ hne] at hk; cases hk
     ·cases hy
    ·cases hy
   | c x=>
    have hx:=hcf x (by simp [cells1])
    have hy':∃ y',y=.c y'∧outC st.o (entC 100000 x).1=some y':=by
     cases x with
     | v z=>simp only [entK,entC,out1,outC] at hy ⊢; injection hy with hy; exact ⟨_,hy.symm,rfl⟩
     | ro τ l=>
      simp only [entK,entC,out1] at hy ⊢
      split at hy
      ·rename_i y' hy'; injection hy with hy; exact ⟨_,hy.symm,hy'⟩
      ·cases hy
     | pe l j=>simp [entK,entC,out1,outC] at hy
     | cl f cs=>simp [entK,entC,out1,outC] at hy
     | rol τ ls=>simp [entK,entC,out1,outC] at hy
     | arr l=>simp [entK,entC,out1,outC] at hy
     | _=>cases hx
    obtain ⟨y',rfl,hy'⟩:=hy'
    obtain ⟨no,e1,e2⟩:=outCs_obs (o:=st.o) (l:=[x]) (k0:=100000) (ys:=[y']) (fun c hc=>by simp at hc; subst hc; exact hx) (by simp [entCs,outCs,hy'])
    refine ⟨no,e1,fun k ob hk=>?_,fun _=>hmv⟩
    obtain ⟨a1,a2,a3,a4⟩:=e2 k ob hk
    refine ⟨a1,a2,?_,.inl a3⟩
    simpa [entCs,entK] using a4
   | agg l=>
    have hy':∃ ys,y=.agg ys∧outCs st.o (entCs 100000 l).1=some ys:=by
     simp only [entK,out1] at hy
     split at hy
     ·rename_i ys hys; injection hy with hy; exact ⟨ys,hy.symm,hys⟩
     ·cases hy
    obtain ⟨ys,rfl,hys⟩:=hy'
    obtain ⟨no,e1,e2⟩:=outCs_obs (o:=st.o) (l:=l) (k0:=100000) (ys:=ys) (fun c hc=>hcf c hc) hys
    refine ⟨no,e1,fun k ob hk=>?_,fun _=>hmv⟩
    obtain ⟨a1,a2,a3,a4⟩:=e2 k ob hk
    exact ⟨a1,a2,a4,.inl a3⟩
  ·cases h
 ·rename_i hne
  injection h with h; subst h
  refine ⟨[],?_,fun k ob h=>(by cases h),fun ⟨k,h⟩=>absurd rfl h⟩
  unfold noOf
  split
  ·rename_i a hm _; exact absurd hm (hne _)
  ·rfl
  ·rfl
  ·rename_i h1 h2 h3
   exfalso
   cases e:mutA ms vs with
   | none=>exact h3 e rfl
   | some ma=>
    obtain ⟨m,a⟩:=ma
    cases m with
    | rd=>
     have:∀ {ms:List Md} {av:List A1},mutA ms av≠some (.rd,a):=by
      intro ms
      induction ms with
      | nil=>intro av h; simp [mutA] at h
      | cons m ms ih=>
       intro av h
       cases av with
       | nil=>cases m <;> simp [mutA] at h
       | cons y av=>
        cases m with
        | rd=>exact ih h
        | mu=>simp [mutA] at h
        | mv=>simp [mutA] at h
     exact this e
    | mu=>exact hne _ e
    | mv=>exact h2 _ e rfl
theorem res1_ok {S S0:Sk} {μ0:Mu} {o:List (Nat×OB)} (hrow:∀ k τ (l:List τ.D),lkp o k=some (.row τ l)→S k=some (.row τ l.length)∧RO S μ w k (.row τ l)) {t:RT} {x x':A1} {y:Value} (h:R1 S μ w x y) (hc:res1 o t x=some x')
  (hS:∀ b,b < w.heap.size→(¬ Own S μ b∨∃ k∈keys1 x,∃ p,S k≠none∧μ k=some p∧p.1=b)→¬ Own S0 μ0 b):R1 S0 μ0 w x' y:=by
 unfold res1 at hc
 split at hc
 ·split at hc
  ·rename_i c' hc'
   injection hc with hc; subst hc
   exact argC_ok hrow h hc' hS
  ·cases hc
 ·split at hc
  ·rename_i l' hc'
   injection hc with hc; subst hc
   obtain ⟨vs,rfl,hh⟩:=h
   exact ⟨vs,rfl,argCs_ok hrow hh hc' hS⟩
  ·cases hc
 ·cases hc
theorem res1s_ok {S S0:Sk} {μ0:Mu} {o:List (Nat×OB)} (hrow:∀ k τ (l:List τ.D),lkp o k=some (.row τ l)→S k=some (.row τ l.length)∧RO S μ w k (.row τ l)):∀ {ts:List RT} {l l':List A1} {ys:List Value},R1s S μ w l ys→res1s o ts l=some l'→
  (∀ b,b < w.heap.size→(¬ Own S μ b∨∃ k∈keys1s l,∃ p,S k≠none∧μ k=some p∧p.1=b)→¬ Own S0 μ0 b)→R1s S0 μ0 w l' ys
 | [],[],l',[],_,hc,_=>by injection hc with hc; subst hc; trivial
 | t :: ts,c :: cs,cs',y :: ys,h,hc,hS=>by
  unfold res1s at hc
  split at hc
  ·rename_i c1 l1 h1 h2
   injection hc with hc; subst hc
   exact ⟨res1_ok hrow h.1 h1 fun b hb hh=>hS b hb (hh.imp id fun ⟨k,hk,r⟩=>⟨k,by simp [keys1s,hk],r⟩),res1s_ok hrow h.2 h2 fun b hb hh=>hS b hb (hh.imp id fun ⟨k,hk,r⟩=>⟨k,by simp [keys1s,hk],r⟩)⟩
  ·cases hc
 | [],_ :: _,_,_,_,hc,_=>by cases hc
 | _ :: _,[],_,_,_,hc,_=>by cases hc
 | [],[],_,_ :: _,h,_,_=>h.elim
 | _ :: _,_ :: _,_,[],h,_,_=>h.elim
theorem pack_RA {S:Sk}:∀ {l:List A1} {ys:List Value},R1s S μ w l ys→RA S μ w (pack l) (packV ys)
 | [],[],_=>⟨#[],rfl,trivial⟩
 | [_],[_],h=>h.1
 | _ :: _ :: _,_ :: _ :: _,h=>⟨_,rfl,h⟩
 | [],_ :: _,h=>h.elim
 | _ :: _,[],h=>h.elim
 | [_],_ :: _ :: _,h=>h.2.elim
 | _ :: _ :: _,[_],h=>h.2.elim
theorem instA_pack (k:Nat):∀ l:List A1,(instA k (pack l)).1=pack (inst1s k l).1∧(instA k (pack l)).2=(inst1s k l).2.1
 | []=>⟨rfl,rfl⟩
 | [x]=>⟨rfl,by simp [pack,instA,inst1s]⟩
 | x :: y :: r=>⟨rfl,rfl⟩
theorem belowN_iff {mv:List Nat}:∀ {l:List Nat},belowN mv l=true→∀ k∈l,k < 100000∨k∈mv
 | [],_,k,h=>by cases h
 | j :: l,h,k,hk=>by
  unfold belowN at h
  split at h
  ·rename_i hj
   rcases List.mem_cons.1 hk with rfl | hk
   ·exact .inl (by simpa using hj)
   ·exact belowN_iff h k hk
  ·split at h
   ·rename_i hj
    rcases List.mem_cons.1 hk with rfl | hk
    ·exact .inr ((memN_iff _ _).1 hj)
    ·exact belowN_iff h k hk
   ·cases h
theorem fin_ok (hT:TabOK P T) {C:Con} {vs:List A1} {vals:List Value} (hpre:Pre C vs vals w0 μ M) {μ1:Mu} (hR:RepM N w0 M (W0 C vs w0 μ M) [] μ1 st a w) {fn:Func} {rt:List RT} {kk:AV→List A1→Prop} {kd:Nat} (hkd:kd+16≤100000) {e:Ex}
  (h:fin T C fn.results.toList rt vs kk e st):∃ v,(results fn a.tmps).run P w=.ok v w∧Post C vs w0 μ M kd kk (.returned v) w:=by
 have hpick:∃ l ys,(R1s (skel st.o) μ1 w l ys∧(fn.results.toList.mapM (resM a.tmps)).run P w=.ok ys w)∧finL C rt vs kk st l:=by
  have h':match resVars T st fn.results.toList with
   | none=>match resVarsQ T st fn.results.toList with
    | some (c,l)=>c∧finL C rt vs kk st l
    | none=>False
   | some l=>finL C rt vs kk st l:=by
   cases e with
   | normal=>exact h
   | ret=>exact h
   | exit id=>exact h.elim
  split at h'
  ·split at h'
   ·rename_i c l hq
    obtain ⟨ys,g1,g2⟩:=resVarsQ_ok hT hR hq h'.1
    exact ⟨l,ys,⟨g1,g2⟩,h'.2⟩
   ·exact h'.elim
  ·rename_i l hl
   obtain ⟨ys,g1,g2⟩:=resVars_ok hT hR hl
   exact ⟨l,ys,⟨g1,g2⟩,h'⟩
 obtain ⟨l,ys,⟨hys,hrun⟩,h'⟩:=hpick
 clear h
 unfold finL at h'
 split at h'
 rotate_left
 ·exact h'.elim
 rename_i l' os hl' hos
 obtain ⟨no,n1,n2,n3⟩:=outs_ok hpre.cf hos
 have hrow:=rows_of hR
 have hh1:∀ k,100000≤k→μ1 k=μ k:=hR.hh.1
 have hh2:μ1.fo=μ.fo:=hR.hh.2.1
 have hh3:∀ k,100000≤k→skel st.o k≠none→skel st.o k=skel (entO C.mu vs) k:=hR.hh.2.2
 have hnlive:∀ k,lkp no k≠none→100000≤k∧skel st.o k≠none:=fun k hk=>by
  cases e1:lkp no k with
  | none=>exact absurd e1 hk
  | some ob=>obtain ⟨a1,a2,_⟩:=n2 k ob e1; exact ⟨a1,skel_ne a2⟩
 have hnsk:∀ k ob',lkp no k=some ob'→∃ ob,lkp (entO C.mu vs) k=some ob∧ob'.sk=ob.sk:=fun k ob' hk=>by
  obtain ⟨a1,a2,a3,_⟩:=n2 k ob' hk
  have:=hh3 k a1 (skel_ne a2)
  rw [skel_of a2] at this
  cases e1:lkp (entO C.mu vs) k with
  | none=>exact absurd e1 a3
  | some ob=>rw [skel_of e1] at this; injection this with this; exact ⟨ob,rfl,this⟩
 refine ⟨packV ys,results_run hrun,?_⟩
 split at h'
 ·-- an answer that is read only
  rename_i hfresh
  split at h'
  rotate_left
  ·exact h'.elim
  rename_i hbel
  have hbel:=belowN_iff hbel
  have hS:∀ b,b < w.heap.size→(¬ Own (skel st.o) μ1 b∨∃ k∈keys1s l,∃ p,skel st.o k≠none∧μ1 k=some p∧p.1=b)→¬ Own (skel no) μ1 b:=by
   rintro b hb hh (⟨e,p,hs,hp,rfl⟩ | hfo)
   ·have hs':lkp no e≠none:=fun e1=>hs (by simp [skel,e1])
    obtain ⟨b1,b2⟩:=hnlive e hs'
    rcases hh with hno | ⟨k,hk,p',hl1,hp',he⟩
    ·exact hno (.inl ⟨e,p,b2,hp,rfl⟩)
    ·have:=hR.inj k e p' p hl1 b2 hp' hp he
     have:=(hbel k hk).resolve_right (fun h=>by cases h)
     omega
   ·rcases hh with hno | ⟨k,hk,p',hl1,hp',he⟩
    ·exact hno (.inr hfo)
    ·have hk':=(hbel k hk).resolve_right (fun h=>by cases h)
     exact hfo (hR.fo k b hk' (he ▸ hR.ok k p' hl1 hp'))
  refine ⟨pack l',os,packV ys,μ1,no,h',rfl,hR.fr,n1,hh2,hh1,hnsk,?_⟩
  rw [hfresh]
  simp only [instR]
  refine ⟨fun k ob h=>(by cases h),pack_RA (res1s_ok hrow hys hl' hS),fun k ob hk=>?_,fun k k' p p' h1 h2 hp hp' he=>?_,fun k p h=>absurd rfl h⟩
  ·have hk:lkp no k=some ob:=hk
   obtain ⟨a1,a2,a3,a4⟩:=n2 k ob hk
   have hro:=hR.ob k ob a2
   rcases a4 with ⟨τ,l0,rfl⟩ | ⟨l0,rfl,hpl⟩
   ·exact hro
   ·obtain ⟨g,o,s,cur,ty,b1,b2,b3,b4,b5⟩:=hro
    refine ⟨g,o,s,cur,ty,b1,b2,b3,b4,RCs.seen (fun c hc y hy=>?_) b5⟩
    have hpc:=plainCs_iff.1 hpl c hc
    cases c with
    | v x=>exact hy
    | nil=>exact hy
    | arr l=>exact hy
    | ro τ l0=>
     obtain ⟨A,n,c,rfl,hr,ho⟩:=hy
     exact ⟨A,n,c,rfl,hr,fun hn ad hA=>by
      obtain ⟨a',e1,hlt⟩:=hr.blk hn
      obtain rfl:a'=ad:=by rw [e1] at hA; injection hA
      exact hS _ hlt (.inl (ho hn _ e1))⟩
    | rol τ ls=>
     obtain ⟨A,n,c,rfl,hr⟩:=hy
     exact ⟨A,n,c,rfl,hr.mono (fun b hb h=>⟨rfl,hS b hb (.inl h)⟩) (Nat.le_refl _)⟩
    | _=>cases hpc
  ·have g1:lkp no k≠none:=fun e1=>h1 (by show skel no k=none; simp [skel,e1])
   have g2:lkp no k'≠none:=fun e1=>h2 (by show skel no k'=none; simp [skel,e1])
   exact hR.inj k k' p p' (hnlive k g1).2 (hnlive k' g2).2 hp hp' he
 ·-- a fresh answer
  rename_i hfresh
  split at h'
  rotate_left
  ·exact h'.elim
  rename_i hfr hn16
  have hn16:nro1s l'≤16:=by simpa using hn16
  unfold freshOK at hfr
  split at hfr
  rotate_left
  ·cases hfr
  rename_i hf1 hf2 hf3
  have hf2:=(distinctN_iff _).1 hf2
  have hf3:=belowN_iff hf3
  obtain ⟨hI,hV⟩:=inst1s_fresh hR (k:=kd) hys hl' hf1 hf2
  rw [inst1s_nro] at hI
  generalize hpl:pl1s μ1 kd l l'=pl at *
  obtain ⟨ea,eb⟩:=instA_pack kd l'
  generalize hobs:(inst1s kd l').2.1=obs at *
  let μ2:Mu:=⟨fun i=>match lkp pl i with
   | some p=>p
   | none=>μ1 i,μ1.fo⟩
  have hμp:∀ i p,lkp pl i=some p→μ2 i=p:=fun i p h=>by simp [μ2,h]
  have hμn:∀ i,lkp pl i=none→μ2 i=μ1 i:=fun i h=>by simp [μ2,h]
  have hplhi:∀ i,100000≤i→lkp pl i=none:=fun i hi=>by
   cases e1:lkp pl i with
   | none=>rfl
   | some p=>have:=(hI.rng i p e1).2; omega
  have hobhi:∀ i,100000≤i→lkp obs i=none:=fun i hi=>by
   cases e1:lkp obs i with
   | none=>rfl
   | some p=>have:=(hI.dom i p e1).2.1; omega
  have hno:∀ i,lkp no i≠none→lkp (obs++no) i=lkp no i:=fun i hi=>by
   rw [lkp_append,hobhi i (hnlive i hi).1]
  have hfit:Fits (skel (obs++no)) μ2 obs pl:=fun i ob p h1 h2=>⟨by simp [skel,lkp_append,h1],hμp i p h2⟩
  -- a live key of the answer's rows,or of what may be changed
  have hlive:∀ i p,skel (obs++no) i≠none→μ2 i=some p→(lkp obs i≠none∧lkp pl i=some (some p)∧∃ k'∈keys1s l,skel st.o k'≠none∧∃ q',μ1 k'=some q'∧q'.1=p.1)∨(lkp obs i=none∧lkp no i≠none∧μ1 i=some p):=by
   intro i p hs hp
   cases e1:lkp obs i with
   | some ob=>
    obtain ⟨a1,a2,τ,l0,rfl,q,a3,a4⟩:=hI.dom i ob e1
    have:q=some p:=(hμp i q a3).symm.trans hp
    subst this
    exact .inl ⟨by simp,a3,hI.src i p a3⟩
   | none=>
    have hn:lkp no i≠none:=fun e2=>hs (by simp [skel,lkp_append,e1,e2])
    rw [hμn i (hplhi i (hnlive i hn).1)] at hp
    exact .inr ⟨rfl,hn,hp⟩
  have hown:∀ b,¬ Own (skel st.o) μ1 b→¬ Own (skel (obs++no)) μ2 b:=by
   rintro b hb (⟨i,p,hs,hp,rfl⟩ | hfo)
   ·rcases hlive i p hs hp with ⟨_,_,k',_,hl1,q',hq',e1⟩ | ⟨_,hn,hp'⟩
    ·exact hb (.inl ⟨k',q',hl1,hq',e1⟩)
    ·exact hb (.inl ⟨i,p,(hnlive i hn).2,hp',rfl⟩)
   ·exact hb (.inr hfo)
  -- a key of the answer and one of what may be changed are not the same
  have hapart:∀ k'∈keys1s l,∀ i,lkp no i≠none→k'≠i:=by
   intro k' hk' i hn e
   subst e
   have hge:=(hnlive k' hn).1
   rcases hf3 k' hk' with hlt | hmv
   ·omega
   ·rw [n3 ⟨k',hn⟩] at hmv; cases hmv
  refine ⟨pack l',os,packV ys,μ2,no,h',rfl,hR.fr,n1,hh2,fun k hk=>(hμn k (hplhi k hk)).trans (hh1 k hk),hnsk,?_⟩
  rw [hfresh]
  simp only [instR]
  rw [ea,eb]
  refine ⟨fun k ob hk=>?_,pack_RA (hV _ _ hfit),fun k ob hk=>?_,fun k k' p p' h1 h2 hp hp' he=>?_,fun k p hk hp=>?_⟩
  ·obtain ⟨a1,a2,τ,l0,rfl,_⟩:=hI.dom k ob hk
   exact ⟨a1,by omega,τ,l0,rfl⟩
  ·rw [lkp_append] at hk
   cases e1:lkp obs k with
   | some ob1=>
    rw [e1] at hk; injection hk with hk; subst hk
    obtain ⟨a1,a2,τ,l0,rfl,q,a3,a4⟩:=hI.dom k ob1 e1
    have e2:=hμp k q a3
    rcases a4 with ⟨rfl,rfl⟩ | ⟨g,o,s,cur,ty,rfl,b⟩
    ·exact .inl ⟨e2,rfl⟩
    ·exact .inr ⟨g,o,s,cur,ty,e2,b⟩
   | none=>
    rw [e1] at hk
    have hk:lkp no k=some ob:=hk
    obtain ⟨a1,a2,a3,a4⟩:=n2 k ob hk
    have hro:=hR.ob k ob a2
    have e2:=hμn k (hplhi k a1)
    rcases a4 with ⟨τ,l0,rfl⟩ | ⟨l0,rfl,hpl0⟩
    ·rcases hro with ⟨b1,b2⟩ | ⟨g,o,s,cur,ty,b1,b⟩
     ·exact .inl ⟨e2.trans b1,b2⟩
     ·exact .inr ⟨g,o,s,cur,ty,e2.trans b1,b⟩
    ·obtain ⟨g,o,s,cur,ty,b1,b2,b3,b4,b5⟩:=hro
     refine ⟨g,o,s,cur,ty,e2.trans b1,b2,b3,b4,RCs.seen (fun c hc y hy=>?_) b5⟩
     have hpc:=plainCs_iff.1 hpl0 c hc
     cases c with
     | v x=>exact hy
     | nil=>exact hy
     | arr l=>exact hy
     | ro τ l0=>
      obtain ⟨A,n,c,rfl,hr,ho⟩:=hy
      exact ⟨A,n,c,rfl,hr,fun hn ad hA=>hown _ (ho hn ad hA)⟩
     | rol τ ls=>
      obtain ⟨A,n,c,rfl,hr⟩:=hy
      exact ⟨A,n,c,rfl,hr.mono (fun b hb h=>⟨rfl,hown b h⟩) (Nat.le_refl _)⟩
     | _=>cases hpc
  ·rcases hlive k p h1 hp with ⟨_,c2,k1,d1,d2,q1,d3,d4⟩ | ⟨c1,c2,c3⟩ <;> rcases hlive k' p' h2 hp' with ⟨_,c2',k1',d1',d2',q1',d3',d4'⟩ | ⟨c1',c2',c3'⟩
   ·exact hI.inj k k' p p' c2 c2' he
   ·exact absurd (hR.inj k1 k' q1 p' d2 (hnlive k' c2').2 d3 c3' (by omega)) (hapart k1 d1 k' c2')
   ·exact absurd (hR.inj k1' k q1' p d2' (hnlive k c2).2 d3' c3 (by omega)) (hapart k1' d1' k c2)
   ·exact hR.inj k k' p p' (hnlive k c2).2 (hnlive k' c2').2 c3 c3' he
  ·have hs:skel (obs++no) k≠none:=by
    cases e1:lkp obs k with
    | none=>exact absurd e1 hk
    | some ob=>simp [skel,lkp_append,e1]
   rcases hlive k p hs hp with ⟨_,_,k',d1,d2,q',d3,d4⟩ | ⟨c1,_,_⟩
   ·rcases hf3 k' d1 with hlt | hmv
    ·rcases (hR.ok k' q' d2 d3).1 hlt with h | ⟨j,hj,q,hq,e⟩
     ·exact .inl (by omega)
     ·exact .inr ⟨j,hj,q,hq,e.trans d4⟩
    ·refine .inr ⟨k',hmv,q',?_,d4⟩
     rw [← d3]
     have hge:100000≤k':=by
      have hmv':=hmv
      unfold mvEnt at hmv'
      split at hmv'
      ·rename_i x hx
       -- an entered key
       have hcf:=hpre.cf _ _ hx
       cases x with
       | ptr l0=>simp [entK,keys1,keyC] at hmv'; omega
       | c x=>
        cases x with
        | v z=>simp [entK,entC,keys1,keyC] at hmv'
        | ro τ l0=>simp [entK,entC,keys1,keyC] at hmv'; omega
        | pe l j=>simp [entK,entC,keys1,keyC] at hmv'
        | cl f cs=>
         have hq:=hcf (.cl f cs) (by simp [cells1])
         simp only [confd] at hq
         split at hq
         ·rename_i hck; simp [entK,entC,keys1,keyC,hck] at hmv'
         ·cases hq
        | rol τ ls=>simp [entK,entC,keys1,keyC] at hmv'
        | arr l=>simp [entK,entC,keys1,keyC] at hmv'
        | _=>have:=hcf _ (by simp [cells1]; rfl); cases this
       | agg l0=>
        simp only [entK,keys1] at hmv'
        obtain ⟨j,c,hc,hkc⟩:=keysCs_inv hmv'
        rw [entCs_get] at hc
        cases e1:l0[j]? with
        | none=>rw [e1] at hc; cases hc
        | some c0=>
         rw [e1] at hc
         injection hc with hc; subst hc
         have:=hcf c0 (List.mem_of_getElem? e1)
         cases c0 with
         | v z=>simp [entC,keyC] at hkc
         | ro τ l1=>simp [entC,keyC] at hkc; omega
         | pe l j=>simp [entC,keyC] at hkc
         | cl f cs=>
          simp only [confd] at this
          split at this
          ·rename_i hck; simp [entC,keyC,hck] at hkc
          ·cases this
         | rol τ ls=>simp [entC,keyC] at hkc
         | arr l=>simp [entC,keyC] at hkc
         | _=>cases this
      ·cases hmv'
     exact (hh1 k' hge).symm
   ·exact absurd c1 hk
structure Goes (p:Prop):Prop where
 out:p
theorem goes_of {a b:Prop} (h:a=b) (hb:b):Goes a:=⟨Eq.mpr h hb⟩
theorem holds_of_ev {Γ:Cons} {an:Ann} {f:FuncId} {fn:Func} {c:Code} {C:Con} {rt:List RT} (hf:P.funcs[f]?=some fn) (hb:fn.body=some c) (hn:fn.ntmps=N) (hN:Γ.B+16*N+16≤100000) (hmu:C.mu.length≤N) (hP:P.follows .mixedOrders=true)
  (hT:TabOK P T) (hΓ:ConsOK P N Γ) (hpl:plansOK an c=true) (h:∀ vs kk,vs.length=C.mu.length→C.F vs kk→Goes (ev T Γ N an c (st0 C vs) (fin T C fn.results.toList rt vs kk))):Holds P f C:=by
 intro vs kk hF kd w vals μ M hkd hpre
 refine calls_of_wp hf hb ?_
 rw [hn]
 obtain ⟨μb,hbeg⟩:=begin_ok (N:=N) hpre (by rw [← hpre.nm]; exact hmu) (by omega)
 refine wp_mono (ev_ok (W:=W0 C vs w μ M) hN hP hT hΓ (fun k b hb=>hb.2) c hpl hbeg (h vs kk hpre.nm.symm hF).out) fun e a' w' hq=>?_
 cases e with
 | normal=>
  obtain ⟨st',⟨μ',hR'⟩,hk⟩:=hq
  obtain ⟨v,h1,h2⟩:=fin_ok hT hpre hR' hkd hk
  exact ⟨hR'.df,v,h1,h2⟩
 | ret=>
  obtain ⟨st',⟨μ',hR'⟩,hk⟩:=hq
  obtain ⟨v,h1,h2⟩:=fin_ok hT hpre hR' hkd hk
  exact ⟨hR'.df,v,h1,h2⟩
 | exit id=>obtain ⟨st',_,hk⟩:=hq; exact hk.elim
 | goto l=>exact hq.elim
 | panic c=>exact hq.elim
 | outgrown=>exact hq.elim
end
end Go.Ev
