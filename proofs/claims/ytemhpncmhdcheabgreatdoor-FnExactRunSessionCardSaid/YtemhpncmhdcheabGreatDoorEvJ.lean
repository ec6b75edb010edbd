/- What a contract says in the machine; what is so at a call. No statement is proved here. -/
import Derived.Test.YtemhpncmhdcheabGreatDoorEvI
namespace Go.Ev
set_option linter.unusedVariables false
set_option linter.unusedSimpArgs false
open Go
def entA:List Md→List A1→List A1
 | .rd :: ms,a :: av=>a :: entA ms av
 | _ :: ms,a :: av=>(entK a).1 :: entA ms av
 | _,_=>[]
def outObs:Nat→List C→List C→Option (List (Nat×OB))
 | _,[],[]=>some []
 | k,.ro _ _ :: xs,.ro τ l :: ys=>match outObs (k+1) xs ys with
  | some r=>some ((k,.row τ l) :: r)
  | none=>none
 | k,.v _ :: xs,.v _ :: ys=>outObs (k+1) xs ys
 | _,_,_=>none
def outOb:A1→A1→Option (List (Nat×OB))
 | .ptr _,.ptr l=>some [(100000,.box l)]
 | .c x,.c y=>outObs 100000 [x] [y]
 | .agg l,.agg l'=>outObs 100000 l l'
 | _,_=>none
def noOf (ms:List Md) (vs bs:List A1):Option (List (Nat×OB)):=match mutA ms vs,bs with
 | some (.mu,a),[b]=>outOb a b
 | some (.mv,_),[]=>some []
 | none,[]=>some []
 | _,_=>none
def confd:C→Bool
 | .v _=>true
 | .ro _ _=>true
 | .cl _ cs=>match capKeys cs with
  | []=>true
  | _ :: _=>false
 | .pe _ _=>true
 | .rol _ _=>true
 | .arr _=>true
 | _=>false
def cells1:A1→List C
 | .c x=>[x]
 | .agg l=>l
 | .ptr l=>l
structure Pre (C:Con) (vs:List A1) (vals:List Value) (w:World) (μ:Mu) (M:Nat→Prop):Prop where
 nm:C.mu.length=vs.length
 one:oneMut C.mu=true
 vl:R1s (skel (entO C.mu vs)) μ w (entA C.mu vs) vals
 ob:∀ k ob,lkp (entO C.mu vs) k=some ob→RO (skel (entO C.mu vs)) μ w k ob
 inj:∀ k k' p p',skel (entO C.mu vs) k≠none→skel (entO C.mu vs) k'≠none→μ k=some p→μ k'=some p'→p.1=p'.1→k=k'
 inM:∀ k p,skel (entO C.mu vs) k≠none→μ k=some p→M p.1
 up:(∀ b,w.heap.size≤b→μ.fo b)∧GLm M w
 cf:∀ m a,mutA C.mu vs=some (m,a)→∀ c∈cells1 a,confd c=true
 fom:∀ k∈mvEnt C.mu vs,∀ p,μ k=some p→μ.fo p.1
def Post (C:Con) (vs:List A1) (w:World) (μ:Mu) (M:Nat→Prop) (kd:Nat) (kk:AV→List A1→Prop) (e:Ending) (w':World):Prop:=
 ∃ (r:AV) (bs:List A1) (v:Value) (μ1:Mu) (no:List (Nat×OB)),kk r bs∧e=.returned v∧Fr M w w'∧noOf C.mu vs bs=some no∧μ1.fo=μ.fo∧(∀ k,100000≤k→μ1 k=μ k)∧
  (∀ k ob',lkp no k=some ob'→∃ ob,lkp (entO C.mu vs) k=some ob∧ob'.sk=ob.sk)∧
  (∀ k ob,lkp (instR C.fresh kd r).2 k=some ob→kd≤k∧k < kd+16∧∃ τ l,ob=.row τ l)∧
  RA (skel ((instR C.fresh kd r).2++no)) μ1 w' (instR C.fresh kd r).1 v∧
  (∀ k ob,lkp ((instR C.fresh kd r).2++no) k=some ob→RO (skel ((instR C.fresh kd r).2++no)) μ1 w' k ob)∧
  (∀ k k' p p',skel ((instR C.fresh kd r).2++no) k≠none→skel ((instR C.fresh kd r).2++no) k'≠none→μ1 k=some p→μ1 k'=some p'→p.1=p'.1→k=k')∧
  (∀ k p,lkp (instR C.fresh kd r).2 k≠none→μ1 k=some p→w.heap.size≤p.1∨∃ j∈mvEnt C.mu vs,∃ q,μ j=some q∧q.1=p.1)
def Holds (P:Program) (f:FuncId) (C:Con):Prop:=
 ∀ vs kk,C.F vs kk→∀ kd w vals μ M,kd+16≤100000→Pre C vs vals w μ M→Calls P f vals.toArray w (Post C vs w μ M kd kk)
def HoldsB (P:Program) (f:FuncId) (C:Con):Prop:=
 ∀ vs kk,C.F vs kk→∀ w vals S μ,GLm (fun _=>False) w→(∀ b,w.heap.size≤b→¬ Own S μ b)→C.mu.length=vs.length→allRd C.mu=true→(∀ a∈vs,∀ c∈cells1 a,confd c=true)→R1s S μ w vs vals→
  Calls P f vals.toArray w fun e w'=>∃ l bs g o cur ty,kk (.one (.agg l)) bs∧e=.returned (.pointer (some ⟨g,o,none⟩))∧Fr (fun _=>False) w w'∧w.heap.size≤g∧w'.heap[g]?=some (.cells cur ty (0,0))∧o+l.length≤cur.size∧
   ∀ S' μ',(∀ b,¬ Own S μ b→b≠g→¬ Own S' μ' b)→RCs S' μ' w' l ((cur.toList.drop o).take l.length)
def ConOK (P:Program) (Γ:List (FuncId×Con)):Prop:=∀ f C,lkp Γ f=some C→(match C.box with
 | true=>HoldsB P f C
 | false=>Holds P f C)∧∃ fn,P.funcs[f]?=some fn∧fn.body.isSome=true∧fn.name ≠ "runtime.NumGoroutine"
def InlOK (P:Program) (N:Nat) (i:Inl):Prop:=
 (∃ fn,P.funcs[i.f]?=some fn∧fn.body.isSome=true∧fn.name ≠ "runtime.NumGoroutine")∧
 ∀ (w0:World) (M:Nat→Prop) (W:Wd) (μ:Mu) (st:St) (a:Act) (w:World) (av:List AV) (vals:List Value) (K:AV→St→Prop),RepM N w0 M W [] μ st a w→RAs (skel st.o) μ w av vals→i.G av st K→
  Calls P i.f vals.toArray w fun e w'=>∃ v,e=.returned v∧∃ μ' st' r,RepM N w0 M W [] μ' st' a w'∧RA (skel st'.o) μ' w' r v∧K r st'
def OvOK (P:Program) (f:FuncId):Prop:=∀ (w:World) (A B:Option Addr) (la ca lb cb:Nat),
 (la≠0→lb≠0→∃ b o b' o' x cur ty',A=some ⟨b,o,none⟩∧B=some ⟨b',o',none⟩∧b≠b'∧w.cell? ⟨b,o,none⟩=some x∧w.heap[b']?=some (.cells cur ty' (0,0))∧cur.size≠0)→
 (callFunc f #[.slice A la ca,.slice B lb cb]).run P w=.ok (.value (.bool false)) w
def ConsOK (P:Program) (N:Nat) (Γ:Cons):Prop:=ConOK P Γ.con∧(∀ p∈Γ.inl,InlOK P N p.2)∧∀ f,memN Γ.ov f=true→OvOK P f
theorem lkp_append {α:Type}:∀ (l r:List (Nat×α)) (k:Nat),lkp (l++r) k=match lkp l k with
  | some x=>some x
  | none=>lkp r k
 | [],r,k=>rfl
 | (j,x) :: l,r,k=>by
  rcases beq_cases j k with ⟨rfl,_⟩ | ⟨hne,_⟩
  ·rw [List.cons_append,lkp_cons_same,lkp_cons_same]
  ·rw [List.cons_append,lkp_cons_ne _ _ hne,lkp_cons_ne _ _ hne]; exact lkp_append l r k
section
variable {P:Program} {T:Tab} {N:Nat} {w0:World} {M:Nat→Prop} {W:Wd} {lk:List Nat} {μ:Mu} {st:St} {a:Act} {w:World}
theorem ro_of_row {w:World} {μ:Mu} {k:Nat} {τ:Ty} {A:Option Addr} {off n c:Nat} {l:List τ.D} (h:Hd μ k τ A off n c) (hn:off+n≤l.length)
  (hr:(μ k=none∧l=[])∨∃ g o s cur T,μ k=some (g,o,s)∧w.heap[g]?=some (.cells cur T (0,0))∧cur.size=s∧o+l.length*τ.sz≤s∧RowIs cur o τ l) :
  Ro w A n c τ ((l.drop off).take n):=by
 obtain ⟨h1,h2,h3⟩:=h
 refine ⟨by simp; omega,h1,h2,?_⟩
 rcases h3 with h3 | ⟨g,o,s,o',hm,rfl,h4,h5⟩
 ·exact .inl h3
 ·refine .inr ⟨_,rfl,fun hpos=>?_⟩
  rcases hr with ⟨e,_⟩ | ⟨g',o2,s',cur,ty,hm',hh,hsz,hle,hrow⟩
  ·rw [hm] at e; cases e
  ·rw [hm] at hm'
   injection hm' with hm'; injection hm' with e1 e2; injection e2 with e2 e3; subst e1; subst e2; subst e3
   refine ⟨g,o',rfl,fun i x hx j y hy=>?_⟩
   rw [cell_of_heap hh,h5 (by omega)]
   exact rowIs_cut hrow off n i x hx j y hy
theorem castLL_ok2 {τ σ:Ty} {l:List (List σ.D)} {r:List (List τ.D)} (h:castLL τ σ l=some r) (hq:τ.eqb σ=true):∃ e:σ=τ,l=e.symm ▸ r:=by
 cases τ <;> cases σ <;> first | (cases h; done) | exact ⟨rfl,Option.some.inj h⟩
theorem confC_ok {S:Sk} {t:CT} {c c':C} {y:Value} (h:RC S μ w c y) (hc:confC t c=some c'):RC S μ w c' y:=by
 unfold confC at hc
 split at hc
 ·injection hc with hc; subst hc; exact h
 ·injection hc with hc; subst hc; exact h
 ·injection hc with hc; subst hc; exact h
 ·injection hc with hc; subst hc; exact h
 ·injection hc with hc; subst hc; exact h
 ·injection hc with hc; subst hc
  exact ⟨none,0,0,h,⟨rfl,Nat.le_refl _,Nat.zero_le _,.inl ⟨rfl,rfl⟩⟩,fun h=>by omega⟩
 ·split at hc
  ·rename_i l' hl
   injection hc with hc; subst hc
   obtain ⟨rfl,rfl⟩:=castL_ok2 hl
   exact h
  ·cases hc
 ·injection hc with hc; subst hc
  exact ⟨none,0,0,h,rfl,Nat.le_refl _,Nat.zero_le _,fun h=>absurd h (by simp)⟩
 ·split at hc
  ·rename_i l' hq hl
   injection hc with hc; subst hc
   obtain ⟨rfl,rfl⟩:=castLL_ok2 hl hq
   exact h
  ·cases hc
 ·cases hc
theorem argC_ok {o:List (Nat×OB)} {S S0:Sk} {μ0:Mu} (hrow:∀ k τ (l:List τ.D),lkp o k=some (.row τ l)→S k=some (.row τ l.length)∧RO S μ w k (.row τ l)) {t:CT} {c c':C} {y:Value} (h:RC S μ w c y) (hc:argC o t c=some c')
  (hS:∀ b,b < w.heap.size→(¬ Own S μ b∨∃ k∈keyC c,∃ p,S k≠none∧μ k=some p∧p.1=b)→¬ Own S0 μ0 b):RC S0 μ0 w c' y:=by
 unfold argC at hc
 split at hc
 ·rename_i c1 hd
  refine confC_ok ?_ hc
  unfold deepC at hd
  split at hd
  ·injection hd with hd; subst hd; exact h
  ·split at hd
   ·rename_i hck
    injection hd with hd; subst hd
    obtain ⟨ps,hcl,hl,hp⟩:=h
    refine ⟨ps,hcl.mono (fun b hb hno=>⟨rfl,hS b hb (.inl hno)⟩),hl,fun i x p hx hp'=>?_⟩
    have hx':=hp i x p hx hp'
    cases x with
    | k x=>exact PeAt.mono hx' (fun b hb hno=>⟨rfl,hS b hb (.inl hno)⟩) (Nat.le_refl _)
    | b k=>have:=capKeys_mem hx; rw [hck] at this; cases this
    | v x=>exact hx'
   ·cases hd
  ·injection hd with hd; subst hd
   obtain ⟨b,o,rfl,hc,hlt,hno,hok⟩:=h
   exact ⟨b,o,rfl,hc,hlt,hS b hlt (.inl hno),hok⟩
  ·injection hd with hd; subst hd
   exact rol_mono h (fun b hb hno=>⟨rfl,hS b hb (.inl hno)⟩) (Nat.le_refl _)
  ·injection hd with hd; subst hd; exact h
  ·injection hd with hd; subst hd; exact h
  ·injection hd with hd; subst hd
   obtain ⟨A,n,c,rfl,hr,ho⟩:=h
   refine ⟨A,n,c,rfl,hr,fun hn a ha=>?_⟩
   obtain ⟨a',e,hlt⟩:=hr.blk hn
   obtain rfl:a'=a:=by rw [e] at ha; injection ha
   exact hS _ hlt (.inl (ho hn _ e))
  ·rename_i k
   split at hd
   ·rename_i τ l hl
    injection hd with hd; subst hd
    obtain ⟨hs',hro⟩:=hrow k τ l hl
    obtain ⟨A,n,c,σ,rfl,hs,hh⟩:=h
    rw [hs'] at hs
    injection hs with hs; injection hs with e1 e2; subst e1; subst e2
    have hr:=ro_of_row hh (l:=l) (by omega) hro
    rw [List.drop_zero,List.take_length] at hr
    refine ⟨A,_,c,rfl,hr,fun hn a ha=>?_⟩
    obtain ⟨a',e,hlt⟩:=hr.blk hn
    obtain rfl:a'=a:=by rw [e] at ha; injection ha
    refine hS _ hlt (.inr ⟨k,by simp [keyC],?_⟩)
    obtain ⟨h1,h2,h3⟩:=hh
    rcases h3 with ⟨rfl,_⟩ | ⟨g,o2,s,o',hm,rfl,_,_⟩
    ·cases e
    ·injection e with e; subst e
     exact ⟨_,by rw [hs']; simp,hm,rfl⟩
   ·cases hd
  ·rename_i k off n
   split at hd
   ·rename_i τ l hl
    injection hd with hd; subst hd
    obtain ⟨hs',hro⟩:=hrow k τ l hl
    obtain ⟨A,c,σ,m,rfl,hs,hm',_,hh⟩:=h
    rw [hs'] at hs
    injection hs with hs; injection hs with e1 e2; subst e1; subst e2
    have hr:=ro_of_row hh (l:=l) hm' hro
    refine ⟨A,_,c,rfl,hr,fun hn a ha=>?_⟩
    obtain ⟨a',e,hlt⟩:=hr.blk hn
    obtain rfl:a'=a:=by rw [e] at ha; injection ha
    refine hS _ hlt (.inr ⟨k,by simp [keyC],?_⟩)
    obtain ⟨h1,h2,h3⟩:=hh
    rcases h3 with ⟨rfl,_⟩ | ⟨g,o2,s,o',hm,rfl,_,_⟩
    ·cases e
    ·injection e with e; subst e
     exact ⟨_,by rw [hs']; simp,hm,rfl⟩
   ·cases hd
  ·cases hd
 ·cases hc
theorem argCs_ok {o:List (Nat×OB)} {S S0:Sk} {μ0:Mu} (hrow:∀ k τ (l:List τ.D),lkp o k=some (.row τ l)→S k=some (.row τ l.length)∧RO S μ w k (.row τ l)):∀ {ts:List CT} {cs cs':List C} {ys:List Value},RCs S μ w cs ys→argCs o ts cs=some cs'→
  (∀ b,b < w.heap.size→(¬ Own S μ b∨∃ k∈keysCs cs,∃ p,S k≠none∧μ k=some p∧p.1=b)→¬ Own S0 μ0 b)→RCs S0 μ0 w cs' ys
 | [],[],cs',[],_,hc,_=>by injection hc with hc; subst hc; trivial
 | t :: ts,c :: cs,cs',y :: ys,h,hc,hS=>by
  unfold argCs at hc
  split at hc
  ·rename_i c1 l1 h1 h2
   injection hc with hc; subst hc
   refine ⟨argC_ok hrow h.1 h1 fun b hb hh=>hS b hb (hh.imp id fun ⟨k,hk,r⟩=>⟨k,by simp [keysCs,hk],r⟩),h.2.1,argCs_ok hrow h.2.2 h2 fun b hb hh=>hS b hb (hh.imp id fun ⟨k,hk,r⟩=>⟨k,by simp [keysCs,hk],r⟩)⟩
  ·cases hc
 | [],_ :: _,_,_,_,hc,_=>by cases hc
 | _ :: _,[],_,_,_,hc,_=>by cases hc
 | [],[],_,_ :: _,h,_,_=>h.elim
 | _ :: _,_ :: _,_,[],h,_,_=>h.elim
theorem rows_of (hR:RepM N w0 M W lk μ st a w):∀ k τ (l:List τ.D),lkp st.o k=some (.row τ l)→skel st.o k=some (.row τ l.length)∧RO (skel st.o) μ w k (.row τ l):=
 fun k τ l h=>⟨skel_of h,hR.ob k _ h⟩
end
def kapC:C→Option Nat
 | .ow k=>some k
 | .pb k _=>some k
 | _=>none
def kapL:Nat→List C→List (Nat×Nat)
 | _,[]=>[]
 | k0,c :: cs=>match kapC c with
  | some k=>(k0,k) :: kapL (k0+1) cs
  | none=>kapL (k0+1) cs
theorem kapL_inv:∀ {cs:List C} {k0 e k:Nat},lkp (kapL k0 cs) e=some k→∃ (j:Nat) (c:C),e=k0+j∧cs[j]?=some c∧kapC c=some k
 | [],k0,e,k,h=>by simp [kapL,lkp] at h
 | c :: cs,k0,e,k,h=>by
  unfold kapL at h
  cases hc:kapC c with
  | none=>
   simp only [hc] at h
   obtain ⟨j,c',h1,h2,h3⟩:=kapL_inv h
   exact ⟨j+1,c',by omega,by simpa using h2,h3⟩
  | some k'=>
   simp only [hc] at h
   rcases beq_cases k0 e with ⟨rfl,_⟩ | ⟨hne,_⟩
   ·rw [lkp_cons_same] at h
    injection h with h; subst h
    exact ⟨0,c,rfl,rfl,hc⟩
   ·rw [lkp_cons_ne _ _ hne] at h
    obtain ⟨j,c',h1,h2,h3⟩:=kapL_inv h
    exact ⟨j+1,c',by omega,by simpa using h2,h3⟩
theorem kapL_low:∀ {cs:List C} {k0 e:Nat},e < k0→lkp (kapL k0 cs) e=none
 | [],k0,e,h=>rfl
 | c :: cs,k0,e,h=>by
  unfold kapL
  cases hc:kapC c with
  | none=>exact kapL_low (by omega)
  | some k'=>
   simp only []
   rw [lkp_cons_ne _ _ (by omega)]; exact kapL_low (by omega)
theorem kapL_at:∀ {cs:List C} {k0 j:Nat},lkp (kapL k0 cs) (k0+j)=match cs[j]? with
  | some c=>kapC c
  | none=>none
 | [],k0,j=>by simp [kapL,lkp]
 | c :: cs,k0,0=>by
  unfold kapL
  cases hc:kapC c with
  | none=>simp [hc,kapL_low]
  | some k'=>simp [hc,lkp]
 | c :: cs,k0,j+1=>by
  unfold kapL
  have ih:=kapL_at (cs:=cs) (k0:=k0+1) (j:=j)
  rw [show k0+1+j=k0+(j+1) by omega] at ih
  cases hc:kapC c with
  | none=>simpa using ih
  | some k'=>
   simp only []
   rw [lkp_cons_ne _ _ (by omega)]; simpa using ih
def kap (a:A1) (e:Nat):Option Nat:=lkp (kapL 100000 (cells1 a)) e
theorem entCs_get:∀ (l:List C) (k0 j:Nat),(entCs k0 l).1[j]?=(l[j]?).map fun c=>(entC (k0+j) c).1
 | [],_,_=>by simp [entCs]
 | c :: l,k0,0=>by simp [entCs]
 | c :: l,k0,j+1=>by
  simp only [entCs,List.getElem?_cons_succ]
  rw [entCs_get l (k0+1) j]
  congr 1; funext c; congr 2; omega
theorem lkp_entCs_inv:∀ {l:List C} {k0 e:Nat} {ob:OB},lkp (entCs k0 l).2 e=some ob→∃ (j:Nat) (τ:Ty) (x:List τ.D),e=k0+j∧l[j]?=some (.ro τ x)∧ob=.row τ x
 | [],k0,e,ob,h=>by simp [entCs,lkp] at h
 | c :: l,k0,e,ob,h=>by
  simp only [entCs] at h
  rw [lkp_append] at h
  have hrest:lkp (entCs (k0+1) l).2 e=some ob→∃ (j:Nat) (τ:Ty) (x:List τ.D),e=k0+j∧(c :: l)[j]?=some (.ro τ x)∧ob=.row τ x:=fun h=>by
   obtain ⟨j,τ,x,h1,h2,h3⟩:=lkp_entCs_inv h
   exact ⟨j+1,τ,x,by omega,by simpa using h2,h3⟩
  cases c with
  | ro τ x=>
   rcases beq_cases k0 e with ⟨rfl,_⟩ | ⟨hne,_⟩
   ·simp [entC,lkp] at h
    exact ⟨0,τ,x,rfl,rfl,h.symm⟩
   ·rw [show (entC k0 (.ro τ x)).2=[(k0,.row τ x)] from rfl,lkp_cons_ne _ _ hne] at h
    exact hrest h
  | _=>exact hrest h
theorem lkp_entCs_at:∀ {l:List C} {k0 j:Nat} {τ:Ty} {x:List τ.D},l[j]?=some (.ro τ x)→lkp (entCs k0 l).2 (k0+j)=some (.row τ x)
 | [],k0,j,τ,x,h=>by simp at h
 | c :: l,k0,0,τ,x,h=>by
  simp at h; subst h
  simp [entCs,entC,lkp]
 | c :: l,k0,j+1,τ,x,h=>by
  simp only [entCs]
  rw [lkp_append]
  have:=lkp_entCs_at (l:=l) (k0:=k0+1) (j:=j) (by simpa using h)
  rw [show k0+1+j=k0+(j+1) by omega] at this
  rw [this]
  cases c <;> simp [entC,lkp]
  rw [beq_ne (by omega)]
theorem entK_obs (v:A1) (h:∀ l,v≠.ptr l):(entK v).2=(entCs 100000 (cells1 v)).2:=by
 cases v with
 | c x=>simp [entK,cells1,entCs]
 | agg l=>rfl
 | ptr l=>exact absurd rfl (h l)
section
variable {P:Program} {T:Tab} {N:Nat} {w0:World} {M:Nat→Prop} {W:Wd} {lk:List Nat} {μ:Mu} {st:St} {a:Act} {w:World}
theorem wholeCs_get:∀ {cs:List C} {j:Nat} {c:C},wholeCs cs=true→cs[j]?=some c→wholeC c=true
 | [],j,c,_,h=>by simp at h
 | x :: cs,0,c,hw,h=>by
  simp at h; subst h
  unfold wholeCs at hw
  split at hw
  ·assumption
  ·cases hw
 | x :: cs,j+1,c,hw,h=>by
  unfold wholeCs at hw
  split at hw
  ·exact wholeCs_get hw (by simpa using h)
  ·cases hw
theorem argC_conf {o:List (Nat×OB)} {t:CT} {c c':C} (h:argC o t c=some c'):confd c'=true:=by
 unfold argC at h
 split at h
 ·rename_i c1 hd
  unfold confC at h
  split at h
  ·injection h with h; subst h; rfl
  ·injection h with h; subst h; rfl
  ·rename_i f cs
   injection h with h; subst h
   unfold deepC at hd
   split at hd
   ·cases hd
   ·split at hd
    ·rename_i hck
     injection hd with hd; injection hd with e1 e2; subst e1; subst e2
     simp only [confd,hck]
    ·cases hd
   all_goals first | (cases hd; done) | (split at hd <;> cases hd)
  ·injection h with h; subst h; rfl
  ·injection h with h; subst h; rfl
  ·injection h with h; subst h; rfl
  ·split at h
   ·injection h with h; subst h; rfl
   ·cases h
  ·injection h with h; subst h; rfl
  ·split at h
   ·injection h with h; subst h; rfl
   ·cases h
  ·cases h
 ·cases h
theorem whole_arg {o:List (Nat×OB)} {t:CT} {c c':C} (hw:wholeC c=true) (h:argC o t c=some c') :
  (∃ x,c=.v x∧c'=.v x)∨(c=.nil∧∃ τ,c'=.ro τ [])∨(∃ k τ,∃ l:List τ.D,c=.ow k∧lkp o k=some (.row τ l)∧c'=.ro τ l)∨(c=.nil∧∃ τ,c'=.rol τ []):=by
 unfold argC at h
 split at h
 ·rename_i c1 hd
  cases c with
  | v x=>
   injection hd with hd; subst hd
   cases t with
   | sc=>injection h with h; subst h; exact .inl ⟨x,rfl,rfl⟩
   | fn=>injection h with h; subst h; exact .inl ⟨x,rfl,rfl⟩
   | sl τ=>cases h
   | pe=>cases h
   | sll τ=>cases h
   | ar=>cases h
  | nil=>
   injection hd with hd; subst hd
   cases t with
   | sc=>cases h
   | fn=>cases h
   | pe=>cases h
   | sll τ=>injection h with h; subst h; exact .inr (.inr (.inr ⟨rfl,τ,rfl⟩))
   | ar=>cases h
   | sl τ=>injection h with h; subst h; exact .inr (.inl ⟨rfl,τ,rfl⟩)
  | ow k=>
   simp only [deepC] at hd
   split at hd
   ·rename_i τ l hl
    injection hd with hd; subst hd
    cases t with
    | sc=>cases h
    | fn=>cases h
    | pe=>cases h
    | sll τ=>cases h
    | ar=>cases h
    | sl σ=>
     simp only [confC] at h
     split at h
     ·rename_i l' hl'
      injection h with h; subst h
      obtain ⟨rfl,rfl⟩:=castL_ok2 hl'
      exact .inr (.inr (.inl ⟨k,_,_,rfl,hl,rfl⟩))
     ·cases h
   ·cases hd
  | _=>cases hw
 ·cases h
theorem argCs_get {o:List (Nat×OB)}:∀ {ts:List CT} {cs cs':List C} {j:Nat} {c':C},argCs o ts cs=some cs'→cs'[j]?=some c'→∃ t c,cs[j]?=some c∧argC o t c=some c'
 | [],[],cs',j,c',h,h'=>by injection h with h; subst h; simp at h'
 | t :: ts,c :: cs,cs',j,c',h,h'=>by
  unfold argCs at h
  split at h
  ·rename_i c1 l1 h1 h2
   injection h with h; subst h
   cases j with
   | zero=>simp at h'; subst h'; exact ⟨t,c,rfl,h1⟩
   | succ j => 
    obtain ⟨t',c2,a1,a2⟩:=argCs_get h2 (by simpa using h')
    exact ⟨t',c2,by simpa using a1,a2⟩
  ·cases h
 | [],_ :: _,_,_,_,h,_=>by cases h
 | _ :: _,[],_,_,_,h,_=>by cases h
theorem argCs_len {o:List (Nat×OB)}:∀ {ts:List CT} {cs cs':List C},argCs o ts cs=some cs'→cs'.length=cs.length
 | [],[],cs',h=>by injection h with h; subst h; rfl
 | t :: ts,c :: cs,cs',h=>by
  unfold argCs at h
  split at h
  ·rename_i c1 l1 h1 h2
   injection h with h; subst h
   simp [argCs_len h2]
  ·cases h
 | [],_ :: _,_,h=>by cases h
 | _ :: _,[],_,h=>by cases h
theorem ent_RCs {o:List (Nat×OB)} {S S0:Sk} {μ0:Mu} (hrow:∀ k τ (l:List τ.D),lkp o k=some (.row τ l)→S k=some (.row τ l.length)):∀ {ts:List CT} {cs cs':List C} {ys:List Value} {k0:Nat},RCs S μ w cs ys→argCs o ts cs=some cs'→wholeCs cs=true→
  (∀ j τ (l:List τ.D),cs'[j]?=some (.ro τ l)→S0 (k0+j)=some (.row τ l.length)∧μ0 (k0+j)=match cs[j]? with
   | some (.ow k)=>μ k
   | _=>none)→RCs S0 μ0 w (entCs k0 cs').1 ys
 | [],[],cs',[],k0,_,hc,_,_=>by injection hc with hc; subst hc; trivial
 | t :: ts,c :: cs,cs',y :: ys,k0,h,hc,hw,hS=>by
  unfold argCs at hc
  split at hc
  ·rename_i c1 l1 h1 h2
   injection hc with hc; subst hc
   have hwc:wholeC c=true:=wholeCs_get (j:=0) hw rfl
   have hws:wholeCs cs=true:=by
    unfold wholeCs at hw
    split at hw
    ·exact hw
    ·cases hw
   refine ⟨?_,h.2.1,ent_RCs hrow h.2.2 h2 hws fun j τ l hj=>?_⟩
   ·rcases whole_arg hwc h1 with ⟨x,rfl,rfl⟩ | ⟨rfl,τ,rfl⟩ | ⟨k,τ,l,rfl,hl,rfl⟩ | ⟨rfl,τ,rfl⟩
    ·exact h.1
    ·obtain ⟨s1,s2⟩:=hS 0 τ [] rfl
     exact ⟨none,0,0,τ,h.1,s1,Nat.le_refl _,Nat.zero_le _,.inl ⟨rfl,rfl⟩⟩
    ·obtain ⟨s1,s2⟩:=hS 0 τ l rfl
     obtain ⟨A,n,c,σ,e,hs,hh⟩:=h.1
     rw [hrow k τ l hl] at hs
     injection hs with hs; injection hs with e1 e2; subst e1; subst e2
     refine ⟨A,_,c,τ,e,s1,?_⟩
     unfold Hd at *
     have s3:μ0 k0=μ k:=s2
     rw [s3]; exact hh
    ·exact ⟨none,0,0,h.1,rfl,Nat.le_refl _,Nat.zero_le _,fun h=>absurd h (by simp)⟩
   ·have:=hS (j+1) τ l (by simpa using hj)
    rw [show k0+1+j=k0+(j+1) by omega]
    simpa using this
  ·cases hc
 | [],_ :: _,_,_,_,_,hc,_,_=>by cases hc
 | _ :: _,[],_,_,_,_,hc,_,_=>by cases hc
 | [],[],_,_ :: _,_,h,_,_,_=>h.elim
 | _ :: _,_ :: _,_,[],_,h,_,_,_=>h.elim
theorem memN_iff:∀ (l:List Nat) (k:Nat),memN l k=true↔k∈l
 | [],k=>by simp [memN]
 | j :: l,k=>by
  rcases beq_cases j k with ⟨rfl,h⟩ | ⟨hne,h⟩
  ·simp [memN]
  ·simp only [memN,h,memN_iff l k,List.mem_cons]
   exact ⟨.inr,fun h=>h.resolve_left (Ne.symm hne)⟩
theorem memN_no {l:List Nat} {k:Nat} (h:k ∉ l):memN l k=false:=by
 cases e:memN l k with
 | false=>rfl
 | true=>exact absurd ((memN_iff _ _).1 e) h
theorem noneIn_iff:∀ (lk l:List Nat),noneIn lk l=true↔∀ k∈l,k ∉ lk
 | lk,[]=>by simp [noneIn]
 | lk,k :: l=>by
  unfold noneIn
  split
  ·rename_i h
   rw [memN_iff] at h
   simp [h]
  ·rename_i h
   have h':k ∉ lk:=fun e=>by rw [(memN_iff lk k).2 e] at h; cases h
   rw [noneIn_iff lk l]; simp [h']
theorem distinctN_iff:∀ (l:List Nat),distinctN l=true↔l.Nodup
 | []=>by simp [distinctN]
 | k :: l=>by
  unfold distinctN
  split
  ·rename_i h
   rw [memN_iff] at h
   simp [h]
  ·rename_i h
   have h':k ∉ l:=fun e=>by rw [(memN_iff l k).2 e] at h; cases h
   rw [distinctN_iff l]; simp [h']
theorem keysCs_mem:∀ {cs:List C} {j:Nat} {c:C} {k:Nat},cs[j]?=some c→k∈keyC c→k∈keysCs cs
 | [],j,c,k,h,_=>by simp at h
 | x :: cs,0,c,k,h,hk=>by simp at h; subst h; simp [keysCs,hk]
 | x :: cs,j+1,c,k,h,hk=>by
  have:=keysCs_mem (cs:=cs) (j:=j) (by simpa using h) hk
  simp [keysCs,this]
theorem keysCs_inv:∀ {cs:List C} {k:Nat},k∈keysCs cs→∃ (j:Nat) (c:C),cs[j]?=some c∧k∈keyC c
 | [],k,h=>by simp [keysCs] at h
 | x :: cs,k,h=>by
  rcases List.mem_append.1 h with h | h
  ·exact ⟨0,x,rfl,h⟩
  ·obtain ⟨j,c,h1,h2⟩:=keysCs_inv h
   exact ⟨j+1,c,by simpa using h1,h2⟩
theorem keys_inj:∀ {cs:List C} {j j' k:Nat} {c c':C},(keysCs cs).Nodup→cs[j]?=some c→cs[j']?=some c'→k∈keyC c→k∈keyC c'→j=j'
 | [],j,j',k,c,c',_,h,_,_,_=>by simp at h
 | x :: cs,0,0,k,c,c',_,_,_,_,_=>rfl
 | x :: cs,0,j'+1,k,c,c',hn,h,h',hk,hk'=>by
  simp at h; subst h
  have:=keysCs_mem (cs:=cs) (by simpa using h') hk'
  exact absurd this ((List.nodup_append.1 hn).2.2 k hk k · rfl)
 | x :: cs,j+1,0,k,c,c',hn,h,h',hk,hk'=>by
  simp at h'; subst h'
  have:=keysCs_mem (cs:=cs) (by simpa using h) hk
  exact absurd this ((List.nodup_append.1 hn).2.2 k hk' k · rfl)
 | x :: cs,j+1,j'+1,k,c,c',hn,h,h',hk,hk'=>by
  have:=keys_inj (cs:=cs) (List.nodup_append.1 hn).2.1 (by simpa using h) (by simpa using h') hk hk'
  omega
end
end Go.Ev
