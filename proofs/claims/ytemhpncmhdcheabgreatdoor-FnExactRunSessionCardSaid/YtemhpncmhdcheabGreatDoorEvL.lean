/- A call: what is so when it has come back. No statement is proved here. -/
import Derived.Test.YtemhpncmhdcheabGreatDoorEvK
namespace Go.Ev
set_option linter.unusedVariables false
set_option linter.unusedSimpArgs false
open Go
def okR (fresh:Bool) (obs:List (Nat×OB)):C→Prop
 | .v _=>True
 | .nil=>True
 | .arr _=>True
 | .ro _ _=>fresh=false
 | .rol _ _=>fresh=false
 | .un=>True
 | .ow k=>lkp obs k≠none
 | _=>False
theorem okR_plain {obs:List (Nat×OB)} {c:C} (h:plainC c=true):okR false obs c:=by
 cases c <;> first | trivial | rfl | (cases h; done)
theorem okR_more {fresh:Bool} {obs r:List (Nat×OB)} {c:C} (h:okR fresh obs c) (hr:∀ k,lkp obs k≠none→lkp r k≠none):okR fresh r c:=by
 cases c with
 | ow k=>exact hr k h
 | _=>exact h
theorem lkp_app_l {α:Type} {l r:List (Nat×α)} {k:Nat} (h:lkp l k≠none):lkp (l++r) k≠none:=by
 rw [lkp_append]; cases e:lkp l k with
 | none=>exact absurd e h
 | some x=>simp
theorem lkp_app_r {α:Type} {l r:List (Nat×α)} {k:Nat} (h:lkp r k≠none):lkp (l++r) k≠none:=by
 rw [lkp_append]; cases e:lkp l k with
 | none=>exact h
 | some x=>simp
theorem plainCs_iff:∀ {l:List C},plainCs l=true↔∀ c∈l,plainC c=true
 | []=>by simp [plainCs]
 | c :: l=>by
  unfold plainCs
  split
  ·rename_i h
   rw [plainCs_iff]; simp [h]
  ·rename_i h; simp [h]
theorem instC_ok {k:Nat} {c:C} (h:plainC c=true):okR true (instC k c).2.1 (instC k c).1:=by
 cases c <;> first | trivial | (simp [instC,okR,lkp]; done) | (cases h; done)
theorem instCs_ok:∀ {l:List C} {k:Nat},plainCs l=true→∀ c∈(instCs k l).1,okR true (instCs k l).2.1 c
 | [],k,_,c,hc=>by simp [instCs] at hc
 | x :: l,k,h,c,hc=>by
  rw [plainCs_iff] at h
  simp only [instCs] at hc ⊢
  rcases List.mem_cons.1 hc with rfl | hc
  ·exact okR_more (instC_ok (h x (by simp))) fun k=>lkp_app_l
  ·exact okR_more (instCs_ok (plainCs_iff.2 fun c hc=>h c (by simp [hc])) c hc) fun k=>lkp_app_r
theorem inst1_ok {k:Nat} {a:A1} (h:plain1 a=true):(∀ c∈cells1 (inst1 k a).1,okR true (inst1 k a).2.1 c)∧∀ l,(inst1 k a).1≠.ptr l:=by
 cases a with
 | c x=>exact ⟨fun c hc=>(by simp [inst1,cells1] at hc; subst hc; exact instC_ok h),fun l=>(by simp [inst1])⟩
 | agg l=>exact ⟨fun c hc=>instCs_ok h c hc,fun l=>(by simp [inst1])⟩
 | ptr l=>cases h
theorem inst1s_ok:∀ {l:List A1} {k:Nat},plain1s l=true→∀ a∈(inst1s k l).1,(∀ c∈cells1 a,okR true (inst1s k l).2.1 c)∧∀ l',a≠.ptr l'
 | [],k,_,a,ha=>by simp [inst1s] at ha
 | x :: l,k,h,a,ha=>by
  unfold plain1s at h
  split at h
  ·rename_i hx
   simp only [inst1s] at ha ⊢
   rcases List.mem_cons.1 ha with rfl | ha
   ·obtain ⟨h1,h2⟩:=inst1_ok (k:=k) hx
    exact ⟨fun c hc=>okR_more (h1 c hc) fun k=>lkp_app_l,h2⟩
   ·obtain ⟨h1,h2⟩:=inst1s_ok (k:=(inst1 k x).2.2) h a ha
    exact ⟨fun c hc=>okR_more (h1 c hc) fun k=>lkp_app_r,h2⟩
  ·cases h
def cellsAV:AV→List C
 | .one a=>cells1 a
 | .tup l=>l.flatMap cells1
theorem plain1s_iff:∀ {l:List A1},plain1s l=true↔∀ a∈l,plain1 a=true
 | []=>by simp [plain1s]
 | c :: l=>by
  unfold plain1s
  split
  ·rename_i h
   rw [plain1s_iff]; simp [h]
  ·rename_i h; simp [h]
theorem instR_ok {fresh:Bool} {k:Nat} {r:AV} (h:plainA r=true):∀ c∈cellsAV (instR fresh k r).1,okR fresh (instR fresh k r).2 c:=by
 intro c hc
 cases fresh with
 | false=>
  refine okR_plain ?_
  cases r with
  | one a=>
   cases a with
   | c x=>simp [instR,cellsAV,cells1] at hc; subst hc; exact h
   | agg l=>exact plainCs_iff.1 h c hc
   | ptr l=>cases h
  | tup l=>
   simp only [instR,cellsAV,List.mem_flatMap] at hc
   obtain ⟨a,ha,hc⟩:=hc
   have:=plain1s_iff.1 h a ha
   cases a with
   | c x=>simp [cells1] at hc; subst hc; exact this
   | agg l=>exact plainCs_iff.1 this c hc
   | ptr l=>cases this
 | true=>
  cases r with
  | one a=>exact (inst1_ok h).1 c hc
  | tup l=>
   simp only [instR,instA,cellsAV,List.mem_flatMap] at hc
   obtain ⟨a,ha,hc⟩:=hc
   exact (inst1s_ok h a ha).1 c hc
theorem RCs.seen {S S':Sk} {μ μ':Mu} {w w':World}:∀ {cs:List C} {ys:List Value},(∀ c∈cs,∀ y,RC S μ w c y→RC S' μ' w' c y)→RCs S μ w cs ys→RCs S' μ' w' cs ys
 | [],[],_,_=>trivial
 | c :: cs,y :: ys,hf,h=>⟨hf c (by simp) y h.1,h.2.1,RCs.seen (fun c hc=>hf c (by simp [hc])) h.2.2⟩
 | [],_ :: _,_,h=>h.elim
 | _ :: _,[],_,h=>h.elim
theorem R1.seen {S S':Sk} {μ μ':Mu} {w w':World} {a:A1} {y:Value} (hf:∀ c∈cells1 a,∀ y,RC S μ w c y→RC S' μ' w' c y) (h:R1 S μ w a y):R1 S' μ' w' a y:=by
 cases a with
 | c x=>exact hf x (by simp [cells1]) y h
 | agg l=>obtain ⟨vs,rfl,hv⟩:=h; exact ⟨vs,rfl,RCs.seen hf hv⟩
 | ptr l=>exact h.elim
theorem R1s.seen {S S':Sk} {μ μ':Mu} {w w':World}:∀ {cs:List A1} {ys:List Value},(∀ a∈cs,∀ c∈cells1 a,∀ y,RC S μ w c y→RC S' μ' w' c y)→R1s S μ w cs ys→R1s S' μ' w' cs ys
 | [],[],_,_=>trivial
 | c :: cs,y :: ys,hf,h=>⟨R1.seen (hf c (by simp)) h.1,R1s.seen (fun c hc=>hf c (by simp [hc])) h.2⟩
 | [],_ :: _,_,h=>h.elim
 | _ :: _,[],_,h=>h.elim
theorem RA.seen {S S':Sk} {μ μ':Mu} {w w':World} {a:AV} {y:Value} (hf:∀ c∈cellsAV a,∀ y,RC S μ w c y→RC S' μ' w' c y) (h:RA S μ w a y):RA S' μ' w' a y:=by
 cases a with
 | one a=>exact R1.seen hf h
 | tup l=>
  obtain ⟨vs,rfl,hv⟩:=h
  exact ⟨vs,rfl,R1s.seen (fun a ha c hc=>hf c (List.mem_flatMap.2 ⟨a,ha,hc⟩)) hv⟩
theorem lkp_killAll:∀ (ks:List Nat) (st:St) (j:Nat),j ∉ ks→∃ f,KillF (fun k=>k∈ks) f∧f .un=.un∧(∀ i,(killAll ks st).get i=(st.get i).map f)∧(∀ j,j ∉ ks→lkp (killAll ks st).o j=(lkp st.o j).map (OB.map f))∧∀ j∈ks,lkp (killAll ks st).o j=none
 | [],st,j,_=>⟨fun c=>c,fun c=>.inr ⟨rfl,fun _ _ h=>by cases h⟩,rfl,fun i=>(AV.map_id _).symm,fun j _=>by
   show lkp st.o j=_
   cases lkp st.o j with
   | none=>rfl
   | some ob=>simp [OB.map_id],fun j h=>by cases h⟩
 | k :: ks,st,j,hj=>by
  obtain ⟨f,h1,h2,h3,h4,h5⟩:=lkp_killAll ks (st.kill k) j (fun e=>hj (by simp [e]))
  refine ⟨fun c=>f (C.kill k c),?_,h2,fun i=>?_,fun i hi=>?_,fun i hi=>?_⟩
  ·intro c
   rcases killF_comp (killF_kill k) h1 h2 c with h | ⟨h,h'⟩
   ·exact .inl h
   ·exact .inr ⟨h,fun i hi hm=>h' i hi ((List.mem_cons.1 hm).elim .inl .inr)⟩
  ·show (killAll ks (st.kill k)).get i=_
   rw [h3,get_kill,AV_map_map]
  ·show lkp (killAll ks (st.kill k)).o i=_
   have hik:i≠k:=fun e=>hi (by simp [e])
   have hiks:i ∉ ks:=fun e=>hi (by simp [e])
   rw [h4 i hiks,lkp_kill,if_neg hik,Option.map_map]
   congr 1; funext z; exact OB_map_map _ _ _
  ·show lkp (killAll ks (st.kill k)).o i=none
   by_cases hiks:i∈ks
   ·exact h5 i hiks
   ·rcases List.mem_cons.1 hi with rfl | e
    ·rw [h4 i hiks,lkp_kill,if_pos rfl]; rfl
    ·exact absurd e hiks
theorem wbCs_lkp:∀ {cs os:List C} {o o':List (Nat×OB)},wbCs o cs os=some o'→(keysCs cs).Nodup→(∀ k,k ∉ keysCs cs→lkp o' k=lkp o k)∧
  ∀ (j k:Nat),cs[j]?=some (.ow k)→lkp o k≠none→∃ τ,∃ l:List τ.D,os[j]?=some (.ro τ l)∧lkp o' k=some (.row τ l)
 | [],[],o,o',h,_=>by injection h with h; subst h; exact ⟨fun _ _=>rfl,fun j k h=>by simp at h⟩
 | c :: cs,d :: os,o,o',h,hn=>by
  simp only [wbCs] at h
  split at h
  ·rename_i o1 h1
   have hn2:(keysCs cs).Nodup:=(List.nodup_append.1 hn).2.1
   have hdis:=(List.nodup_append.1 hn).2.2
   obtain ⟨ih1,ih2⟩:=wbCs_lkp h hn2
   unfold wbC at h1
   split at h1
   ·injection h1 with h1; subst h1
    refine ⟨fun k hk=>ih1 k fun e=>hk (by simp [keysCs,e]),fun j k hj hl=>?_⟩
    cases j with
    | zero=>simp at hj
    | succ j=>simpa using ih2 j k (by simpa using hj) hl
   ·injection h1 with h1; subst h1
    refine ⟨fun k hk=>ih1 k fun e=>hk (by simp [keysCs,e]),fun j k hj hl=>?_⟩
    cases j with
    | zero=>simp at hj
    | succ j=>simpa using ih2 j k (by simpa using hj) hl
   ·rename_i k0 τ l
    injection h1 with h1; subst h1
    have hk0:k0 ∉ keysCs cs:=fun e=>hdis k0 (by simp [keyC]) k0 e rfl
    refine ⟨fun k hk=>?_,fun j k hj hl=>?_⟩
    ·have hne:k≠k0:=fun e=>hk (by simp [keysCs,keyC,e])
     rw [ih1 k fun e=>hk (by simp [keysCs,e]),lkp_setO_ne _ hne]
    ·cases j with
     | zero=>
      simp at hj; subst hj
      refine ⟨τ,l,rfl,?_⟩
      cases e:lkp o k0 with
      | none=>exact absurd e hl
      | some ob=>rw [ih1 k0 hk0,lkp_setO_same _ e]
     | succ j=>
      have hj':cs[j]?=some (.ow k):=by simpa using hj
      have hne:k≠k0:=fun e=>hk0 (e ▸ keysCs_mem hj' (by simp [keyC]))
      simpa using ih2 j k hj' (by rw [lkp_setO_ne _ hne]; exact hl)
   ·cases h1
  ·cases h
 | [],_ :: _,_,_,h,_=>by cases h
 | _ :: _,[],_,_,h,_=>by cases h
theorem outObs_cons {k0:Nat} {v d:C} {vs os:List C} {no:List (Nat×OB)} (h:outObs k0 (v :: vs) (d :: os)=some no) :
  (∃ σ,∃ l0:List σ.D,∃ τ,∃ l:List τ.D,∃ r,v=.ro σ l0∧d=.ro τ l∧outObs (k0+1) vs os=some r∧no=(k0,.row τ l) :: r)∨(∃ x y,v=.v x∧d=.v y∧outObs (k0+1) vs os=some no):=by
 cases v with
 | ro σ l0=>
  cases d with
  | ro τ l=>
   simp only [outObs] at h
   cases hr:outObs (k0+1) vs os with
   | none=>rw [hr] at h; cases h
   | some r=>
    rw [hr] at h
    injection h with h
    exact .inl ⟨σ,l0,τ,l,r,rfl,rfl,rfl,h.symm⟩
  | _=>simp [outObs] at h
 | v x=>
  cases d with
  | v y=>exact .inr ⟨x,y,rfl,rfl,h⟩
  | _=>simp [outObs] at h
 | _=>simp [outObs] at h
theorem outObs_at:∀ {vs os:List C} {k0 j:Nat} {no:List (Nat×OB)} {σ τ:Ty} {l0:List σ.D} {l:List τ.D},outObs k0 vs os=some no→vs[j]?=some (.ro σ l0)→os[j]?=some (.ro τ l)→lkp no (k0+j)=some (.row τ l)
 | [],[],k0,j,no,σ,τ,l0,l,h,h',_=>by simp at h'
 | v :: vs,d :: os,k0,j,no,σ,τ,l0,l,h,h',h''=>by
  rcases outObs_cons h with ⟨σ',l0',τ',l',r,rfl,rfl,hr,rfl⟩ | ⟨x,y,rfl,rfl,hr⟩
  ·cases j with
   | zero=>
    simp at h''
    obtain ⟨rfl,h''⟩:=h''
    cases h''
    exact lkp_cons_same _ _ _
   | succ j=>
    rw [lkp_cons_ne _ _ (by omega)]
    have:=outObs_at (j:=j) hr (by simpa using h') (by simpa using h'')
    rwa [show k0+1+j=k0+(j+1) by omega] at this
  ·cases j with
   | zero=>simp at h'
   | succ j=>
    have:=outObs_at (j:=j) hr (by simpa using h') (by simpa using h'')
    rwa [show k0+1+j=k0+(j+1) by omega] at this
 | [],_ :: _,_,_,_,_,_,_,_,h,_,_=>by simp [outObs] at h
 | _ :: _,[],_,_,_,_,_,_,_,h,_,_=>by simp [outObs] at h
section
variable {P:Program} {T:Tab} {N:Nat} {w0:World} {M:Nat→Prop} {W:Wd} {lk:List Nat} {μ:Mu} {st:St} {a:Act} {w:World}
theorem behind (hR:RepM N w0 M W lk μ st a w) {C:Con} {av vs bs:List A1} {no o':List (Nat×OB)} (hvs:args1 st.o C.ps av=some vs) (hok:mutOK lk C.mu av=true) (hlive:∀ k∈mutKeys C.mu av,skel st.o k≠none)
  (hno:noOf C.mu vs bs=some no) (hsk:∀ k ob',lkp no k=some ob'→∃ ob,lkp (entO C.mu vs) k=some ob∧ob'.sk=ob.sk) (hwb:wbs st.o C.mu av bs=some o') :
  ∃ f,KillF (fun k=>k∈mvKeys C.mu av) f∧(∀ i,(killAll (mvKeys C.mu av) ⟨st.t,o'⟩).get i=(st.get i).map f)∧
   (∀ k,k ∉ mutKeys C.mu av→lkp (killAll (mvKeys C.mu av) ⟨st.t,o'⟩).o k=(lkp st.o k).map (OB.map f))∧
   (∀ k∈mutKeys C.mu av,(k∈mvKeys C.mu av∧lkp (killAll (mvKeys C.mu av) ⟨st.t,o'⟩).o k=none)∨
    (k ∉ mvKeys C.mu av∧∃ e ob',kapM C.mu av e=some k∧100000≤e∧lkp no e=some ob'∧lkp (killAll (mvKeys C.mu av) ⟨st.t,o'⟩).o k=some ob'∧(∃ ob,lkp st.o k=some ob∧ob'.sk=ob.sk)∧
     ((∃ τ,∃ l:List τ.D,ob'=.row τ l)∨∃ l,ob'=.box l∧plainCs l=true∧isPtr C.mu av=true))):=by
 obtain ⟨hw,hlk,hnd,hst,hone,hlen,hpb⟩:=mutOK_parts hok
 obtain ⟨hm1,hm2⟩:=mutA_args (ms:=C.mu) hvs
 cases e1:mutA C.mu av with
 | none=>
  have hmv:mvKeys C.mu av=[]:=by simp [mvKeys,e1]
  have hmk:mutKeys C.mu av=[]:=by simp [mutKeys,e1]
  have ho:o'=st.o:=by
   simp only [wbs,e1] at hwb
   split at hwb <;> first | (cases hwb; done) | skip
   ·rename_i h; cases h
   ·rename_i h; cases h
   ·injection hwb with hwb; exact hwb.symm
  subst ho
  rw [hmv,hmk]
  exact ⟨fun c=>c,fun c=>.inr ⟨rfl,fun _ _ h=>by cases h⟩,fun i=>(AV.map_id _).symm,fun k _=>by
   show lkp st.o k=_
   cases lkp st.o k with
   | none=>rfl
   | some ob=>simp [OB.map_id],fun k h=>by cases h⟩
 | some mx=>
  obtain ⟨m,x⟩:=mx
  obtain ⟨pt,v,e2,e3⟩:=hm1 m x e1
  have hmk:mutKeys C.mu av=keys1 x:=mutKeys_of e1
  have hwx:whole1 x=true:=by simpa [mutWhole,e1] using hw
  cases m with
  | rd=>
   -- no argument that is read comes up
   exfalso
   have:∀ {ms:List Md} {av:List A1},mutA ms av≠some (.rd,x):=by
    intro ms
    induction ms with
    | nil=>intro av h; simp [mutA] at h
    | cons m ms ih=>
     intro av h
     cases av with
     | nil=>cases m <;> simp [mutA] at h
     | cons y av=>
      cases m with
      | rd=>exact ih h
      | mu=>simp [mutA] at h
      | mv=>simp [mutA] at h
   exact this e1
  | mv=>
   have hmv:mvKeys C.mu av=keys1 x:=by simp [mvKeys,e1]
   have ho:o'=st.o:=by
    simp only [wbs,e1] at hwb
    split at hwb <;> first | (cases hwb; done) | skip
    ·rename_i h; cases h
    ·injection hwb with hwb; exact hwb.symm
    ·rename_i h; cases h
   subst ho
   rw [hmv,hmk]
   obtain ⟨f,h1,h2,h3,h4,h5⟩:=lkp_killAll (keys1 x) st (200000+(keys1 x).sum) (fun h=>by
    have:∀ (l:List Nat) (k:Nat),k∈l→k≤l.sum:=by
     intro l
     induction l with
     | nil=>intro k h; cases h
     | cons a l ih=>
      intro k h
      rcases List.mem_cons.1 h with rfl | h
      ·simp
      ·have:=ih k h; simp; omega
    have:=this _ _ h; omega)
   exact ⟨f,h1,h3,h4,fun k hk=>.inl ⟨hk,h5 k hk⟩⟩
  | mu=>
   have hmv:mvKeys C.mu av=[]:=by simp [mvKeys,e1]
   rw [hmv]
   obtain ⟨b,rfl,hwb1,hno1⟩:∃ b,bs=[b]∧wb1 st.o x b=some o'∧outOb v b=some no:=by
    simp only [wbs,e1] at hwb
    simp only [noOf,e2] at hno
    split at hwb <;> first | (cases hwb; done) | skip
    ·rename_i b h
     injection h with h; injection h with _ h; subst h
     exact ⟨_,rfl,hwb,hno⟩
    ·rename_i h; cases h
    ·rename_i h; cases h
   have hid:∀ k,lkp o' k=lkp st.o k→lkp (killAll [] ⟨st.t,o'⟩).o k=(lkp st.o k).map (OB.map (fun c=>c)):=fun k h=>by
    show lkp o' k=_
    rw [h]
    cases lkp st.o k with
    | none=>rfl
    | some ob=>simp [OB.map_id]
   rcases arg1_cells e3 hwx with ⟨k,l,ts,l',rfl,hl,hcs,rfl⟩ | ⟨ts,hcs,hwc,hshape⟩
   ·-- a pointer
    cases b with
    | c y=>simp [outOb] at hno1
    | agg y=>simp [outOb] at hno1
    | ptr l2=>
     simp only [wb1] at hwb1
     split at hwb1
     ·rename_i hplain
      injection hwb1 with hwb1; subst hwb1
      simp only [outOb] at hno1
      injection hno1 with hno1; subst hno1
      refine ⟨fun c=>c,fun c=>.inr ⟨rfl,fun _ _ h=>by cases h⟩,fun i=>(AV.map_id _).symm,fun j hj=>hid j (lkp_setO_ne (k:=k) (i:=j) _ (fun e=>hj (by rw [hmk]; simp [keys1,keyC,e])) _),fun j hj=>.inr ⟨by simp,100000,.box l2,?_,Nat.le_refl _,lkp_cons_same _ _ _,?_,?_,.inr ⟨l2,rfl,hplain,by simp [isPtr,e1]⟩⟩⟩
      ·rw [hmk] at hj
       simp [keys1,keyC] at hj; subst hj
       simp only [kapM,e1,kap]
       exact kapL_at (cs:=[Go.Ev.C.pb j 0]) (k0:=100000) (j:=0)
      ·rw [hmk] at hj
       simp [keys1,keyC] at hj; subst hj
       exact lkp_setO_same _ hl
      ·rw [hmk] at hj
       simp [keys1,keyC] at hj; subst hj
       exact ⟨_,hl,rfl⟩
     ·cases hwb1
   ·-- cells
    have hcells:∃ os,outObs 100000 (cells1 v) os=some no∧wbCs st.o (cells1 x) os=some o':=by
     rcases hshape with ⟨c,c',rfl,rfl⟩ | ⟨l,l',rfl,rfl⟩
     ·cases b with
      | c y=>
       refine ⟨[y],hno1,?_⟩
       have hnpb:∀ k j,c≠.pb k j:=fun k j e=>by subst e; simp [cells1,wholeCs,wholeC] at hwc
       have:wbC st.o c y=some o':=by
        cases c <;> first | exact hwb1 | exact absurd rfl (hnpb _ _)
       simp [cells1,wbCs,this]
      | _=>simp [outOb] at hno1
     ·cases b with
      | agg y=>exact ⟨y,hno1,hwb1⟩
      | _=>simp [outOb] at hno1
    obtain ⟨os,hout,hwbc⟩:=hcells
    rw [hmk,keys1_cells] at hnd
    obtain ⟨hw1,hw2⟩:=wbCs_lkp hwbc hnd
    have hnp:∀ l2,v≠.ptr l2:=by
     rintro l2 rfl
     rcases hshape with ⟨c,c',_,h⟩ | ⟨l,l',_,h⟩ <;> cases h
    refine ⟨fun c=>c,fun c=>.inr ⟨rfl,fun _ _ h=>by cases h⟩,fun i=>(AV.map_id _).symm,fun j hj=>hid j (hw1 j fun e=>hj (by rw [hmk,keys1_cells]; exact e)),fun k hk=>.inr ⟨by simp,?_⟩⟩
    have hkl:=hlive k hk
    rw [hmk,keys1_cells] at hk
    obtain ⟨j,c,hc,hkc⟩:=keysCs_inv hk
    have hwcc:=wholeCs_get hwc hc
    have hlt:j < (cells1 v).length:=by rw [argCs_len hcs]; exact (List.getElem?_eq_some_iff.1 hc).1
    obtain ⟨t,c2,a1,a2⟩:=argCs_get hcs (List.getElem?_eq_getElem hlt)
    rw [hc] at a1; injection a1 with a1; subst a1
    rcases whole_arg hwcc a2 with ⟨x,rfl,_⟩ | ⟨rfl,_⟩ | ⟨k2,τ0,l0,rfl,hl0,h0⟩ | ⟨rfl,_⟩
    rotate_left 3
    ·simp [keyC] at hkc
    ·simp [keyC] at hkc
    ·simp [keyC] at hkc
    ·simp [keyC] at hkc; subst hkc
     obtain ⟨τ,l,ho1,ho2⟩:=hw2 j k hc (by rw [hl0]; simp)
     have hvj:(cells1 v)[j]?=some (.ro τ0 l0):=by rw [List.getElem?_eq_getElem hlt,h0]
     have hn1:=outObs_at hout hvj ho1
     obtain ⟨ob,hb1,hb2⟩:=hsk _ _ hn1
     rw [entO,e2] at hb1
     simp only at hb1
     rw [entK_obs v hnp,lkp_entCs_at hvj] at hb1
     injection hb1 with hb1; subst hb1
     refine ⟨100000+j,.row τ l,?_,Nat.le_add_right _ _,hn1,ho2,⟨_,hl0,hb2⟩,.inl ⟨τ,l,rfl⟩⟩
     simp only [kapM,e1,kap,kapL_at,hc,kapC]
theorem called (hR:RepM N w0 M W lk μ st a w) {C:Con} {av vs bs:List A1} {no o':List (Nat×OB)} {kd:Nat} {r:AV} {v:Value} {w':World} {μ1:Mu}
  (hvs:args1 st.o C.ps av=some vs) (hok:mutOK lk C.mu av=true) (hf:needFrz C av=false) (hlow:∀ k∈mvKeys C.mu av,k < 100000) (hlive:∀ k∈mutKeys C.mu av,skel st.o k≠none)
  (hkd:kd+16≤100000) (hfree:∀ k,kd≤k→k < kd+16→skel st.o k=none) (hr:plainA r=true)
  (hfr:Fr (Mc (skel st.o) μ C.mu av) w w') (hno:noOf C.mu vs bs=some no) (hfo:μ1.fo=(muc (skel st.o) μ w C.mu av).fo) (hμ1:∀ k,100000≤k→μ1 k=muc (skel st.o) μ w C.mu av k)
  (hsk:∀ k ob',lkp no k=some ob'→∃ ob,lkp (entO C.mu vs) k=some ob∧ob'.sk=ob.sk)
  (hobs:∀ k ob,lkp (instR C.fresh kd r).2 k=some ob→kd≤k∧k < kd+16∧∃ τ,∃ l:List τ.D,ob=.row τ l)
  (hRA:RA (skel ((instR C.fresh kd r).2++no)) μ1 w' (instR C.fresh kd r).1 v)
  (hRO:∀ k ob,lkp ((instR C.fresh kd r).2++no) k=some ob→RO (skel ((instR C.fresh kd r).2++no)) μ1 w' k ob)
  (hinj:∀ k k' p p',skel ((instR C.fresh kd r).2++no) k≠none→skel ((instR C.fresh kd r).2++no) k'≠none→μ1 k=some p→μ1 k'=some p'→p.1=p'.1→k=k')
  (hnew:∀ k p,lkp (instR C.fresh kd r).2 k≠none→μ1 k=some p→w.heap.size≤p.1∨∃ j∈mvEnt C.mu vs,∃ q,muc (skel st.o) μ w C.mu av j=some q∧q.1=p.1)
  (hwb:wbs st.o C.mu av bs=some o') :
  ∃ μ',RepM N w0 M W lk μ' ⟨(killAll (mvKeys C.mu av) ⟨st.t,o'⟩).t,(instR C.fresh kd r).2++(killAll (mvKeys C.mu av) ⟨st.t,o'⟩).o⟩ a w'∧
   RA (skel ((instR C.fresh kd r).2++(killAll (mvKeys C.mu av) ⟨st.t,o'⟩).o)) μ' w' (instR C.fresh kd r).1 v:=by
 obtain ⟨hw,hlk,hnd,hst,hone,hlen,hpb⟩:=mutOK_parts hok
 obtain ⟨hm1,hm2⟩:=mutA_args (ms:=C.mu) hvs
 obtain ⟨f,hkf,hget,hother,hmut⟩:=behind hR hvs hok hlive hno hsk hwb
 have hrok:=instR_ok (fresh:=C.fresh) (k:=kd) hr
 generalize (instR C.fresh kd r).2=obs at *
 generalize (instR C.fresh kd r).1=r' at *
 generalize hst1:killAll (mvKeys C.mu av) ⟨st.t,o'⟩=st1 at *
 have hmvmut:∀ k,k∈mvKeys C.mu av→k∈mutKeys C.mu av:=by
  intro k hk
  unfold mvKeys at hk
  split at hk
  ·rename_i x e; rw [mutKeys_of e]; exact hk
  ·cases hk
 -- the new keys
 have hobnew:∀ k,lkp obs k≠none→skel st.o k=none∧k < kd+16:=fun k hk=>by
  cases e:lkp obs k with
  | none=>exact absurd e hk
  | some ob=>obtain ⟨h1,h2,_⟩:=hobs k ob e; exact ⟨hfree k h1 h2,h2⟩
 have hobhi:∀ k,100000≤k→lkp obs k=none:=fun k hk=>by
  cases e:lkp obs k with
  | none=>rfl
  | some ob=>have:=(hobnew k (by rw [e]; simp)).2; omega
 have hlive1:∀ k,skel st.o k≠none→lkp obs k=none:=fun k hk=>by
  cases e:lkp obs k with
  | none=>rfl
  | some ob=>exact absurd (hobnew k (by rw [e]; simp)).1 hk
 let μ':Mu:=⟨fun k=>match lkp obs k with
  | some _=>μ1 k
  | none=>μ k,μ.fo⟩
 have hμn:∀ k,lkp obs k≠none→μ' k=μ1 k:=fun k hk=>by
  cases e:lkp obs k with
  | none=>exact absurd e hk
  | some ob=>simp [μ',e]
 have hμo:∀ k,lkp obs k=none→μ' k=μ k:=fun k hk=>by simp [μ',hk]
 have hlo:∀ k,lkp obs k=none→lkp (obs++st1.o) k=lkp st1.o k:=fun k hk=>by rw [lkp_append,hk]
 have hln:∀ k ob,lkp obs k=some ob→lkp (obs++st1.o) k=some ob:=fun k ob hk=>by rw [lkp_append,hk]
 -- what is live behind the call
 have hlive2:∀ k,lkp obs k=none→skel (obs++st1.o) k≠none→skel st.o k≠none∧k ∉ mvKeys C.mu av:=by
  intro k hk hs
  simp only [skel,hlo k hk] at hs
  by_cases hm:k∈mutKeys C.mu av
  ·rcases hmut k hm with ⟨_,h2⟩ | ⟨h1,e,ob',_,_,_,h3,⟨ob,h4,_⟩,_⟩
   ·rw [h2] at hs; exact absurd rfl hs
   ·exact ⟨skel_ne h4,h1⟩
  ·rw [hother k hm] at hs
   refine ⟨fun e=>hs ?_,fun e=>hm (hmvmut k e)⟩
   simp only [skel,Option.map_eq_none_iff] at e
   rw [e]; rfl
 -- blocks of new rows
 have hblk:∀ k p,lkp obs k≠none→μ1 k=some p→w.heap.size≤p.1∨∃ j∈mvKeys C.mu av,∃ q,μ j=some q∧q.1=p.1∧skel st.o j≠none:=by
  intro k p hk hp
  rcases hnew k p hk hp with h | ⟨j,hj,q,hq,e⟩
  ·exact .inl h
  ·refine .inr ?_
   unfold mvEnt at hj
   split at hj
   ·rename_i x e2
    simp only [muc] at hq
    split at hq
    ·rename_i k2 hk2
     have hmm:∃ y,mutA C.mu av=some (.mv,y):=by
      cases e1:mutA C.mu av with
      | none=>rw [hm2 e1] at e2; cases e2
      | some mx=>
       obtain ⟨m,y⟩:=mx
       obtain ⟨pt,v,e3,_⟩:=hm1 m y e1
       rw [e3] at e2; injection e2 with e2; injection e2 with e2 _; subst e2
       exact ⟨y,rfl⟩
     obtain ⟨y,e1⟩:=hmm
     have hkm:k2∈mvKeys C.mu av:=by
      simp only [kapM,e1,kap] at hk2
      obtain ⟨j,c,h1,h2,h3⟩:=kapL_inv hk2
      have:k2∈keyC c:=by cases c <;> simp [kapC] at h3 <;> simp [keyC,h3]
      simp only [mvKeys,e1,keys1_cells]
      exact keysCs_mem h2 this
     exact ⟨k2,hkm,q,hq,e,hlive k2 (hmvmut _ hkm)⟩
    ·cases hq
   ·cases hj
 have hsize:=hfr.size
 have hsize0:=hR.fr.size
 -- what is not ours stays so
 have hunown:∀ b,b < w.heap.size→¬ Own (skel st.o) μ b→¬ Own (skel (obs++st1.o)) μ' b:=by
  rintro b hb hno' (⟨k,p,hs,hp,rfl⟩ | hfo')
  ·by_cases hk:lkp obs k=none
   ·rw [hμo k hk] at hp
    exact hno' (.inl ⟨k,p,(hlive2 k hk hs).1,hp,rfl⟩)
   ·rw [hμn k hk] at hp
    rcases hblk k p hk hp with h | ⟨j,_,q,hq,e,hl⟩
    ·omega
    ·exact hno' (.inl ⟨j,q,hl,hq,e⟩)
  ·exact hno' (.inr hfo')
 have hheap:∀ b,b < w.heap.size→(∀ k p,k∈mutKeys C.mu av→skel st.o k≠none→μ k=some p→p.1≠b)→w'.heap[b]?=w.heap[b]?:=fun b hb h=>
  hfr.blk b hb fun ⟨k,hk,p,hl,hp,e⟩=>h k p hk hl hp e
 have hC:∀ c y,RC (skel st.o) μ w c y→RC (skel (obs++st1.o)) μ' w' (f c) y:=by
  intro c y h
  refine h.gen hkf (fun k s hnd' hs=>?_) (fun k _ hs=>hμo k (hlive1 k hs)) (fun b hb hno'=>⟨hheap b hb fun k p _ hl hp e=>hno' (.inl ⟨k,p,hl,hp,e⟩),hunown b hb hno'⟩) hsize
  have hk:=hlive1 k (by rw [hs]; simp)
  simp only [skel,hlo k hk]
  by_cases hm:k∈mutKeys C.mu av
  ·rcases hmut k hm with ⟨h1,_⟩ | ⟨h1,e,ob',_,_,_,h3,⟨ob,h4,h5⟩,_⟩
   ·exact absurd h1 hnd'
   ·rw [h3,Option.map_some,h5]
    simp only [skel,h4,Option.map_some] at hs
    exact hs
  ·rw [hother k hm]
   simp only [skel] at hs
   rw [← hs,Option.map_map]
   congr 1; funext z; exact sk_map f z
 -- a slice of the answer,or of what was changed,seen with our eyes
 have hro:∀ (hstill:stillKeys C.mu av=[]) (c:Go.Ev.C) (y:Value),plainC c=true→RC (skel (obs++no)) μ1 w' c y→RC (skel (obs++st1.o)) μ' w' c y:=by
  intro hstill c y hp h
  have hno:∀ b,¬ Own (skel (obs++no)) μ1 b→¬ Own (skel (obs++st1.o)) μ' b:=by
   intro b ho hown
   refine ho ?_
   rcases hown with ⟨k,p,hs,hp,e⟩ | hfo'
   ·by_cases hk:lkp obs k=none
    ·-- ours before: out of the callee's sight
     refine .inr fun hsee=>?_
     rw [hfo] at hsee
     rw [hμo k hk] at hp
     have hl:=(hlive2 k hk hs).1
     rcases hsee with h | h | ⟨k',hk',_⟩ | ⟨k',hk',p',hl',hp',e'⟩
     ·have:=own_lt hR hl hp; omega
     ·exact h (.inl ⟨k,p,hl,hp,e⟩)
     ·rw [hstill] at hk'; cases hk'
     ·have:=hR.inj k' k p' p hl' hl hp' hp (by omega)
      subst this
      exact (hlive2 _ hk hs).2 hk'
    ·rw [hμn k hk] at hp
     refine .inl ⟨k,p,?_,hp,e⟩
     cases e2:lkp obs k with
     | none=>exact absurd e2 hk
     | some ob=>simp [skel,lkp_append,e2]
   ·refine .inr fun hsee=>hfo' ?_
    rw [hfo] at hsee
    rcases hsee with h | h | ⟨k',hk',_⟩ | ⟨k',hk',p',hl',hp',e'⟩
    ·exact hR.fo 0 _ (by omega) (hR.up.1 0 _ (by omega))
    ·exact Classical.byContradiction fun hn=>h (.inr hn)
    ·rw [hstill] at hk'; cases hk'
    ·exact hR.fo k' _ (hlow k' hk') (e' ▸ hR.ok k' p' hl' hp')
  cases c with
  | v x=>exact h
  | nil=>exact h
  | arr l=>exact h
  | ro τ l=>
   obtain ⟨A,n,c,rfl,hr,ho⟩:=h
   exact ⟨A,n,c,rfl,hr,fun hn ad hA=>hno _ (ho hn ad hA)⟩
  | rol τ ls=>
   obtain ⟨A,n,c,rfl,hr⟩:=h
   exact ⟨A,n,c,rfl,hr.mono (fun b hb h=>⟨rfl,hno b h⟩) (Nat.le_refl _)⟩
  | _=>cases hp
 have hstill:(C.fresh=false∨isPtr C.mu av=true)→stillKeys C.mu av=[]:=by
  intro h
  unfold needFrz at hf
  split at hf
  ·rename_i h1 h2
   rcases h with h | h
   ·rw [h1] at h; cases h
   ·rw [h2] at h; cases h
  ·split at hf
   ·assumption
   ·cases hf
 refine ⟨μ',hR.changeZ (st':=⟨st1.t,obs++st1.o⟩) f (fun k=>lkp obs k≠none∨k∈mutKeys C.mu av) hget hC (fun k ob' e hz=>?_) (fun k ob' hz e=>?_) (fun k p hz hs hp=>?_) ⟨rfl,fun k hk=>hμo k (hobhi k hk),fun k hk hz hs=>?_⟩ ?_,?_⟩
 ·have hk:lkp obs k=none:=Classical.byContradiction fun h=>hz (.inl h)
  have hm:k ∉ mutKeys C.mu av:=fun h=>hz (.inr h)
  rw [hlo k hk,hother k hm] at e
  cases e2:lkp st.o k with
  | none=>rw [e2] at e; cases e
  | some ob=>
   rw [e2] at e
   injection e with e
   refine ⟨ob,rfl,e.symm,hμo k hk,fun p hp=>hheap _ (own_lt hR (skel_ne e2) hp) fun k' p' hk' hl' hp' e'=>?_⟩
   have:=hR.inj k' k p' p hl' (skel_ne e2) hp' hp e'
   exact hm (this ▸ hk')
 ·by_cases hk:lkp obs k=none
  ·have hm:k∈mutKeys C.mu av:=hz.resolve_left fun h=>h hk
   rw [hlo k hk] at e
   rcases hmut k hm with ⟨_,h2⟩ | ⟨h1,en,ob2,h2,h100,h3,h4,⟨ob,h5,h6⟩,h7⟩
   ·rw [h2] at e; cases e
   ·rw [h4] at e; injection e with e; subst e
    have hen:lkp obs en=none:=by
     cases e2:lkp obs en with
     | none=>rfl
     | some ob=>
      have:=(hobnew en (by rw [e2]; simp)).2
      omega
    have hno2:lkp (obs++no) en=some ob2:=by rw [lkp_append,hen]; exact h3
    have hμe:μ1 en=μ' k:=by
     rw [hμ1 en h100,hμo k hk]
     simp only [muc,h2]
    have hro2:=hRO en ob2 hno2
    rcases h7 with ⟨τ,l,rfl⟩ | ⟨l,rfl,hpl,hptr⟩
    ·rcases hro2 with ⟨b1,b2⟩ | ⟨g,o,s,cur,ty,b1,b2⟩
     ·exact .inl ⟨hμe.symm.trans b1,b2⟩
     ·exact .inr ⟨g,o,s,cur,ty,hμe.symm.trans b1,b2⟩
    ·obtain ⟨g,o,s,cur,ty,b1,b2,b3,b4,b5⟩:=hro2
     exact ⟨g,o,s,cur,ty,hμe.symm.trans b1,b2,b3,b4,RCs.seen (fun c hc y hy=>hro (hstill (.inr hptr)) c y (plainCs_iff.1 hpl c hc) hy) b5⟩
  ·cases e2:lkp obs k with
   | none=>exact absurd e2 hk
   | some ob2=>
    rw [hln k ob2 e2] at e; injection e with e; subst e
    obtain ⟨_,_,τ,l,rfl⟩:=hobs k ob2 e2
    have hro2:=hRO k _ (show lkp (obs++no) k=_ by rw [lkp_append,e2])
    rcases hro2 with ⟨b1,b2⟩ | ⟨g,o,s,cur,ty,b1,b2⟩
    ·exact .inl ⟨(hμn k hk).trans b1,b2⟩
    ·exact .inr ⟨g,o,s,cur,ty,(hμn k hk).trans b1,b2⟩
 ·by_cases hk:lkp obs k=none
  ·have hm:k∈mutKeys C.mu av:=hz.resolve_left fun h=>h hk
   obtain ⟨hl,hnmv⟩:=hlive2 k hk hs
   rw [hμo k hk] at hp
   refine ⟨fun k' q hne hs' hq e=>?_,fun hlk'=>hR.wr k p hl hlk' hp,hR.ok k p hl hp⟩
   by_cases hk':lkp obs k'=none
   ·rw [hμo k' hk'] at hq
    exact hne (hR.inj k' k q p (hlive2 k' hk' hs').1 hl hq hp e)
   ·rw [hμn k' hk'] at hq
    rcases hblk k' q hk' hq with h | ⟨j,hj,q',hq',e',hl'⟩
    ·have:=own_lt hR hl hp; omega
    ·have:=hR.inj j k q' p hl' hl hq' hp (e'.trans e)
     exact hnmv (this ▸ hj)
  ·rw [hμn k hk] at hp
   refine ⟨fun k' q hne hs' hq e=>?_,fun _=>?_,?_⟩
   ·by_cases hk':lkp obs k'=none
    ·rw [hμo k' hk'] at hq
     obtain ⟨hl',hnmv'⟩:=hlive2 k' hk' hs'
     rcases hblk k p hk hp with h | ⟨j,hj,q',hq',e',hl2⟩
     ·have:=own_lt hR hl' hq; omega
     ·have:=hR.inj j k' q' q hl2 hl' hq' hq (e'.trans e.symm)
      exact hnmv' (this ▸ hj)
    ·rw [hμn k' hk'] at hq
     have h1:skel (obs++no) k≠none:=by
      cases e2:lkp obs k with
      | none=>exact absurd e2 hk
      | some ob=>simp [skel,lkp_append,e2]
     have h2:skel (obs++no) k'≠none:=by
      cases e2:lkp obs k' with
      | none=>exact absurd e2 hk'
      | some ob=>simp [skel,lkp_append,e2]
     exact hne (hinj k' k q p h2 h1 hq hp e)
   ·rcases hblk k p hk hp with h | ⟨j,hj,q',hq',e',hl2⟩
    ·exact .inr (by omega)
    ·rw [← e']
     have hmj:=hlk j (hmvmut j hj)
     refine hR.wr j q' hl2 ?_ hq'
     cases e3:memN lk j with
     | false=>rfl
     | true=>exact absurd ((memN_iff _ _).1 e3) hmj
   ·rcases hblk k p hk hp with h | ⟨j,hj,q',hq',e',hl2⟩
    ·exact hR.up.1 _ _ (by omega)
    ·rw [← e']; exact hR.tr j _ _ (hlow j hj) (hR.ok j q' hl2 hq')
 ·have hk1:=hobhi k hk
  have hm:k∈mutKeys C.mu av:=hz.resolve_left fun h=>h hk1
  simp only [skel,hlo k hk1] at hs ⊢
  rcases hmut k hm with ⟨_,h2⟩ | ⟨h1,en,ob2,h2,h100,h3,h4,⟨ob,h5,h6⟩,h7⟩
  ·rw [h2] at hs; exact absurd rfl hs
  ·rw [h4,h5]; exact ⟨by simp [h6],by simp⟩
 ·refine ⟨hfr.os.trans hR.fr.os,hfr.tape.trans hR.fr.tape,hfr.output.trans hR.fr.output,by omega,fun b hb hnm=>?_⟩
  refine (hheap b (by omega) fun k p hk hl hp e=>?_).trans (hR.fr.blk b hb hnm)
  have hmj:=hlk k hk
  have hlk':memN lk k=false:=by
   cases e3:memN lk k with
   | false=>rfl
   | true=>exact absurd ((memN_iff _ _).1 e3) hmj
  rcases hR.wr k p hl hlk' hp with h | h
  ·exact hnm (e ▸ h)
  ·omega
 ·-- the answer
  refine RA.seen (fun c hc y hy=>?_) hRA
  have hok:=hrok c hc
  cases c with
  | v x=>exact hy
  | nil=>exact hy
  | arr l=>exact hy
  | ro τ l=>
   -- only an answer that is not fresh bears one
   exact hro (hstill (.inl hok)) _ y rfl hy
  | rol τ ls=>exact hro (hstill (.inl hok)) _ y rfl hy
  | un=>trivial
  | ow k=>
   obtain ⟨A,n,c,τ,rfl,hs,hh⟩:=hy
   have hk:lkp obs k≠none:=hok
   refine ⟨A,n,c,τ,rfl,?_,?_⟩
   ·cases e2:lkp obs k with
    | none=>exact absurd e2 hk
    | some ob=>
     simp only [skel,lkp_append,e2] at hs ⊢
     exact hs
   ·unfold Hd at *
    rw [hμn k hk]; exact hh
  | _=>exact hok.elim
end
end Go.Ev
