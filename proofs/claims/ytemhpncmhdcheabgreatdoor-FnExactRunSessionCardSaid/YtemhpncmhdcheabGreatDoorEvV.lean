/- Arguments of any plain shape,opened: what came in reads as the evaluator wants it. No statement is proved here. -/
import Derived.Test.YtemhpncmhdcheabGreatDoorEvU
import Derived.Deep.Slices
import Derived.WideShapes
namespace Go.Ev
set_option linter.unusedVariables false
set_option linter.unusedSimpArgs false
open Go
inductive Sh where
 | sc (k:Ty)
 | sl (τ:Ty)
inductive PSh where
 | c (s:Sh)
 | agg (l:List Sh)
def ScOK (P:Program) (t:TypeId):Ty→Prop
 | .int=>P.underlying t=some (.int .i64)∧P.cellsOf t=1
 | .u8=>P.underlying t=some (.int .u8)∧P.cellsOf t=1
 | .bool=>P.underlying t=some .bool∧P.cellsOf t=1
 | .str=>P.underlying t=some .string∧P.cellsOf t=1
 | _=>False
def Ty.parts:Ty→Option (List Ty)
 | .ii=>some [.int,.int]
 | .iii=>some [.int,.int,.int]
 | .iib=>some [.int,.int,.bool]
 | _=>none
def FsOK (P:Program) (fs:Array Field):Nat→List Ty→Prop
 | _,[]=>True
 | i,k :: l=>(∃ f,fs[i]?=some f∧f.offset=i∧ScOK P f.type k)∧FsOK P fs (i+1) l
def ElOK (P:Program) (e:TypeId) (τ:Ty):Prop:=match τ.parts with
 | none=>ScOK P e τ
 | some l=>∃ fs,P.underlying e=some (.struct fs)∧P.cellsOf e=l.length∧FsOK P fs 0 l
def ShOK (P:Program) (t:TypeId):Sh→Prop
 | .sc k=>ScOK P t k
 | .sl τ=>∃ e,P.underlying t=some (.slice e)∧P.cellsOf t=1∧ElOK P e τ
def FssOK (P:Program) (fs:Array Field):Nat→List Sh→Prop
 | _,[]=>True
 | i,s :: l=>(∃ f,fs[i]?=some f∧f.offset=i∧P.cellsOf f.type=1∧ShOK P f.type s)∧FssOK P fs (i+1) l
def PShOK (P:Program) (t:TypeId):PSh→Prop
 | .c s=>ShOK P t s
 | .agg l=>∃ fs,P.underlying t=some (.struct fs)∧P.cellsOf t=l.length∧FssOK P fs 0 l
def Ty.inr:(τ:Ty)→τ.D→Prop
 | .int,x=>InR x
 | .bool,_=>True
 | .u8,x=>0≤x∧x≤255
 | .str,x=>x.size≤maxLen
 | .ii,x=>InR x.1∧InR x.2
 | .iii,x=>InR x.1∧InR x.2.1∧InR x.2.2
 | .iib,x=>InR x.1∧InR x.2.1
 | .hd,_=>True
def CIs:Sh→C→Prop
 | .sc .int,c=>∃ n,c=.v (.int .i64 n)∧InR n
 | .sc .u8,c=>∃ n,c=.v (.int .u8 n)∧0≤n∧n≤255
 | .sc .bool,c=>∃ b,c=.v (.bool b)
 | .sc .str,c=>∃ s,c=.v (.string s)∧s.size≤maxLen
 | .sc _,_=>False
 | .sl τ,c=>∃ l,c=.ro τ l∧l.length≤maxLen∧∀ x∈l,τ.inr x
def CIss:List Sh→List C→Prop
 | [],cs=>cs=[]
 | s :: l,cs=>∃ c r,cs=c :: r∧CIs s c∧CIss l r
def PIs:PSh→A1→Prop
 | .c s,x=>∃ c,x=.c c∧CIs s c
 | .agg l,x=>∃ cs,x=.agg cs∧CIss l cs
abbrev muT:Mu:=⟨fun _=>none,fun _=>True⟩
theorem not_own (b:Nat):¬ Own (skel []) muT b:=by
 rintro (⟨k,p,hk,_⟩ | hf)
 ·exact hk rfl
 ·exact hf trivial
section
variable {H:Type} {enc:TypeId×Value→H} {P:Program} {w:World} {base:Nat} {held:Bool}
theorem inR_of {n:Int} (h:(Lit.int .i64 n).wf=true):InR n:=by
 simp [Lit.wf,IntKind.min,IntKind.max,IntKind.signed,IntKind.bits] at h
 exact ⟨by omega,by omega⟩
theorem u8_of {n:Int} (h:(Lit.int .u8 n).wf=true):0≤n∧n≤255:=by
 simp [Lit.wf,IntKind.min,IntKind.max,IntKind.signed,IntKind.bits] at h
 omega
theorem open_sc {t:TypeId} {k:Ty} (hk:ScOK P t k) {fuel:Nat} {cs:List Value} {x:DataW H×List MemPlace} (h:DataW.trod enc P w base (fun _=>true) held fuel t cs=some x) :
  ∃ v,cs=[v]∧okV v=true∧(∃ y:k.D,k.enc y=[v]∧k.inr y)∧∃ c,RC (skel []) muT w c v∧CIs (.sc k) c:=by
 cases k with
 | int=>
  obtain ⟨n,rfl,_,hw⟩:=DataW.trod_int hk.1 h
  exact ⟨_,rfl,rfl,⟨n,rfl,inR_of hw⟩,.v _,rfl,n,rfl,inR_of hw⟩
 | u8=>
  obtain ⟨n,rfl,_,hw⟩:=DataW.trod_int hk.1 h
  exact ⟨_,rfl,rfl,⟨n,rfl,u8_of hw⟩,.v _,rfl,n,rfl,u8_of hw⟩
 | bool=>
  obtain ⟨b,rfl,_⟩:=DataW.trod_bool hk.1 h
  exact ⟨_,rfl,rfl,⟨b,rfl,trivial⟩,.v _,rfl,b,rfl⟩
 | str=>
  obtain ⟨s,rfl,_,hs⟩:=DataW.trod_string hk.1 h
  exact ⟨_,rfl,rfl,⟨s,rfl,hs⟩,.v _,rfl,s,rfl,hs⟩
 | _=>exact hk.elim
theorem drop1 {cs:List Value} {i:Nat} {v:Value} (h:(cs.drop i).take 1=[v]):cs[i]?=some v:=by
 cases e:cs.drop i with
 | nil=>rw [e] at h; cases h
 | cons y r=>
  rw [e] at h
  injection h with h
  subst h
  rw [← List.head?_drop,e]; rfl
theorem cells1_of {k:Ty} {t:TypeId} (h:ScOK P t k):P.cellsOf t=1:=by
 cases k with
 | int=>exact h.2
 | u8=>exact h.2
 | bool=>exact h.2
 | str=>exact h.2
 | _=>exact h.elim
theorem open_el {e:TypeId} {τ:Ty} (hk:ElOK P e τ) {fuel:Nat} {cs:List Value} {x:DataW H×List MemPlace} (h:DataW.trod enc P w base (fun _=>true) held fuel e cs=some x) :
  ∃ y:τ.D,cs=τ.enc y∧τ.inr y:=by
 have hpart:∀ {fs:Array Field} {l:List Ty},P.underlying e=some (.struct fs)→P.cellsOf e=l.length→FsOK P fs 0 l→
   cs.length=l.length∧∀ (i:Nat) (k:Ty),l[i]?=some k→∃ (z:k.D) (v:Value),cs[i]?=some v∧k.enc z=[v]∧k.inr z:=by
  intro fs l hs hc hf
  obtain ⟨xs,n,_,_,hl,hxl,hfs⟩:=DataW.trod_struct hs h
  refine ⟨hl.trans hc,fun i k hi=>?_⟩
  have hget:∀ (l:List Ty) (i0:Nat),FsOK P fs i0 l→∀ i,l[i]?=some k→∃ f,fs[i0+i]?=some f∧f.offset=i0+i∧ScOK P f.type k:=by
   intro l
   induction l with
   | nil=>intro i0 _ i hi; simp at hi
   | cons k' l ih=>
    intro i0 hf i hi
    cases i with
    | zero=>
     simp only [List.getElem?_cons_zero,Option.some.injEq] at hi
     subst hi
     exact hf.1
    | succ i=>
     have:=ih (i0+1) hf.2 i (by simpa using hi)
     rwa [show i0+1+i=i0+(i+1) by omega] at this
  obtain ⟨f,h1,h2,h3⟩:=hget l 0 hf i hi
  rw [Nat.zero_add] at h1 h2
  have hx:=hfs i f h1
  have hlt:i < xs.length:=by rw [hxl]; exact (Array.getElem?_eq_some_iff.1 h1).1
  rw [List.getElem?_eq_getElem hlt,h2,cells1_of h3] at hx
  obtain ⟨v,e1,_,⟨z,e2,e3⟩,_⟩:=open_sc h3 hx
  exact ⟨z,v,drop1 e1,e2,e3⟩
 cases τ with
 | int=>obtain ⟨v,rfl,_,⟨y,e1,e2⟩,_⟩:=open_sc (k:=.int) hk h; exact ⟨y,e1.symm,e2⟩
 | bool=>obtain ⟨v,rfl,_,⟨y,e1,e2⟩,_⟩:=open_sc (k:=.bool) hk h; exact ⟨y,e1.symm,e2⟩
 | u8=>obtain ⟨v,rfl,_,⟨y,e1,e2⟩,_⟩:=open_sc (k:=.u8) hk h; exact ⟨y,e1.symm,e2⟩
 | str=>obtain ⟨v,rfl,_,⟨y,e1,e2⟩,_⟩:=open_sc (k:=.str) hk h; exact ⟨y,e1.symm,e2⟩
 | hd=>exact hk.elim
 | ii=>
  obtain ⟨fs,h1,h2,h3⟩:=hk
  obtain ⟨hl,hp⟩:=hpart h1 h2 h3
  obtain ⟨a,va,a1,a2,a3⟩:=hp 0 .int rfl
  obtain ⟨b,vb,b1,b2,b3⟩:=hp 1 .int rfl
  refine ⟨(a,b),?_,a3,b3⟩
  match cs,hl with
  | [x,y],_=>
   simp at a1 b1; subst a1 b1
   simp [Ty.enc] at a2 b2 ⊢
   exact ⟨a2.symm,b2.symm⟩
 | iii=>
  obtain ⟨fs,h1,h2,h3⟩:=hk
  obtain ⟨hl,hp⟩:=hpart h1 h2 h3
  obtain ⟨a,va,a1,a2,a3⟩:=hp 0 .int rfl
  obtain ⟨b,vb,b1,b2,b3⟩:=hp 1 .int rfl
  obtain ⟨c,vc,c1,c2,c3⟩:=hp 2 .int rfl
  refine ⟨(a,b,c),?_,a3,b3,c3⟩
  match cs,hl with
  | [x,y,z],_=>
   simp at a1 b1 c1; subst a1 b1 c1
   simp [Ty.enc] at a2 b2 c2 ⊢
   exact ⟨a2.symm,b2.symm,c2.symm⟩
 | iib=>
  obtain ⟨fs,h1,h2,h3⟩:=hk
  obtain ⟨hl,hp⟩:=hpart h1 h2 h3
  obtain ⟨a,va,a1,a2,a3⟩:=hp 0 .int rfl
  obtain ⟨b,vb,b1,b2,b3⟩:=hp 1 .int rfl
  obtain ⟨c,vc,c1,c2,c3⟩:=hp 2 .bool rfl
  refine ⟨(a,b,c),?_,a3,b3⟩
  match cs,hl with
  | [x,y,z],_=>
   simp at a1 b1 c1; subst a1 b1 c1
   simp [Ty.enc] at a2 b2 c2 ⊢
   exact ⟨a2.symm,b2.symm,c2.symm⟩
theorem elSize {e:TypeId} {τ:Ty} (hk:ElOK P e τ):P.cellsOf e=τ.sz:=by
 cases τ with
 | int=>exact hk.2
 | bool=>exact hk.2
 | u8=>exact hk.2
 | str=>exact hk.2
 | hd=>exact hk.elim
 | ii=>obtain ⟨_,_,h,_⟩:=hk; exact h
 | iii=>obtain ⟨_,_,h,_⟩:=hk; exact h
 | iib=>obtain ⟨_,_,h,_⟩:=hk; exact h
theorem encLen (τ:Ty) (x:τ.D):(τ.enc x).length=τ.sz:=by cases τ <;> rfl
theorem szPos (τ:Ty):0 < τ.sz:=by cases τ <;> decide
theorem open_sh {t:TypeId} {s:Sh} (hk:ShOK P t s) {fuel:Nat} {cs:List Value} {x:DataW H×List MemPlace} (h:DataW.trod enc P w base (fun _=>true) held fuel t cs=some x) :
  ∃ v c,cs=[v]∧okV v=true∧RC (skel []) muT w c v∧CIs s c:=by
 cases s with
 | sc k=>
  obtain ⟨v,h1,h2,_,c,h3,h4⟩:=open_sc hk h
  exact ⟨v,c,h1,h2,h3,h4⟩
 | sl τ=>
  obtain ⟨e,hu,_,he⟩:=hk
  rcases Deep.open_slice hu h with ⟨rfl,_⟩ | ⟨a,len,cap,m,n,D,Pl,rfl,hb,hl,hm,hmm,_,hx⟩
  ·exact ⟨_,.ro τ [],rfl,rfl,⟨none,0,0,rfl,⟨rfl,Nat.le_refl _,Nat.zero_le _,.inl ⟨rfl,rfl⟩⟩,fun h=>absurd h (by omega)⟩,[],rfl,Nat.zero_le _,fun x hx=>by cases hx⟩
  ·simp only [if_true] at hmm
   subst hmm
   have hel:∀ i,i < m→∃ y:τ.D,(∀ j z,(τ.enc y)[j]?=some z→w.cell? ((a.add (i*τ.sz)).add j)=some z)∧τ.inr y:=by
    intro i hi
    obtain ⟨cs',h1,h2⟩:=hx i hi
    obtain ⟨_,c2,c3⟩:=World.cells?_some h1
    obtain ⟨y,rfl,hy⟩:=open_el he h2
    rw [elSize he] at c3
    refine ⟨y,fun j z hz=>?_,hy⟩
    have hj:j < τ.sz:=by rw [← encLen τ y]; exact (List.getElem?_eq_some_iff.1 hz).1
    rw [c3 j hj]; exact hz
   obtain ⟨Y,hY⟩:∃ Y:Nat→τ.D,∀ i,i < m→(∀ j z,(τ.enc (Y i))[j]?=some z→w.cell? ((a.add (i*τ.sz)).add j)=some z)∧τ.inr (Y i):=
    ⟨fun i=>if h:i < m then Classical.choose (hel i h) else τ.zero,fun i hi=>by simp only [dif_pos hi]; exact Classical.choose_spec (hel i hi)⟩
   have hlen:((List.range len).map Y).length=len:=by simp
   refine ⟨_,.ro τ ((List.range len).map Y),rfl,rfl,⟨some a,len,m,rfl,⟨hlen.symm,hl,hm,.inr ⟨a,rfl,fun h0=>?_⟩⟩,fun _ b _=>not_own _⟩,_,rfl,by rw [hlen]; exact Nat.le_trans hl hm,fun x hx=>?_⟩
   ·obtain ⟨b,o,spot⟩:=a
    have h1:=(hY 0 (by omega)).1 0
    obtain ⟨z,hz⟩:∃ z,(τ.enc (Y 0))[0]?=some z:=⟨_,List.getElem?_eq_getElem (by rw [encLen]; exact szPos τ)⟩
    have hs:spot=none:=by simpa [Addr.add] using World.cell?_spot (h1 z hz)
    subst hs
    refine ⟨b,o,rfl,fun i x hx j y hy=>?_⟩
    have hi:i < len:=by
     have:=(List.getElem?_eq_some_iff.1 hx).1
     simpa using this
    rw [List.getElem?_map,List.getElem?_range hi] at hx
    injection hx with hx
    subst hx
    have:=(hY i (by omega)).1 j y hy
    have e1:∀ i,(⟨b,o,none⟩:Addr).add i=⟨b,o+i,none⟩:=fun i=>by unfold Addr.add; split <;> simp_all
    have e2:∀ o' i,(⟨b,o',none⟩:Addr).add i=⟨b,o'+i,none⟩:=fun o' i=>by unfold Addr.add; split <;> simp_all
    rw [e1,e2] at this
    exact this
   ·obtain ⟨i,hi,rfl⟩:=List.mem_map.1 hx
    have:=List.mem_range.1 hi
    exact (hY i (by omega)).2
theorem open_shs {fs:Array Field} {cs:List Value} {xs:List (DataW H×List MemPlace)} {n:Nat} (hxl:xs.length=fs.size)
  (hf:∀ (i:Nat) (f:Field),fs[i]?=some f→DataW.trod enc P w base (fun _=>true) held n f.type ((cs.drop f.offset).take (P.cellsOf f.type))=xs[i]?) :
  ∀ (l:List Sh) (i:Nat),FssOK P fs i l→i+l.length=cs.length→∃ cc,RCs (skel []) muT w cc (cs.drop i)∧CIss l cc
 | [],i,_,hi=>⟨[],by rw [List.drop_eq_nil_of_le (by simp at hi; omega)]; trivial,rfl⟩
 | s :: l,i,hk,hi=>by
  obtain ⟨⟨f,h1,h2,h3,h4⟩,hk2⟩:=hk
  obtain ⟨cc,c1,c2⟩:=open_shs hxl hf l (i+1) hk2 (by simp at hi ⊢; omega)
  have hx:=hf i f h1
  have hlt:i < xs.length:=by rw [hxl]; exact (Array.getElem?_eq_some_iff.1 h1).1
  rw [List.getElem?_eq_getElem hlt,h2,h3] at hx
  obtain ⟨v,c,e1,e2,e3,e4⟩:=open_sh h4 hx
  have hd:cs.drop i=v :: cs.drop (i+1):=by
   have hil:i < cs.length:=by simp at hi; omega
   rw [List.drop_eq_getElem_cons hil]
   have:=drop1 e1
   rw [List.getElem?_eq_getElem hil] at this
   injection this with this
   rw [this]
  exact ⟨c :: cc,by rw [hd]; exact ⟨e3,e2,c1⟩,c,cc,rfl,e4,c2⟩
theorem open_p {r:Reach} {b0:Nat} {t:TypeId} {p:PSh} (hk:PShOK P t p) {v:Value} {d:DataW H} {ps:List MemPlace} (hv:Value.okWide P w r b0 t v) (h:DataW.Trod enc P w base (fun _=>true) held t v d ps) :
  ∃ x,R1 (skel []) muT w x v∧PIs p x:=by
 obtain ⟨fuel,hf⟩:=h
 cases p with
 | c s=>
  obtain ⟨v',c,e1,e2,e3,e4⟩:=open_sh hk hf
  have hv1:v=v':=by
   have hc:v.cells.toList=[v']:=e1
   cases v with
   | agg cs=>
    exfalso
    cases s with
    | sc k=>
     cases k with
     | int=>obtain ⟨n,hn⟩:=WideShapes.okWide_int hk.1 hv; cases hn
     | u8=>obtain ⟨n,hn⟩:=WideShapes.okWide_int hk.1 hv; cases hn
     | bool=>obtain ⟨n,hn⟩:=WideShapes.okWide_bool hk.1 hv; cases hn
     | str=>obtain ⟨n,hn⟩:=WideShapes.okWide_string hk.1 hv; cases hn
     | _=>exact hk.elim
    | sl τ=>
     obtain ⟨e,hu,_⟩:=hk
     obtain ⟨_,_,_,hn⟩:=WideShapes.okWide_slice hu hv; cases hn
   | _=>simpa [Value.cells] using hc
  subst hv1
  exact ⟨.c c,e3,c,rfl,e4⟩
 | agg l=>
  obtain ⟨fs,h1,h2,h3⟩:=hk
  obtain ⟨cs,rfl,hsz⟩:=WideShapes.okWide_struct h1 hv
  obtain ⟨xs,n,_,_,hl,hxl,hfs⟩:=DataW.trod_struct h1 hf
  obtain ⟨cc,c1,c2⟩:=open_shs hxl hfs l 0 h3 (by rw [Nat.zero_add,hl,h2])
  exact ⟨.agg cc,⟨cs,rfl,by simpa [Value.cells] using c1⟩,cc,rfl,c2⟩
end
end Go.Ev
namespace Go.Proofs.YtemhpncmhdcheabGreatDoor
open Go.RowKit
open Go.Ev in
theorem law_any {f:FuncId} {C:Con} (hH:Holds Tryz.prog f C) (hrd:allRd C.mu=true) {vals:List Value} {vs:List A1} {w:World} (hlen:C.mu.length=vs.length) (h:R1s (skel []) muT w vs vals) (hG:GLm (fun _=>False) w)
  (hF:C.F vs (fun r _=>r=.one (.c (.v (.bool true))))):Calls Tryz.prog f vals.toArray w (Law w):=by
 have hmut:∀ x,mutA C.mu vs≠some x:=fun x e=>by rw [allRd_none hrd] at e; cases e
 have hO:entO C.mu vs=[]:=by unfold entO; rw [allRd_none hrd]
 have hpre:Pre C vs vals w muT (fun _=>False):=by
  refine ⟨hlen,allRd_one hrd,?_,?_,?_,?_,⟨fun b _=>trivial,hG⟩,fun m a e=>absurd e (hmut _),fun k _ p h=>(by cases h)⟩
  ·rw [hO,entA_rd hrd hlen]; exact h
  ·intro k ob e; rw [hO] at e; cases e
  ·intro k k' p p' e; rw [hO] at e; exact absurd rfl e
  ·intro k p e; rw [hO] at e; exact absurd rfl e
 refine (hH _ _ hF 0 w _ _ _ (by omega) hpre).mono fun e w' hpost=>?_
 obtain ⟨r,bs,v,μ1,no,rfl,rfl,hfr,_,_,_,_,_,hra,_⟩:=hpost
 have hv:v=.bool true:=by
  cases hfresh:C.fresh with
  | false=>rw [hfresh] at hra; exact hra
  | true=>rw [hfresh] at hra; exact hra
 subst hv
 exact ⟨rfl,hfr.os,hfr.tape,hfr.output,hfr.size,fun k hk=>hfr.blk k hk fun h=>h⟩
end Go.Proofs.YtemhpncmhdcheabGreatDoor
