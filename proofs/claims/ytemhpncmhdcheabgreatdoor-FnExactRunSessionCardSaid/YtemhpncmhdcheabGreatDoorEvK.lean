/- A call: what is so when the function is entered. No statement is proved here. -/
import Derived.Test.YtemhpncmhdcheabGreatDoorEvJ
namespace Go.Ev
set_option linter.unusedVariables false
set_option linter.unusedSimpArgs false
open Go
def kapM (ms:List Md) (av:List A1) (e:Nat):Option Nat:=match mutA ms av with
 | some (_,a)=>kap a e
 | none=>none
def muc (S:Sk) (μ:Mu) (w:World) (ms:List Md) (av:List A1):Mu:=
 ⟨fun e=>match kapM ms av e with
  | some k=>μ k
  | none=>none,fun b=>w.heap.size≤b∨¬ Own S μ b∨(∃ k∈stillKeys ms av,∃ p,S k≠none∧μ k=some p∧p.1=b)∨∃ k∈mvKeys ms av,∃ p,S k≠none∧μ k=some p∧p.1=b⟩
def Mc (S:Sk) (μ:Mu) (ms:List Md) (av:List A1) (b:Nat):Prop:=∃ k∈mutKeys ms av,∃ p,S k≠none∧μ k=some p∧p.1=b
theorem mutA_args {o:List (Nat×OB)}:∀ {ms:List Md} {ps:List PT} {av vs:List A1},args1 o ps av=some vs→(∀ m a,mutA ms av=some (m,a)→∃ pt v,mutA ms vs=some (m,v)∧arg1 o pt a=some v)∧(mutA ms av=none→mutA ms vs=none)
 | [],_,av,vs,_=>⟨fun m a h=>(by simp [mutA] at h),fun _=>(by simp [mutA])⟩
 | m0 :: ms,[],[],vs,h=>by
  injection h with h; subst h
  cases m0 <;> exact ⟨fun m a h=>(by simp [mutA] at h),fun _=>rfl⟩
 | m0 :: ms,t :: ts,a0 :: av,vs,h=>by
  unfold args1 at h
  split at h
  ·rename_i v0 l h1 h2
   injection h with h; subst h
   have ih:=mutA_args (ms:=ms) h2
   cases m0 with
   | rd=>exact ⟨fun m a h=>ih.1 m a h,fun h=>ih.2 h⟩
   | mu=>exact ⟨fun m a h=>(by injection h with h; injection h with e1 e2; subst e1; subst e2; exact ⟨t,v0,rfl,h1⟩),fun h=>by cases h⟩
   | mv=>exact ⟨fun m a h=>(by injection h with h; injection h with e1 e2; subst e1; subst e2; exact ⟨t,v0,rfl,h1⟩),fun h=>by cases h⟩
  ·cases h
 | _ :: _,[],_ :: _,_,h=>by cases h
 | _ :: _,_ :: _,[],_,h=>by cases h
theorem args1_len {o:List (Nat×OB)}:∀ {ps:List PT} {av vs:List A1},args1 o ps av=some vs→vs.length=av.length
 | [],[],vs,h=>by injection h with h; subst h; rfl
 | t :: ts,a0 :: av,vs,h=>by
  unfold args1 at h
  split at h
  ·rename_i v0 l h1 h2
   injection h with h; subst h
   simp [args1_len h2]
  ·cases h
 | [],_ :: _,_,h=>by cases h
 | _ :: _,[],_,h=>by cases h
section
variable {P:Program} {T:Tab} {N:Nat} {w0:World} {M:Nat→Prop} {W:Wd} {lk:List Nat} {μ:Mu} {st:St} {a:Act} {w:World}
theorem arg1_rd {S S0:Sk} {μ0:Mu} {o:List (Nat×OB)} (hrow:∀ k τ (l:List τ.D),lkp o k=some (.row τ l)→S k=some (.row τ l.length)∧RO S μ w k (.row τ l)) {pt:PT} {x v:A1} {y:Value} (h:R1 S μ w x y) (ha:arg1 o pt x=some v)
  (hS:∀ b,b < w.heap.size→(¬ Own S μ b∨∃ k∈keys1 x,∃ p,S k≠none∧μ k=some p∧p.1=b)→¬ Own S0 μ0 b) (hp:∀ k j,x≠.c (.pb k j)):R1 S0 μ0 w v y:=by
 unfold arg1 at ha
 split at ha
 ·split at ha
  ·rename_i c' hc
   injection ha with ha; subst ha
   exact argC_ok hrow h hc hS
  ·cases ha
 ·split at ha
  ·rename_i l' hc
   injection ha with ha; subst ha
   obtain ⟨vs,rfl,hh⟩:=h
   exact ⟨vs,rfl,argCs_ok hrow hh hc hS⟩
  ·cases ha
 ·exact absurd rfl (hp _ _)
 ·cases ha
theorem noPb_tail {m:Md} {ms:List Md} {x:A1} {av:List A1} (h:noPb (m :: ms) (x :: av)=true):noPb ms av=true:=by
 cases m with
 | rd=>
  cases x with
  | c x=>cases x <;> first | exact h | (cases h; done)
  | agg l=>exact h
  | ptr l=>exact h
 | mu=>exact h
 | mv=>exact h
theorem noPb_rd {ms:List Md} {x:A1} {av:List A1} (h:noPb (.rd :: ms) (x :: av)=true) (k j:Nat):x≠.c (.pb k j):=by
 intro e; subst e; cases h
theorem allRd_one:∀ {ms:List Md},allRd ms=true→oneMut ms=true
 | [],_=>rfl
 | .rd :: ms,h=>allRd_one (ms:=ms) h
 | .mu :: ms,h=>by cases h
 | .mv :: ms,h=>by cases h
theorem allRd_none:∀ {ms:List Md} {av:List A1},allRd ms=true→mutA ms av=none
 | [],_,_=>by simp [mutA]
 | .rd :: ms,[],_=>by simp [mutA]
 | .rd :: ms,x :: av,h=>allRd_none (ms:=ms) (av:=av) h
 | .mu :: ms,_,h=>by cases h
 | .mv :: ms,_,h=>by cases h
theorem args_in {S0:Sk} {μ0:Mu} (hR:RepM N w0 M W lk μ st a w):∀ {ms:List Md} {ps:List PT} {av vs:List A1} {vals:List Value},oneMut ms=true→ms.length=av.length→R1s (skel st.o) μ w av vals→args1 st.o ps av=some vs→
  (∀ b,b < w.heap.size→(¬ Own (skel st.o) μ b∨∃ k∈stillKeys ms av,∃ p,skel st.o k≠none∧μ k=some p∧p.1=b)→¬ Own S0 μ0 b)→
  (∀ m x v y pt,mutA ms av=some (m,x)→mutA ms vs=some (m,v)→arg1 st.o pt x=some v→R1 (skel st.o) μ w x y→R1 S0 μ0 w (entK v).1 y)→
  noPb ms av=true→R1s S0 μ0 w (entA ms vs) vals:=by
 intro ms
 induction ms with
 | nil=>
  intro ps av vs vals _ hl h ha _ _ _
  cases av with
  | cons a av=>simp at hl
  | nil=>
   cases ps with
   | cons t ts=>cases ha
   | nil=>injection ha with ha; subst ha; cases vals with
    | nil=>trivial
    | cons y ys=>exact h.elim
 | cons m0 ms ih=>
  intro ps av vs vals ho hl h ha hS hm hpb
  cases av with
  | nil=>simp at hl
  | cons x av=>
   cases ps with
   | nil=>cases ha
   | cons t ts=>
    cases vals with
    | nil=>exact h.elim
    | cons y ys=>
     unfold args1 at ha
     split at ha
     ·rename_i v0 l h1 h2
      injection ha with ha; subst ha
      have hl':ms.length=av.length:=by simpa using hl
      cases m0 with
      | rd=>
       exact ⟨arg1_rd (rows_of hR) h.1 h1 (fun b hb hh=>hS b hb (hh.imp id fun ⟨k,hk,r⟩=>⟨k,by simp [stillKeys,hk],r⟩)) (fun k j e=>absurd e (noPb_rd hpb k j)),ih ho hl' h.2 h2 (fun b hb hh=>hS b hb (hh.imp id fun ⟨k,hk,r⟩=>⟨k,by simp [stillKeys,hk],r⟩)) hm (noPb_tail hpb)⟩
      | mu=>
       have hall:allRd ms=true:=ho
       exact ⟨hm .mu x v0 y t rfl rfl h1 h.1,ih (allRd_one hall) hl' h.2 h2 (fun b hb hh=>hS b hb hh) (fun m x v y pt e=>by rw [allRd_none hall] at e; cases e) (noPb_tail hpb)⟩
      | mv=>
       have hall:allRd ms=true:=ho
       exact ⟨hm .mv x v0 y t rfl rfl h1 h.1,ih (allRd_one hall) hl' h.2 h2 (fun b hb hh=>hS b hb hh) (fun m x v y pt e=>by rw [allRd_none hall] at e; cases e) (noPb_tail hpb)⟩
     ·cases ha
theorem one_get {x c:C} {i:Nat} (h:[x][i]?=some c):i=0∧c=x:=by
 cases i with
 | zero=>simp at h; exact ⟨rfl,h.symm⟩
 | succ i=>simp at h
theorem mutOK_parts {ms:List Md} {av:List A1} (h:mutOK lk ms av=true):mutWhole ms av=true∧(∀ k∈mutKeys ms av,k ∉ lk)∧(mutKeys ms av).Nodup∧(∀ k∈stillKeys ms av,k ∉ mutKeys ms av)∧oneMut ms=true∧ms.length=av.length∧noPb ms av=true:=by
 unfold mutOK at h
 split at h
 ·rename_i h1 h2 h3 h4 h5 h6 h7
  exact ⟨h1,(noneIn_iff _ _).1 h2,(distinctN_iff _).1 h3,(noneIn_iff _ _).1 h4,h5,Nat.eq_of_beq_eq_true h6,h7⟩
 ·cases h
theorem arg1_cells {o:List (Nat×OB)} {pt:PT} {x v:A1} (h:arg1 o pt x=some v) (hw:whole1 x=true) :
  (∃ k l ts l',x=.c (.pb k 0)∧lkp o k=some (.box l)∧argCs [] ts l=some l'∧v=.ptr l')∨
  (∃ ts,argCs o ts (cells1 x)=some (cells1 v)∧wholeCs (cells1 x)=true∧((∃ c c',x=.c c∧v=.c c')∨∃ l l',x=.agg l∧v=.agg l')):=by
 unfold arg1 at h
 split at h
 ·rename_i t c
  split at h
  ·rename_i c' hc
   injection h with h; subst h
   refine .inr ⟨[t],by simp [cells1,argCs,hc],?_,.inl ⟨c,c',rfl,rfl⟩⟩
   cases c with
   | pb k j=>
    simp [argC,deepC] at hc
   | _=>simp only [whole1,cells1,wholeCs] at hw ⊢; rw [hw]
  ·cases h
 ·rename_i ts l
  split at h
  ·rename_i l' hc
   injection h with h; subst h
   exact .inr ⟨ts,hc,hw,.inr ⟨l,l',rfl,rfl⟩⟩
  ·cases h
 ·rename_i ts k
  split at h
  ·rename_i l hl
   split at h
   ·rename_i l' hc
    injection h with h; subst h
    exact .inl ⟨k,l,ts,l',rfl,hl,hc,rfl⟩
   ·cases h
  ·cases h
 ·cases h
theorem mutKeys_of {ms:List Md} {av:List A1} {m:Md} {x:A1} (h:mutA ms av=some (m,x)):mutKeys ms av=keys1 x:=by simp [mutKeys,h]
theorem keys1_cells (x:A1):keys1 x=keysCs (cells1 x):=by cases x <;> simp [keys1,cells1,keysCs]
theorem pre_ok (hR:RepM N w0 M W lk μ st a w) {C:Con} {av vs:List A1} {vals:List Value} (hav:R1s (skel st.o) μ w av vals) (hvs:args1 st.o C.ps av=some vs) (hok:mutOK lk C.mu av=true) (hf:needFrz C av=false) :
  Pre C vs vals w (muc (skel st.o) μ w C.mu av) (Mc (skel st.o) μ C.mu av):=by
 obtain ⟨hw,hlk,hnd,hst,hone,hlen,hpb⟩:=mutOK_parts hok
 obtain ⟨hm1,hm2⟩:=mutA_args (ms:=C.mu) hvs
 -- what an entry key is
 have hkey:∀ e ob,lkp (entO C.mu vs) e=some ob→∃ m x v pt,mutA C.mu av=some (m,x)∧mutA C.mu vs=some (m,v)∧arg1 st.o pt x=some v∧lkp (entK v).2 e=some ob:=by
  intro e ob h
  cases hma:mutA C.mu av with
  | none=>rw [entO,hm2 hma] at h; cases h
  | some mx=>
   obtain ⟨m,x⟩:=mx
   obtain ⟨pt,v,h1,h2⟩:=hm1 m x hma
   rw [entO,h1] at h
   exact ⟨m,x,v,pt,rfl,h1,h2,h⟩
 have hwx:∀ m x,mutA C.mu av=some (m,x)→whole1 x=true:=fun m x h=>by simpa [mutWhole,h] using hw
 -- an entry key that lies somewhere stands for a key of ours
 have hmap:∀ e p,muc (skel st.o) μ w C.mu av e=some p→∃ k,kapM C.mu av e=some k∧μ k=some p∧k∈mutKeys C.mu av∧skel st.o k≠none:=by
  intro e p hp
  simp only [muc] at hp
  split at hp
  ·rename_i k hk
   refine ⟨k,hk,hp,?_⟩
   cases e1:mutA C.mu av with
   | none=>simp [kapM,e1] at hk
   | some mx=>
    obtain ⟨m,x⟩:=mx
    obtain ⟨pt,v,e2,e3⟩:=hm1 m x e1
    simp only [kapM,e1,kap] at hk
    obtain ⟨j,c,h1,h2,h3⟩:=kapL_inv hk
    have hkc:k∈keyC c:=by cases c <;> simp [kapC] at h3 <;> simp [keyC,h3]
    refine ⟨by rw [mutKeys_of e1,keys1_cells]; exact keysCs_mem h2 hkc,fun hdead=>?_⟩
    rcases arg1_cells e3 (hwx m x e1) with ⟨k',l,ts,l',rfl,hl,hcs,rfl⟩ | ⟨ts,hcs,hwc,_⟩
    ·obtain ⟨_,rfl⟩:=one_get h2
     simp [kapC] at h3; subst h3
     exact skel_ne hl hdead
    ·have hwc':=wholeCs_get hwc h2
     have hlt:j < (cells1 v).length:=by rw [argCs_len hcs]; exact (List.getElem?_eq_some_iff.1 h2).1
     obtain ⟨t,c2,a1,a2⟩:=argCs_get hcs (List.getElem?_eq_getElem hlt)
     rw [h2] at a1; injection a1 with a1; subst a1
     rcases whole_arg hwc' a2 with ⟨x,rfl,_⟩ | ⟨rfl,_⟩ | ⟨k2,τ,l,rfl,hl,_⟩ | ⟨rfl,_⟩
     ·simp [kapC] at h3
     ·simp [kapC] at h3
     ·simp [kapC] at h3; subst h3; exact skel_ne hl hdead
     ·simp [kapC] at h3
  ·cases hp
 -- nothing that is read lies where something may be changed
 have hsep:∀ b,b < w.heap.size→(¬ Own (skel st.o) μ b∨∃ k∈stillKeys C.mu av,∃ p,skel st.o k≠none∧μ k=some p∧p.1=b)→¬ Own (skel (entO C.mu vs)) (muc (skel st.o) μ w C.mu av) b:=by
  rintro b hb hh (⟨e,p,hs,hp,rfl⟩ | hfo)
  ·obtain ⟨k,_,hm,hk,hl⟩:=hmap e p hp
   rcases hh with hno | ⟨k',hk',p',hl',hm',e'⟩
   ·exact hno (.inl ⟨k,p,hl,hm,rfl⟩)
   ·have:=hR.inj k k' p p' hl hl' hm hm' e'.symm
    subst this
    exact hst k hk' hk
  ·exact hfo (hh.elim (fun h=>.inr (.inl h)) fun h=>.inr (.inr (.inl h)))
 -- the entered cells
 have hS0:∀ m x v pt,mutA C.mu av=some (m,x)→mutA C.mu vs=some (m,v)→arg1 st.o pt x=some v→∀ j τ (l:List τ.D),(∀ l2,v≠.ptr l2)→(cells1 v)[j]?=some (.ro τ l)→
   skel (entO C.mu vs) (100000+j)=some (.row τ l.length)∧muc (skel st.o) μ w C.mu av (100000+j)=match (cells1 x)[j]? with
    | some (.ow k)=>μ k
    | _=>none:=by
  intro m x v pt e1 e2 e3 j τ l hnp hj
  rcases arg1_cells e3 (hwx m x e1) with ⟨k,l,ts,l',rfl,hl,hcs,rfl⟩ | ⟨ts,hcs,hwc,hshape⟩
  ·exact absurd rfl (hnp _)
  refine ⟨?_,?_⟩
  ·simp only [skel,entO,e2,entK_obs v hnp,lkp_entCs_at hj,Option.map_some,OB.sk]
  ·simp only [muc,kapM,e1,kap,kapL_at]
   obtain ⟨t,c,a1,a2⟩:=argCs_get hcs hj
   rw [a1]
   rcases whole_arg (wholeCs_get hwc a1) a2 with ⟨x,rfl,_⟩ | ⟨rfl,_⟩ | ⟨k2,τ,l,rfl,hl,_⟩ | ⟨rfl,_⟩ <;> rfl
 refine ⟨by rw [hlen,args1_len hvs],hone,?_,?_,?_,?_,⟨fun b hb=>.inl hb,hR.up.2.keep hR.fr fun b ⟨k,hk,p,h1,h2,h3⟩=>h3 ▸ hR.wr k p h1 (memN_no (hlk k hk)) h2⟩,fun m v e2 c hc=>?_,fun k hk p hp=>?_⟩
 ·-- the arguments
  refine args_in hR hone hlen hav hvs hsep (fun m x v y pt e1 e2 e3 hx=>?_) hpb
  rcases arg1_cells e3 (hwx m x e1) with ⟨k,l,ts,l',rfl,hl,hcs,rfl⟩ | ⟨ts,hcs,hwc,hshape⟩
  ·obtain ⟨g,o,s,hs,hm,rfl⟩:=hx
   refine ⟨g,o,s,?_,?_,rfl⟩
   ·simp [skel,entO,e2,entK,lkp,OB.sk]
   ·have h1:kapM C.mu av 100000=some k:=by
     simp only [kapM,e1,kap]
     exact kapL_at (cs:=[Go.Ev.C.pb k 0]) (k0:=100000) (j:=0)
    simp only [muc,h1,hm]
  ·have hnp:∀ l2,v≠.ptr l2:=by
    rintro l2 rfl
    rcases hshape with ⟨c,c',_,h⟩ | ⟨l,l',_,h⟩ <;> cases h
   have hrow:=fun k τ (l:List τ.D) (h:lkp st.o k=some (.row τ l))=>skel_of h
   rcases hshape with ⟨c,c',rfl,rfl⟩ | ⟨l,l',rfl,rfl⟩
   ·by_cases hv:okV y=true
    ·have:=ent_RCs (S:=skel st.o) (S0:=skel (entO C.mu vs)) (μ0:=muc (skel st.o) μ w C.mu av) (w:=w) (k0:=100000) hrow (cs:=[c]) (ys:=[y]) ⟨hx,hv,trivial⟩ hcs hwc (fun j τ l hj=>hS0 m _ _ pt e1 e2 e3 j τ l hnp hj)
     exact this.1
    ·-- a value of no cell: it is exact
     have hcc:∃ t,argC st.o t c=some c':=by
      obtain ⟨t,c2,a1,a2⟩:=argCs_get (j:=0) hcs rfl
      simp [cells1] at a1; subst a1; exact ⟨t,a2⟩
     obtain ⟨t,hcc⟩:=hcc
     have hwc0:wholeC c=true:=wholeCs_get (j:=0) hwc rfl
     rcases whole_arg hwc0 hcc with ⟨x,rfl,rfl⟩ | ⟨rfl,τ,rfl⟩ | ⟨k2,τ,l,rfl,hl,rfl⟩ | ⟨rfl,τ,rfl⟩
     ·exact hx
     ·have hx':y=.slice none 0 0:=hx
      subst hx'; exact absurd rfl hv
     ·obtain ⟨A,n,c,σ,rfl,_⟩:=hx
      exact absurd rfl hv
     ·have hx':y=.slice none 0 0:=hx
      subst hx'; exact absurd rfl hv
   ·obtain ⟨vs',rfl,hh⟩:=hx
    exact ⟨vs',rfl,ent_RCs hrow hh hcs hwc (fun j τ l hj=>hS0 m _ _ pt e1 e2 e3 j τ l hnp hj)⟩
 ·-- what it owns
  intro e ob ho
  obtain ⟨m,x,v,pt,e1,e2,e3,e4⟩:=hkey e ob ho
  rcases arg1_cells e3 (hwx m x e1) with ⟨k,l,ts,l',rfl,hl,hcs,rfl⟩ | ⟨ts,hcs,hwc,hshape⟩
  ·simp only [entK,lkp] at e4
   split at e4
   ·rename_i hbeq
    have he:100000=e:=Nat.eq_of_beq_eq_true hbeq
    injection e4 with e4; subst e4
    obtain ⟨g,o,s,cur,ty,hm,hh,hsz,hle,hr⟩:=hR.ob k _ hl
    refine ⟨g,o,s,cur,ty,?_,hh,hsz,by rw [argCs_len hcs]; exact hle,?_⟩
    ·have h1:kapM C.mu av e=some k:=by
      rw [← he]
      simp only [kapM,e1,kap]
      exact kapL_at (cs:=[Go.Ev.C.pb k 0]) (k0:=100000) (j:=0)
     simp only [muc,h1,hm]
    ·rw [argCs_len hcs]
     refine argCs_ok (o:=[]) (fun k τ l h=>by cases h) hr hcs fun b hb hh=>?_
     refine hsep b hb (hh.imp id fun ⟨k',hk',r⟩=>?_)
     -- the cells bear no key
     exfalso
     obtain ⟨j,c,hc,hkc⟩:=keysCs_inv hk'
     have hlt:j < l'.length:=by rw [argCs_len hcs]; exact (List.getElem?_eq_some_iff.1 hc).1
     obtain ⟨t,c2,a1,a2⟩:=argCs_get hcs (List.getElem?_eq_getElem hlt)
     rw [hc] at a1; injection a1 with a1; subst a1
     cases c with
     | cl f cs=>
      simp only [keyC] at hkc
      simp only [argC,deepC] at a2
      cases hck:capKeys cs with
      | nil=>rw [hck] at hkc; cases hkc
      | cons q qs=>rw [hck] at a2; simp at a2
     | _=>simp [keyC] at hkc <;> simp [argC,deepC,lkp] at a2
   ·cases e4
  ·have hnp:∀ l2,v≠.ptr l2:=by
    rintro l2 rfl
    rcases hshape with ⟨c,c',_,h⟩ | ⟨l,l',_,h⟩ <;> cases h
   rw [entK_obs v hnp] at e4
   obtain ⟨j,τ,l,rfl,hj,rfl⟩:=lkp_entCs_inv e4
   obtain ⟨_,s2⟩:=hS0 m x v pt e1 e2 e3 j τ l hnp hj
   obtain ⟨t,c,a1,a2⟩:=argCs_get hcs hj
   rw [a1] at s2
   rcases whole_arg (wholeCs_get hwc a1) a2 with ⟨x,rfl,h⟩ | ⟨rfl,τ',h⟩ | ⟨k2,τ',l2,rfl,hl,h⟩ | ⟨rfl,τ',h⟩
   rotate_left 3
   ·cases h
   ·cases h
   ·cases h; exact .inl ⟨s2,rfl⟩
   ·cases h
    rcases hR.ob k2 _ hl with ⟨b1,b2⟩ | ⟨g,o,s,cur,ty,b1,b2⟩
    ·exact .inl ⟨s2.trans b1,b2⟩
    ·exact .inr ⟨g,o,s,cur,ty,s2.trans b1,b2⟩
 ·intro e e' p p' hs hs' hp hp' heq
  obtain ⟨k,k1,k2,k3,k4⟩:=hmap e p hp
  obtain ⟨k',k1',k2',k3',k4'⟩:=hmap e' p' hp'
  have:=hR.inj k k' p p' k4 k4' k2 k2' heq
  subst this
  cases hma:mutA C.mu av with
  | none=>simp [kapM,hma] at k1
  | some mx=>
   obtain ⟨m,x⟩:=mx
   simp only [kapM,hma,kap] at k1 k1'
   rw [mutKeys_of hma,keys1_cells] at hnd
   obtain ⟨j,c,rfl,hc,h1⟩:=kapL_inv k1
   obtain ⟨j',c',rfl,hc',h1'⟩:=kapL_inv k1'
   have h2:k∈keyC c:=by cases c <;> simp [kapC] at h1 <;> simp [keyC,h1]
   have h2':k∈keyC c':=by cases c' <;> simp [kapC] at h1' <;> simp [keyC,h1']
   rw [keys_inj hnd hc hc' h2 h2']
 ·intro e p hs hp
  obtain ⟨k,k1,k2,k3,k4⟩:=hmap e p hp
  exact ⟨k,k3,p,k4,k2,rfl⟩
 ·cases e1:mutA C.mu av with
  | none=>rw [hm2 e1] at e2; cases e2
  | some mx=>
   obtain ⟨m',x⟩:=mx
   obtain ⟨pt,v',e2',e3⟩:=hm1 m' x e1
   rw [e2] at e2'
   injection e2' with e2'; injection e2' with _ e2'; subst e2'
   have hcs:∃ o ts cs,argCs o ts cs=some (cells1 v):=by
    rcases arg1_cells e3 (hwx m' x e1) with ⟨k,l,ts,l',rfl,hl,hcs,rfl⟩ | ⟨ts,hcs,_,_⟩
    ·exact ⟨_,_,_,hcs⟩
    ·exact ⟨_,_,_,hcs⟩
   obtain ⟨o,ts,cs,hcs⟩:=hcs
   obtain ⟨j,hj⟩:=List.getElem?_of_mem hc
   obtain ⟨t,c0,_,a2⟩:=argCs_get hcs hj
   exact argC_conf a2
 ·obtain ⟨k2,_,b2,b3,b4⟩:=hmap k p hp
  refine .inr (.inr (.inr ⟨k2,?_,p,b4,b2,rfl⟩))
  unfold mvEnt at hk
  split at hk
  ·rename_i x e2
   cases e1:mutA C.mu av with
   | none=>rw [hm2 e1] at e2; cases e2
   | some mx=>
    obtain ⟨m,y⟩:=mx
    obtain ⟨pt,v,e3,_⟩:=hm1 m y e1
    rw [e3] at e2; injection e2 with e2; injection e2 with e2 _; subst e2
    rw [mutKeys_of e1] at b3
    simp only [mvKeys,e1]; exact b3
  ·cases hk
end
end Go.Ev
