/- Memory: what an append,a literal,a make,a copy,a store do to rows. No statement is proved here. -/
import Derived.Test.YtemhpncmhdcheabGreatDoorEvF
import Derived.Maps.AppendAt
import Derived.ArgAppend
import Derived.Laws.OwnMore
import Derived.Laws.CopyRow
import Derived.Great.BuildSlice
namespace Go.Ev
set_option linter.unusedVariables false
set_option linter.unusedSimpArgs false
open Go
theorem okV_one {y:Value}:okV y=true↔y.oneCell'=true:=by cases y <;> simp [okV,Value.oneCell']
def flat (τ:Ty):List τ.D→List Value
 | []=>[]
 | x :: l=>τ.enc x++flat τ l
theorem flat_len (τ:Ty):∀ l:List τ.D,(flat τ l).length=l.length*τ.sz
 | []=>by simp [flat]
 | x :: l=>by simp [flat,flat_len τ l,enc_len,Nat.add_mul]; omega
theorem flat_append (τ:Ty):∀ l r:List τ.D,flat τ (l++r)=flat τ l++flat τ r
 | [],r=>rfl
 | x :: l,r=>by simp [flat,flat_append τ l r]
theorem flat_ok (τ:Ty):∀ (l:List τ.D),∀ y∈flat τ l,okV y=true
 | [],y,h=>by simp [flat] at h
 | x :: l,y,h=>by
  rcases List.mem_append.1 h with h | h
  ·exact enc_ok τ x y h
  ·exact flat_ok τ l y h
theorem flat_get (τ:Ty):∀ {l:List τ.D} {i:Nat} {x:τ.D} {j:Nat} {y:Value},l[i]?=some x→(τ.enc x)[j]?=some y→(flat τ l)[i*τ.sz+j]?=some y
 | [],i,x,j,y,h,_=>by simp at h
 | z :: l,0,x,j,y,h,h'=>by
  simp only [List.getElem?_cons_zero,Option.some.injEq] at h; subst h
  have hj:j < (τ.enc z).length:=(List.getElem?_eq_some_iff.1 h').1
  rw [flat,Nat.zero_mul,Nat.zero_add,List.getElem?_append_left hj]; exact h'
 | z :: l,i+1,x,j,y,h,h'=>by
  have h2:=flat_get τ (l:=l) (i:=i) (by simpa using h) h'
  rw [flat,List.getElem?_append_right (by rw [enc_len,Nat.add_mul]; omega),enc_len]
  rw [show (i+1)*τ.sz+j - τ.sz=i*τ.sz+j by rw [Nat.add_mul]; omega]
  exact h2
theorem rowIs_of {cur:Array Value} {o:Nat} {τ:Ty} {l:List τ.D} (h:∀ q y,(flat τ l)[q]?=some y→cur[o+q]?=some y):RowIs cur o τ l:=
 fun i x hx j y hy=>by rw [Nat.add_assoc]; exact h _ _ (flat_get τ hx hy)
theorem rowIs_flat {cur:Array Value} {τ:Ty}:∀ {l:List τ.D} {o:Nat},RowIs cur o τ l→∀ q y,(flat τ l)[q]?=some y→cur[o+q]?=some y
 | [],o,_,q,y,h=>by simp [flat] at h
 | x :: l,o,hr,q,y,h=>by
  by_cases hq:q < (τ.enc x).length
  ·rw [flat,List.getElem?_append_left hq] at h
   have:=hr 0 x rfl q y h
   simpa using this
  ·rw [flat,List.getElem?_append_right (by omega),enc_len] at h
   rw [enc_len] at hq
   have ht:RowIs cur (o+τ.sz) τ l:=fun i z hz j u hu=>by
    have:=hr (i+1) z (by simpa using hz) j u hu
    rw [show o+τ.sz+i*τ.sz+j=o+(i+1)*τ.sz+j by rw [Nat.add_mul]; omega]
    exact this
   have:=rowIs_flat ht _ _ h
   rw [show o+τ.sz+(q - τ.sz)=o+q by omega] at this
   exact this
theorem rowIs_nil (cur:Array Value) (o:Nat) (τ:Ty):RowIs cur o τ []:=fun i x h=>by simp at h
theorem rowIs_cut {cur:Array Value} {o:Nat} {τ:Ty} {l:List τ.D} (h:RowIs cur o τ l) (a n:Nat):RowIs cur (o+a*τ.sz) τ ((l.drop a).take n):=by
 intro i x hx j y hy
 rw [List.getElem?_take] at hx
 split at hx
 ·rw [List.getElem?_drop] at hx
  have:=h _ _ hx _ _ hy
  rw [show o+a*τ.sz+i*τ.sz+j=o+(a+i)*τ.sz+j by rw [Nat.add_mul]; omega]
  exact this
 ·cases hx
section
variable {P:Program} {T:Tab} {N:Nat} {w0:World} {M:Nat→Prop} {W:Wd} {lk:List Nat} {μ:Mu} {st:St} {a:Act} {w:World}
def Src (w:World) (A:Option Addr) (τ:Ty) (r:List τ.D):Prop:=
 (A=none∧r=[])∨∃ ad,A=some ad∧∀ q u,(flat τ r)[q]?=some u→w.cell? (ad.add q)=some u
theorem listA_src (hR:RepM N w0 M W lk μ st a w) {τ:Ty} {X:AV} {x:Value} {r:List τ.D} (hX:RA (skel st.o) μ w X x) (h:listA τ st.o X=some r) :
  ∃ A c,x=.slice A r.length c∧r.length≤c∧c≤maxLen∧Src w A τ r:=by
 unfold listA at h
 split at h
 ·injection h with h; subst h
  obtain rfl:=(show x=_ from hX)
  exact ⟨none,0,rfl,Nat.le_refl _,Nat.zero_le _,.inl ⟨rfl,rfl⟩⟩
 ·rename_i σ l
  obtain ⟨rfl,rfl⟩:=castL_ok2 h
  obtain ⟨A,n,c,rfl,hr,ho⟩:=hX
  obtain ⟨h1,h2,h3,h4⟩:=hr
  refine ⟨A,c,by rw [h1],by omega,h3,?_⟩
  rcases h4 with ⟨rfl,hc⟩ | ⟨ad,rfl,ha⟩
  ·exact .inl ⟨rfl,List.eq_nil_of_length_eq_zero (by omega)⟩
  ·refine .inr ⟨ad,rfl,fun q u hu=>?_⟩
   have hpos:0 < n:=by
    rcases Nat.eq_zero_or_pos n with h0 | h0
    ·have:l=[]:=List.eq_nil_of_length_eq_zero (by omega)
     subst this; simp [flat] at hu
    ·exact h0
   obtain ⟨b,o,rfl,hc⟩:=ha hpos
   rw [Addr_add]
   -- through an array of the cells
   have key:∀ {l:List σ.D} {o:Nat},(∀ i x,l[i]?=some x→∀ j y,(σ.enc x)[j]?=some y→w.cell? ⟨b,o+i*σ.sz+j,none⟩=some y)→∀ q u,(flat σ l)[q]?=some u→w.cell? ⟨b,o+q,none⟩=some u:=by
    intro l
    induction l with
    | nil=>intro o _ q u hu; simp [flat] at hu
    | cons x l ih=>
     intro o hc q u hu
     by_cases hq:q < (σ.enc x).length
     ·rw [flat,List.getElem?_append_left hq] at hu
      have:=hc 0 x rfl q u hu
      simpa using this
     ·rw [flat,List.getElem?_append_right (by omega),enc_len] at hu
      rw [enc_len] at hq
      have:=ih (o:=o+σ.sz) (fun i z hz j y hy=>by
       have:=hc (i+1) z (by simpa using hz) j y hy
       rw [show o+σ.sz+i*σ.sz+j=o+(i+1)*σ.sz+j by rw [Nat.add_mul]; omega]
       exact this) _ _ hu
      rw [show o+σ.sz+(q - σ.sz)=o+q by omega] at this
      exact this
   exact key hc q u hu
 ·rename_i k
  split at h
  ·rename_i σ l hl
   obtain ⟨rfl,rfl⟩:=castL_ok2 h
   obtain ⟨A,n,c,σ',rfl,hs,hh⟩:=hX
   have hsk:=skel_of hl
   rw [hs] at hsk
   injection hsk with hsk; injection hsk with e1 e2; subst e1; subst e2
   obtain ⟨g1,g2,g3⟩:=hh
   refine ⟨A,c,rfl,g1,g2,?_⟩
   rcases g3 with ⟨rfl,hc⟩ | ⟨g,o,s,o',hm,rfl,g4,g5⟩
   ·exact .inl ⟨rfl,List.eq_nil_of_length_eq_zero (by omega)⟩
   ·refine .inr ⟨_,rfl,fun q u hu=>?_⟩
    have hpos:0 < l.length:=by
     rcases Nat.eq_zero_or_pos l.length with h0 | h0
     ·have:l=[]:=List.eq_nil_of_length_eq_zero h0
      subst this; simp [flat] at hu
     ·exact h0
    have g6:=g5 (by omega)
    rcases hR.ob k _ hl with ⟨e,_⟩ | ⟨g',o2,s',cur,ty,hm',hh,hsz,hle,hr⟩
    ·rw [hm] at e; cases e
    ·rw [hm] at hm'
     injection hm' with hm'; injection hm' with e1 e2; injection e2 with e2 e3; subst e1; subst e2; subst e3
     rw [Addr_add,cell_of_heap hh,g6,Nat.zero_mul,Nat.add_zero]
     exact rowIs_flat hr q u hu
  ·cases h
 ·rename_i k off n
  split at h
  ·rename_i σ l hl
   split at h
   ·rename_i l' hl'
    obtain ⟨rfl,rfl⟩:=castL_ok2 hl'
    injection h with h; subst h
    obtain ⟨A,c,σ',m,rfl,hs,hm',_,hh⟩:=hX
    have hsk:=skel_of hl
    rw [hs] at hsk
    injection hsk with hsk; injection hsk with e1 e2; subst e1; subst e2
    obtain ⟨g1,g2,g3⟩:=hh
    have hlen:((l.drop off).take n).length=n:=by simp; omega
    refine ⟨A,c,by rw [hlen],by omega,g2,?_⟩
    rcases g3 with ⟨rfl,hc⟩ | ⟨g,o,s,o',hm,rfl,g4,g5⟩
    ·exact .inl ⟨rfl,List.eq_nil_of_length_eq_zero (by omega)⟩
    ·refine .inr ⟨_,rfl,fun q u hu=>?_⟩
     have hpos:0 < n:=by
      rcases Nat.eq_zero_or_pos n with h0 | h0
      ·subst h0; simp [flat] at hu
      ·exact h0
     have g6:=g5 (by omega)
     rcases hR.ob k _ hl with ⟨e,_⟩ | ⟨g',o2,s',cur,ty,hm',hh,hsz,hle,hr⟩
     ·rw [hm] at e; cases e
     ·rw [hm] at hm'
      injection hm' with hm'; injection hm' with e1 e2; injection e2 with e2 e3; subst e1; subst e2; subst e3
      rw [Addr_add,cell_of_heap hh,g6]
      exact rowIs_flat (rowIs_cut hr off n) q u hu
   ·cases h
  ·cases h
 ·cases h
theorem base_ok (hR:RepM N w0 M W lk μ st a w) {τ:Ty} {X:AV} {x:Value} {l:List τ.D} {b:Option Nat} (hX:RA (skel st.o) μ w X x) (h:listA τ st.o X=some l) (hb:baseK lk X=some b) :
  ∃ A c,x=.slice A l.length c∧l.length≤c∧c≤maxLen∧((A=none∧c=0∧l=[])∨
   ∃ k g o s o' cur ty,b=some k∧k < 100000∧skel st.o k≠none∧memN lk k=false∧μ k=some (g,o,s)∧w.heap[g]?=some (.cells cur ty (0,0))∧cur.size=s∧A=some ⟨g,o',none⟩∧o'+c*τ.sz≤s∧RowIs cur o' τ l):=by
 unfold listA at h
 split at h
 ·injection h with h; subst h
  obtain rfl:=(show x=_ from hX)
  exact ⟨none,0,rfl,Nat.le_refl _,Nat.zero_le _,.inl ⟨rfl,rfl,rfl⟩⟩
 ·cases hb
 ·rename_i k
  simp only [baseK] at hb
  split at hb
  rotate_left
  ·cases hb
  rename_i hlk h100
  have h100':k < 100000:=by simpa using h100
  injection hb with hb; subst hb
  split at h
  ·rename_i σ l hl
   obtain ⟨rfl,rfl⟩:=castL_ok2 h
   obtain ⟨A,n,c,σ',rfl,hs,hh⟩:=hX
   have hsk:=skel_of hl
   rw [hs] at hsk
   injection hsk with hsk; injection hsk with e1 e2; subst e1; subst e2
   obtain ⟨g1,g2,g3⟩:=hh
   refine ⟨A,c,rfl,g1,g2,?_⟩
   rcases g3 with ⟨rfl,hc⟩ | ⟨g,o,s,o',hm,rfl,g4,g5⟩
   ·exact .inl ⟨rfl,hc,List.eq_nil_of_length_eq_zero (by omega)⟩
   ·rcases hR.ob k _ hl with ⟨e,_⟩ | ⟨g',o2,s',cur,ty,hm',hh,hsz,hle,hr⟩
    ·rw [hm] at e; cases e
    ·have hm2:=hm
     rw [hm] at hm'
     injection hm' with hm'; injection hm' with e1 e2; injection e2 with e2 e3; subst e1; subst e2; subst e3
     refine .inr ⟨k,g,o,s,o',cur,ty,rfl,h100',skel_ne hl,hlk,hm2,hh,hsz,rfl,g4,?_⟩
     rcases Nat.eq_zero_or_pos l.length with h0 | h0
     ·have:l=[]:=List.eq_nil_of_length_eq_zero h0
      subst this; exact rowIs_nil _ _ _
     ·rw [g5 (by omega),Nat.zero_mul,Nat.add_zero]; exact hr
  ·cases h
 ·rename_i k off n
  simp only [baseK] at hb
  split at hb
  rotate_left
  ·cases hb
  rename_i hlk h100
  have h100':k < 100000:=by simpa using h100
  injection hb with hb; subst hb
  split at h
  ·rename_i σ l hl
   split at h
   ·rename_i l' hl'
    obtain ⟨rfl,rfl⟩:=castL_ok2 hl'
    injection h with h; subst h
    obtain ⟨A,c,σ',m,rfl,hs,hm',_,hh⟩:=hX
    have hsk:=skel_of hl
    rw [hs] at hsk
    injection hsk with hsk; injection hsk with e1 e2; subst e1; subst e2
    obtain ⟨g1,g2,g3⟩:=hh
    have hlen:((l.drop off).take n).length=n:=by simp; omega
    refine ⟨A,c,by rw [hlen],by omega,g2,?_⟩
    rcases g3 with ⟨rfl,hc⟩ | ⟨g,o,s,o',hm,rfl,g4,g5⟩
    ·exact .inl ⟨rfl,hc,List.eq_nil_of_length_eq_zero (by omega)⟩
    ·rcases hR.ob k _ hl with ⟨e,_⟩ | ⟨g',o2,s',cur,ty,hm',hh,hsz,hle,hr⟩
     ·rw [hm] at e; cases e
     ·have hm2:=hm
      rw [hm] at hm'
      injection hm' with hm'; injection hm' with e1 e2; injection e2 with e2 e3; subst e1; subst e2; subst e3
      refine .inr ⟨k,g,o,s,o',cur,ty,rfl,h100',skel_ne hl,hlk,hm2,hh,hsz,rfl,g4,?_⟩
      rcases Nat.eq_zero_or_pos n with h0 | h0
      ·subst h0
       rw [List.take_zero]; exact rowIs_nil _ _ _
      ·rw [g5 (by omega)]; exact rowIs_cut hr off n
   ·cases h
  ·cases h
 ·cases h
end
theorem flat_take {cur:Array Value} {τ:Ty} {l:List τ.D} {n c:Nat} {xs:List Value} (hx:xs=flat τ l) (hn:n=l.length) (ht:cur.toList.take (n*τ.sz)=xs) (hs:cur.size=c*τ.sz):RowIs cur 0 τ l:=by
 refine rowIs_of fun q y hy=>?_
 rw [Nat.zero_add,← Array.getElem?_toList]
 rw [← hx,← ht,List.getElem?_take] at hy
 split at hy
 ·exact hy
 ·cases hy
theorem app_run {P:Program} {t e ty:TypeId} {i:TypeInfo} {τ:Ty} (hu:P.underlying t=some (.slice e)) (hi:P.info? e=some i) (hsz:i.size=τ.sz) {z:Value} (hz:i.zero=some z) (hz2:z.cells.toList=τ.enc τ.zero)
  (hb1:1≤i.bytes) (hb2:i.bytes≤100) {w:World} {A:Option Addr} {c:Nat} {l r:List τ.D} (hc:l.length≤c) (hm:c≤maxLen)
  (hbase:(A=none∧c=0∧l=[])∨∃ g o' cur ty',w.heap[g]?=some (.cells cur ty' (0,0))∧A=some ⟨g,o',none⟩∧o'+c*τ.sz≤cur.size∧RowIs cur o' τ l)
  {A2:Option Addr} {c2:Nat} (hr:Src w A2 τ r) (hr2:r.length≤c2) (hlen:l.length+r.length≤1000000000) :
  ∃ A' c' w',(Builtin.append_ #[t,t] ty #[.slice A l.length c,.slice A2 r.length c2]).run P w=.ok (.slice A' (l++r).length c') w'∧(l++r).length≤c'∧c'≤maxLen∧
   w'.os=w.os∧w'.tape=w.tape∧w'.output=w.output∧w.heap.size≤w'.heap.size∧
   (∀ b,b < w.heap.size→(∀ g o',A=some ⟨g,o',none⟩→b≠g)→w'.heap[b]?=w.heap[b]?)∧
   ((A'=none∧c'=0∧l++r=[])∨∃ g o' cur ty',w'.heap[g]?=some (.cells cur ty' (0,0))∧A'=some ⟨g,o',none⟩∧o'+c'*τ.sz≤cur.size∧RowIs cur o' τ (l++r)∧(w.heap.size≤g∨∃ o2,A=some ⟨g,o2,none⟩)):=by
 have hpos:=sz_pos τ
 have hzs:z.cells.size=τ.sz:=by
  have:z.cells.toList.length=τ.sz:=by rw [hz2,enc_len]
  simpa using this
 have hll:(l++r).length=l.length+r.length:=List.length_append
 have hsz3:τ.sz≤3:=by cases τ <;> simp [Ty.sz]
 have hby:(l.length+r.length)*i.bytes≤140737488355328:=by
  calc (l.length+r.length)*i.bytes≤1000000000*100:=Nat.mul_le_mul hlen hb2
   _≤140737488355328:=by decide
 have hmx:l.length+r.length≤maxLen:=by simp only [maxLen]; omega
 have hone:∀ u∈flat τ r,u.oneCell'=true:=fun u hu=>okV_one.1 (flat_ok τ r u hu)
 rcases hr with ⟨rfl,rfl⟩ | ⟨a2,rfl,hnews⟩
 ·refine ⟨A,c,w,?_,by simpa using hc,hm,rfl,rfl,rfl,Nat.le_refl _,fun _ _ _=>rfl,?_⟩
  ·rcases hbase with ⟨rfl,rfl,rfl⟩ | ⟨g,o',cur,ty',h1,rfl,h3,h4⟩
   ·simp [Builtin.append_,run_underlying hu,sizeOf,typeInfo,hi,Builtin.lenOf,Builtin.firstCells]
   ·simp [Builtin.append_,run_underlying hu,sizeOf,typeInfo,hi,Builtin.lenOf,Builtin.firstCells,hc,storeCells]
  ·rw [List.append_nil]
   rcases hbase with h | ⟨g,o',cur,ty',h1,rfl,h3,h4⟩
   ·exact .inl h
   ·exact .inr ⟨g,o',cur,ty',h1,rfl,h3,h4,.inr ⟨o',rfl⟩⟩
 ·have hnl:(flat τ r).length=r.length*i.size:=by rw [flat_len,hsz]
  rcases hbase with ⟨rfl,rfl,rfl⟩ | ⟨g,o',cur,ty',hg,rfl,hfit,hrow⟩
  ·obtain ⟨v',w',hrun,h1,h2,h3,h4⟩:=run_append_own_at (P:=P) w 0 t ty e i z i.size i.bytes hu hi hz rfl rfl (by rw [hzs,hsz]) (by rw [hsz]; exact hpos) (.slice none 0 0) 0 [] (World.ownsRow_nil w _ _ _) a2 r.length c2 (flat τ r) hnl hnews hone (by simpa using hmx) (by simpa using hby) (Nat.zero_le _)
   obtain ⟨hl1,h1⟩:=h1
   rw [Nat.zero_add] at hl1 h1
   rw [List.nil_append] at h1 hl1
   rcases h1 with ⟨rfl,h0⟩ | ⟨g,cap,cur,rfl,hbg,hg,hcap,hmax,hcs,htk⟩
   ·have hr0:r=[]:=List.eq_nil_of_length_eq_zero h0
    subst hr0
    exact ⟨none,0,w',hrun,Nat.le_refl _,Nat.zero_le _,h2.os,h2.tape,h2.output,h2.size,fun b hb _=>h2.block b hb (by simp [Value.ownBlock]),.inl ⟨rfl,rfl,rfl⟩⟩
   ·refine ⟨some ⟨g,0,none⟩,cap,w',by simpa using hrun,by simpa using hcap,hmax,h2.os,h2.tape,h2.output,h2.size,fun b hb _=>h2.block b hb (by simp [Value.ownBlock]),.inr ⟨g,0,cur,e,hg,rfl,by rw [hcs,hsz]; omega,?_,?_⟩⟩
    ·rw [hsz] at htk hcs
     exact flat_take rfl rfl htk hcs
    ·rcases h4 with h4 | h4
     ·simp [Value.ownBlock] at h4
     ·simp only [Value.ownBlock,Option.some.injEq] at h4; exact .inl (by omega)
  ·by_cases hroom:l.length+r.length≤c
   ·have hin:∀ j,j < (flat τ r).length→o'+l.length*τ.sz+j < cur.size:=fun j hj=>by
     rw [flat_len] at hj
     have:(l.length+r.length)*τ.sz≤c*τ.sz:=Nat.mul_le_mul_right _ hroom
     rw [Nat.add_mul] at this
     omega
    have hrun:=run_append_room_cells (P:=P) w t ty e i hu hi g o' l.length c a2 r.length c2 (flat τ r) hnl hnews hone hroom
     (fun j hj=>by rw [hsz,cell_of_heap hg]; have:=hin j hj; simp [this])
     (fun j hj=>by simp [World.frozen?,hg])
    rw [hsz] at hrun
    have hst:=run_storeCells_at P g (o'+l.length*τ.sz) ty' (flat τ r) 0 cur w hg (by rw [flat_len]; have h2:(l.length+r.length)*τ.sz≤c*τ.sz:=Nat.mul_le_mul_right _ hroom; rw [Nat.add_mul] at h2; omega) hone
    have hset:w.setCells g (o'+l.length*τ.sz) (flat τ r)=w.setRow g (cur.toList.take (o'+l.length*τ.sz)++flat τ r++cur.toList.drop (o'+l.length*τ.sz+(flat τ r).length)).toArray:=by
     have h1:=run_storeCells_cells (P:=P) g (o'+l.length*τ.sz) (flat τ r) 0 w (fun j hj=>by rw [Nat.add_zero,cell_of_heap hg]; have:=hin j hj; simp [this]) (fun j hj=>by simp [World.frozen?,hg]) hone
     rw [hst] at h1
     injection h1 with _ h1
     simpa using h1.symm
    rw [hset] at hrun
    refine ⟨some ⟨g,o',none⟩,c,w.setRow g (cur.toList.take (o'+l.length*τ.sz)++flat τ r++cur.toList.drop (o'+l.length*τ.sz+(flat τ r).length)).toArray,by rw [hll]; exact hrun,by omega,hm,rfl,rfl,rfl,by simp [World.setRow],fun b hb hne=>setRow_other w g b _ (hne g o' rfl),.inr ⟨g,o',_,ty',setRow_heap w g cur _ ty' _ hg,rfl,?_,?_,.inr ⟨o',rfl⟩⟩⟩
    ·have h2:(l.length+r.length)*τ.sz≤c*τ.sz:=Nat.mul_le_mul_right _ hroom
     rw [Nat.add_mul] at h2
     simp only [List.size_toArray,List.length_append,List.length_take,List.length_drop,Array.length_toList,flat_len]
     omega
    ·refine rowIs_of fun q y hy=>?_
     have h2:(l.length+r.length)*τ.sz≤c*τ.sz:=Nat.mul_le_mul_right _ hroom
     rw [Nat.add_mul] at h2
     rw [flat_append] at hy
     rw [List.getElem?_toArray,List.append_assoc]
     have htl:(cur.toList.take (o'+l.length*τ.sz)).length=o'+l.length*τ.sz:=by simp; omega
     by_cases hq:q < (flat τ l).length
     ·rw [List.getElem?_append_left hq] at hy
      rw [flat_len] at hq
      rw [List.getElem?_append_left (by omega),List.getElem?_take,if_pos (by omega),Array.getElem?_toList]
      exact rowIs_flat hrow q y hy
     ·rw [List.getElem?_append_right (by omega)] at hy
      rw [flat_len] at hq hy
      have hq2:q - l.length*τ.sz < (flat τ r).length:=(List.getElem?_eq_some_iff.1 hy).1
      rw [List.getElem?_append_right (by omega),htl,List.getElem?_append_left (by omega)]
      rw [show o'+q - (o'+l.length*τ.sz)=q - l.length*τ.sz by omega]
      exact hy
   ·have holds:∀ j u,(flat τ l)[j]?=some u→w.cell? ((⟨g,o',none⟩:Addr).add j)=some u:=fun j u hu=>by
     rw [Addr_add,cell_of_heap hg]; exact rowIs_flat hrow j u hu
    obtain ⟨v',w',hrun,⟨hl1,h1⟩,h2⟩:=run_append_arg_grows (P:=P) w t ty e i z i.size i.bytes hu hi hz rfl rfl (by rw [hzs,hsz]) (by rw [hsz]; exact hpos) ⟨g,o',none⟩ l.length c (flat τ l) (by rw [flat_len,hsz]) holds a2 r.length c2 (flat τ r) hnl hnews (by omega) hmx hby
    rcases h1 with ⟨rfl,h0⟩ | ⟨g2,cap,cur2,rfl,hbg,hg2,hcap,hmax,hcs,htk⟩
    ·omega
    ·refine ⟨some ⟨g2,0,none⟩,cap,w',by rw [hll]; exact hrun,by omega,hmax,h2.os,h2.tape,h2.output,h2.size,fun b hb _=>h2.block b hb (by simp),.inr ⟨g2,0,cur2,e,hg2,rfl,by rw [hcs,hsz]; omega,?_,.inl hbg⟩⟩
     rw [hsz] at htk hcs
     exact flat_take (flat_append τ l r).symm hll.symm htk hcs
end Go.Ev
