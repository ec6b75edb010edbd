/- One operation,executed,the end: every one of them. No statement is proved here. -/
import Derived.Test.YtemhpncmhdcheabGreatDoorEvN
namespace Go.Ev
set_option linter.unusedVariables false
set_option linter.unusedSimpArgs false
open Go
section
variable {P:Program} {T:Tab} {N:Nat} {w0:World} {M:Nat→Prop} {W:Wd} {lk:List Nat} {μ:Mu} {st:St} {a:Act} {w:World} {K:St→Prop} {next:Act→World→Prop} {Q:Go.Exit→Act→World→Prop}
def hdV (h:Ty.D .hd):Value:=.slice h.1 h.2.1 h.2.2
theorem flat_hd:∀ l:List (Ty.D .hd),flat .hd l=l.map hdV
 | []=>rfl
 | x :: l=>by
  show Ty.enc .hd x++flat .hd l=_
  rw [flat_hd l]; rfl
theorem roCs_map {k:Nat}:∀ {l:List C},roCs l=true→l.map (C.kill k)=l
 | [],_=>rfl
 | c :: l,h=>by
  unfold roCs at h
  split at h
  ·rename_i h1
   rw [List.map_cons,roC_kill k c h1,roCs_map h]
  ·cases h
theorem roCs_mem:∀ {l:List C},roCs l=true→∀ c∈l,roC c=true
 | [],_,c,h=>by cases h
 | d :: l,h,c,hc=>by
  unfold roCs at h
  split at h
  ·rename_i h1
   rcases List.mem_cons.1 hc with rfl | hc
   ·exact h1
   ·exact roCs_mem h c hc
  ·cases h
theorem roCs_app {τ:Ty}:∀ {l:List C} (ls:List (List τ.D)),roCs l=true→roCs (l++ls.map (C.ro τ))=true
 | [],[],_=>rfl
 | [],x :: ls,_=>roCs_app (l:=[]) ls rfl
 | d :: l,ls,h=>by
  unfold roCs at h
  split at h
  ·rename_i h1
   rw [List.cons_append,roCs,h1]
   exact roCs_app ls h
  ·cases h
theorem hds_of {S:Sk} {μ:Mu} {w:World}:∀ {cs:List C} {ys:List Value},roCs cs=true→RCs S μ w cs ys→∃ L:List (Ty.D .hd),ys=L.map hdV
 | [],[],_,_=>⟨[],rfl⟩
 | c :: cs,y :: ys,hc,h=>by
  unfold roCs at hc
  split at hc
  ·rename_i h1
   obtain ⟨L,rfl⟩:=hds_of hc h.2.2
   have:∃ A n c,y=.slice A n c:=by
    have h:=h.1
    cases c with
    | nil=>exact ⟨none,0,0,h⟩
    | ro τ l=>obtain ⟨A,n,c,e,_⟩:=h; exact ⟨A,n,c,e⟩
    | _=>cases h1
   obtain ⟨A,n,c,rfl⟩:=this
   exact ⟨(A,n,c) :: L,rfl⟩
  ·cases hc
 | [],_ :: _,_,h=>h.elim
 | _ :: _,[],_,h=>h.elim
theorem rol_hds {S:Sk} {μ:Mu} {w:World} {τ:Ty} {b:Nat}:∀ {ls:List (List τ.D)} {o:Nat},(∀ (i:Nat) l,ls[i]?=some l→∃ y,w.cell? ⟨b,o+i,none⟩=some y∧RoAt S μ w τ l y)→
  ∃ R:List (Ty.D .hd),R.length=ls.length∧(∀ q u,(R.map hdV)[q]?=some u→w.cell? ⟨b,o+q,none⟩=some u)∧RCs S μ w (ls.map (C.ro τ)) (R.map hdV)
 | [],_,_=>⟨[],rfl,fun q u h=>by simp at h,trivial⟩
 | l :: ls,o,h=>by
  obtain ⟨R,h1,h2,h3⟩:=rol_hds (ls:=ls) (o:=o+1) fun i l hl=>by
   have:=h (i+1) l (by simpa using hl)
   rwa [show o+(i+1)=o+1+i by omega] at this
  obtain ⟨y,hy1,A,n,c,rfl,hy2⟩:=h 0 l rfl
  refine ⟨(A,n,c) :: R,by simp [h1],fun q u hq=>?_,⟨A,n,c,rfl,hy2⟩,rfl,h3⟩
  cases q with
  | zero=>simp at hq; subst hq; exact hy1
  | succ q=>
   rw [show o+(q+1)=o+1+q by omega]
   exact h2 q u (by simpa using hq)
theorem rowIs_hd {cur:Array Value} {o:Nat} {L:List (Ty.D .hd)} (h:RowIs cur o .hd L) (hle:o+L.length≤cur.size):(cur.toList.drop o).take L.length=L.map hdV:=by
 refine List.ext_getElem? fun q=>?_
 rw [List.getElem?_take]
 by_cases hq:q < L.length
 ·rw [if_pos hq,List.getElem?_drop,Array.getElem?_toList]
  have h2:(L.map hdV)[q]?=some (hdV L[q]):=by rw [List.getElem?_map,List.getElem?_eq_getElem hq]; rfl
  rw [h2]
  exact rowIs_flat h q _ (by rw [flat_hd]; exact h2)
 ·rw [if_neg hq,List.getElem?_eq_none (by simpa using hq)]
theorem newB_sk (st:St) (k:Nat) (l:List C):skel (st.newK k (.box l)).o k=some .box:=by
 unfold St.newK; split <;> simp [skel,lkp,OB.sk,OB.map]
theorem RCs_nils {S:Sk} {μ:Mu} {w:World}:∀ n:Nat,RCs S μ w (List.replicate n .nil) (List.replicate n (.slice none 0 0))
 | 0=>trivial
 | n+1=>⟨rfl,rfl,RCs_nils n⟩
theorem nils_new (hR:RepM N w0 M W lk μ st a w) (k:Nat) (hk:k < 100000) {n:Nat} (hn:n≤1000) {w':World} (hw:Fr (fun _=>False) w w') {cur:Array Value} {e:TypeId} (hg:w'.heap[w.heap.size]?=some (.cells cur e (0,0)))
  (hs:cur.size=n) (hr:RowIs cur 0 .hd (List.replicate n (Ty.zero .hd))) :
  ∃ μ',RepM N w0 M W lk μ' (st.newK k (.box (List.replicate n .nil))) a w'∧RA (skel (st.newK k (.box (List.replicate n .nil))).o) μ' w' (.one (.c (.sb k n))) (.slice (some ⟨w.heap.size,0,none⟩) n n):=by
 refine ⟨_,newK_ok hR k hk (.box (List.replicate n .nil)) (some (w.heap.size,0,cur.size)) hw (fun q h=>by injection h with h; subst h; exact Nat.le_refl _) (fun S' f _ hpl _=>?_),w.heap.size,0,cur.size,n,rfl,newB_sk _ _ _,upd_same _ _ _,Nat.le_refl _,by simp only [maxLen]; omega,by omega⟩
 have hm:(OB.box (List.replicate n C.nil)).map f=.box (List.replicate n .nil):=by
  show OB.box _=_
  rw [List.map_replicate,hpl .nil rfl]
 rw [hm]
 refine ⟨w.heap.size,0,cur.size,cur,e,upd_same _ _ _,hg,rfl,by simp [hs],?_⟩
 have:=rowIs_hd hr (by simp [hs])
 rw [List.length_replicate] at this ⊢
 rw [this,List.map_replicate]
 exact RCs_nils n
theorem makeB_ok (hT:TabOK P T) (hR:RepM N w0 M W lk μ st a w) {t e:TypeId} {τ:Ty} (ht:lkp T t=some (.sl2 e τ)) (k:Nat) (hk:k < 100000) {n:Nat} (hn:n≤1000) :
  ∃ μ' v w',(Instr.makeSlice t (.int .i64 (n:Int)) (.int .i64 (n:Int))).run P w=.ok v w'∧RepM N w0 M W lk μ' (st.newK k (.box (List.replicate n .nil))) a w'∧RA (skel (st.newK k (.box (List.replicate n .nil))).o) μ' w' (.one (.c (.sb k n))) v:=by
 obtain ⟨i,hu,hi,hsz,hz,_,⟨hb1,hb2⟩,_⟩:=hT _ _ ht
 obtain ⟨w',cur,r1,r2,r3,r4,r5⟩:=make_run (P:=P) (τ:=.hd) hu hi hsz hz rfl hb2 (n:=n) (by omega) w
 obtain ⟨μ',m1,m2⟩:=nils_new hR k hk hn (fr_grown r2) r3 (by simpa [Ty.sz] using r4) r5
 exact ⟨μ',_,w',r1,m1,m2⟩
theorem litB_ok (hT:TabOK P T) (hR:RepM N w0 M W lk μ st a w) {t e:TypeId} {τ:Ty} (ht:lkp T t=some (.sl2 e τ)) (k:Nat) (hk:k < 100000) :
  ∃ μ' v w',(Instr.buildSlice t 0 #[]).run P w=.ok v w'∧RepM N w0 M W lk μ' (st.newK k (.box [])) a w'∧RA (skel (st.newK k (.box [])).o) μ' w' (.one (.c (.sb k 0))) v:=by
 obtain ⟨i,hu,hi,hsz,hz,_⟩:=hT _ _ ht
 obtain ⟨cells,h1,h2⟩:=lit_run (P:=P) (τ:=.hd) (S:=skel st.o) (μ:=μ) (w:=w) hu hi hsz hz (ps:=[]) (qs:=#[]) (l:=[]) (len:=0) rfl trivial rfl (by omega) w
 have hc:cells=#[]:=by apply Array.ext'; simpa [flat] using h1
 subst hc
 obtain ⟨μ',m1,m2⟩:=nils_new hR k hk (n:=0) (by omega) (fr_alloc w (.cells #[] e)) (by show (w.heap.push _)[w.heap.size]?=_; rw [Array.getElem?_push,if_pos rfl]) rfl (rowIs_nil _ _ _)
 exact ⟨μ',_,_,h2,m1,m2⟩
theorem appendB_ok (hT:TabOK P T) (hR:RepM N w0 M W lk μ st a w) {t e ty:TypeId} {τ:Ty} (ht:lkp T t=some (.sl2 e τ)) {Sx X:Operand} {k:Nat} {cs:List C} {σ:Ty} {ls:List (List σ.D)} (hS:st.ev Sx=.one (.c (.sb k cs.length)))
  (hX:st.ev X=.one (.c (.rol σ ls))) (hlk:memN lk k=false) (hk:k < 100000) (hl:lkp st.o k=some (.box cs)) (hro:roCs cs=true) (hne:ls≠[]) (hlen:cs.length+ls.length≤1000) (k0:Nat) (hk0:k0 < 100000) :
  ∃ μ' v w',(Builtin.append_ #[t,t] ty #[a.eval Sx,a.eval X]).run P w=.ok v w'∧RepM N w0 M W lk μ' ((st.kill k).newK k0 (.box (cs++ls.map (C.ro σ)))) a w'∧
   RA (skel ((st.kill k).newK k0 (.box (cs++ls.map (C.ro σ)))).o) μ' w' (.one (.c (.sb k0 (cs.length+ls.length)))) v:=by
 obtain ⟨i,hu,hi,hsz,hz,_,⟨hb1,hb2⟩,_⟩:=hT _ _ ht
 have hs:=RA_ev hR Sx
 rw [hS] at hs
 obtain ⟨g,o,s,c,e1,hsk,hm,hnc,hcm,hoc⟩:=hs
 have hx:=RA_ev hR X
 rw [hX] at hx
 obtain ⟨A2,n2,c2,e2,r1,r2,r3,r4⟩:=hx
 have hpos:0 < ls.length:=List.length_pos_iff.2 hne
 obtain ⟨b2,o2,rfl,_,_,r5⟩:=r4 (by omega)
 obtain ⟨R,hRl,hRc,hRR⟩:=rol_hds r5
 obtain ⟨g',o',s',cur,ty',hm',hg,hcs,hfit,hcells⟩:=hR.ob k _ hl
 rw [hm] at hm'
 injection hm' with hm'; injection hm' with a1 a2; injection a2 with a2 a3; subst a1; subst a2; subst a3
 obtain ⟨L,hL⟩:=hds_of hro hcells
 have hLl:L.length=cs.length:=by
  have:=RCs.len hcells
  rw [hL] at this; simpa using this
 have hrow:RowIs cur o .hd L:=rowIs_of fun q y hy=>by
  rw [flat_hd,← hL,List.getElem?_take] at hy
  split at hy
  ·rwa [List.getElem?_drop,Array.getElem?_toList] at hy
  ·cases hy
 have hrun:=app_run (P:=P) (τ:=.hd) (ty:=ty) hu hi hsz hz rfl hb1 hb2 (w:=w) (A:=some ⟨g,o,none⟩) (c:=c) (l:=L) (r:=R) (by omega) hcm (.inr ⟨g,o,cur,ty',hg,rfl,by simp only [Ty.sz]; omega,hrow⟩) (A2:=some ⟨b2,o2,none⟩) (c2:=c2)
  (.inr ⟨_,rfl,fun q u hq=>by rw [flat_hd] at hq; rw [Addr_add]; exact hRc q u hq⟩) (by omega) (by omega)
 obtain ⟨A',c',w',h1,h2,h3,h4,h5,h6,h7,h8,h9⟩:=hrun
 have hln:(L++R).length=cs.length+ls.length:=by simp [hLl,hRl]
 rcases h9 with ⟨_,_,h9⟩ | ⟨g',o3,cur',ty2,q1,rfl,q3,q4,q5⟩
 ·rw [h9] at hln; simp at hln; omega
 ·have hsz1:c'*Ty.sz .hd=c':=Nat.mul_one _
  rw [hsz1] at q3
  have hR':=appG_ok hR hk (skel_ne hl) hlk hm k0 hk0 (.box (cs++ls.map (C.ro σ))) (by show OB.box _=_; rw [roCs_map (roCs_app ls hro)]) (w':=w') (some (g',o3,cur'.size)) h4 h5 h6 h7
   (fun b hb hne=>h8 b hb fun g2 o2 h=>by injection h with h; injection h with h; rw [← h]; exact hne)
   (fun q h=>by
    injection h with h; subst h
    rcases q5 with h | ⟨o4,h⟩
    ·exact .inl h
    ·injection h with h; injection h with h; exact .inr h.symm)
   (fun S' hmono=>⟨g',o3,cur'.size,cur',ty2,upd_same _ _ _,q1,rfl,by simp only [List.length_append,List.length_map] at h2 ⊢; omega,by
    have hv:=rowIs_hd q4 (by omega)
    rw [show (cs++ls.map (C.ro σ)).length=(L++R).length by simp [hLl,hRl],hv,List.map_append]
    refine RCs.append (RCs.seen (fun c hc y hy=>hmono c y (roCs_mem hro c hc) hy) (by rw [← hL]; exact hcells)) (RCs.seen (fun c hc y hy=>hmono c y ?_ hy) hRR)
    obtain ⟨x,_,rfl⟩:=List.mem_map.1 hc
    rfl⟩)
  refine ⟨_,.slice (some ⟨g',o3,none⟩) (cs.length+ls.length) c',w',?_,hR',g',o3,cur'.size,c',rfl,newB_sk _ _ _,upd_same _ _ _,by omega,h3,by omega⟩
  rw [e1,e2,r1,← hLl,← hRl,← List.length_append]
  exact h1
theorem append_ok (hT:TabOK P T) (hR:RepM N w0 M W lk μ st a w) {t e ty:TypeId} {τ:Ty} (ht:lkp T t=some (.sl e τ)) {S X:Operand} {b:Option Nat} {l r:List τ.D} (hb:baseK lk (st.ev S)=some b)
  (hl:listA τ st.o (st.ev S)=some l) (hr:listA τ st.o (st.ev X)=some r) (hlen:l.length+r.length≤1000000000) (k0:Nat) (hk0:k0 < 100000) :
  ∃ μ' v w',(Builtin.append_ #[t,t] ty #[a.eval S,a.eval X]).run P w=.ok v w'∧RepM N w0 M W lk μ' ((killO st b).newK k0 (.row τ (l++r))) a w'∧RA (skel ((killO st b).newK k0 (.row τ (l++r))).o) μ' w' (.one (.c (.ow k0))) v:=by
 obtain ⟨i,hu,hi,hsz,⟨z,hz,hz2⟩,hb1,hb2,_⟩:=hT _ _ ht
 obtain ⟨A,c,e1,hc,hm,hbase⟩:=base_ok hR (RA_ev hR S) hl hb
 obtain ⟨A2,c2,e2,hc2,_,hsrc⟩:=listA_src hR (RA_ev hR X) hr
 have hrun:=app_run (P:=P) (ty:=ty) hu hi hsz hz hz2 hb1 hb2 (w:=w) (A:=A) (c:=c) (l:=l) (r:=r) hc hm (hbase.imp id fun ⟨k,g,o,s,o',cur,ty,h1,_,_,_,_,h2,h3,h4,h5,h6⟩=>⟨g,o',cur,ty,h2,h4,by omega,h6⟩) hsrc hc2 hlen
 obtain ⟨A',c',w',h1,h2,h3,h4,h5,h6,h7,h8,h9⟩:=hrun
 rw [e1,e2]
 ·rcases hbase with ⟨rfl,rfl,rfl⟩ | ⟨k,g,o,s,o',cur,ty2,rfl,hk100,hk,hlk,hmk,hg,hcs,rfl,hfit,hrow⟩
  ·have hfr:Fr (fun _=>False) w w':=⟨h4,h5,h6,h7,fun b hb _=>h8 b hb fun g o' h=>by cases h⟩
   obtain ⟨μ',m1,m2⟩:=row_new (killO_ok hR b) k0 hk0 τ ([]++r) hfr h2 h3 (h9.imp id fun ⟨g,o',cur,ty',q1,q2,q3,q4,q5⟩=>⟨g,o',cur,ty',q1,q2,q3,q4,q5.resolve_right fun ⟨o2,h⟩=>by cases h⟩)
   exact ⟨μ',_,w',h1,m1,m2⟩
  ·rcases h9 with ⟨rfl,rfl,h9⟩ | ⟨g',o2,cur',ty',q1,rfl,q3,q4,q5⟩
   ·have:=appK_ok hR hk100 hk hlk hmk k0 hk0 τ (l++r) (w':=w') none h4 h5 h6 h7 (fun b hb hne=>h8 b hb fun g2 o2 h=>by injection h with h; injection h with h; rw [← h]; exact hne) (fun q h=>by cases h) (.inl ⟨rfl,h9⟩)
    exact ⟨_,_,w',h1,this,none,_,0,τ,rfl,newK_sk _ k0 τ (l++r),by simpa using h2,Nat.zero_le _,.inl ⟨rfl,rfl⟩⟩
   ·have hle:(l++r).length*τ.sz≤c'*τ.sz:=Nat.mul_le_mul_right _ h2
    have:=appK_ok hR hk100 hk hlk hmk k0 hk0 τ (l++r) (w':=w') (some (g',o2,cur'.size)) h4 h5 h6 h7 (fun b hb hne=>h8 b hb fun g2 o2 h=>by injection h with h; injection h with h; rw [← h]; exact hne) (fun q h=>by
     injection h with h; subst h
     rcases q5 with h | ⟨o3,h⟩
     ·exact .inl h
     ·injection h with h; injection h with h; exact .inr h.symm) (.inr ⟨g',o2,cur'.size,cur',ty',rfl,q1,rfl,by omega,q4⟩)
    exact ⟨_,_,w',h1,this,some ⟨g',o2,none⟩,_,c',τ,rfl,newK_sk _ k0 τ (l++r),h2,h3,.inr ⟨g',o2,cur'.size,o2,upd_same _ _ _,rfl,q3,fun _=>by simp⟩⟩
theorem copy_ok (hT:TabOK P T) (hR:RepM N w0 M W lk μ st a w) {t t' e ty:TypeId} {τ:Ty} (ht:lkp T t=some (.sl e τ)) {S X:Operand} {k:Nat} {l r:List τ.D} (hS:st.ev S=.one (.c (.ow k))) (hlk:memN lk k=false)
  (hl:listA τ st.o (.one (.c (.ow k)))=some l) (hr:listA τ st.o (st.ev X)=some r) (hsz1:τ.sz=1) (hlen:l.length=r.length) :
  ∃ w',(Builtin.copy_ #[t,t'] ty #[a.eval S,a.eval X]).run P w=.ok (.int .i64 l.length) w'∧RepM N w0 M W lk μ ⟨st.t,setO k (.row τ r) st.o⟩ a w':=by
 obtain ⟨i,hu,hi,hsz,_⟩:=hT _ _ ht
 have hs:(P.info? e).map (·.size)=some 1:=by rw [hi,Option.map_some,hsz,hsz1]
 obtain ⟨A2,c2,e2,hc2,_,hsrc⟩:=listA_src hR (RA_ev hR X) hr
 simp only [listA] at hl
 split at hl
 rotate_left
 ·cases hl
 rename_i σ l0 hk
 obtain ⟨rfl,rfl⟩:=castL_ok2 hl
 have hx:=RA_ev hR S
 rw [hS] at hx
 obtain ⟨A,n,c,σ2,e1,hs1,h1,h2,h3⟩:=hx
 rw [hR.row hk] at hs1
 injection hs1 with hs1; injection hs1 with e3 e4; subst e3; subst e4
 have hro:=hR.ob k _ hk
 rw [e1,e2]
 rcases Nat.eq_zero_or_pos l0.length with hz | hpos
 ·have hl0:l0=[]:=List.eq_nil_of_length_eq_zero hz
  have hr0:r=[]:=List.eq_nil_of_length_eq_zero (by omega)
  subst hl0; subst hr0
  exact ⟨w,run_copy_none w t t' ty e A A2 _ c _ c2 hu hs (by simp),setO_ok hR hk rfl hlk (.inl rfl) fun _=>hro⟩
 ·rcases hro with ⟨_,rfl⟩ | ⟨g,o,s,cur,ty',hm,hg,hcs,hfit,hrow⟩
  ·simp at hpos
  ·rcases h3 with ⟨rfl,rfl⟩ | ⟨g',o2,s',o',hm',rfl,h4,h5⟩
   ·omega
   ·rw [hm] at hm'
    injection hm' with hm'; injection hm' with a1 a2; injection a2 with a2 a3; subst a1; subst a2; subst a3
    have:=h5 (by omega)
    simp at this; subst this
    rcases hsrc with ⟨_,rfl⟩ | ⟨ad,rfl,hsrc⟩
    ·rw [List.length_nil] at hlen; omega
    ·have hfl:(flat σ r).length=r.length:=by rw [flat_len,hsz1,Nat.mul_one]
     rw [hsz1] at hfit
     have hrun:=run_copy_row (P:=P) w t t' ty e g o' l0.length c ad r.length c2 cur ty' (flat σ r) hu hs hg (by rw [hfl,hlen]; simp) hsrc (by rw [hfl]; omega) (fun u hu=>okV_one.1 (flat_ok σ r u hu))
     rw [hfl] at hrun
     refine ⟨_,by rw [hrun,hlen]; rfl,setO_ok hR hk (by simp [OB.sk,hlen]) hlk (.inr ⟨_,_,hm,rfl⟩) fun hmono=>.inr ?_⟩
     refine ⟨g,o',s,_,ty',hm,setRow_heap w g cur _ ty' _ hg,?_,by rw [hsz1]; omega,rowIs_of fun q y hy=>?_⟩
     ·simp [hfl]; omega
     ·have hq:q < (flat σ r).length:=(List.getElem?_eq_some_iff.1 hy).1
      rw [List.getElem?_toArray,List.append_assoc,List.getElem?_append_right (by simp; omega),List.getElem?_append_left (by simp; omega)]
      simp only [List.length_take,Array.length_toList]
      rw [show o'+q - min o' cur.size=q by omega]
      exact hy
theorem skel_setO {o:List (Nat×OB)} {k:Nat} {ob ob':OB} (hl:lkp o k=some ob) (hsk:ob'.sk=ob.sk):skel (setO k ob' o)=skel o:=by
 funext j
 by_cases hj:j=k
 ·subst hj; simp only [skel,lkp_setO_same ob' hl,hl,Option.map_some,hsk]
 ·simp only [skel,lkp_setO_ne ob' hj]
theorem mid_ok (hR:RepM N w0 M W lk μ st a w) {k:Nat} {τ:Ty} {l r:List τ.D} {i:Nat} (hl:lkp st.o k=some (.row τ l)) (hlk:memN lk k=false) {g o s:Nat} {cur:Array Value} {ty:TypeId} (hm:μ k=some (g,o,s)) (hh:w.heap[g]?=some (.cells cur ty (0,0)))
  (hsz:cur.size=s) (hle:o+l.length*τ.sz≤s) (hr:RowIs cur o τ l) (hi:i+r.length≤l.length) :
  RepM N w0 M W lk μ ⟨st.t,setO k (.row τ (midA l i r)) st.o⟩ a (w.setRow g (cur.toList.take (o+i*τ.sz)++flat τ r++cur.toList.drop (o+i*τ.sz+(flat τ r).length)).toArray):=by
 have hirl:(i+r.length)*τ.sz≤l.length*τ.sz:=Nat.mul_le_mul_right _ hi
 rw [Nat.add_mul] at hirl
 refine setO_ok hR hl (by simp only [OB.sk,mid_len hi]) hlk (.inr ⟨_,_,hm,rfl⟩) fun _=>.inr ⟨g,o,s,_,ty,hm,setRow_heap w g cur _ ty _ hh,?_,by rw [mid_len hi]; exact hle,rowIs_mid hr hi (by omega)⟩
 simp only [List.size_toArray,List.length_append,List.length_take,List.length_drop,Array.length_toList,flat_len]
 omega
theorem copyM_ok (hT:TabOK P T) (hR:RepM N w0 M W lk μ st a w) {t t' e ty:TypeId} {τ:Ty} (ht:lkp T t=some (.sl e τ)) {S X:Operand} {k off n:Nat} {l r:List τ.D} {p:Prop} (hS:st.ev S=.one (.c (.sub k off n))) (hlk:memN lk k=false)
  (hl:lkp st.o k=some (.row τ l)) (hr:srcX τ st.o n (st.ev X)=some (p,r)) (hp:p) :
  ∃ w',(Builtin.copy_ #[t,t'] ty #[a.eval S,a.eval X]).run P w=.ok (.int .i64 r.length) w'∧RepM N w0 M W lk μ ⟨st.t,setO k (.row τ (midA l off r)) st.o⟩ a w':=by
 obtain ⟨i,hu,hi,hsz,_⟩:=hT _ _ ht
 obtain ⟨A2,m,c2,e2,hmin,hrn,hsrc⟩:=srcX_ok hR (RA_ev hR X) hr hp
 have hx:=RA_ev hR S
 rw [hS] at hx
 obtain ⟨A,c,σ,q,e1,hs,hq,hqc,hh⟩:=hx
 rw [skel_of hl] at hs
 injection hs with hs; injection hs with e3 e4; subst e3; subst e4
 rw [e1,e2]
 have hpos:=sz_pos τ
 have hnone:r.length=0→RepM N w0 M W lk μ ⟨st.t,setO k (.row τ (midA l off r)) st.o⟩ a w:=fun h0=>by
  have hr0:r=[]:=List.eq_nil_of_length_eq_zero h0
  subst hr0
  have:midA l off ([]:List τ.D)=l:=by simp [midA]
  rw [this]
  exact setO_ok hR hl rfl hlk (.inl rfl) fun _=>hR.ob k _ hl
 obtain ⟨g1,g2,⟨rfl,hc⟩ | ⟨g,o,s,o',hm,rfl,g4,g5⟩⟩:=hh
 ·have h0:r.length=0:=by omega
  rw [run_copyN w hu hi n c m c2 (by rw [hmin,h0]),h0]
  exact ⟨w,rfl,hnone h0⟩
 ·rcases hR.ob k _ hl with ⟨e,_⟩ | ⟨g',o2,s',cur,ty',hm',hg,hcs,hle,hrow⟩
  ·rw [hm] at e; cases e
  ·rw [hm] at hm'
   injection hm' with hm'; injection hm' with a1 a2; injection a2 with a2 a3; subst a1; subst a2; subst a3
   have hrl:r.length*τ.sz≤c*τ.sz:=Nat.mul_le_mul_right _ (by omega)
   have hrun:=run_copyE (P:=P) (ty:=ty) (sT:=t') w hu hi hsz g o' n c m c2 cur ty' hg hmin hsrc (by omega)
   rcases Nat.eq_zero_or_pos r.length with h0 | h0
   ·have hr0:r=[]:=List.eq_nil_of_length_eq_zero h0
    subst hr0
    refine ⟨w,?_,hnone rfl⟩
    rw [hrun]
    simp only [flat,List.append_nil,List.length_nil,Nat.add_zero,List.take_append_drop,Array.toArray_toList]
    rw [setRow_self w g cur ty' (0,0) hg]
   ·have g6:=g5 (by omega)
    rw [g6] at hrun ⊢
    exact ⟨_,hrun,mid_ok hR hl hlk hm hg hcs hle hrow (by omega)⟩
theorem mid_nil {α:Type} (l:List α) (i:Nat):midA l i []=l:=by simp [midA]
theorem appS_ok (hT:TabOK P T) (hR:RepM N w0 M W lk μ st a w) {t e ty:TypeId} {τ:Ty} (ht:lkp T t=some (.sl e τ)) {S X:Operand} {k off n:Nat} {l r:List τ.D} (hS:st.ev S=.one (.c (.sub k off n))) (hlk:memN lk k=false)
  (hl:lkp st.o k=some (.row τ l)) (hr:listA τ st.o (st.ev X)=some r) (hlen:off+n+r.length≤l.length) :
  ∃ v w',(Builtin.append_ #[t,t] ty #[a.eval S,a.eval X]).run P w=.ok v w'∧RepM N w0 M W lk μ ⟨st.t,setO k (.row τ (midA l (off+n) r)) st.o⟩ a w'∧RA (skel (setO k (.row τ (midA l (off+n) r)) st.o)) μ w' (.one (.c (.sub k off (n+r.length)))) v:=by
 obtain ⟨i,hu,hi,hsz,_⟩:=hT _ _ ht
 obtain ⟨A2,c2,e2,hc2,_,hsrc⟩:=listA_src hR (RA_ev hR X) hr
 have hx:=RA_ev hR S
 rw [hS] at hx
 obtain ⟨A,c,σ,m,e1,hs,hm,hmc,h1,h2,h3⟩:=hx
 rw [hR.row hl] at hs
 injection hs with hs; injection hs with e3 e4; subst e3; subst e4
 have hsk:skel (setO k (.row τ (midA l (off+n) r)) st.o)=skel st.o:=skel_setO hl (by simp only [OB.sk,mid_len hlen])
 rw [e1,e2,hsk]
 have hro:=hR.ob k _ hl
 by_cases hA:A=none
 ·subst hA
  rcases h3 with ⟨_,rfl⟩ | ⟨g,o,s',o',hmu,e,_⟩
  ·obtain rfl:r=[]:=List.eq_nil_of_length_eq_zero (by omega)
   have hn:n=0:=by omega
   subst hn
   refine ⟨.slice none 0 0,w,?_,setO_ok hR hl (by simp only [OB.sk,mid_len hlen]) hlk (.inl rfl) fun _=>by rw [mid_nil]; exact hro,none,0,τ,_,rfl,hR.row hl,by simpa using hlen,hmc,Nat.le_refl _,Nat.zero_le _,.inl ⟨rfl,rfl⟩⟩
   rcases hsrc with ⟨rfl,_⟩ | ⟨ad,rfl,_⟩ <;>
    simp [Builtin.append_,run_underlying hu,sizeOf,typeInfo,hi,Builtin.lenOf,Builtin.firstCells,loadCells,loadCellsFrom]
  ·cases e
 ·rcases h3 with ⟨e,_⟩ | ⟨g,o,s',o',hmu,rfl,h4,h5⟩
  ·exact absurd e hA
  ·rcases hro with ⟨e,_⟩ | ⟨g',o2,s2,cur,ty',hmu',hh,hcs,hle,hrow⟩
   ·rw [hmu] at e; cases e
   ·have hmu2:=hmu
    rw [hmu] at hmu'
    injection hmu' with hmu'; injection hmu' with a1 a2; injection a2 with a2 a3; subst a1; subst a2; subst a3
    by_cases hc0:c=0
    ·subst hc0
     obtain rfl:r=[]:=List.eq_nil_of_length_eq_zero (by omega)
     have hn:n=0:=by omega
     subst hn
     have hrun:=appR_run (P:=P) (ty:=ty) hu hi hsz (cur:=cur) (o':=o') hh (n:=0) (c:=0) hsrc hc2 (Nat.le_refl _) (by omega)
     rw [show cur.toList.take (o'+0*τ.sz)++flat τ ([]:List τ.D)++cur.toList.drop (o'+0*τ.sz+(flat τ ([]:List τ.D)).length)=cur.toList by rw [flat,List.append_nil,List.length_nil,Nat.add_zero,List.take_append_drop],Array.toArray_toList,setRow_self w g cur ty' (0,0) hh] at hrun
     exact ⟨_,_,hrun,setO_ok hR hl (by simp only [OB.sk,mid_len hlen]) hlk (.inl rfl) fun _=>by rw [mid_nil]; exact hR.ob k _ hl,_,_,τ,_,rfl,hR.row hl,by simpa using hlen,hmc,Nat.le_refl _,h2,.inr ⟨g,o,s',o',hmu2,rfl,h4,h5⟩⟩
    ·have ho:=h5 (by omega)
     subst ho
     have hrun:=appR_run (P:=P) (ty:=ty) hu hi hsz (cur:=cur) (o':=o+off*τ.sz) hh (n:=n) (c:=c) hsrc hc2 (by omega) (by omega)
     have hmid:=mid_ok hR hl hlk hmu2 hh hcs hle hrow hlen
     rw [show o+off*τ.sz+n*τ.sz=o+(off+n)*τ.sz by rw [Nat.add_mul]; omega] at hrun
     exact ⟨_,_,hrun,hmid,_,_,τ,_,rfl,hR.row hl,by omega,hmc,by omega,h2,.inr ⟨g,o,s',_,hmu2,rfl,h4,h5⟩⟩
theorem clear_ok (hT:TabOK P T) (hR:RepM N w0 M W lk μ st a w) {t e ty:TypeId} {τ:Ty} (ht:lkp T t=some (.sl e τ)) {S:Operand} {k off n:Nat} {l:List τ.D} (hS:st.ev S=.one (.c (.sub k off n))) (hlk:memN lk k=false)
  (hl:lkp st.o k=some (.row τ l)) :
  ∃ w',(Builtin.clear_ #[t] ty #[a.eval S]).run P w=.ok undef w'∧RepM N w0 M W lk μ ⟨st.t,setO k (.row τ (midA l off (List.replicate n τ.zero))) st.o⟩ a w':=by
 obtain ⟨i,hu,hi,hsz,⟨z,hz,hz2⟩,_⟩:=hT _ _ ht
 have hx:=RA_ev hR S
 rw [hS] at hx
 obtain ⟨A,c,σ,m,e1,hs,hm,hmc,h1,h2,h3⟩:=hx
 rw [hR.row hl] at hs
 injection hs with hs; injection hs with e3 e4; subst e3; subst e4
 rw [e1]
 have hlen:off+(List.replicate n τ.zero).length≤l.length:=by rw [List.length_replicate]; exact hm
 by_cases hn:n=0
 ·subst hn
  refine ⟨w,?_,setO_ok hR hl (by simp only [OB.sk,mid_len hlen]) hlk (.inl rfl) fun _=>by rw [List.replicate_zero,mid_nil]; exact hR.ob k _ hl⟩
  cases A <;> simp [Builtin.clear_,run_underlying hu,undef]
 ·rcases h3 with ⟨rfl,rfl⟩ | ⟨g,o,s',o',hmu,rfl,h4,h5⟩
  ·omega
  ·rcases hR.ob k _ hl with ⟨e,_⟩ | ⟨g',o2,s2,cur,ty',hmu',hh,hcs,hle,hrow⟩
   ·rw [hmu] at e; cases e
   ·have hmu2:=hmu
    rw [hmu] at hmu'
    injection hmu' with hmu'; injection hmu' with a1 a2; injection a2 with a2 a3; subst a1; subst a2; subst a3
    have ho:=h5 (by omega)
    subst ho
    have hcn:n*τ.sz≤c*τ.sz:=Nat.mul_le_mul_right _ h1
    exact ⟨_,clear_run (P:=P) (ty:=ty) hu hi hsz hz hz2 (cur:=cur) (o':=o+off*τ.sz) hh (n:=n) (c:=c) (by omega),mid_ok hR hl hlk hmu2 hh hcs hle hrow hlen⟩
theorem rowsA_get {S:Sk} {μ:Mu} {w:World} {τ:Ty}:∀ {ps:List (Nat×AV)} {qs:List (Nat×Value)} {k:Nat} {ls:List (List τ.D)},rowsA τ k ps=some ls→Parts S μ w ps qs→
  qs.length=ls.length∧∀ (i:Nat) l,ls[i]?=some l→∃ y,qs[i]?=some (k+i,y)∧RoAt S μ w τ l y
 | [],[],k,ls,h,_=>by injection h with h; subst h; exact ⟨rfl,fun i l h=>by simp at h⟩
 | (j,x) :: ps,(j',y) :: qs,k,ls,h,hq=>by
  obtain ⟨rfl,hx,hq⟩:=hq
  unfold rowsA at h
  split at h
  ·rename_i hb
   have hjk:j=k:=Nat.eq_of_beq_eq_true hb
   subst hjk
   split at h
   ·rename_i l0 hl0
    split at h
    ·rename_i r hr
     injection h with h; subst h
     obtain ⟨h1,h2⟩:=rowsA_get hr hq
     refine ⟨by simp [h1],fun i l hi=>?_⟩
     cases i with
     | zero=>
      simp at hi; subst hi
      refine ⟨y,rfl,?_⟩
      unfold roA at hl0
      split at hl0
      ·injection hl0 with hl0; subst hl0
       exact ⟨none,0,0,hx,⟨rfl,Nat.le_refl _,Nat.zero_le _,.inl ⟨rfl,rfl⟩⟩,fun h=>by omega⟩
      ·obtain ⟨rfl,rfl⟩:=castL_ok2 hl0
       exact hx
      ·cases hl0
     | succ i=>
      obtain ⟨y',y1,y2⟩:=h2 i l (by simpa using hi)
      exact ⟨y',by simpa [Nat.add_assoc,Nat.add_comm 1] using y1,y2⟩
    ·cases h
   ·cases h
  ·cases h
 | [],_ :: _,_,_,_,hq=>hq.elim
 | _ :: _,[],_,_,_,hq=>hq.elim
theorem fillOne:∀ {qs:List (Nat×Value)} {k:Nat} {cells:Array Value},(∀ (i:Nat) p,qs[i]?=some p→p.1=k+i∧p.2.cells=#[p.2])→k+qs.length≤cells.size→
  ∃ cells',Instr.fill (fun i=>some (i*1,1)) cells qs=some cells'∧cells'.toList=setsL cells.toList k (qs.map (·.2))
 | [],k,cells,_,_=>⟨cells,rfl,rfl⟩
 | (j,y) :: qs,k,cells,h,hsz=>by
  obtain ⟨e1,e2⟩:=h 0 (j,y) rfl
  simp only [Nat.add_zero] at e1 e2
  subst e1
  simp only [List.length_cons] at hsz
  have e3:(Array.foldl (fun cs (x:Value×Nat)=>cs.setIfInBounds (j*1+x.2) x.1) cells y.cells.zipIdx).toList=setsL cells.toList j [y]:=by
   rw [← Array.foldl_toList,Array.toList_zipIdx,e2]
   simpa using fold_sets [y] 0 cells (j*1)
  have hsz2:(Array.foldl (fun cs (x:Value×Nat)=>cs.setIfInBounds (j*1+x.2) x.1) cells y.cells.zipIdx).size=cells.size:=by
   have:=congrArg List.length e3
   rw [setsL_len] at this
   simpa using this
  obtain ⟨cells',h1,h2⟩:=fillOne (qs:=qs) (k:=j+1) (cells:=Array.foldl (fun cs (x:Value×Nat)=>cs.setIfInBounds (j*1+x.2) x.1) cells y.cells.zipIdx) (fun i p hp=>by
   obtain ⟨a1,a2⟩:=h (i+1) p (by simpa using hp)
   exact ⟨by omega,a2⟩) (by rw [hsz2]; omega)
  refine ⟨cells',?_,?_⟩
  ·unfold Instr.fill
   simp only []
   rw [if_neg (by simp [e2]; omega)]
   exact h1
  ·rw [h2,e3]; rfl
theorem litL_run {S:Sk} {t e:TypeId} {i:TypeInfo} {τ:Ty} (hu:P.underlying t=some (.slice e)) (hi:P.info? e=some i) (hsz:i.size=1) (hz:i.zero=some (.slice none 0 0))
  {ps:List (Nat×AV)} {qs:Array (Nat×Value)} {ls:List (List τ.D)} {len:Nat} (h:rowsA τ 0 ps=some ls) (hq:Parts S μ w ps qs.toList) (hl:ls.length=len) (hlen:len≤1000) (w':World) :
  ∃ cells:Array Value,cells.toList=qs.toList.map (·.2)∧(Instr.buildSlice t len qs).run P w'=.ok (.slice (some ⟨w'.heap.size,0,none⟩) len len) (w'.alloc (.cells cells e)):=by
 obtain ⟨g1,g2⟩:=rowsA_get h hq
 have hbig:¬ len*i.size > 2 ^ 24:=by rw [hsz]; omega
 by_cases h0:len=0
 ·subst h0
  have hqs:qs=#[]:=by
   apply Array.ext'
   exact List.eq_nil_of_length_eq_zero (by omega)
  subst hqs
  refine ⟨#[],rfl,?_⟩
  simp [Instr.buildSlice,run_underlying hu,sizeOf,typeInfo,hi,newRow,Instr.fill]
  congr 2
  apply Array.ext'; simp
 ·have hne:¬ len*i.size=0:=by rw [hsz]; omega
  have hcells:∀ (i:Nat) (p:Nat×Value),qs.toList[i]?=some p→p.1=0+i∧p.2.cells=#[p.2]:=fun i p hp=>by
   have hlt:i < ls.length:=by have:=(List.getElem?_eq_some_iff.1 hp).1; omega
   obtain ⟨y,y1,A,n,c,y2,_⟩:=g2 i _ (List.getElem?_eq_getElem hlt)
   rw [hp] at y1
   injection y1 with y1; subst y1
   exact ⟨rfl,by rw [y2]; rfl⟩
  obtain ⟨cells,h1,h2⟩:=fillOne (cells:=(Array.range (len*1)).map ((Value.slice none 0 0).cells[· % (Value.slice none 0 0).cells.size]!)) hcells (by have:=g1; simp only [Array.length_toList] at this; simp; omega)
  refine ⟨cells,?_,run_buildSlice w' t e len qs cells i _ hu hi hz hbig hne (by rw [hsz]; exact h1)⟩
  have hlen2:((Array.range (len*1)).map ((Value.slice none 0 0).cells[· % (Value.slice none 0 0).cells.size]!)).toList.length=(qs.toList.map (·.2)).length:=by have:=g1; simp only [Array.length_toList] at this; simp; omega
  rw [h2,setsL_eq _ _ _ (by omega),List.take_zero,List.nil_append,Nat.zero_add,← hlen2,List.drop_length,List.append_nil]
theorem litL_ok (hR:RepM N w0 M W lk μ st a w) {t e:TypeId} {i:TypeInfo} {τ:Ty} (hu:P.underlying t=some (.slice e)) (hi:P.info? e=some i) (hsz:i.size=1) (hz:i.zero=some (.slice none 0 0))
  {ps:List (Nat×AV)} {qs:Array (Nat×Value)} {ls:List (List τ.D)} {len:Nat} (h:rowsA τ 0 ps=some ls) (hq:Parts (skel st.o) μ w ps qs.toList) (hl:ls.length=len) (hlen:len≤1000) :
  ∃ v w',(Instr.buildSlice t len qs).run P w=.ok v w'∧RepM N w0 M W lk μ st a w'∧RA (skel st.o) μ w' (.one (.c (.rol τ ls))) v:=by
 obtain ⟨cells,h1,h2⟩:=litL_run (P:=P) hu hi hsz hz h hq hl hlen w
 obtain ⟨g1,g2⟩:=rowsA_get h hq
 have hfr:=fr_alloc w (.cells cells e)
 have hget:(w.alloc (.cells cells e)).heap[w.heap.size]?=some (.cells cells e (0,0)):=by show (w.heap.push _)[w.heap.size]?=_; rw [Array.getElem?_push,if_pos rfl]
 refine ⟨_,_,h2,grow_ok hR hfr,_,_,_,rfl,hl.symm,Nat.le_refl _,by simp only [maxLen]; omega,fun _=>⟨w.heap.size,0,rfl,?_,heap_lt hget,fun j l hj=>?_⟩⟩
 ·rintro (⟨k,p,hs,hp,e⟩ | hf)
  ·have:=own_lt hR hs hp; omega
  ·exact hf (hR.fo 0 _ (by omega) (hR.up.1 0 _ hR.fr.size))
 ·obtain ⟨y,y1,y2⟩:=g2 j l hj
  refine ⟨y,?_,y2.mono fun b hb hno=>⟨hfr.blk b hb (fun h=>h),hno⟩⟩
  rw [cell_of_heap hget,Nat.zero_add,← Array.getElem?_toList,h1,List.getElem?_map,y1]
  rfl
theorem flat_u8:∀ l:List Int,flat .u8 l=l.map (Value.int .u8)
 | []=>rfl
 | x :: l=>by
  show Ty.enc .u8 x++flat .u8 l=_
  rw [flat_u8 l]; rfl
theorem bytes_run {src dst e:TypeId} (hs:P.underlying src=some (.slice e)) (he:P.underlying e=some (.int .u8)) (hd:P.underlying dst=some .string) {A:Option Addr} {l:List Int} {c:Nat} (h:Src w A .u8 l) :
  (convert src dst (.slice A l.length c)).run P w=.ok (.string (strOfNums l)) w:=by
 rcases h with ⟨rfl,rfl⟩ | ⟨ad,rfl,h⟩
 ·rw [run_convert_bytes_nil w src e hs he _ c dst hd]; rfl
 ·have hl:(loadCells ad l.length).run P w=.ok (l.map (Value.int .u8)).toArray w:=by
   have:=run_loadCells_list (P:=P) w ad (l.map (Value.int .u8)) (fun j v hj=>h j v (by rw [flat_u8]; exact hj))
   simpa using this
  rw [run_convert_bytes_string w src dst e ad l.length c hs he hd,run_bytesToString w ad _ c l hl,foldl_push_bytes]
  simp [strOfNums,ByteArray.empty,ByteArray.emptyWithCapacity]
  rfl
theorem RAs_append {S:Sk} {μ:Mu} {w:World}:∀ {l r:List AV} {ys zs:List Value},RAs S μ w l ys→RAs S μ w r zs→RAs S μ w (l++r) (ys++zs)
 | [],_,[],_,_,h=>h
 | _ :: _,_,_ :: _,_,h,h'=>⟨h.1,RAs_append h.2 h'⟩
 | [],_,_ :: _,_,h,_=>h.elim
 | _ :: _,_,[],_,h,_=>h.elim
theorem RAs_csts {S:Sk} {μ:Mu} {w:World}:∀ (l:List Value),RAs S μ w (l.map cst) l
 | []=>trivial
 | x :: r=>⟨RA_cst x,RAs_csts r⟩
theorem RAs_caps {S:Sk} {μ:Mu} {w:World}:∀ {cs:List Cap} {ps:List Value},ps.length=cs.length→(∀ (i:Nat) x p,cs[i]?=some x→ps[i]?=some p→CapAt S μ w x p)→RAs S μ w (cs.map capA) ps
 | [],[],_,_=>trivial
 | x :: cs,p :: ps,h,hp=>⟨by
   have:=hp 0 x p rfl rfl
   cases x with
   | k x=>exact this
   | b k=>exact this
   | v x=>exact this.1,RAs_caps (by simpa using h) fun i x p h1 h2=>hp (i+1) x p (by simpa using h1) (by simpa using h2)⟩
 | [],_ :: _,h,_=>by simp at h
 | _ :: _,[],h,_=>by simp at h
theorem asA1_ok {S:Sk} {μ:Mu} {w:World}:∀ {l:List AV} {av:List A1} {ys:List Value},RAs S μ w l ys→asA1 l=some av→R1s S μ w av ys
 | [],av,[],_,h=>by injection h with h; subst h; trivial
 | .one a :: l,av,y :: ys,h,h'=>by
  unfold asA1 at h'
  split at h'
  ·rename_i l' h2
   injection h' with h'; subst h'
   exact ⟨h.1,asA1_ok h.2 h2⟩
  ·cases h'
 | .tup _ :: _,_,_,_,h'=>by cases h'
 | [],_,_ :: _,h,_=>h.elim
 | _ :: _,_,[],h,_=>h.elim
theorem lowN_iff:∀ {l:List Nat},lowN l=true→∀ k∈l,k < 100000
 | [],_,k,h=>by cases h
 | j :: l,h,k,hk=>by
  unfold lowN at h
  split at h
  ·rename_i hj
   rcases List.mem_cons.1 hk with rfl | hk
   ·simpa using hj
   ·exact lowN_iff h k hk
  ·cases h
theorem live_mut (hR:RepM N w0 M W lk μ st a w) {C:Con} {av vs:List A1} (hvs:args1 st.o C.ps av=some vs) (hok:mutOK lk C.mu av=true):∀ k∈mutKeys C.mu av,skel st.o k≠none:=by
 obtain ⟨hw,hlk,hnd,hst,hone,hlen,hpb⟩:=mutOK_parts hok
 obtain ⟨hm1,_⟩:=mutA_args (ms:=C.mu) hvs
 intro k hk
 cases e1:mutA C.mu av with
 | none=>simp [mutKeys,e1] at hk
 | some mx=>
  obtain ⟨m,x⟩:=mx
  rw [mutKeys_of e1] at hk
  obtain ⟨pt,v,_,e3⟩:=hm1 m x e1
  have hwx:whole1 x=true:=by simpa [mutWhole,e1] using hw
  rcases arg1_cells e3 hwx with ⟨k',l,ts,l',rfl,hl,_,_⟩ | ⟨ts,hcs,hwc,_⟩
  ·simp [keys1,keyC] at hk; subst hk
   exact skel_ne hl
  ·rw [keys1_cells] at hk
   obtain ⟨j,c,hc,hkc⟩:=keysCs_inv hk
   have hlt:j < (cells1 v).length:=by rw [argCs_len hcs]; exact (List.getElem?_eq_some_iff.1 hc).1
   obtain ⟨t,c2,a1,a2⟩:=argCs_get hcs (List.getElem?_eq_getElem hlt)
   rw [hc] at a1; injection a1 with a1; subst a1
   rcases whole_arg (wholeCs_get hwc hc) a2 with ⟨x,rfl,_⟩ | ⟨rfl,_⟩ | ⟨k2,τ,l,rfl,hl,_⟩ | ⟨rfl,_⟩
   rotate_left 3
   ·simp [keyC] at hkc
   ·simp [keyC] at hkc
   ·simp [keyC] at hkc
   ·simp [keyC] at hkc; subst hkc; exact skel_ne hl
theorem keysAVs_app:∀ {l r:List AV},keysAVs (l++r)=keysAVs l++keysAVs r
 | [],_=>rfl
 | .one a :: l,r=>by simp [keysAVs,keysAVs_app (l:=l)]
 | .tup a :: l,r=>by simp [keysAVs,keysAVs_app (l:=l)]
theorem keysAVs_l {l r:List AV} (h:keysAVs (l++r)=[]):keysAVs l=[]:=by
 rw [keysAVs_app] at h; exact (List.append_eq_nil_iff.1 h).1
theorem keysAVs_r {l r:List AV} (h:keysAVs (l++r)=[]):keysAVs r=[]:=by
 rw [keysAVs_app] at h; exact (List.append_eq_nil_iff.1 h).2
def nokF (c:C):C:=match keyC c with
 | []=>c
 | _ :: _=>.un
theorem nokF_kill:KillF (fun _=>True) nokF:=by
 intro c
 unfold nokF
 split
 ·rename_i h; exact .inr ⟨rfl,fun k hk=>by rw [h] at hk; cases hk⟩
 ·exact .inl rfl
theorem keysCs_nil:∀ {cs:List C},keysCs cs=[]→cs.map nokF=cs
 | [],_=>rfl
 | c :: cs,h=>by
  simp only [keysCs,List.append_eq_nil_iff] at h
  simp only [List.map_cons,keysCs_nil h.2]
  unfold nokF; rw [h.1]
theorem RAs_nokeys {S S':Sk} {μ:Mu} {w:World} (hS:∀ b,¬ Own S μ b→¬ Own S' μ b):∀ {l:List AV} {ys:List Value},keysAVs l=[]→RAs S μ w l ys→RAs S' μ w l ys
 | [],[],_,_=>trivial
 | .one a :: l,y :: ys,hk,h=>by
  simp only [keysAVs,List.append_eq_nil_iff] at hk
  have hC:∀ c y,RC S μ w c y→RC S' μ w (nokF c) y:=fun c y h=>h.gen nokF_kill (fun _ _ h=>absurd trivial h) (fun _ h=>absurd trivial h) (fun b _ hno=>⟨rfl,hS b hno⟩) (Nat.le_refl _)
  refine ⟨?_,RAs_nokeys hS hk.2 h.2⟩
  have h1:=RA.map hC h.1
  have e:AV.map nokF (.one a)=.one a:=by
   cases a with
   | c x=>have:=keysCs_nil (cs:=[x]) (by simpa [keysCs,keys1] using hk.1); simp at this; simp [AV.map,A1.map,this]
   | agg l=>have:=keysCs_nil (cs:=l) hk.1; simp [AV.map,A1.map,this]
   | ptr l=>have:=keysCs_nil (cs:=l) hk.1; simp [AV.map,A1.map,this]
  rwa [e] at h1
 | .tup _ :: _,_ :: _,hk,_=>by simp [keysAVs] at hk
 | [],_ :: _,_,h=>h.elim
 | _ :: _,[],_,h=>h.elim
theorem callC_ok (hR:RepM N w0 M W lk μ st a w) {o:Oper} {C:Con} {f:FuncId} (hf:Holds P f C) {av:List A1} {vals:List Value} (hav:R1s (skel st.o) μ w av vals) {kd:Nat} (hfree:∀ k,kd≤k→k < kd+16→skel st.o k=none)
  (h:callC lk N st kd o.dst C av K) (hrun:(execOp a.eval o).run P w=.ok (.enter f vals.toArray) w) (hk:∀ μ' st' a' w',RepM N w0 M W lk μ' st' a' w'→K st'→next a' w'):o.wp P a w next Q:=by
 unfold callC at h
 split at h
 ·exact h.elim
 ·rename_i vs hvs
  split at h
  ·rename_i hok hfz hkd hlow
   have hkd:kd+16≤100000:=by simpa using hkd
   have hlive:=live_mut hR hvs hok
   have hpre:=pre_ok hR hav hvs hok hfz
   have hcall:=hf vs _ h kd w vals _ _ hkd hpre
   simp only [Oper.wp,hrun,Oper.upon]
   refine Calls.mono hcall fun e w' hpost=>?_
   obtain ⟨r,bs,v,μ1,no,hkk,rfl,h1,h2,h3,h4,h5,h6,h7,h8,h9,h10⟩:=hpost
   simp only
   split at hkk
   ·exact hkk.elim
   ·exact hkk.elim
   ·rename_i o' hwb hpl
    obtain ⟨μ',m1,m2⟩:=called hR hvs hok hfz (lowN_iff hlow) hlive hkd hfree hpl h1 h2 h3 h4 h5 h6 h7 h8 h9 h10 hwb
    obtain ⟨st',m3,m4⟩:=putK_ok m1 m2 hkk
    exact hk _ _ _ _ m3 m4
  ·exact h.elim
theorem entA_rd:∀ {ms:List Md} {vs:List A1},allRd ms=true→ms.length=vs.length→entA ms vs=vs
 | [],[],_,_=>rfl
 | .rd :: ms,v :: vs,h,hl=>by
  have:=entA_rd (ms:=ms) (vs:=vs) h (by simpa using hl)
  simp [entA,this]
 | .mu :: _,_,h,_=>by cases h
 | .mv :: _,_,h,_=>by cases h
 | [],_ :: _,_,hl=>by simp at hl
 | .rd :: _,[],_,hl=>by simp at hl
theorem args1_conf {o:List (Nat×OB)}:∀ {ps:List PT} {av vs:List A1},args1 o ps av=some vs→∀ a∈vs,∀ c∈cells1 a,confd c=true
 | [],[],vs,h=>by injection h with h; subst h; intro a ha; cases ha
 | t :: ts,a0 :: av,vs,h=>by
  unfold args1 at h
  split at h
  ·rename_i v0 l h1 h2
   injection h with h; subst h
   intro a ha
   rcases List.mem_cons.1 ha with rfl | ha
   ·have hcs:∀ {o:List (Nat×OB)} {ts:List CT} {cs cs':List C},argCs o ts cs=some cs'→∀ c∈cs',confd c=true:=by
     intro o ts cs cs' hcs c hc
     obtain ⟨j,hj⟩:=List.getElem?_of_mem hc
     obtain ⟨t,c0,_,a2⟩:=argCs_get hcs hj
     exact argC_conf a2
    unfold arg1 at h1
    split at h1
    ·split at h1
     ·rename_i c' hc'
      injection h1 with h1; subst h1
      intro c hc; simp [cells1] at hc; subst hc; exact argC_conf hc'
     ·cases h1
    ·split at h1
     ·rename_i l' hc'
      injection h1 with h1; subst h1
      exact hcs hc'
     ·cases h1
    ·split at h1
     ·split at h1
      ·rename_i l' hc'
       injection h1 with h1; subst h1
       exact hcs hc'
      ·cases h1
     ·cases h1
    ·cases h1
   ·exact args1_conf h2 a ha
  ·cases h
 | [],_ :: _,_,h=>by cases h
 | _ :: _,[],_,h=>by cases h
theorem callB_ok {kd:Nat} {o:Oper} (hN:∀ {x st K},putK N o.dst x st K→kd < 100000) (hR:RepM N w0 M W lk μ st a w) {C:Con} {f:FuncId} (hf:HoldsB P f C) {av:List A1} {vals:List Value} (hav:R1s (skel st.o) μ w av vals)
  (h:callB lk N st kd o.dst C av K) (hrun:(execOp a.eval o).run P w=.ok (.enter f vals.toArray) w) (hk:∀ μ' st' a' w',RepM N w0 M W lk μ' st' a' w'→K st'→next a' w'):o.wp P a w next Q:=by
 unfold callB at h
 split at h
 ·exact h.elim
 ·rename_i vs hvs
  split at h
  ·rename_i hall hlen hpb hst
   have hlen:=Nat.eq_of_beq_eq_true hlen
   have hlen2:C.mu.length=vs.length:=by rw [hlen,args1_len hvs]
   have hin:=args_in (S0:=skel st.o) (μ0:=μ) hR (allRd_one hall) hlen hav hvs (fun b _ hh=>hh.elim id fun ⟨k,hk,_⟩=>by rw [hst] at hk; cases hk) (fun m x v y pt e1=>by rw [allRd_none hall] at e1; cases e1) hpb
   rw [entA_rd hall hlen2] at hin
   have hup:∀ b,w.heap.size≤b→¬ Own (skel st.o) μ b:=by
    rintro b hb (⟨k,p,hk,hm,rfl⟩ | hfo)
    ·have:=own_lt hR hk hm; omega
    ·exact hfo (hR.fo 0 b (by omega) (hR.up.1 0 b (by have:=hR.fr.size; omega)))
   have hcall:=hf vs _ h w vals (skel st.o) μ (hR.up.2.keep hR.fr fun b hb=>hb.elim) hup hlen2 hall (args1_conf hvs) hin
   simp only [Oper.wp,hrun,Oper.upon]
   refine Calls.mono hcall fun e w' hpost=>?_
   obtain ⟨l,bs,g,o2,cur,ty,hkk,rfl,h1,h2,h3,h4,h5⟩:=hpost
   simp only at hkk ⊢
   split at hkk
   ·rename_i hpl
    have hpl:=plainCs_iff.1 hpl
    have hk0:=hN hkk
    have hnew:=newK_ok hR (kd) hk0 (.box l) (some (g,o2,cur.size)) h1 (fun q h=>by injection h with h; subst h; exact h2) (fun S' f hf hfp hown=>by
     have hmap:l.map f=l:=by
      have:l.map f=l.map id:=List.map_congr_left fun c hc=>hfp c (hpl c hc)
      simpa using this
     refine ⟨g,o2,cur.size,cur,ty,upd_same _ _ _,h3,rfl,by rw [hmap]; exact h4,?_⟩
     rw [hmap]
     exact h5 S' _ fun b hb hne=>hown b (fun q hq=>by injection hq with hq; subst hq; exact hne) hb)
    have hsk:skel (st.newK (kd) (.box l)).o (kd)=some .box:=by
     unfold St.newK; split
     ·simp [skel,lkp,OB.sk]
     ·simp [skel,lkp,OB.sk,OB.map]
    obtain ⟨st',m1,m2⟩:=putK_ok hnew (show RA _ _ w' (.one (.c (.pb (kd) 0))) (.pointer (some ⟨g,o2,none⟩)) from ⟨g,o2,cur.size,hsk,upd_same _ _ _,rfl⟩) hkk
    exact hk _ _ _ _ m1 m2
   ·exact hkk.elim
  ·exact h.elim
set_option maxHeartbeats 1000000 in
theorem run_nilS {xt e:TypeId} (hu:P.underlying xt=some (.slice e)) (A:Option Addr) (n c:Nat) (w':World):(Op.equal xt (.slice A n c) (.slice none 0 0)).run P w'=.ok A.isNone w':=by
 unfold Op.equal Op.maxDepth
 rw [show (10000:Nat)=9999+1 from rfl,Op.equalIn]
 cases A <;> simp [run_underlying hu]
theorem run_nilI {xt:TypeId} {m:Array (String×TypeId)} (hu:P.underlying xt=some (.interface m)) (w':World):(Op.equal xt .nilIface .nilIface).run P w'=.ok true w'∧∀ t v,(Op.equal xt (.iface t v) .nilIface).run P w'=.ok false w':=by
 unfold Op.equal Op.maxDepth
 rw [show (10000:Nat)=9999+1 from rfl]
 exact ⟨by rw [Op.equalIn]; simp [run_underlying hu],fun t v=>by rw [Op.equalIn]; simp [run_underlying hu]⟩
theorem inlFind_mem {d:Nat} {f:FuncId} {G:List AV→St→(AV→St→Prop)→Prop}:∀ {l:List (Nat×Inl)},inlFind d f l=some G→∃ p,p∈l∧p.2.f=f∧p.2.G=G
 | [],h=>by cases h
 | (d',i) :: r,h=>by
  unfold inlFind at h
  split at h
  ·rename_i hb
   injection h with h
   exact ⟨(d',i),List.mem_cons_self,Nat.eq_of_beq_eq_true hb,h⟩
  ·obtain ⟨p,h1,h2⟩:=inlFind_mem h
   exact ⟨p,List.mem_cons_of_mem _ h1,h2⟩
def lookV (ps:List Value) (s:ByteArray):List (ByteArray×Int×FuncId)→Option Value
 | []=>none
 | (b,n,f) :: r=>if s==b then some (.agg #[.int .i64 n,.func (.func f) ps.toArray #[]]) else lookV ps s r
theorem findNow_ok (ps:List Value) (s:ByteArray):∀ (L:List MapEntry) (T:List (ByteArray×Int×FuncId)) (i:Nat),L.map (fun e=>(e.key,e.val))=T.map (fun c=>(Value.string c.1,Value.agg #[.int .i64 c.2.1,.func (.func c.2.2) ps.toArray #[]]))→
  ∃ q:Option (Nat×Value),Instr.findNow .string (.string s) L i=some q∧q.map (·.2)=lookV ps s T
 | [],[],i,_=>⟨none,rfl,rfl⟩
 | [],_ :: _,_,h=>by cases h
 | _ :: _,[],_,h=>by cases h
 | e :: L,(b,n,f) :: T,i,h=>by
  rw [List.map_cons,List.map_cons] at h
  injection h with h1 h2
  injection h1 with h3 h4
  obtain ⟨q,g1,g2⟩:=findNow_ok ps s L T (i+1) h2
  rw [Instr.findNow,h3]
  simp only [Instr.sameNow]
  cases hb:s==b with
  | true=>exact ⟨some (i,e.val),rfl,by rw [lookV,hb,Option.map_some,h4]; rfl⟩
  | false=>exact ⟨q,g1,by rw [g2,lookV,hb]; rfl⟩
theorem lookup_run {t kt et:TypeId} {i:TypeInfo} (hu:P.underlying t=some (.map kt et)) (hk:P.underlying kt=some .string) (hi:P.info? et=some i) (hz:i.zero=some (.agg #[.int .i64 0,.nilFunc])) {r:Nat} {es:Array MapEntry} {n:Nat} (hr:w.heap[r]?=some (.map es n))
  {ps:List Value} {T:List (ByteArray×Int×FuncId)} (he:es.toList.map (fun e=>(e.key,e.val))=T.map (fun c=>(Value.string c.1,Value.agg #[.int .i64 c.2.1,.func (.func c.2.2) ps.toArray #[]]))) (s:ByteArray) :
  (Instr.lookup t (.map (some r)) (.string s) true).run P w=.ok (match lookV ps s T with
   | some v=>.tuple #[v,.bool true]
   | none=>.tuple #[.agg #[.int .i64 0,.nilFunc],.bool false]) w:=by
 obtain ⟨q,g1,g2⟩:=findNow_ok ps s es.toList T 0 he
 have hck:∀ b:Bool,(Instr.checkKey b 10000 kt (.string s)).run P w=.ok () w:=fun b=>by
  rw [show (10000:Nat)=9999+1 from rfl,Instr.checkKey]
  simp [Sem.run_bind,run_underlying hk,Result.andThen]
 have hfk:(Instr.findKey kt (.string s) es.toList).run P w=.ok q w:=by
  simp [Instr.findKey,Sem.run_bind,run_underlying hk,Result.andThen,g1]
 have hgo:(getObj r).run P w=.ok (.map es n) w:=by simp [getObj,Sem.run,hr]
 unfold Instr.lookup
 simp only [Sem.run_bind,run_underlying hu,Result.andThen_ok,hgo,Sem.run_pure,hck,hfk]
 cases q with
 | none=>simp only [Option.map_none] at g2; rw [← g2]; simp [Sem.run_bind,run_zero hi hz,Result.andThen]
 | some q=>simp only [Option.map_some] at g2; rw [← g2]; simp [Sem.run_bind,Result.andThen]
theorem blt_no {a b:Nat} (h:b≤a):Nat.blt a b=false:=by
 cases e:Nat.blt a b with
 | false=>rfl
 | true=>have:=Nat.blt_eq.mp e; omega
theorem lookK_ok {S:Sk} {cs:List Cap} {ps:List Value} (hl:ps.length=cs.length) (hp:∀ (i:Nat) x p,cs[i]?=some x→ps[i]?=some p→CapAt S μ w x p) (s:ByteArray):∀ {T:List (ByteArray×Int×FuncId)} {K:AV→Prop},lookK cs s T K→
  ∃ X,K X∧RA S μ w X (match lookV ps s T with
   | some v=>.tuple #[v,.bool true]
   | none=>.tuple #[.agg #[.int .i64 0,.nilFunc],.bool false])
 | [],K,h=>⟨_,h,_,rfl,⟨_,rfl,⟨rfl,rfl,rfl,rfl,trivial⟩⟩,rfl,trivial⟩
 | (b,n,f) :: T,K,h=>by
  rw [lookK] at h
  split at h
  ·rename_i hf
   rw [lookV]
   cases hb:s==b with
   | true=>
    rw [hb] at h
    refine ⟨_,h,_,rfl,⟨_,rfl,⟨rfl,rfl,⟨ps,?_,hl,hp⟩,rfl,trivial⟩⟩,rfl,trivial⟩
    have hf2:@LT.lt Nat _ f 1000000:=Nat.blt_eq.mp hf
    unfold ClIs
    rw [blt_no (a:=1000000+f) (b:=1000000) (by omega),(Nat.blt_eq (x:=1000000+f) (y:=2000000)).mpr (by omega)]
    simp
   | false=>rw [hb] at h; exact lookK_ok hl hp s h
  ·exact h.elim
theorem evOp_ok {Γ:Cons} (hN:Γ.B+16*N+16≤100000) (hT:TabOK P T) (hΓ:ConsOK P N Γ) (hR:RepM N w0 M W lk μ st a w) {o:Oper} (h:evOp T Γ lk N o st K) (hk:∀ μ' st' a' w',RepM N w0 M W lk μ' st' a' w'→K st'→next a' w'):o.wp P a w next Q:=by
 unfold evOp at h
 split at h
 ·rename_i x hp
  obtain ⟨v,h1,h2⟩:=pureOp_ok hT hR o (z:=x) (by rw [hp]; rfl)
  exact stepV (h2 w (.inl rfl)) hR h1 h hk
 ·rename_i c x hp
  obtain ⟨v,h1,h2⟩:=pureOp_ok hT hR o (z:=x) (by rw [hp]; exact ⟨h.1,rfl⟩)
  exact stepV (h2 w (.inl rfl)) hR h1 h.2 hk
 ·rename_i hp
  obtain ⟨dst,op,type,pos,after,guard⟩:=o
  simp only at h hk
  split at h
  ·-- alloc
   rename_i t
   split at h
   ·rename_i l hl
    obtain ⟨i,z,h1,h2,h3⟩:=zero_ok hT hl
    obtain ⟨μ',m1,m2⟩:=box_new hR (Γ.k dst) (putK_key hN h) t (h3 (skel st.o) μ w)
    exact stepV (by simp [execOp,alloc_run h1 h2 w]) m1 m2 h hk
   ·split at h
    ·rename_i n m e ht
     split at h
     ·rename_i hb1 hb2
      have h0:0 < n*m:=by simpa using hb1
      have h1:n*m≤1000:=by simpa using hb2
      obtain ⟨i,ie,hu,hi,hsz,hz,_⟩:=hT _ _ ht
      have hrow:RowIs (List.replicate (n*m) (Value.int .i64 0)).toArray 0 .int (List.replicate (n*m) (0:Int)):=by
       intro q x hq j y hj
       rw [List.getElem?_replicate] at hq
       split at hq
       ·rename_i hlt
        injection hq with hq
        subst hq
        cases j with
        | zero=>
         injection hj with hj
         subst hj
         simp [Ty.sz,List.getElem?_replicate,hlt]
        | succ j=>cases hj
       ·cases hq
      obtain ⟨μ',m1,m2⟩:=row_new hR (Γ.k dst) (putK_key hN h) .int (List.replicate (n*m) (0:Int)) (fr_alloc w (.cells (List.replicate (n*m) (Value.int .i64 0)).toArray t)) (A:=some ⟨w.heap.size,0,none⟩) (c:=n*m) (by simp) (by simp only [maxLen]; omega)
       (.inr ⟨w.heap.size,0,(List.replicate (n*m) (Value.int .i64 0)).toArray,t,by show (w.heap.push _)[w.heap.size]?=_; rw [Array.getElem?_push,if_pos rfl],rfl,by simp [Ty.sz],hrow,Nat.le_refl _⟩)
      have m3:RA (skel (st.newK (Γ.k dst) (.row .int (List.replicate (n*m) (0:Int)))).o) μ' (w.alloc (.cells (List.replicate (n*m) (Value.int .i64 0)).toArray t)) (.one (.c (.pr (Γ.k dst) 0 0))) (.pointer (some ⟨w.heap.size,0,none⟩)):=by
       obtain ⟨A,q,c,τ,e1,hs,hd⟩:=m2
       injection e1 with e1 e2 e3
       subst e1; subst e2; subst e3
       have hs2:=hs
       rw [newK_sk] at hs2
       injection hs2 with hs2; injection hs2 with e4 e5; subst e4
       obtain ⟨_,_,⟨e,_⟩ | ⟨g,o,s,o',hm,hA,_,hf⟩⟩:=hd
       ·cases e
       ·injection hA with hA
        injection hA with e6 e7
        subst e6
        have h2:=hf h0
        simp only [Nat.zero_mul,Nat.add_zero] at h2
        refine ⟨w.heap.size,o,s,.int,_,hs,by simpa using h0,hm,?_⟩
        simp only [Nat.zero_mul,Nat.add_zero]
        rw [← h2,← e7]
      exact stepV (by simp [execOp,alloc_run hi hz w,Value.cells]) m1 m3 h hk
     ·exact h.elim
    ·exact h.elim
  ·-- box
   rename_i t x
   split at h
   ·rename_i z y hbx ht hl
    have hcs:=cellsA_ok (RA_ev hR x) hl
    obtain ⟨y',hy'⟩:∃ y',(a.eval x).cells.toList=[y']:=by
     have:=RCs.len hcs
     match hq:(a.eval x).cells.toList,this with
     | [y'],_=>exact ⟨y',rfl⟩
    rw [hy'] at hcs
    obtain ⟨rfl,hok,_⟩:y'=y∧okV y'=true∧True:=⟨hcs.1,hcs.2.1,trivial⟩
    have hc2:(a.eval x).cells=#[y']:=by apply Array.ext'; simpa using hy'
    obtain ⟨m1,m2⟩:=const_new (t:=t) hR hok
    exact stepV (by simp [execOp,box_run,hc2]) m1 m2 h hk
   ·rename_i l hl _
    obtain ⟨μ',m1,m2⟩:=box_new hR (Γ.k dst) (putK_key hN h) t (cellsA_ok (RA_ev hR x) hl)
    exact stepV (by simp [execOp,box_run]) m1 m2 h hk
   ·exact h.elim
  ·-- a literal
   rename_i t len parts
   split at h
   ·rename_i e τ ht
    split at h
    ·rename_i l hl
     split at h
     ·rename_i hlen hle
      have hlen:=Nat.eq_of_beq_eq_true hlen
      have hle:len≤1000:=by simpa using hle
      obtain ⟨i,hu,hi,hsz,⟨z,hz,hz2⟩,_⟩:=hT _ _ ht
      have hparts:=parts_of hR parts.toList
      obtain ⟨cells,h1,h2⟩:=lit_run (P:=P) hu hi hsz hz hl (qs:=parts.map fun x=>(x.1,a.eval x.2)) (by simpa using hparts) hlen hle w
      have hcs:cells.size=l.length*τ.sz:=by rw [← flat_len,← h1]; simp
      obtain ⟨μ',m1,m2⟩:=row_new hR (Γ.k dst) (putK_key hN h) τ l (fr_alloc w (.cells cells e)) (A:=some ⟨w.heap.size,0,none⟩) (c:=l.length) (Nat.le_refl _) (by simp only [maxLen]; omega)
       (.inr ⟨w.heap.size,0,cells,e,by show (w.heap.push _)[w.heap.size]?=_; rw [Array.getElem?_push,if_pos rfl],rfl,by omega,rowIs_of fun q y hy=>by rw [Nat.zero_add,← Array.getElem?_toList,h1]; exact hy,Nat.le_refl _⟩)
      subst hlen
      exact stepV (by simp [execOp,h2]) m1 m2 h hk
     ·exact h.elim
    ·exact h.elim
   ·rename_i e τ ht
    split at h
    ·rename_i hpt hl0
     have hpt:parts=#[]:=by apply Array.ext'; simpa using hpt
     obtain rfl:=Nat.eq_of_beq_eq_true hl0
     subst hpt
     obtain ⟨μ',v,w',r1,m1,m2⟩:=litB_ok hT hR ht (Γ.k dst) (putK_key hN h)
     exact stepV (by simp [execOp,r1]) m1 m2 h hk
    split at h
    ·rename_i st1 hni hst1
     have hR1:=frzAll_ok _ hR hst1
     split at h
     ·rename_i l hl
      split at h
      ·rename_i hlen hle
       have hlen:=Nat.eq_of_beq_eq_true hlen
       have hle:len≤1000:=by simpa using hle
       obtain ⟨i,hu,hi,hsz,hz,_⟩:=hT _ _ ht
       have hparts:=parts_of hR1 parts.toList
       obtain ⟨v,w',h2,m1,m2⟩:=litL_ok hR1 hu hi hsz hz hl (qs:=parts.map fun x=>(x.1,a.eval x.2)) (by simpa using hparts) hlen hle
       exact stepV (by simp [execOp,h2]) m1 m2 h hk
      ·exact h.elim
     ·exact h.elim
    ·exact h.elim
   ·exact h.elim
  ·-- make
   rename_i t x y
   split at h
   ·rename_i e τ n m ht hx hy
    obtain ⟨⟨rfl,h0,h1⟩,h⟩:=h
    obtain ⟨i,hu,hi,hsz,⟨z,hz,hz2⟩,hb1,hb2,_⟩:=hT _ _ ht
    have ex:=RA_int (RA_ev hR x) hx
    have ey:=RA_int (RA_ev hR y) hy
    obtain ⟨k,rfl⟩:∃ k:Nat,n=k:=⟨n.toNat,by omega⟩
    obtain ⟨w',cur,r1,r2,r3,r4,r5⟩:=make_run (P:=P) hu hi hsz hz hz2 hb2 (n:=k) (by omega) w
    rw [Int.toNat_natCast] at h
    obtain ⟨μ',m1,m2⟩:=row_new hR (Γ.k dst) (putK_key hN h) τ (List.replicate k τ.zero) (fr_grown r2) (A:=some ⟨w.heap.size,0,none⟩) (c:=k) (by simp) (by simp only [maxLen]; omega)
     (.inr ⟨w.heap.size,0,cur,e,r3,rfl,by omega,r5,Nat.le_refl _⟩)
    rw [List.length_replicate] at m2
    exact stepV (by simp [execOp,ex,ey,r1]) m1 m2 h hk
   ·rename_i e τ n m ht hx hy
    obtain ⟨⟨rfl,h0,h1⟩,h⟩:=h
    have ex:=RA_int (RA_ev hR x) hx
    have ey:=RA_int (RA_ev hR y) hy
    obtain ⟨k,rfl⟩:∃ k:Nat,n=k:=⟨n.toNat,by omega⟩
    rw [Int.toNat_natCast] at h
    obtain ⟨μ',v,w',r1,m1,m2⟩:=makeB_ok hT hR ht (Γ.k dst) (putK_key hN h) (n:=k) (by omega)
    exact stepV (by simp [execOp,ex,ey,r1]) m1 m2 h hk
   ·exact h.elim
  ·-- bytes become a string
   rename_i src dst' x
   split at h
   ·rename_i e τ z l ht hd hl
    split at h
    ·rename_i z' he
     obtain ⟨i,hu,_⟩:=hT _ _ ht
     obtain ⟨i2,d2,_,_,_,_,hu2,_,hd2⟩:=hT _ _ he
     obtain ⟨i3,d3,_,_,_,_,hu3,_,hd3⟩:=hT _ _ hd
     simp only at hd2 hd3; subst hd2; subst hd3
     obtain ⟨A,c,e1,_,_,hsrc⟩:=listA_src hR (RA_ev hR x) hl
     exact stepV (by simp [execOp,e1,bytes_run hu hu2 hu3 hsrc]) hR (show RA _ _ _ (V (.string (strOfNums l))) _ from rfl) h hk
    ·exact h.elim
   ·exact h.elim
  ·-- a slice is held against nil
   rename_i op xt x y pos'
   split at h
   ·rename_i e τ0 τ l ht hx hy
    obtain ⟨i,hu,_⟩:=hT _ _ ht
    have ex:=RA_ev hR x
    rw [hx] at ex
    have ey:=RA_ev hR y
    rw [hy] at ey
    obtain ⟨A,n,c,e1,⟨q1,q2,_,q3⟩,_⟩:=ex
    have e2:a.eval y=.slice none 0 0:=ey
    have h:=h A.isNone (by
     intro hA
     rcases q3 with ⟨_,g⟩ | ⟨a',g,_⟩
     ·omega
     ·rw [g] at hA; cases hA)
    exact stepV (by simp [execOp,e1,e2,eqGuard,binOp,run_nilS hu]) hR (show RA _ _ _ (VB A.isNone) _ from rfl) h hk
   ·rename_i e τ0 τ l ht hx hy
    obtain ⟨i,hu,_⟩:=hT _ _ ht
    have ex:=RA_ev hR x
    rw [hx] at ex
    have ey:=RA_ev hR y
    rw [hy] at ey
    obtain ⟨A,n,c,e1,⟨q1,q2,_,q3⟩,_⟩:=ex
    have e2:a.eval y=.slice none 0 0:=ey
    have h:=h (!A.isNone) (by
     intro hA
     rcases q3 with ⟨_,g⟩ | ⟨a',g,_⟩
     ·omega
     ·rw [g] at hA; cases hA)
    exact stepV (by simp [execOp,e1,e2,eqGuard,binOp,run_nilS hu]) hR (show RA _ _ _ (VB (!A.isNone)) _ from rfl) h hk
   ·rename_i v ht hx hy
    split at h
    ·rename_i cc
     obtain ⟨hif,h⟩:=h
     obtain ⟨i,d,_,_,_,_,hu,_,m,rfl⟩:=hT _ _ ht
     have ex:=RA_ev hR x
     rw [hx] at ex
     have ex:=ex.v
     have ey:a.eval (.const cc)=.nilIface:=by
      have ey:=RA_ev hR (.const cc)
      rw [hy] at ey
      exact ey.v
     refine stepV (v:=.bool (!nilV v)) ?_ hR (show RA _ _ _ (VB (!nilV v)) _ from rfl) h hk
     simp only [execOp,ex,ey]
     cases v <;> first | (cases hif; done) | (simp [eqGuard,binOp,nilV,fun w'=>(run_nilI hu w').1]; done) | (simp [eqGuard,binOp,nilV,fun w' t v=>(run_nilI hu w').2 t v]; done)
    ·exact h.elim
   ·exact h.elim
  ·-- a look into a map
   rename_i t x i ok
   split at h
   ·rename_i kt et f cs s ht hx hi
    split at h
    ·rename_i hb
     obtain ⟨hu,hk2,j,hj,hz⟩:=hT _ _ ht
     have h1:=RA_ev hR x
     rw [hx] at h1
     obtain ⟨ps,hcl,hl,hp⟩:=h1
     have h2:=RA_ev hR i
     rw [hi] at h2
     have h2:=h2.v
     unfold ClIs at hcl
     rw [hb] at hcl
     have hb1:Nat.blt f 1000000=false:=by
      cases e:Nat.blt f 1000000 with
      | false=>rfl
      | true=>
       have g1:=Nat.blt_eq.mp e
       have g2:=(Nat.blt_eq (x:=f) (y:=2000000)).mpr (by omega)
       rw [hb] at g2; cases g2
     rw [hb1] at hcl
     obtain ⟨r,es,n,e1,e2,_,e4⟩:=hcl
     obtain ⟨X,hK,hX⟩:=lookK_ok hl hp s h
     have hrun:=lookup_run hu hk2 hj hz e2 e4 s
     exact stepV (by simp only [execOp,e1,h2]; rw [Sem.run_bind,hrun]; rfl) hR hX hK hk
    ·exact h.elim
   ·exact h.elim
  ·-- store
   rename_i t x y
   split at h
   ·rename_i n cs hn hcs
    split at h
    ·rename_i o' ho
     obtain ⟨i,hi,hin⟩:=size_ok hT hn
     obtain ⟨w',r1,r2⟩:=store_ok hR hi hin (cellsA_ok (RA_ev hR y) hcs) ho _ (RA_ev hR x)
     exact stepS (by simp [execOp,r1]) r2 h hk
    ·exact h.elim
   ·split at h
    ·rename_i c o' hst
     unfold storeAr at hst
     split at hst
     ·rename_i k i j r ea ex
      split at hst
      ·rename_i n m e l ht hlk hl hb1 hb2
       injection hst with hst
       injection hst with e1 e2
       subst e1; subst e2
       obtain rfl:=Nat.eq_of_beq_eq_true hb1
       obtain rfl:=Nat.eq_of_beq_eq_true hb2
       obtain ⟨⟨g1,g2⟩,h⟩:=h
       obtain ⟨inf,ie,hu,hinf,hsz,_⟩:=hT _ _ ht
       have hx:=RA_ev hR x
       rw [ea] at hx
       obtain ⟨g,o,s,τ,nn,hs,hi0,hm,hp⟩:=hx
       have hsk:=skel_of hl
       rw [hs] at hsk
       injection hsk with hsk; injection hsk with e1 e2; subst e1; subst e2
       have hy:a.eval y=.agg (r.map (Value.int .i64)).toArray:=by
        have:=RA_ev hR y
        rw [ex] at this
        exact this
       rcases hR.ob k _ hl with ⟨en,_⟩ | ⟨g',o2,s',cur,ty,hm',hh,hs3,hle,hr⟩
       ·rw [hm] at en; cases en
       rw [hm] at hm'
       injection hm' with hm'; injection hm' with e1 e2; injection e2 with e2 e3; subst e1; subst e2; subst e3
       have hcl:(Value.agg (r.map (Value.int .i64)).toArray).cells=(r.map (Value.int .i64)).toArray:=rfl
       have hp':a.eval x=.pointer (some ⟨g,o,none⟩):=by rw [hp]; simp
       have hle':o+r.length≤cur.size:=by rw [hs3,g1,← g2]; simpa [Ty.sz] using hle
       have r1:=store_run (w:=w) (v:=.agg (r.map (Value.int .i64)).toArray) (o:=o) hinf (by rw [hcl,hsz,← g1]; simp) (fun z hz=>by
        rw [hcl] at hz
        simp only [List.mem_map] at hz
        obtain ⟨q,_,rfl⟩:=hz; rfl) hh (by rw [hsz,← g1]; exact hle')
       rw [hcl] at r1
       have r2:RepM N w0 M W lk μ ⟨st.t,setO k (.row .int r) st.o⟩ a (w.setRow g (setsL cur.toList o (r.map (Value.int .i64))).toArray):=by
        refine setO_ok hR hl (by simp [OB.sk,g1,g2]) hlk (.inr ⟨_,_,hm,rfl⟩) fun hmono=>?_
        refine Or.inr ⟨g,o,s,_,ty,hm,setRow_heap w g cur _ ty _ hh,by simp [setsL_len,hs3],by rw [g1,← g2]; exact hle,fun q x hq j y' hj=>?_⟩
        cases j with
        | zero=>
         injection hj with hj
         subst hj
         have hqlt:=(List.getElem?_eq_some_iff.1 hq).1
         rw [List.getElem?_toArray,setsL_get _ _ _ _ (by simp; simpa using hle')]
         rw [if_pos (by simp [Ty.sz]; exact hqlt)]
         simp [Ty.sz,hq]
        | succ j=>cases hj
       exact stepS (by simp [execOp,hp',hy,r1]) r2 h hk
      ·cases hst
     ·cases hst
    ·exact h.elim
  ·-- calls
   rename_i c
   obtain ⟨callee,args,argTypes⟩:=c
   simp only at h
   split at h
   ·-- append
    split at h
    ·rename_i s x t t' e1 e2
     have e1':args=#[s,x]:=by apply Array.ext'; simpa using e1
     have e2':argTypes=#[t,t']:=by apply Array.ext'; simpa using e2
     subst e1'; subst e2'
     split at h
     ·rename_i e τ b htt ht hb
      have htt:=Nat.eq_of_beq_eq_true htt
      subst htt
      split at h
      ·rename_i l r hsame hl hr
       obtain ⟨μ',v,w',r1,r2,r3⟩:=append_ok (ty:=type) hT hR ht hb hl hr h.1 (Γ.k dst) (putK_key hN h.2)
       exact stepV (by simp [execOp,resolve,invoke,builtin,r1]) r2 r3 h.2 hk
      ·rename_i k off n l0 r hsame hl0 hr
       split at h
       ·rename_i σ l1 hl1
        split at h
        ·rename_i l hl
         obtain ⟨rfl,rfl⟩:=castL_ok2 hl
         have hS:st.ev s=.one (.c (.sub k off n)):=by
          unfold sameRow at hsame
          split at hsame
          ·rename_i k1 off1 n1 k2 o2 n2 hs1 hs2
           split at hsame
           ·injection hsame with hsame
            injection hsame with q1 q2; injection q2 with q2 q3
            rw [hs1,q1,q2,q3]
           ·cases hsame
          ·cases hsame
         have hlk:memN lk k=false:=by
          rw [hS] at hb
          simp only [baseK] at hb
          split at hb
          ·rename_i hm _; exact hm
          ·cases hb
         obtain ⟨v,w',r1,r2,r3⟩:=appS_ok (ty:=type) hT hR ht hS hlk hl1 hr h.1
         exact stepV (by simp [execOp,resolve,invoke,builtin,r1]) r2 r3 h.2 hk
        ·exact h.elim
       ·exact h.elim
      ·exact h.elim
     ·rename_i e τ htt ht hb
      split at h
      ·rename_i n z hx ht'
       obtain ⟨⟨h0,h1⟩,h⟩:=h
       have hnil:a.eval s=.slice none 0 0:=by
        have hs:=RA_ev hR s
        generalize st.ev s=X at *
        unfold baseK at hb
        split at hb
        ·exact hs
        ·split at hb
         ·injection hb with hb; cases hb
         ·cases hb
        ·split at hb
         ·injection hb with hb; cases hb
         ·cases hb
        ·cases hb
       obtain ⟨i,hu,hi,hsz,⟨z',hz,hz2⟩,hb1,hb2,_⟩:=hT _ _ ht
       obtain ⟨_,d,_,_,_,_,hu',_,hd⟩:=hT _ _ ht'
       simp only at hd; subst hd
       have ex:=RA_int (RA_ev hR x) hx
       obtain ⟨k,rfl⟩:∃ k:Nat,n=k:=⟨n.toNat,by omega⟩
       rw [Int.toNat_natCast] at h
       obtain ⟨A,c,w',r1,r2,r3,r4,r5⟩:=appZ_run (P:=P) (ty:=type) hu hu' hi hsz hz hz2 hb2 (n:=k) (by omega) w
       obtain ⟨μ',m1,m2⟩:=row_new hR (Γ.k dst) (putK_key hN h) τ (List.replicate k τ.zero) r4 (A:=A) (c:=c) (by simpa using r2) r3
        (r5.imp (fun ⟨q1,q2,q3⟩=>⟨q1,q2,by rw [q3]; rfl⟩) fun ⟨g,cur,q1,q2,q3,q4,q5⟩=>⟨g,0,cur,e,q1,q2,by omega,q4,q5⟩)
       rw [List.length_replicate] at m2
       exact stepV (by simp [execOp,resolve,invoke,builtin,ex,hnil,r1]) m1 m2 h hk
      ·exact h.elim
     ·rename_i e τ htt ht hb
      split at h
      ·rename_i n z k off len c hx ht' hS
       split at h
       ·rename_i σ l1 hl1
        split at h
        ·rename_i l hl
         obtain ⟨rfl,rfl⟩:=castL_ok2 hl
         obtain ⟨⟨h0,h1,h2,h3⟩,h⟩:=h
         obtain ⟨i,hu,hi,hsz,⟨z',hz,hz2⟩,hb1,hb2,_⟩:=hT _ _ ht
         obtain ⟨_,d,_,_,_,_,hu',_,hd⟩:=hT _ _ ht'
         simp only at hd; subst hd
         have ex:=RA_int (RA_ev hR x) hx
         obtain ⟨q,rfl⟩:∃ q:Nat,n=q:=⟨n.toNat,by omega⟩
         rw [Int.toNat_natCast] at h
         have hs:=RA_ev hR s
         rw [hS] at hs
         obtain ⟨A,σ',m,es,hs,hh⟩:=hs
         rw [skel_of hl1] at hs
         injection hs with hs; injection hs with e3 e4; subst e3; subst e4
         have hlen:((List.drop off l1).take len).length=len:=by simp; omega
         obtain ⟨c',cur,w',r1,r2,r3,r4,r5,r6,r7⟩:=appZG_run (P:=P) (ty:=type) (A:=A) (c:=c) (n:=q) hu hu' hi hsz hz hz2 hb2 hlen hh.1 (by omega) (by omega) w (row_src hR hl1 hh (Nat.le_refl _) h3)
         have hl2:(List.take len (List.drop off l1)++List.replicate q σ.zero).length=len+q:=by rw [List.length_append,hlen,List.length_replicate]
         obtain ⟨μ',m1,m2⟩:=row_new hR (Γ.k dst) (putK_key hN h) σ (List.take len (List.drop off l1)++List.replicate q σ.zero) r4 (A:=some ⟨w.heap.size,0,none⟩) (c:=c') (by rw [hl2]; exact r2) r3
          (.inr ⟨_,0,cur,e,r5,rfl,by omega,r7,Nat.le_refl _⟩)
         rw [hl2] at m2
         exact stepV (by simp [execOp,resolve,invoke,builtin,ex,es,r1]) m1 m2 h hk
        ·exact h.elim
       ·exact h.elim
      ·exact h.elim
     ·rename_i e τ htt ht hb
      have htt:=Nat.eq_of_beq_eq_true htt
      subst htt
      split at h
      ·rename_i k n σ ls hS hX
       split at h
       ·rename_i cs hlk hk1 hl
        split at h
        ·rename_i l0 ls hbn hro hble
         obtain rfl:=Nat.eq_of_beq_eq_true hbn
         obtain ⟨μ',v,w',r1,r2,r3⟩:=appendB_ok (ty:=type) hT hR ht hS hX hlk (by simpa using hk1) hl hro (by simp) (by simpa using hble) (Γ.k dst) (putK_key hN h)
         exact stepV (by simp [execOp,resolve,invoke,builtin,r1]) r2 r3 h hk
        ·exact h.elim
       ·exact h.elim
      ·exact h.elim
     ·exact h.elim
    ·exact h.elim
   ·-- clear
    split at h
    ·rename_i s t e1 e2
     have e1':args=#[s]:=by apply Array.ext'; simpa using e1
     have e2':argTypes=#[t]:=by apply Array.ext'; simpa using e2
     subst e1'; subst e2'
     split at h
     ·rename_i e τ k off n ht hS
      split at h
      ·rename_i σ l1 hlk hl1
       split at h
       ·rename_i l hl
        obtain ⟨rfl,rfl⟩:=castL_ok2 hl
        obtain ⟨w',r1,r2⟩:=clear_ok (ty:=type) hT hR ht hS hlk hl1
        exact stepV (v:=undef) (x:=V undef) (by simp [execOp,resolve,invoke,builtin,r1]) r2 (show _=_ from rfl) h hk
       ·exact h.elim
      ·exact h.elim
     ·exact h.elim
    ·exact h.elim
   ·-- copy
    split at h
    ·rename_i s x t t' e1 e2
     split at h
     ·rename_i e τ k ht hs
      split at h
      ·rename_i l r hlk hl hr hsz
       have hsz:=Nat.eq_of_beq_eq_true hsz
       have e1':args=#[s,x]:=by apply Array.ext'; simpa using e1
       have e2':argTypes=#[t,t']:=by apply Array.ext'; simpa using e2
       subst e1'; subst e2'
       obtain ⟨w',r1,r2⟩:=copy_ok (ty:=type) (t':=t') hT hR ht hs hlk hl hr hsz h.1
       exact stepV (v:=.int .i64 l.length) (x:=VI l.length) (by simp [execOp,resolve,invoke,builtin,r1]) r2 (show _=_ from rfl) h.2 hk
      ·exact h.elim
     ·rename_i e τ k off n ht hs
      split at h
      ·rename_i σ l1 hlk hl1
       split at h
       ·rename_i l p r hl hr
        obtain ⟨rfl,rfl⟩:=castL_ok2 hl
        have e1':args=#[s,x]:=by apply Array.ext'; simpa using e1
        have e2':argTypes=#[t,t']:=by apply Array.ext'; simpa using e2
        subst e1'; subst e2'
        obtain ⟨w',r1,r2⟩:=copyM_ok (ty:=type) (t':=t') hT hR ht hs hlk hl1 hr h.1
        exact stepV (v:=.int .i64 r.length) (x:=VI r.length) (by simp [execOp,resolve,invoke,builtin,r1]) r2 (show _=_ from rfl) h.2 hk
       ·exact h.elim
      ·exact h.elim
     ·rename_i e τ k off n c ht hs
      split at h
      ·rename_i σ l1 hlk hk100 hl1
       split at h
       ·rename_i l p r hl hr
        obtain ⟨rfl,rfl⟩:=castL_ok2 hl
        have e1':args=#[s,x]:=by apply Array.ext'; simpa using e1
        have e2':argTypes=#[t,t']:=by apply Array.ext'; simpa using e2
        subst e1'; subst e2'
        obtain ⟨w',r1,r2⟩:=copyX_ok (ty:=type) (t':=t') hT hR ht hs hlk (by simpa using hk100) hl1 hr h.1 h.2.1
        exact stepV (v:=.int .i64 r.length) (x:=VI r.length) (by simp [execOp,resolve,invoke,builtin,r1]) r2 (show _=_ from rfl) h.2.2 hk
       ·exact h.elim
      ·exact h.elim
     ·exact h.elim
    ·exact h.elim
   ·-- a function
    rename_i x
    have hR1:=freeN_ok 16 (Γ.k dst) hR
    have hfree1:∀ k,Γ.k dst≤k→k < Γ.k dst+16→lkp (freeN 16 (Γ.k dst) st).o k=none:=fun k h1 h2=>freeN_none 16 _ st k h1 h2
    generalize freeN 16 (Γ.k dst) st=st1 at *
    split at h
    ·rename_i f first caps hcal
     -- what is called
     have hexe:∃ fv cv:List Value,RAs (skel st1.o) μ w first fv∧RAs (skel st1.o) μ w caps cv∧∀ w1:World,∀ args':Array Value,(Deferred.ofValue (a.eval x) args').run P w1=.ok { target:=.fn (.func f) cv.toArray,args:=fv.toArray++args' } w1:=by
      unfold calleeA at hcal
      split at hcal
      ·injection hcal with hcal; injection hcal with e1 e2; injection e2 with e2 e3; subst e1; subst e2; subst e3
       exact ⟨[],[],trivial,trivial,fun w1 args'=>by simp [Act.eval,Deferred.ofValue]⟩
      ·split at hcal
       ·rename_i f2 fv cv he
        injection hcal with hcal; injection hcal with e1 e2; injection e2 with e2 e3; subst e1; subst e2; subst e3
        have hx:=RA_ev hR1 x
        rw [he] at hx
        have hx:=hx.v
        exact ⟨fv,cv,RAs_csts fv,RAs_csts cv,fun w1 args'=>by rw [hx]; simp [Deferred.ofValue]⟩
       ·rename_i f2 cs he
        have hx:=RA_ev hR1 x
        rw [he] at hx
        obtain ⟨ps,hx,hl,hp⟩:=hx
        unfold ClIs at hx
        split at hcal
        ·rename_i hb
         rw [hb] at hx
         injection hcal with hcal; injection hcal with e1 e2; injection e2 with e2 e3; subst e1; subst e2; subst e3
         exact ⟨[],ps,trivial,RAs_caps hl hp,fun w1 args'=>by rw [hx]; simp [Deferred.ofValue]⟩
        ·rename_i hb
         rw [hb] at hx
         simp only at hx
         split at hcal
         ·rename_i hb2
          rw [hb2] at hx
          injection hcal with hcal; injection hcal with e1 e2; injection e2 with e2 e3; subst e1; subst e2; subst e3
          exact ⟨ps,[],RAs_caps hl hp,trivial,fun w1 args'=>by rw [hx]; simp [Deferred.ofValue]⟩
         ·cases hcal
       ·cases hcal
     obtain ⟨fv,cv,hfv,hcv,hdef⟩:=hexe
     have hrunf:∀ {fn:Func},P.funcs[f]?=some fn→fn.body.isSome=true→fn.name ≠ "runtime.NumGoroutine"→
       (execOp a.eval ⟨dst,.call ⟨.value x,args,argTypes⟩,type,pos,after,guard⟩).run P w=.ok (.enter f (fv++(args.toList.map a.eval++cv)).toArray) w:=by
      intro fn hfn hbody hname
      have hb2:fn.body.isNone=false:=by cases e:fn.body <;> simp [e] at hbody ⊢
      have e3:fv.toArray++args.map a.eval++cv.toArray=(fv++(args.toList.map a.eval++cv)).toArray:=by apply Array.ext'; simp
      simp only [execOp,resolve,Sem.run_bind,hdef,Result.andThen_ok,invoke,callFunc]
      simp [hfn,hname,e3]
      intro hnone
      rw [hnone] at hbody; cases hbody
     split at h
     ·-- do two slices overlap?
      rename_i hov
      have hall:=RAs_append hfv (RAs_append (RAs_ev hR1 args.toList) hcv)
      have hrunv:(execOp a.eval ⟨dst,.call ⟨.value x,args,argTypes⟩,type,pos,after,guard⟩).run P w=(callFunc f (fv++(args.toList.map a.eval++cv)).toArray).run P w:=by
       have e3:fv.toArray++args.map a.eval++cv.toArray=(fv++(args.toList.map a.eval++cv)).toArray:=by apply Array.ext'; simp
       simp only [execOp,resolve,Sem.run_bind,hdef,Result.andThen_ok,invoke]
       rw [← e3]
      unfold ovA at hov
      split at hov
      ·rename_i τ l k off len c heq
       rw [heq] at hall
       generalize fv++(args.toList.map a.eval++cv)=vs at hall hrunv
       match vs,hall with
       | [v1,v2],hall=>
        have hcf:=ov_at hR1 (hΓ.2.2 f hov) hall.1 hall.2.1
        exact stepV (v:=.bool false) (x:=VB false) (by rw [hrunv]; exact hcf) hR1 (show _=_ from rfl) h hk
      ·cases hov
     split at h
     ·-- gone through
      rename_i G hG
      split at h
      ·have hil:∃ p,p∈Γ.inl∧p.2.f=f∧p.2.G=G:=by
        unfold inlAt at hG
        split at hG
        ·exact inlFind_mem hG
        ·cases hG
       obtain ⟨⟨d,i⟩,hi,rfl,rfl⟩:=hil
       obtain ⟨⟨fn,hfn,hbody,hname⟩,hinl⟩:=hΓ.2.1 _ hi
       have hcall:=hinl w0 M W μ st1 a w _ _ _ hR1 (RAs_append hfv (RAs_append (RAs_ev hR1 args.toList) hcv)) h
       simp only [Oper.wp,hrunf hfn hbody hname,Oper.upon]
       refine Calls.mono hcall fun e w' hpost=>?_
       obtain ⟨v,rfl,μ',st',r,q1,q2,q3⟩:=hpost
       obtain ⟨st2,m1,m2⟩:=putK_ok q1 q2 q3
       exact hk _ _ _ _ m1 m2
      ·exact h.elim
     split at h
     ·rename_i C av hnk hC hav
      obtain ⟨hholds,fn,hfn,hbody,hname⟩:=hΓ.1 f C hC
      have hrun:=hrunf hfn hbody hname
      have hcvall:∀ S:Sk,(∀ j,S j≠none→skel st1.o j≠none)→RAs S μ w first fv∧RAs S μ w caps cv:=fun S hS=>⟨RAs_nokeys (fun b hno=>own_sub hS hno) (keysAVs_l hnk) hfv,RAs_nokeys (fun b hno=>own_sub hS hno) (keysAVs_r hnk) hcv⟩
      split at h
      ·rename_i hbox
       rw [hbox] at hholds
       split at h
       ·rename_i st2 _ hst2
        have hR2:=frzAll_ok _ hR1 hst2
        obtain ⟨c1,c2⟩:=hcvall (skel st2.o) fun j hj e=>hj (by simp only [skel,Option.map_eq_none_iff] at e ⊢; exact frzAll_keep _ hst2 e)
        split at h
        ·rename_i av' hav'
         exact callB_ok (fun h=>putK_key hN h) hR2 hholds (asA1_ok (RAs_append c1 (RAs_append (RAs_ev hR2 args.toList) c2)) hav') h hrun hk
        ·exact h.elim
       ·exact h.elim
      rename_i hbox
      rw [hbox] at hholds
      split at h
      ·exact callC_ok hR1 hholds (asA1_ok (RAs_append hfv (RAs_append (RAs_ev hR1 args.toList) hcv)) hav) (fun k h1 h2=>by simp [skel,hfree1 k h1 h2]) h hrun hk
      ·split at h
       ·rename_i st2 _ hst2
        have hR2:=frzAll_ok _ hR1 hst2
        obtain ⟨c1,c2⟩:=hcvall (skel st2.o) fun j hj e=>hj (by simp only [skel,Option.map_eq_none_iff] at e ⊢; exact frzAll_keep _ hst2 e)
        split at h
        ·rename_i av' hav'
         exact callC_ok hR2 hholds (asA1_ok (RAs_append c1 (RAs_append (RAs_ev hR2 args.toList) c2)) hav') (fun k h1 h2=>by simp [skel,frzAll_keep _ hst2 (hfree1 k h1 h2)]) h hrun hk
        ·exact h.elim
       ·exact h.elim
     ·exact h.elim
    ·exact h.elim
   ·exact h.elim
  ·exact h.elim
end
end Go.Ev
