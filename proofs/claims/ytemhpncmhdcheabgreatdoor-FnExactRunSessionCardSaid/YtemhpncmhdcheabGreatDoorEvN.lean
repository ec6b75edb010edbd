/- One operation,executed. No statement is proved here. -/
import Derived.Test.YtemhpncmhdcheabGreatDoorEvM
import Derived.Lib.AppendZerosOnto
import Derived.Laws.Externs
namespace Go.Ev
set_option linter.unusedVariables false
set_option linter.unusedSimpArgs false
open Go
theorem setsL_get {α:Type}:∀ (vs l:List α) (o q:Nat),o+vs.length≤l.length→(setsL l o vs)[q]?=if o≤q∧q < o+vs.length then vs[q - o]? else l[q]?
 | [],l,o,q,_=>by
  simp only [setsL,List.length_nil,Nat.add_zero]
  rw [if_neg (by omega)]
 | v :: vs,l,o,q,h=>by
  simp only [List.length_cons] at h
  rw [setsL,setsL_get vs (l.set o v) (o+1) q (by simp; omega)]
  by_cases h1:o+1≤q∧q < o+1+vs.length
  ·rw [if_pos h1,if_pos (by simp; omega)]
   obtain ⟨j,rfl⟩:∃ j,q=o+1+j:=⟨q - (o+1),by omega⟩
   rw [show o+1+j - (o+1)=j by omega,show o+1+j - o=j+1 by omega]; rfl
  ·rw [if_neg h1]
   by_cases h2:q=o
   ·subst h2
    rw [if_pos (by simp),Nat.sub_self,List.getElem?_set_self (by omega)]; rfl
   ·rw [if_neg (by simp; omega),List.getElem?_set_ne (Ne.symm h2)]
theorem setsL_window {α:Type}:∀ (vs L:List α) (o j m:Nat),j+vs.length≤m→((setsL L (o+j) vs).drop o).take m=setsL ((L.drop o).take m) j vs
 | [],L,o,j,m,_=>rfl
 | v :: vs,L,o,j,m,h=>by
  simp only [List.length_cons] at h
  rw [setsL,setsL,show o+j+1=o+(j+1) by omega,setsL_window vs _ o (j+1) m (by omega)]
  congr 1
  rw [List.drop_set,if_neg (by omega),List.take_set,show o+j - o=j by omega]
theorem RCs.okV {S:Sk} {μ:Mu} {w:World}:∀ {cs:List C} {ys:List Value},RCs S μ w cs ys→∀ y∈ys,okV y=true
 | [],[],_,y,h=>by cases h
 | c :: cs,y :: ys,h,z,hz=>by
  rcases List.mem_cons.1 hz with rfl | hz
  ·exact h.2.1
  ·exact RCs.okV h.2.2 z hz
 | [],_ :: _,h,_,_=>h.elim
 | _ :: _,[],h,_,_=>h.elim
theorem rowIs_set {cur cur':Array Value} {o i:Nat} {τ:Ty} {l:List τ.D} {e:τ.D} (h:RowIs cur o τ l)
  (hin:∀ j y,(τ.enc e)[j]?=some y→cur'[o+i*τ.sz+j]?=some y)
  (hout:∀ q j,q≠i→j < τ.sz→cur'[o+q*τ.sz+j]?=cur[o+q*τ.sz+j]?):RowIs cur' o τ (l.set i e):=by
 intro q x hx j y hy
 have hj:j < τ.sz:=by
  have:=(List.getElem?_eq_some_iff.1 hy).1
  rwa [enc_len] at this
 by_cases hq:q=i
 ·subst hq
  have hlt:q < l.length:=by simpa using (List.getElem?_eq_some_iff.1 hx).1
  rw [List.getElem?_set_self hlt] at hx
  injection hx with hx; subst hx
  exact hin j y hy
 ·rw [List.getElem?_set_ne (Ne.symm hq)] at hx
  rw [hout q j hq hj]
  exact h q x hx j y hy
theorem sz_apart {τ:Ty} {q i j j':Nat} (hq:q≠i) (hj:j < τ.sz) (hj':j' < τ.sz) (o:Nat):o+q*τ.sz+j≠o+i*τ.sz+j':=by
 cases τ <;> simp only [Ty.sz] at*<;> omega
theorem sz_fit {τ:Ty} {i n j:Nat} (hi:i < n) (hj:j < τ.sz):i*τ.sz+j < n*τ.sz:=by
 cases τ <;> simp only [Ty.sz] at*<;> omega
theorem sz_fit' {τ:Ty} {i n:Nat} (hi:i < n):i*τ.sz+τ.sz≤n*τ.sz:=by
 cases τ <;> simp only [Ty.sz] at*<;> omega
section
variable {P:Program} {T:Tab} {N:Nat} {w0:World} {M:Nat→Prop} {W:Wd} {lk:List Nat} {μ:Mu} {st:St} {a:Act} {w:World} {K:St→Prop} {next:Act→World→Prop} {Q:Go.Exit→Act→World→Prop}
theorem stepV {o:Oper} {v:Value} {w':World} {μ1:Mu} {st1:St} {x:AV} (hrun:(execOp a.eval o).run P w=.ok (.value v) w') (hR:RepM N w0 M W lk μ1 st1 a w') (hx:RA (skel st1.o) μ1 w' x v) (h:putK N o.dst x st1 K)
  (hk:∀ μ' st' a' w',RepM N w0 M W lk μ' st' a' w'→K st'→next a' w'):o.wp P a w next Q:=by
 obtain ⟨st',h1,h2⟩:=putK_ok hR hx h
 simp only [Oper.wp,hrun,Oper.upon]
 exact hk _ _ _ _ h1 h2
theorem stepS {o:Oper} {w':World} {μ1:Mu} {st1:St} (hrun:(execOp a.eval o).run P w=.ok .skip w') (hR:RepM N w0 M W lk μ1 st1 a w') (h:putK N o.dst (V undef) st1 K)
  (hk:∀ μ' st' a' w',RepM N w0 M W lk μ' st' a' w'→K st'→next a' w'):o.wp P a w next Q:=by
 obtain ⟨st',h1,h2⟩:=putK_ok hR (show RA (skel st1.o) μ1 w' (V undef) undef from rfl) h
 simp only [Oper.wp,hrun,Oper.upon]
 exact hk _ _ _ _ h1 h2
theorem putK_key {B:Nat} (hN:B+16*N+16≤100000) {d:Option Nat} {x:AV} (h:putK N d x st K):B+key d < 100000:=by
 cases d with
 | none=>simp only [key]; omega
 | some d=>
  simp only [putK] at h
  split at h
  ·rename_i hb
   have:d < N:=by simpa using hb
   simp only [key]; omega
  ·exact h.elim
theorem fr_alloc (w:World) (o:Obj):Fr (fun _=>False) w (w.alloc o):=
 ⟨rfl,rfl,rfl,by show w.heap.size≤(w.heap.push o).size; rw [Array.size_push]; omega,fun b hb _=>by show (w.heap.push o)[b]?=_; rw [Array.getElem?_push,if_neg (by omega)]⟩
theorem fr_grown {w w':World} (h:w.grownBy w' none):Fr (fun _=>False) w w':=⟨h.os,h.tape,h.output,h.size,fun b hb _=>h.block b hb (by simp)⟩
theorem grow_ok (hR:RepM N w0 M W lk μ st a w) {w':World} (hw:Fr (fun _=>False) w w'):RepM N w0 M W lk μ st a w':=
 hR.changeZ (st':=st) (fun c=>c) (fun _=>False) (fun i=>(AV.map_id _).symm) (fun c y h=>h.mono (fun _ _ hs=>hs) (fun _ _=>rfl) (fun b hb hno=>⟨hw.blk b hb (fun h=>h),hno⟩) hw.size)
  (fun k ob' e _=>⟨ob',e,(OB.map_id _).symm,rfl,fun p hp=>hw.blk _ (own_lt hR (skel_ne e) hp) (fun h=>h)⟩) (fun _ _ h=>h.elim) (fun _ _ h=>h.elim) ⟨rfl,fun _ _=>rfl,fun _ _ h=>h.elim⟩
  ⟨hw.os.trans hR.fr.os,hw.tape.trans hR.fr.tape,hw.output.trans hR.fr.output,Nat.le_trans hR.fr.size hw.size,fun b hb hm=>(hw.blk b (Nat.lt_of_lt_of_le hb hR.fr.size) (fun h=>h)).trans (hR.fr.blk b hb hm)⟩
theorem const_new (hR:RepM N w0 M W lk μ st a w) {y:Value} {t:TypeId} (hy:okV y=true) :
  RepM N w0 M W lk μ st a (w.alloc (.cells #[y] t))∧RA (skel st.o) μ (w.alloc (.cells #[y] t)) (.one (.c (.pe [y] 0))) (.pointer (some ⟨w.heap.size,0,none⟩)):=by
 have hsz:(w.alloc (.cells #[y] t)).heap.size=w.heap.size+1:=by show (w.heap.push _).size=_; rw [Array.size_push]
 have hget:(w.alloc (.cells #[y] t)).heap[w.heap.size]?=some (.cells #[y] t (0,0)):=by show (w.heap.push _)[w.heap.size]?=_; rw [Array.getElem?_push,if_pos rfl]
 refine ⟨grow_ok hR (fr_alloc w _),w.heap.size,0,rfl,fun q x hx=>?_,by omega,?_,fun x hx=>by rw [List.mem_singleton.1 hx]; exact hy⟩
 ·rw [cell_of_heap hget]
  cases q with
  | zero=>simpa using hx
  | succ q=>simp at hx
 ·rintro (⟨k,p,hs,hp,e⟩ | hf)
  ·have:=own_lt hR hs hp; omega
  ·exact hf (hR.fo 0 _ (by omega) (hR.up.1 0 _ hR.fr.size))
theorem box_new (hR:RepM N w0 M W lk μ st a w) (k:Nat) (hk:k < 100000) {l:List C} {cells:Array Value} (t:TypeId) (hl:RCs (skel st.o) μ w l cells.toList) :
  ∃ μ',RepM N w0 M W lk μ' (st.newK k (.box l)) a (w.alloc (.cells cells t))∧RA (skel (st.newK k (.box l)).o) μ' (w.alloc (.cells cells t)) (.one (.c (.pb k 0))) (.pointer (some ⟨w.heap.size,0,none⟩)):=by
 refine ⟨_,newK_ok hR k hk (.box l) (some (w.heap.size,0,cells.size)) (fr_alloc w _) (fun q h=>by injection h with h; subst h; exact Nat.le_refl _) (fun S' f hf _ _=>?_),?_⟩
 ·refine ⟨w.heap.size,0,cells.size,cells,t,upd_same _ _ _,by show (w.heap.push _)[w.heap.size]?=_; rw [Array.getElem?_push,if_pos rfl],rfl,?_,?_⟩
  ·have:=RCs.len hl; simp at this ⊢; omega
  ·have:=RCs.map (f:=f) hf hl
   have h2:=RCs.len hl
   rw [List.drop_zero,List.length_map,← h2,List.take_length]
   exact this
 ·have:lkp (st.newK k (.box l)).o k≠none∧skel (st.newK k (.box l)).o k=some .box:=by
   unfold St.newK; split
   ·exact ⟨by rw [lkp_cons_same]; simp,by simp [skel,lkp,OB.sk]⟩
   ·exact ⟨by rw [lkp_cons_same]; simp,by simp [skel,lkp,OB.sk,OB.map]⟩
  exact ⟨w.heap.size,0,cells.size,this.2,upd_same _ _ _,rfl⟩
theorem row_new (hR:RepM N w0 M W lk μ st a w) (k:Nat) (hk:k < 100000) (τ:Ty) (l:List τ.D) {w':World} (hw:Fr (fun _=>False) w w') {A:Option Addr} {c:Nat} (hc:l.length≤c) (hm:c≤maxLen)
  (h:(A=none∧c=0∧l=[])∨∃ g o' cur ty',w'.heap[g]?=some (.cells cur ty' (0,0))∧A=some ⟨g,o',none⟩∧o'+c*τ.sz≤cur.size∧RowIs cur o' τ l∧w.heap.size≤g) :
  ∃ μ',RepM N w0 M W lk μ' (st.newK k (.row τ l)) a w'∧RA (skel (st.newK k (.row τ l)).o) μ' w' (.one (.c (.ow k))) (.slice A l.length c):=by
 rcases h with ⟨rfl,rfl,rfl⟩ | ⟨g,o',cur,ty',h1,rfl,h3,h4,h5⟩
 ·exact ⟨_,newK_ok hR k hk (.row τ []) none hw (fun q h=>by cases h) (fun S' f hf _ _=>.inl ⟨upd_same _ _ _,rfl⟩),none,0,0,τ,rfl,newK_sk st k τ [],Nat.le_refl _,Nat.zero_le _,.inl ⟨rfl,rfl⟩⟩
 ·have hle:l.length*τ.sz≤c*τ.sz:=Nat.mul_le_mul_right _ hc
  refine ⟨_,newK_ok hR k hk (.row τ l) (some (g,o',cur.size)) hw (fun q h=>by injection h with h; subst h; exact h5) (fun S' f hf _ _=>.inr ⟨g,o',cur.size,cur,ty',upd_same _ _ _,h1,rfl,by omega,h4⟩),some ⟨g,o',none⟩,l.length,c,τ,rfl,newK_sk st k τ l,hc,hm,.inr ⟨g,o',cur.size,o',upd_same _ _ _,rfl,h3,fun _=>by simp⟩⟩
theorem cst1_RC {S:Sk} {μ:Mu} {w:World} (z:Value):RC S μ w (cst1 z) z:=by
 have h:=RA_cst (S:=S) (μ:=μ) (w:=w) z
 unfold cst1; split
 ·rfl
 ·rfl
theorem zero_ok (hT:TabOK P T) {t:TypeId} {l:List C} (h:zeroCells T t=some l):∃ i z,P.info? t=some i∧i.zero=some z∧∀ (S:Sk) (μ:Mu) (w:World),RCs S μ w l z.cells.toList:=by
 unfold zeroCells at h
 split at h
 ·rename_i z hl
  injection h with h; subst h
  obtain ⟨i,d,h1,h2,h3,h4,_⟩:=hT _ _ hl
  refine ⟨i,z,h1,h3,fun S μ w=>?_⟩
  cases z <;> first | (cases h4; done) | exact ⟨cst1_RC _,rfl,trivial⟩
 ·rename_i fs z hl
  injection h with h; subst h
  obtain ⟨i,flds,h1,h2,h3,h4,_⟩:=hT _ _ hl
  refine ⟨i,_,h1,h3,fun S μ w=>?_⟩
  have:=okVs_RCs (S:=S) (μ:=μ) (w:=w) h4
  simpa [Value.cells] using this
 ·rename_i e τ hl
  injection h with h; subst h
  obtain ⟨i,_,_,_,_,_,_,i',h1,h2,h3⟩:=hT _ _ hl
  exact ⟨i',_,h1,h3,fun S μ w=>⟨rfl,rfl,trivial⟩⟩
 ·rename_i e τ hl
  injection h with h; subst h
  obtain ⟨i,_,_,_,_,_,_,i',h1,h2,h3⟩:=hT _ _ hl
  exact ⟨i',_,h1,h3,fun S μ w=>⟨rfl,rfl,trivial⟩⟩
 ·cases h
theorem size_ok (hT:TabOK P T) {t:TypeId} {n:Nat} (h:sizeT T t=some n):∃ i,P.info? t=some i∧i.size=n:=by
 unfold sizeT at h
 split at h
 ·rename_i z hl
  injection h with h; subst h
  obtain ⟨i,d,h1,h2,_⟩:=hT _ _ hl
  exact ⟨i,h1,h2⟩
 ·rename_i fs z hl
  injection h with h; subst h
  obtain ⟨i,flds,h1,h2,_⟩:=hT _ _ hl
  exact ⟨i,h1,h2⟩
 ·rename_i e τ hl
  injection h with h; subst h
  obtain ⟨i,_,_,_,_,_,_,i',h1,h2,h3⟩:=hT _ _ hl
  exact ⟨i',h1,h2⟩
 ·rename_i e τ hl
  injection h with h; subst h
  obtain ⟨i,_,_,_,_,_,_,i',h1,h2,h3⟩:=hT _ _ hl
  exact ⟨i',h1,h2⟩
 ·cases h
theorem store_ok (hR:RepM N w0 M W lk μ st a w) {t:TypeId} {i:TypeInfo} (hi:P.info? t=some i) {n:Nat} (hn:i.size=n) {X:AV} {x:Value} {cs:List C} (hx:RCs (skel st.o) μ w cs x.cells.toList) {o':List (Nat×OB)}
  (h:storeA lk st.o n cs X=some o'):∀ y,RA (skel st.o) μ w X y→∃ w',(Instr.storeAt t y x).run P w=.ok () w'∧RepM N w0 M W lk μ ⟨st.t,o'⟩ a w':=by
 intro y hy
 have hxl:=RCs.len hx
 unfold storeA at h
 split at h
 ·rename_i k j
  split at h
  ·rename_i l hlk hl hcn
   have hcn:=Nat.eq_of_beq_eq_true hcn
   split at h
   ·rename_i hfit
    have hfit:j+n≤l.length:=by simpa using hfit
    injection h with h; subst h
    obtain ⟨g,o,s,_,hm,rfl⟩:=hy
    obtain ⟨g',o2,s',cur,ty,hm',hh,hs,hle,hr⟩:=hR.ob k _ hl
    rw [hm] at hm'
    injection hm' with hm'; injection hm' with e1 e2; injection e2 with e2 e3; subst e1; subst e2; subst e3
    have hsz:x.cells.size=i.size:=by rw [hn,← hcn,← hxl]; simp
    refine ⟨_,store_run hi hsz (RCs.okV hx) hh (by omega),setO_ok hR hl (by simp [OB.sk]) hlk (.inr ⟨_,_,hm,rfl⟩) fun hmono=>?_⟩
    refine ⟨g,o,s,_,ty,hm,setRow_heap w g cur _ ty _ hh,?_,?_,?_⟩
    ·simp [setsL_len,hs]
    ·rw [setsL_len]; exact hle
    ·rw [setsL_len]
     show RCs _ _ _ _ ((setsL cur.toList (o+j) x.cells.toList).drop o |>.take l.length)
     rw [setsL_window _ _ _ _ _ (by rw [hxl]; omega)]
     exact RCs.sets j (hr.imp hmono) (hx.imp hmono)
   ·cases h
  ·cases h
 ·rename_i k q j
  split at h
  ·rename_i τ l vs hlk hl hcn hcv
   have hcn:=Nat.eq_of_beq_eq_true hcn
   obtain ⟨g,o,s,σ,m,hsk,hq,hm,rfl⟩:=hy
   rw [hR.row hl] at hsk
   injection hsk with hsk; injection hsk with e1 e2; subst e1; subst e2
   rcases hR.ob k _ hl with ⟨hn0,_⟩ | ⟨g',o2,s',cur,ty,hm',hh,hs,hle,hr⟩
   ·rw [hm] at hn0; cases hn0
   rw [hm] at hm'
   injection hm' with hm'; injection hm' with e1 e2; injection e2 with e2 e3; subst e1; subst e2; subst e3
   have hvs:=cvals_ok hx hcv
   have hsz:x.cells.size=i.size:=by rw [hn,← hcn,← hxl]; simp
   have hlen:vs.length=n:=by rw [← hvs,hxl,hcn]
   split at h
   ·rename_i x1
    split at h
    ·rename_i e hj he
     have hj:j < τ.sz:=by simpa using hj
     injection h with h; subst h
     have hfit:=sz_fit (τ:=τ) hq hj
     have he':=dec_enc he
     have h1:n=1:=by simpa using hlen.symm
     refine ⟨_,store_run hi hsz (RCs.okV hx) hh (by omega),setO_ok hR hl (by simp [OB.sk]) hlk (.inr ⟨_,_,hm,rfl⟩) fun hmono=>.inr ?_⟩
     refine ⟨g,o,s,_,ty,hm,setRow_heap w g cur _ ty _ hh,by simp [setsL_len,hs],by simpa using hle,rowIs_set hr (fun j' y hy=>?_) (fun q' j' hq' hj'=>?_)⟩
     ·rw [List.getElem?_toArray,hvs,setsL_get _ _ _ _ (by simp; omega)]
      have hj':j' < τ.sz:=by
       have:=(List.getElem?_eq_some_iff.1 hy).1
       rwa [enc_len] at this
      rw [he'] at hy
      by_cases hjj:j'=j
      ·subst hjj
       rw [List.getElem?_set_self (by rw [enc_len]; exact hj)] at hy
       rw [if_pos (by simp),Nat.sub_self]; exact hy
      ·rw [List.getElem?_set_ne (Ne.symm hjj)] at hy
       rw [if_neg (by simp; omega),Array.getElem?_toList]
       have hx0:l[q]?=some (l.getD q τ.zero):=by simp [hq]
       exact hr q _ hx0 j' y hy
     ·rw [List.getElem?_toArray,hvs,setsL_get _ _ _ _ (by simp; omega),if_neg,Array.getElem?_toList]
      have:=sz_apart (τ:=τ) hq' hj' hj o
      simp; omega
    ·cases h
   ·split at h
    ·rename_i e hj hnn he
     have hj:=Nat.eq_of_beq_eq_true hj
     have hnn:=Nat.eq_of_beq_eq_true hnn
     subst hj
     injection h with h; subst h
     have hfit:=sz_fit' (τ:=τ) hq
     have he':=dec_enc he
     refine ⟨_,store_run hi hsz (RCs.okV hx) hh (by omega),setO_ok hR hl (by simp [OB.sk]) hlk (.inr ⟨_,_,hm,rfl⟩) fun hmono=>.inr ?_⟩
     refine ⟨g,o,s,_,ty,hm,setRow_heap w g cur _ ty _ hh,by simp [setsL_len,hs],by simpa using hle,rowIs_set hr (fun j' y hy=>?_) (fun q' j' hq' hj'=>?_)⟩
     ·rw [List.getElem?_toArray,hvs,setsL_get _ _ _ _ (by simp; omega)]
      have hj':j' < τ.sz:=by
       have:=(List.getElem?_eq_some_iff.1 hy).1
       rwa [enc_len] at this
      rw [he'] at hy
      rw [if_pos (by omega),show o+q*τ.sz+j' - (o+q*τ.sz+0)=j' by omega]
      exact hy
     ·rw [List.getElem?_toArray,hvs,setsL_get _ _ _ _ (by simp; omega),if_neg,Array.getElem?_toList]
      rintro ⟨h1,h2⟩
      have:=sz_apart (τ:=τ) (j':=o+q'*τ.sz+j' - (o+q*τ.sz)) hq' hj' (by omega) o
      omega
    ·cases h
  ·cases h
 ·cases h
end
section
variable {P:Program} {T:Tab} {N:Nat} {w0:World} {M:Nat→Prop} {W:Wd} {lk:List Nat} {μ:Mu} {st:St} {a:Act} {w:World}
theorem row_src (hR:RepM N w0 M W lk μ st a w) {k:Nat} {τ:Ty} {l:List τ.D} (hl:lkp st.o k=some (.row τ l)) {A:Option Addr} {off len c n:Nat} (hh:Hd μ k τ A off len c) (hn:n≤len) (ho:off+n≤l.length) :
  Src w A τ ((l.drop off).take n):=by
 obtain ⟨g1,g2,g3⟩:=hh
 rcases g3 with ⟨rfl,hc⟩ | ⟨g,o,s,o',hm,rfl,g4,g5⟩
 ·refine .inl ⟨rfl,?_⟩
  rw [show n=0 by omega,List.take_zero]
 ·refine .inr ⟨_,rfl,fun q u hu=>?_⟩
  have hpos:0 < n:=by
   rcases Nat.eq_zero_or_pos n with h0 | h0
   ·subst h0; simp [flat] at hu
   ·exact h0
  have g6:=g5 (by omega)
  rcases hR.ob k _ hl with ⟨e,_⟩ | ⟨g',o2,s',cur,ty,hm',hh,hsz,hle,hr⟩
  ·rw [hm] at e; cases e
  ·rw [hm] at hm'
   injection hm' with hm'; injection hm' with e1 e2; injection e2 with e2 e3; subst e1; subst e2; subst e3
   rw [Addr_add,cell_of_heap hh,g6]
   exact rowIs_flat (rowIs_cut hr off n) q u hu
theorem srcX_ok (hR:RepM N w0 M W lk μ st a w) {τ:Ty} {n:Nat} {X:AV} {x:Value} {p:Prop} {r:List τ.D} (hX:RA (skel st.o) μ w X x) (h:srcX τ st.o n X=some (p,r)) (hp:p) :
  ∃ A m c,x=.slice A m c∧Nat.min m n=r.length∧r.length≤n∧Src w A τ r:=by
 unfold srcX at h
 split at h
 ·rename_i k off len c
  split at h
  ·rename_i σ l hl
   split at h
   ·rename_i l' hl'
    obtain ⟨rfl,rfl⟩:=castL_ok2 hl'
    injection h with h; injection h with e1 e2; subst e1; subst e2
    obtain ⟨A,σ',m,rfl,hs,hh⟩:=hX
    have hsk:=skel_of hl
    rw [hs] at hsk
    injection hsk with hsk; injection hsk with e1 e2; subst e1; subst e2
    have hlen:((l.drop off).take n).length=n:=by simp; omega
    exact ⟨A,len,c,rfl,by rw [hlen]; exact Nat.min_eq_right hp.1,by omega,row_src hR hl hh hp.1 hp.2⟩
   ·cases h
  ·cases h
 ·split at h
  ·rename_i r' hr
   injection h with h; injection h with e1 e2; subst e1; subst e2
   obtain ⟨A,c,e,h1,h2,h3⟩:=listA_src hR hX hr
   exact ⟨A,_,c,e,Nat.min_eq_left hp,hp,h3⟩
  ·cases h
theorem run_copyE (w:World) {dT sT ty e:TypeId} {i:TypeInfo} {τ:Ty} (hu:P.underlying dT=some (.slice e)) (hi:P.info? e=some i) (hsz:i.size=τ.sz) (g o dLen dCap:Nat) {A:Option Addr} (sLen sCap:Nat) (cur:Array Value) (ty':TypeId) {r:List τ.D}
  (hg:w.heap[g]?=some (.cells cur ty' (0,0))) (hn:Nat.min sLen dLen=r.length) (hsrc:Src w A τ r) (hfit:o+r.length*τ.sz≤cur.size) :
  (Builtin.copy_ #[dT,sT] ty #[.slice (some ⟨g,o,none⟩) dLen dCap,.slice A sLen sCap]).run P w=.ok (.int .i64 r.length) (w.setRow g (cur.toList.take o++flat τ r++cur.toList.drop (o+(flat τ r).length)).toArray):=by
 have hst:=run_storeCells_at P g o ty' (flat τ r) 0 cur w hg (by rw [flat_len]; simpa using hfit) (fun v hv=>okV_one.1 (flat_ok τ r v hv))
 have hfc:(Builtin.firstCells i.size r.length (.slice A sLen sCap)).run P w=.ok (flat τ r).toArray w:=by
  rcases hsrc with ⟨rfl,rfl⟩ | ⟨ad,rfl,hs⟩
  ·rw [run_firstCells_none]; rfl
  ·exact run_firstCells_some w i.size r.length ad sLen sCap (flat τ r) (by rw [flat_len,hsz]) hs
 simp only [Nat.add_zero] at hst
 simp [Builtin.copy_,run_underlying hu,Builtin.lenOf,sizeOf,typeInfo,hi,hn,hfc,hst,goInt]
theorem run_copyN (w:World) {dT sT ty e:TypeId} {i:TypeInfo} (hu:P.underlying dT=some (.slice e)) (hi:P.info? e=some i) (dLen dCap:Nat) {A:Option Addr} (sLen sCap:Nat) (hn:Nat.min sLen dLen=0) :
  (Builtin.copy_ #[dT,sT] ty #[.slice none dLen dCap,.slice A sLen sCap]).run P w=.ok (.int .i64 (0:Nat)) w:=by
 have hfc:(Builtin.firstCells i.size 0 (.slice A sLen sCap)).run P w=.ok #[] w:=by
  cases A with
  | none=>rw [run_firstCells_none]
  | some ad=>exact run_firstCells_some w i.size 0 ad sLen sCap [] (by simp) (fun j v h=>by simp at h)
 simp [Builtin.copy_,run_underlying hu,Builtin.lenOf,sizeOf,typeInfo,hi,hn,hfc,goInt]
theorem growO_ok (hR:RepM N w0 M W lk μ st a w) {k:Nat} {τ:Ty} {l l':List τ.D} (hl:lkp st.o k=some (.row τ l)) (hlk:memN lk k=false) (hk:k < 100000) {w':World}
  (hw:w'=w∨∃ p cs,μ k=some p∧w'=w.setRow p.1 cs) (h0:∀ S,RO S μ w' k (.row τ l')) :
  RepM N w0 M W lk μ ⟨mapT (C.killx k) st.t,setO k (.row τ l') (mapO (C.killx k) st.o)⟩ a w':=by
 have hlm:lkp (mapO (C.killx k) st.o) k=some (.row τ l):=by rw [lkp_mapO,hl]; rfl
 have hSn:∀ j,j≠k→skel (setO k (.row τ l') (mapO (C.killx k) st.o)) j=skel st.o j:=fun j hj=>by
  simp only [skel,lkp_setO_ne _ hj,lkp_mapO,Option.map_map]
  congr 1; funext x; exact sk_map _ x
 have hSk:skel (setO k (.row τ l') (mapO (C.killx k) st.o)) k=some (.row τ l'.length):=by
  simp only [skel,lkp_setO_same _ hlm,Option.map_some,OB.sk]
 have hSs:=skel_of hl
 have hne:∀ j,skel (setO k (.row τ l') (mapO (C.killx k) st.o)) j≠none→skel st.o j≠none:=fun j h=>by
  by_cases e:j=k
  ·subst e; exact skel_ne hl
  ·rwa [hSn j e] at h
 have hblk:∀ b,(∀ p,μ k=some p→b≠p.1)→w'.heap[b]?=w.heap[b]?:=by
  intro b hb
  rcases hw with rfl | ⟨p,cs,hm,rfl⟩
  ·rfl
  ·exact setRow_other w p.1 b cs (hb p hm)
 have hsize:w'.heap.size=w.heap.size:=by
  rcases hw with rfl | ⟨p,cs,hm,rfl⟩
  ·rfl
  ·simp [World.setRow]
 have hb3:∀ b,b < w.heap.size→¬ Own (skel st.o) μ b→w'.heap[b]?=w.heap[b]?∧¬ Own (skel (setO k (.row τ l') (mapO (C.killx k) st.o))) μ b:=fun b hb hno=>
  ⟨hblk b fun p hp e=>hno (.inl ⟨k,p,skel_ne hl,hp,e.symm⟩),own_sub hne hno⟩
 have hC:∀ c y,RC (skel st.o) μ w c y→RC (skel (setO k (.row τ l') (mapO (C.killx k) st.o))) μ w' (C.killx k c) y:=by
  intro c y h
  have hgen:RC (skel (setO k (.row τ l') (mapO (C.killx k) st.o))) μ w' (c.kill k) y:=h.kill (k0:=k) (fun j s hj hs=>by rw [hSn j hj]; exact hs) (fun _ _ _=>rfl) hb3 (by omega)
  cases c with
  | xs j off len c=>
   obtain ⟨A,σ,m,rfl,hs,hh⟩:=h
   by_cases e:j=k
   ·subst e
    rw [hSs] at hs
    injection hs with hs; injection hs with e1 e2; subst e1; subst e2
    exact ⟨A,_,_,rfl,hSk,hh⟩
   ·exact ⟨A,_,_,rfl,(hSn j e).trans hs,hh⟩
  | _=>exact hgen
 refine hR.change (st':=⟨mapT (C.killx k) st.t,setO k (.row τ l') (mapO (C.killx k) st.o)⟩) (C.killx k) k (fun i=>get_mapT _ st _ i rfl) hC (fun j ob2 e hj=>?_) (fun ob2 e=>?_) (fun q h1 h2=>?_) ⟨rfl,fun _ _=>rfl,fun h _=>by omega⟩ ?_
 ·rw [lkp_setO_ne _ hj,lkp_mapO] at e
  cases e2:lkp st.o j with
  | none=>rw [e2] at e; cases e
  | some ob=>
   rw [e2] at e; injection e with e
   exact ⟨ob,rfl,e.symm,rfl,fun q hq=>hblk _ fun p hp ee=>hj (hR.inj j k q p (skel_ne e2) (skel_ne hl) hq hp ee)⟩
 ·rw [lkp_setO_same _ hlm] at e
  injection e with e; subst e
  exact h0 _
 ·exact ⟨fun j q' hj hs hm e=>hj (hR.inj j k q' q (hne j hs) (skel_ne hl) hm h2 e),fun _=>hR.wr k q (skel_ne hl) hlk h2,hR.ok k q (skel_ne hl) h2⟩
 ·rcases hw with rfl | ⟨p,cs,hm,rfl⟩
  ·exact hR.fr
  ·refine ⟨hR.fr.os,hR.fr.tape,hR.fr.output,by rw [hsize]; exact hR.fr.size,fun b hb hnm=>?_⟩
   have hne:b≠p.1:=fun e=>by
    rcases hR.wr k p (skel_ne hl) hlk hm with hM | hge
    ·exact hnm (e ▸ hM)
    ·omega
   exact (setRow_other w p.1 b cs hne).trans (hR.fr.blk b hb hnm)
theorem rowIs_put {cur:Array Value} {o:Nat} {τ:Ty} {l r:List τ.D} {i:Nat} (h:RowIs cur o τ l) (hi:i≤l.length) (hfit:o+(i+r.length)*τ.sz≤cur.size) :
  RowIs (cur.toList.take (o+i*τ.sz)++flat τ r++cur.toList.drop (o+i*τ.sz+(flat τ r).length)).toArray o τ (putX l i r):=by
 have hfl:=flat_len τ r
 rw [Nat.add_mul] at hfit
 intro q x hx j y hy
 have hj:j < τ.sz:=by have:=(List.getElem?_eq_some_iff.1 hy).1; rwa [enc_len] at this
 rw [List.getElem?_toArray,List.append_assoc]
 unfold putX at hx
 have hmin:min (o+i*τ.sz) cur.size=o+i*τ.sz:=by omega
 rcases Nat.lt_or_ge q i with h1 | h1
 ·have h2:(q+1)*τ.sz≤i*τ.sz:=Nat.mul_le_mul_right _ h1
  rw [Nat.add_mul,Nat.one_mul] at h2
  rw [List.getElem?_append_left (by rw [List.length_take]; omega),List.getElem?_take,if_pos h1] at hx
  rw [List.getElem?_append_left (by simp; omega),List.getElem?_take,if_pos (by omega),Array.getElem?_toList]
  exact h q x hx j y hy
 ·rw [List.getElem?_append_right (by rw [List.length_take]; omega),List.length_take,Nat.min_eq_left hi] at hx
  have h2:i*τ.sz+(q - i)*τ.sz=q*τ.sz:=by rw [← Nat.add_mul]; congr 1; omega
  rw [List.getElem?_append_right (by simp; omega),List.length_take,@Array.length_toList _ cur,hmin]
  rcases Nat.lt_or_ge (q - i) r.length with h3 | h3
  ·rw [List.getElem?_append_left h3] at hx
   have h4:(q - i+1)*τ.sz≤r.length*τ.sz:=Nat.mul_le_mul_right _ h3
   rw [Nat.add_mul,Nat.one_mul] at h4
   rw [List.getElem?_append_left (by rw [hfl]; omega),show o+q*τ.sz+j - (o+i*τ.sz)=(q - i)*τ.sz+j by omega]
   exact flat_get τ hx hy
  ·rw [List.getElem?_append_right h3,List.getElem?_drop] at hx
   have h4:r.length*τ.sz≤(q - i)*τ.sz:=Nat.mul_le_mul_right _ h3
   rw [List.getElem?_append_right (by rw [hfl]; omega),hfl,List.getElem?_drop,Array.getElem?_toList]
   have:=h _ x hx j y hy
   rw [show i+r.length+(q - i - r.length)=q by omega] at this
   rw [show o+i*τ.sz+r.length*τ.sz+(o+q*τ.sz+j - (o+i*τ.sz) - r.length*τ.sz)=o+q*τ.sz+j by omega]
   exact this
theorem putX_len {α:Type} {l r:List α} {i:Nat} (hi:i≤l.length):(putX l i r).length=max l.length (i+r.length):=by
 simp only [putX,List.length_append,List.length_take,List.length_drop]; omega
theorem copyX_ok (hT:TabOK P T) (hR:RepM N w0 M W lk μ st a w) {t t' e ty:TypeId} {τ:Ty} (ht:lkp T t=some (.sl e τ)) {S X:Operand} {k off n c:Nat} {l r:List τ.D} {p:Prop} (hS:st.ev S=.one (.c (.xs k off n c))) (hlk:memN lk k=false) (hk:k < 100000)
  (hl:lkp st.o k=some (.row τ l)) (hr:srcX τ st.o n (st.ev X)=some (p,r)) (hp:p) (hoff:off≤l.length) :
  ∃ w',(Builtin.copy_ #[t,t'] ty #[a.eval S,a.eval X]).run P w=.ok (.int .i64 r.length) w'∧RepM N w0 M W lk μ ⟨mapT (C.killx k) st.t,setO k (.row τ (putX l off r)) (mapO (C.killx k) st.o)⟩ a w':=by
 obtain ⟨i,hu,hi,hsz,_⟩:=hT _ _ ht
 obtain ⟨A2,m,c2,e2,hmin,hrn,hsrc⟩:=srcX_ok hR (RA_ev hR X) hr hp
 have hx:=RA_ev hR S
 rw [hS] at hx
 obtain ⟨A,σ,q,e1,hs,hh⟩:=hx
 rw [skel_of hl] at hs
 injection hs with hs; injection hs with e3 e4; subst e3; subst e4
 rw [e1,e2]
 have hpos:=sz_pos τ
 have hnone:r.length=0→RepM N w0 M W lk μ ⟨mapT (C.killx k) st.t,setO k (.row τ (putX l off r)) (mapO (C.killx k) st.o)⟩ a w:=fun h0=>by
  have hr0:r=[]:=List.eq_nil_of_length_eq_zero h0
  subst hr0
  have:putX l off ([]:List τ.D)=l:=by simp [putX]
  rw [this]
  exact growO_ok hR hl hlk hk (.inl rfl) fun S=>hR.ob k _ hl
 obtain ⟨g1,g2,⟨rfl,hc⟩ | ⟨g,o,s,o',hm,rfl,g4,g5⟩⟩:=hh
 ·have h0:r.length=0:=by omega
  rw [run_copyN w hu hi n c m c2 (by rw [hmin,h0]),h0]
  exact ⟨w,rfl,hnone h0⟩
 ·rcases hR.ob k _ hl with ⟨e,_⟩ | ⟨g',o2,s',cur,ty',hm',hg,hcs,hle,hrow⟩
  ·rw [hm] at e; cases e
  ·rw [hm] at hm'
   injection hm' with hm'; injection hm' with a1 a2; injection a2 with a2 a3; subst a1; subst a2; subst a3
   have hrl:r.length*τ.sz≤c*τ.sz:=Nat.mul_le_mul_right _ (by omega)
   have hrun:=run_copyE (P:=P) (ty:=ty) (sT:=t') w hu hi hsz g o' n c m c2 cur ty' hg hmin hsrc (by omega)
   rcases Nat.eq_zero_or_pos r.length with h0 | h0
   ·have hr0:r=[]:=List.eq_nil_of_length_eq_zero h0
    subst hr0
    refine ⟨w,?_,hnone rfl⟩
    rw [hrun]
    simp only [flat,List.append_nil,List.length_nil,Nat.add_zero,List.take_append_drop,Array.toArray_toList]
    rw [setRow_self w g cur ty' (0,0) hg]
   ·have g6:=g5 (by omega)
    refine ⟨_,hrun,growO_ok hR hl hlk hk (.inr ⟨_,_,hm,rfl⟩) fun S=>.inr ⟨g,o,s,_,ty',hm,setRow_heap w g cur _ ty' _ hg,?_,?_,?_⟩⟩
    ·have:=flat_len τ r
     simp only [List.size_toArray,List.length_append,List.length_take,List.length_drop,Array.length_toList]; omega
    ·rw [putX_len hoff]
     rcases Nat.le_total l.length (off+r.length) with h | h
     ·rw [Nat.max_eq_right h,Nat.add_mul]; omega
     ·rw [Nat.max_eq_left h]; omega
    ·rw [g6]
     exact rowIs_put hrow hoff (by rw [Nat.add_mul]; omega)
theorem appZG_run {t t' e ty:TypeId} {i:TypeInfo} {τ:Ty} (hu:P.underlying t=some (.slice e)) (hu':P.underlying t'=some (.int .i64)) (hi:P.info? e=some i) (hsz:i.size=τ.sz) {z:Value} (hz:i.zero=some z) (hz2:z.cells.toList=τ.enc τ.zero)
  (hb2:i.bytes≤100) {A:Option Addr} {len c n:Nat} {r:List τ.D} (hlen:r.length=len) (hlc:len≤c) (hg:c < len+n) (hn:len+n≤1000000000) (w:World) (hsrc:Src w A τ r) :
  ∃ c' cur w',(Builtin.append_ #[t,t'] ty #[.slice A len c,.int .i64 n]).run P w=.ok (.slice (some ⟨w.heap.size,0,none⟩) (len+n) c') w'∧len+n≤c'∧c'≤maxLen∧Fr (fun _=>False) w w'∧
   w'.heap[w.heap.size]?=some (.cells cur e (0,0))∧c'*τ.sz≤cur.size∧RowIs cur 0 τ (r++List.replicate n τ.zero):=by
 have hby:(len+n)*i.bytes≤140737488355328:=by
  calc (len+n)*i.bytes≤1000000000*100:=Nat.mul_le_mul hn hb2
   _≤140737488355328:=by decide
 have hby2:n*i.bytes≤(len+n)*i.bytes:=Nat.mul_le_mul_right _ (by omega)
 have hold:(Builtin.firstCells i.size len (.slice A len c)).run P w.drew=.ok (flat τ r).toArray w.drew:=by
  rcases hsrc with ⟨rfl,rfl⟩ | ⟨ad,rfl,hs⟩
  ·rw [run_firstCells_none]; rfl
  ·exact run_firstCells_some w.drew i.size len ad len c (flat τ r) (by rw [flat_len,hsz,hlen]) hs
 have hrun:=Lib.run_append_grow_zeros (P:=P) w t t' ty e i z .i64 .i64 hu hu' hi hz A len c (flat τ r) hold n (by omega) (by rw [hsz]; exact sz_pos τ) hg (by omega) (by omega) (growslice_fits hg hby)
 have hge:=grownCap_ge w (len+n) c e
 have hfl:=flat_len τ r
 refine ⟨_,(flat τ r).toArray++Builtin.zeroCells z.cells n++Builtin.zeroCells z.cells (grownCap w (len+n) c e - (len+n)),_,hrun,hge,grownCap_le_maxLen w (len+n) c e (by simp only [maxLen]; omega),⟨rfl,rfl,rfl,by show w.heap.size≤(w.heap.push _).size; rw [Array.size_push]; omega,fun b hb _=>?_⟩,?_,?_,rowIs_of fun q y hy=>?_⟩
 ·show (w.heap.push _)[b]?=_
  rw [Array.getElem?_push,if_neg (by omega)]
 ·show (w.heap.push _)[w.heap.size]?=_
  rw [Array.getElem?_push,if_pos rfl]
 ·rw [Array.size_append,Array.size_append,size_zeros hz2,size_zeros hz2,List.size_toArray,hfl,hlen,← Nat.add_mul,← Nat.add_mul]
  refine Nat.mul_le_mul_right _ ?_
  omega
 ·rw [Nat.zero_add]
  rw [flat_append] at hy
  rw [Array.append_assoc]
  rcases Nat.lt_or_ge q (flat τ r).length with h1 | h1
  ·rw [List.getElem?_append_left h1] at hy
   rw [Array.getElem?_append_left (by simpa using h1)]
   simpa using hy
  ·rw [List.getElem?_append_right h1] at hy
   rw [Array.getElem?_append_right (by simpa using h1)]
   have hlt:q - (flat τ r).length < (Builtin.zeroCells z.cells n).size:=by
    rw [size_zeros hz2]
    have:=(List.getElem?_eq_some_iff.1 hy).1
    rwa [flat_len τ (List.replicate n τ.zero),List.length_replicate] at this
   rw [Array.getElem?_append_left (by simpa using hlt)]
   simpa using zeros_get hz2 n _ y hy
end
section
variable {P:Program} {T:Tab} {N:Nat} {w0:World} {M:Nat→Prop} {W:Wd} {lk:List Nat} {μ:Mu} {st:St} {a:Act} {w:World}
theorem ov_at (hR:RepM N w0 M W lk μ st a w) {f:FuncId} (hov:OvOK P f) {τ:Ty} {l:List τ.D} {k off len c:Nat} {x y:Value} (hx:RC (skel st.o) μ w (.ro τ l) x) (hy:RC (skel st.o) μ w (.xs k off len c) y) :
  (callFunc f #[x,y]).run P w=.ok (.value (.bool false)) w:=by
 obtain ⟨A,n,c1,rfl,⟨h1,h2,h3,h4⟩,ho⟩:=hx
 obtain ⟨B,σ,m,rfl,hs,g1,g2,g3⟩:=hy
 refine hov w A B n c1 len c fun hn hl=>?_
 rcases h4 with ⟨_,hc⟩ | ⟨ad,rfl,ha⟩
 ·omega
 rcases g3 with ⟨_,hc⟩ | ⟨g,o,s,o',hm,rfl,g4,g5⟩
 ·omega
 obtain ⟨b,ob,rfl,hcell⟩:=ha (by omega)
 obtain ⟨z,hz⟩:∃ z,l[0]?=some z:=⟨l[0]'(by omega),by simp⟩
 obtain ⟨y,hy⟩:∃ y,(τ.enc z)[0]?=some y:=⟨(τ.enc z)[0]'(by rw [enc_len]; exact sz_pos τ),by simp⟩
 have hc0:=hcell 0 z hz 0 y hy
 simp only [Nat.zero_mul,Nat.add_zero] at hc0
 obtain ⟨ob,hob⟩:=skel_some (o:=st.o) (k:=k) (by rw [hs]; simp)
 have hsk:=skel_of hob
 rw [hs] at hsk
 cases ob with
 | box cs=>cases hsk
 | row σ' l'=>
  injection hsk with hsk; injection hsk with e1 e2; subst e1
  rcases hR.ob k _ hob with ⟨e,_⟩ | ⟨g',o2,s',cur,ty',hm',hh,hsz,hle,hr⟩
  ·rw [hm] at e; cases e
  ·rw [hm] at hm'
   injection hm' with hm'; injection hm' with e1 e2; injection e2 with e2 e3; subst e1; subst e2; subst e3
   have hp:0 < c*σ.sz:=Nat.mul_pos (by omega) (sz_pos σ)
   exact ⟨b,_,g,o',y,cur,ty',rfl,rfl,fun e=>ho (by omega) _ rfl (.inl ⟨k,_,by rw [hs]; simp,hm,e.symm⟩),hc0,hh,by omega⟩
end
end Go.Ev
