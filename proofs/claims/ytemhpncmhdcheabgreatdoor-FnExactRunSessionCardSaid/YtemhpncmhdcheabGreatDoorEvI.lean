/- The state and the machine,step by step: results,new things,stores,appends. No statement is proved here. -/
import Derived.Test.YtemhpncmhdcheabGreatDoorEvH
namespace Go.Ev
set_option linter.unusedVariables false
set_option linter.unusedSimpArgs false
open Go
def KillF (D:Nat→Prop) (f:C→C):Prop:=∀ c,f c=.un∨(f c=c∧∀ k∈keyC c,¬ D k)
theorem killF_id:KillF (fun _=>False) (fun c=>c):=fun c=>.inr ⟨rfl,fun _ _ h=>h⟩
theorem capKeys_mem {k:Nat}:∀ {cs:List Cap} {i:Nat},cs[i]?=some (.b k)→k∈capKeys cs
 | [],i,h=>by simp at h
 | x :: r,0,h=>by
  simp at h; subst h; simp [capKeys]
 | x :: r,i+1,h=>by
  have:=capKeys_mem (cs:=r) (i:=i) (by simpa using h)
  cases x with
  | b k'=>simp [capKeys,this]
  | k x=>exact this
  | v x=>exact this
theorem capKeys_in {k:Nat}:∀ {cs:List Cap},capIn k cs=false→∀ j∈capKeys cs,j≠k
 | [],_,j,h=>by simp [capKeys] at h
 | .b k' :: r,h,j,hj=>by
  simp only [capIn] at h
  rcases beq_cases k' k with ⟨_,e⟩ | ⟨hne,e⟩
  ·rw [e] at h; cases h
  ·rw [e] at h
   rcases List.mem_cons.1 hj with rfl | hj
   ·exact hne
   ·exact capKeys_in h j hj
 | .k x :: r,h,j,hj=>capKeys_in (cs:=r) h j hj
 | .v x :: r,h,j,hj=>capKeys_in (cs:=r) h j hj
theorem killF_kill (k:Nat):KillF (fun j=>j=k) (C.kill k):=by
 intro c
 cases c with
 | ow k'=>rcases beq_cases k' k with ⟨_,e⟩ | ⟨hne,e⟩ <;> simp [C.kill,e,keyC]; first | exact hne | skip
 | sub k' a b=>rcases beq_cases k' k with ⟨_,e⟩ | ⟨hne,e⟩ <;> simp [C.kill,e,keyC]; first | exact hne | skip
 | pb k' a=>rcases beq_cases k' k with ⟨_,e⟩ | ⟨hne,e⟩ <;> simp [C.kill,e,keyC]; first | exact hne | skip
 | sb k' a=>rcases beq_cases k' k with ⟨_,e⟩ | ⟨hne,e⟩ <;> simp [C.kill,e,keyC]; first | exact hne | skip
 | pr k' a b=>rcases beq_cases k' k with ⟨_,e⟩ | ⟨hne,e⟩ <;> simp [C.kill,e,keyC]; first | exact hne | skip
 | xs k' a b c=>rcases beq_cases k' k with ⟨_,e⟩ | ⟨hne,e⟩ <;> simp [C.kill,e,keyC]; first | exact hne | skip
 | cl f cs=>
  simp only [C.kill]
  cases h:capIn k cs with
  | true=>exact .inl rfl
  | false=>exact .inr ⟨rfl,capKeys_in h⟩
 | _=>exact .inr ⟨rfl,fun _ h=>by cases h⟩
theorem killF_comp {D D':Nat→Prop} {f g:C→C} (hf:KillF D f) (hg:KillF D' g) (hun:g .un=.un):KillF (fun k=>D k∨D' k) (fun c=>g (f c)):=by
 intro c
 rcases hf c with h | ⟨h,h'⟩
 ·exact .inl (by show g (f c)=_; rw [h,hun])
 ·rcases hg c with h2 | ⟨h2,h2'⟩
  ·exact .inl (by show g (f c)=_; rw [h]; exact h2)
  ·exact .inr ⟨by show g (f c)=_; rw [h]; exact h2,fun k hk hd=>hd.elim (h' k hk) (h2' k hk)⟩
theorem RC.gen {S S':Sk} {μ μ':Mu} {w w':World} {c:C} {y:Value} {D:Nat→Prop} {f:C→C} (hf:KillF D f) (h:RC S μ w c y) (h1:∀ k s,¬ D k→S k=some s→S' k=some s) (h2:∀ k,¬ D k→S k≠none→μ' k=μ k)
  (h3:∀ b,b < w.heap.size→¬ Own S μ b→w'.heap[b]?=w.heap[b]?∧¬ Own S' μ' b) (h4:w.heap.size≤w'.heap.size):RC S' μ' w' (f c) y:=by
 rcases hf c with e | ⟨e,hk⟩
 ·rw [e]; trivial
 ·rw [e]
  cases c with
  | sb k n=>
   obtain ⟨g,o,s,c,rfl,hs,hm,h5⟩:=h
   have hnd:=hk k (by simp [keyC])
   exact ⟨g,o,s,c,rfl,h1 _ _ hnd hs,(h2 k hnd (by rw [hs]; simp)).trans hm,h5⟩
  | arr l=>exact h
  | v x=>exact h
  | nil=>exact h
  | ro τ l=>
   obtain ⟨A,n,c,rfl,hr,ho⟩:=h
   refine ⟨A,n,c,rfl,hr.mono fun hn a ha=>?_,fun hn a ha=>?_⟩
   ·obtain ⟨a',e,hlt⟩:=hr.blk hn
    obtain rfl:a'=a:=by rw [e] at ha; injection ha
    exact (h3 _ hlt (ho hn a' e)).1
   ·obtain ⟨a',e,hlt⟩:=hr.blk hn
    obtain rfl:a'=a:=by rw [e] at ha; injection ha
    exact (h3 _ hlt (ho hn a' e)).2
  | ow k=>
   have hd:=hk k (by simp [keyC])
   obtain ⟨A,n,c,τ,rfl,hs,hh⟩:=h
   refine ⟨A,n,c,τ,rfl,h1 _ _ hd hs,?_⟩
   unfold Hd at *; rw [h2 k hd (by rw [hs]; simp)]; exact hh
  | sub k off len=>
   have hd:=hk k (by simp [keyC])
   obtain ⟨A,c,τ,n,rfl,hs,hn,hnc,hh⟩:=h
   refine ⟨A,c,τ,n,rfl,h1 _ _ hd hs,hn,hnc,?_⟩
   unfold Hd at *; rw [h2 k hd (by rw [hs]; simp)]; exact hh
  | pb k j=>
   have hd:=hk k (by simp [keyC])
   obtain ⟨g,o,s,hs,hm,rfl⟩:=h
   exact ⟨g,o,s,h1 _ _ hd hs,by rw [h2 k hd (by rw [hs]; simp)]; exact hm,rfl⟩
  | pr k i j=>
   have hd:=hk k (by simp [keyC])
   obtain ⟨g,o,s,τ,n,hs,hi,hm,rfl⟩:=h
   exact ⟨g,o,s,τ,n,h1 _ _ hd hs,hi,by rw [h2 k hd (by rw [hs]; simp)]; exact hm,rfl⟩
  | pe cells j=>
   obtain ⟨b,o,rfl,hc,hlt,hno,hok⟩:=h
   obtain ⟨e1,e2⟩:=h3 b hlt hno
   exact ⟨b,o,rfl,fun q x hx=>(cell_heap e1).trans (hc q x hx),Nat.lt_of_lt_of_le hlt h4,e2,hok⟩
  | cl f cs=>
   obtain ⟨ps,e,hl,hp⟩:=h
   exact ⟨ps,e.mono h3,hl,fun i x p hx hp'=>(hp i x p hx hp').mono D (fun k e=>by subst e; exact hk k (capKeys_mem hx)) h1 h2 h3 h4⟩
  | rol τ ls=>exact rol_mono h h3 h4
  | pel τ l=>exact pel_mono h h3 h4
  | xs k off len c=>
   have hd:=hk k (by simp [keyC])
   obtain ⟨A,τ,n,rfl,hs,hh⟩:=h
   refine ⟨A,τ,n,rfl,h1 _ _ hd hs,?_⟩
   unfold Hd at *; rw [h2 k hd (by rw [hs]; simp)]; exact hh
  | un=>trivial
def upd (μ:Mu) (k:Nat) (p:Option (Nat×Nat×Nat)):Mu:=⟨fun i=>if i=k then p else μ i,μ.fo⟩
theorem upd_same (μ:Mu) (k:Nat) (p:Option (Nat×Nat×Nat)):upd μ k p k=p:=by simp [upd]
theorem upd_ne (μ:Mu) {k i:Nat} (p:Option (Nat×Nat×Nat)) (h:i≠k):upd μ k p i=μ i:=by simp [upd,h]
section
variable {P:Program} {T:Tab} {N:Nat} {w0:World} {M:Nat→Prop} {W:Wd} {lk:List Nat} {μ:Mu} {st:St} {a:Act} {w:World}
theorem own_lt (hR:RepM N w0 M W lk μ st a w) {k:Nat} {p:Nat×Nat×Nat} (hk:skel st.o k≠none) (hm:μ k=some p):p.1 < w.heap.size:=by
 obtain ⟨ob,e⟩:=skel_some hk
 have h:=hR.ob k ob e
 cases ob with
 | row τ l=>
  rcases h with ⟨h,_⟩ | ⟨g,o,s,cur,ty,hm',hh,_⟩
  ·rw [hm] at h; cases h
  ·rw [hm] at hm'; injection hm' with hm'; subst hm'; exact heap_lt hh
 | box l=>
  obtain ⟨g,o,s,cur,ty,hm',hh,_⟩:=h
  rw [hm] at hm'; injection hm' with hm'; subst hm'; exact heap_lt hh
theorem put_ok (hR:RepM N w0 M W lk μ st a w) {d:Nat} {x:AV} {v:Value} (hd:d < N) (hx:RA (skel st.o) μ w x v):RepM N w0 M W lk μ (st.put d x) (a.put (some d) v) w:=by
 refine ⟨hR.df,by simp [Act.put,hR.sz],fun i=>?_,hR.ob,hR.inj,hR.fr,hR.wr,hR.ok,hR.up,hR.tr,hR.fo,hR.hh⟩
 by_cases h:d=i
 ·subst h
  rw [get_put_same]
  have hd':d < a.tmps.size:=by rw [hR.sz.1]; exact hd
  have:(a.put (some d) v).tmps.getD d undef=v:=by simp [Act.put,hd']
  rw [vAt,if_pos (by have:=hR.sz.2; omega),this]; exact hx
 ·rw [get_put_ne st x h]
  have:(a.put (some d) v).tmps.getD i undef=a.tmps.getD i undef:=by
   simp [Act.put,Array.getElem?_setIfInBounds_ne h]
  have h2:=hR.tm i
  unfold vAt at h2 ⊢
  split
  ·rename_i hi
   rw [if_pos hi] at h2
   rw [this]; exact h2
  ·rename_i hi
   rw [if_neg hi] at h2
   exact h2
theorem putK_ok (hR:RepM N w0 M W lk μ st a w) {d:Option Nat} {x:AV} {v:Value} {K:St→Prop} (hx:RA (skel st.o) μ w x v) (h:putK N d x st K):∃ st',RepM N w0 M W lk μ st' (a.put d v) w∧K st':=by
 cases d with
 | none=>exact ⟨st,hR,h⟩
 | some d=>
  simp only [putK] at h
  split at h
  ·rename_i hb
   have:d < N:=by simpa using hb
   exact ⟨_,put_ok hR this hx,h⟩
  ·exact h.elim
theorem newK_ok (hR:RepM N w0 M W lk μ st a w) (k:Nat) (hk0:k < 100000) (ob:OB) {w':World} (p:Option (Nat×Nat×Nat)) (hw:Fr (fun _=>False) w w') (hp:∀ q,p=some q→w.heap.size≤q.1)
  (h0:∀ S' f,(∀ c y,RC (skel st.o) μ w c y→RC S' (upd μ k p) w' (f c) y)→(∀ c,plainC c=true→f c=c)→(∀ b,(∀ q,p=some q→b≠q.1)→¬ Own (skel st.o) μ b→¬ Own S' (upd μ k p) b)→RO S' (upd μ k p) w' k (ob.map f)):RepM N w0 M W lk (upd μ k p) (st.newK k ob) a w':=by
 have hown:∀ (S':Sk) (b:Nat),(∀ j,j≠k→S' j≠none→skel st.o j≠none)→b < w.heap.size→¬ Own (skel st.o) μ b→¬ Own S' (upd μ k p) b:=by
  intro S' b hS hb hno hown
  rcases hown with ⟨j,q,hj,hm,e⟩ | hfo
  rotate_left
  ·exact hno (.inr hfo)
  by_cases hjk:j=k
  ·subst hjk
   rw [upd_same] at hm
   have:=hp q hm
   omega
  ·rw [upd_ne _ _ hjk] at hm
   exact hno (.inl ⟨j,q,hS j hjk hj,hm,e⟩)
 have hown2:∀ (S':Sk),(∀ j,j≠k→S' j≠none→skel st.o j≠none)→∀ b,(∀ q,p=some q→b≠q.1)→¬ Own (skel st.o) μ b→¬ Own S' (upd μ k p) b:=by
  rintro S' hS b hb hno (⟨j,q,hj,hm,e⟩ | hfo)
  ·by_cases hjk:j=k
   ·subst hjk
    rw [upd_same] at hm
    exact hb q hm e.symm
   ·rw [upd_ne _ _ hjk] at hm
    exact hno (.inl ⟨j,q,hS j hjk hj,hm,e⟩)
  ·exact hno (.inr hfo)
 have hfr:Fr M w0 w':=hR.fr.trans ⟨hw.os,hw.tape,hw.output,hw.size,fun b hb _=>hw.blk b hb (fun h=>h)⟩
 have hnew:∀ (S':Sk),(∀ j,j≠k→S' j≠none→skel st.o j≠none)→∀ q,S' k≠none→upd μ k p k=some q→
   (∀ j q',j≠k→S' j≠none→upd μ k p j=some q'→q'.1≠q.1)∧(memN lk k=false→M q.1∨w0.heap.size≤q.1)∧W k q.1:=by
  intro S' hS q _ hq
  rw [upd_same] at hq
  have hge:=hp q hq
  have h00:=hR.fr.size
  refine ⟨fun j q' hj hs hm e=>?_,fun _=>.inr (by omega),hR.up.1 _ _ (by omega)⟩
  rw [upd_ne _ _ hj] at hm
  have:=own_lt hR (hS j hj hs) hm
  omega
 unfold St.newK
 cases hl:lkp st.o k with
 | none=>
  have hsk:∀ j,j≠k→skel ((k,ob) :: st.o) j=skel st.o j:=fun j hj=>by simp only [skel]; rw [lkp_cons_ne _ _ (Ne.symm hj)]
  have hsub:∀ j,j≠k→skel ((k,ob) :: st.o) j≠none→skel st.o j≠none:=fun j hj h=>by rwa [hsk j hj] at h
  have hC:∀ c y,RC (skel st.o) μ w c y→RC (skel ((k,ob) :: st.o)) (upd μ k p) w' c y:=fun c y h=>
   h.gen killF_id (fun j s _ hs=>by
    have:j≠k:=fun e=>by subst e; rw [skel] at hs; rw [hl] at hs; cases hs
    rw [hsk j this]; exact hs) (fun j _ hs=>upd_ne _ _ fun e=>by subst e; rw [skel] at hs; rw [hl] at hs; exact hs rfl)
    (fun b hb hno=>⟨hw.blk b hb (fun h=>h),hown _ b hsub hb hno⟩) hw.size
  refine hR.change (st':=⟨st.t,(k,ob) :: st.o⟩) (fun c=>c) k (fun i=>(AV.map_id _).symm) hC (fun j ob' e hj=>?_) (fun ob' e=>?_) (fun q h1 h2=>hnew _ hsub q h1 h2) ⟨rfl,fun j hj=>upd_ne _ _ (by omega),fun hj=>by omega⟩ hfr
  ·rw [lkp_cons_ne _ _ (Ne.symm hj)] at e
   exact ⟨ob',e,(OB.map_id _).symm,upd_ne _ _ hj,fun q hq=>hw.blk _ (own_lt hR (skel_ne e) hq) (fun h=>h)⟩
  ·rw [lkp_cons_same] at e
   injection e with e; subst e
   have:=h0 (skel ((k,ob) :: st.o)) (fun c=>c) hC (fun _ _=>rfl) (hown2 _ hsub)
   rwa [OB.map_id] at this
 | some x=>
  have hlk:∀ j,j≠k→lkp ((k,ob.map (C.kill k)) :: mapO (C.kill k) (dropO k st.o)) j=(lkp st.o j).map (OB.map (C.kill k)):=fun j hj=>by
   rw [lkp_cons_ne _ _ (Ne.symm hj),lkp_mapO,lkp_dropO_ne hj]
  have hsk:∀ j,j≠k→skel ((k,ob.map (C.kill k)) :: mapO (C.kill k) (dropO k st.o)) j=skel st.o j:=fun j hj=>by
   simp only [skel]; rw [hlk j hj,Option.map_map]; congr 1; funext z; exact sk_map _ _
  have hsub:∀ j,j≠k→skel ((k,ob.map (C.kill k)) :: mapO (C.kill k) (dropO k st.o)) j≠none→skel st.o j≠none:=fun j hj h=>by rwa [hsk j hj] at h
  have hC:∀ c y,RC (skel st.o) μ w c y→RC (skel ((k,ob.map (C.kill k)) :: mapO (C.kill k) (dropO k st.o))) (upd μ k p) w' (c.kill k) y:=fun c y h=>
   h.gen (killF_kill k) (fun j s hj hs=>by rw [hsk j hj]; exact hs) (fun j hj _=>upd_ne _ _ hj) (fun b hb hno=>⟨hw.blk b hb (fun h=>h),hown _ b hsub hb hno⟩) hw.size
  refine hR.change (st':=⟨mapT (C.kill k) st.t,(k,ob.map (C.kill k)) :: mapO (C.kill k) (dropO k st.o)⟩) (C.kill k) k (fun i=>get_mapT _ st _ i rfl) hC (fun j ob' e hj=>?_) (fun ob' e=>?_) (fun q h1 h2=>hnew _ hsub q h1 h2) ⟨rfl,fun j hj=>upd_ne _ _ (by omega),fun hj=>by omega⟩ hfr
  ·rw [hlk j hj] at e
   cases e2:lkp st.o j with
   | none=>rw [e2] at e; cases e
   | some ob2=>
    rw [e2] at e
    injection e with e
    exact ⟨ob2,rfl,e.symm,upd_ne _ _ hj,fun q hq=>hw.blk _ (own_lt hR (skel_ne e2) hq) (fun h=>h)⟩
  ·rw [lkp_cons_same] at e
   injection e with e; subst e
   exact h0 _ (C.kill k) hC (fun c hc=>by cases c <;> first | rfl | (cases hc; done)) (hown2 _ hsub)
theorem setO_ok (hR:RepM N w0 M W lk μ st a w) {k:Nat} {ob ob':OB} (hl:lkp st.o k=some ob) (hsk:ob'.sk=ob.sk) (hlk:memN lk k=false) {w':World}
  (hw:w'=w∨∃ p cs,μ k=some p∧w'=w.setRow p.1 cs) (h0:(∀ c y,RC (skel st.o) μ w c y→RC (skel st.o) μ w' c y)→RO (skel st.o) μ w' k ob') :
  RepM N w0 M W lk μ ⟨st.t,setO k ob' st.o⟩ a w':=by
 have hS:skel (setO k ob' st.o)=skel st.o:=by
  funext j
  by_cases hj:j=k
  ·subst hj; simp only [skel,lkp_setO_same ob' hl,hl,Option.map_some,hsk]
  ·simp only [skel,lkp_setO_ne ob' hj]
 have hblk:∀ b,(∀ p,μ k=some p→b≠p.1)→w'.heap[b]?=w.heap[b]?:=by
  intro b hb
  rcases hw with rfl | ⟨p,cs,hm,rfl⟩
  ·rfl
  ·exact setRow_other w p.1 b cs (hb p hm)
 have hsize:w'.heap.size=w.heap.size:=by
  rcases hw with rfl | ⟨p,cs,hm,rfl⟩
  ·rfl
  ·simp [World.setRow]
 have hC:∀ c y,RC (skel st.o) μ w c y→RC (skel st.o) μ w' c y:=fun c y h=>
  h.mono (fun _ _ h=>h) (fun _ _=>rfl) (fun b hb hno=>⟨hblk b fun p hp e=>hno (.inl ⟨k,p,skel_ne hl,hp,e.symm⟩),hno⟩) (by omega)
 refine hR.change (st':=⟨st.t,setO k ob' st.o⟩) (fun c=>c) k (fun i=>(AV.map_id _).symm) (by rw [hS]; exact hC) (fun j ob2 e hj=>?_) (fun ob2 e=>?_) (fun q h1 h2=>?_) ⟨rfl,fun _ _=>rfl,fun _ _=>⟨by rw [hS],skel_ne hl⟩⟩ ?_
 ·rw [lkp_setO_ne ob' hj] at e
  exact ⟨ob2,e,(OB.map_id _).symm,rfl,fun q hq=>hblk _ fun p hp ee=>hj (hR.inj j k q p (skel_ne e) (skel_ne hl) hq hp ee)⟩
 ·rw [lkp_setO_same ob' hl] at e
  injection e with e; subst e
  rw [hS]; exact h0 hC
 ·refine ⟨fun j q' hj hs hm e=>hj (hR.inj j k q' q (by rwa [hS] at hs) (skel_ne hl) hm h2 e),fun _=>hR.wr k q (skel_ne hl) hlk h2,hR.ok k q (skel_ne hl) h2⟩
 ·rcases hw with rfl | ⟨p,cs,hm,rfl⟩
  ·exact hR.fr
  ·refine ⟨hR.fr.os,hR.fr.tape,hR.fr.output,by rw [hsize]; exact hR.fr.size,fun b hb hnm=>?_⟩
   have hne:b≠p.1:=fun e=>by
    rcases hR.wr k p (skel_ne hl) hlk hm with hM | hge
    ·exact hnm (e ▸ hM)
    ·omega
   exact (setRow_other w p.1 b cs hne).trans (hR.fr.blk b hb hnm)
theorem A1_map_map (f g:C→C) (a:A1):(a.map f).map g=a.map (fun c=>g (f c)):=by
 cases a <;> simp [A1.map]
theorem AV_map_map (f g:C→C) (a:AV):(a.map f).map g=a.map (fun c=>g (f c)):=by
 cases a with
 | one a=>simp [AV.map,A1_map_map]
 | tup l=>simp [AV.map,Function.comp_def,A1_map_map]
theorem OB_map_map (f g:C→C) (a:OB):(a.map f).map g=a.map (fun c=>g (f c)):=by
 cases a <;> simp [OB.map]
theorem lkp_kill (st:St) (k j:Nat):lkp (st.kill k).o j=if j=k then none else (lkp st.o j).map (OB.map (C.kill k)):=by
 simp only [St.kill,lkp_mapO]
 by_cases h:j=k
 ·subst h; simp [lkp_dropO_same]
 ·simp [lkp_dropO_ne h,h]
theorem get_kill (st:St) (k i:Nat):(st.kill k).get i=(st.get i).map (C.kill k):=get_mapT _ _ _ _ rfl
theorem roC_kill (k:Nat) (c:C) (h:roC c=true):C.kill k c=c:=by
 cases c <;> first | rfl | (cases h; done)
theorem appShape (st:St) (k k0:Nat) (ob:OB) (hob:ob.map (C.kill k0)=ob):∃ (f:C→C) (D:Nat→Prop),KillF D f∧D k∧(∀ j,D j→j=k∨(j=k0∧skel st.o k0≠none))∧(skel st.o k0≠none→D k0)∧(∀ c,roC c=true→f c=c)∧
  (∀ i,((st.kill k).newK k0 ob).get i=(st.get i).map f)∧
  lkp ((st.kill k).newK k0 ob).o k0=some ob∧
  ∀ j,j≠k0→lkp ((st.kill k).newK k0 ob).o j=if j=k then none else (lkp st.o j).map (OB.map f):=by
 unfold St.newK
 have hk0:=lkp_kill st k k0
 cases hl:lkp (st.kill k).o k0 with
 | none=>
  refine ⟨C.kill k,fun j=>j=k,killF_kill k,rfl,fun j h=>.inl h,fun h=>?_,roC_kill k,get_kill st k,lkp_cons_same _ _ _,fun j hj=>?_⟩
  ·rw [hl] at hk0
   by_cases e:k0=k
   ·exact e
   ·rw [if_neg e] at hk0
    obtain ⟨ob,e2⟩:=skel_some h
    rw [e2] at hk0; cases hk0
  ·show lkp ((k0,_) :: (st.kill k).o) j=_
   rw [lkp_cons_ne _ _ (Ne.symm hj),lkp_kill]
 | some ob0=>
  rw [hl] at hk0
  have hne:k0≠k:=fun e=>by rw [if_pos e] at hk0; cases hk0
  have hlive:skel st.o k0≠none:=fun e=>by
   rw [if_neg hne] at hk0
   simp only [skel,Option.map_eq_none_iff] at e
   rw [e] at hk0; cases hk0
  refine ⟨fun c=>C.kill k0 (C.kill k c),fun j=>j=k∨j=k0,killF_comp (killF_kill k) (killF_kill k0) rfl,.inl rfl,fun j h=>h.imp id (fun e=>⟨e,hlive⟩),fun _=>.inr rfl,fun c hc=>by show C.kill k0 (C.kill k c)=c; rw [roC_kill k c hc,roC_kill k0 c hc],fun i=>?_,by simp only [lkp_cons_same,hob],fun j hj=>?_⟩
  ·show St.get ⟨mapT (C.kill k0) (st.kill k).t,_⟩ i=_
   rw [get_mapT _ _ _ _ rfl,get_kill,AV_map_map]
  ·show lkp ((k0,_) :: mapO (C.kill k0) (dropO k0 (st.kill k).o)) j=_
   rw [lkp_cons_ne _ _ (Ne.symm hj),lkp_mapO,lkp_dropO_ne hj,lkp_kill]
   by_cases e:j=k
   ·simp [e]
   ·simp [e,Function.comp_def,OB_map_map]
theorem appG_ok (hR:RepM N w0 M W lk μ st a w) {k:Nat} {g o s:Nat} (hk100:k < 100000) (hk:skel st.o k≠none) (hlk:memN lk k=false) (hm:μ k=some (g,o,s)) (k0:Nat) (hk0:k0 < 100000) (ob:OB) (hob:ob.map (C.kill k0)=ob) {w':World} (p:Option (Nat×Nat×Nat))
  (hos:w'.os=w.os) (htp:w'.tape=w.tape) (hout:w'.output=w.output) (hsize:w.heap.size≤w'.heap.size) (hblk:∀ b,b < w.heap.size→b≠g→w'.heap[b]?=w.heap[b]?)
  (hp:∀ q,p=some q→w.heap.size≤q.1∨q.1=g)
  (h0:∀ S',(∀ c y,roC c=true→RC (skel st.o) μ w c y→RC S' (upd μ k0 p) w' c y)→RO S' (upd μ k0 p) w' k0 ob) :
  RepM N w0 M W lk (upd μ k0 p) ((st.kill k).newK k0 ob) a w':=by
 obtain ⟨f,D,hf,hDk,hD,hD0,hro,hget,hlk0,hlkj⟩:=appShape st k k0 ob hob
 generalize (st.kill k).newK k0 ob=st' at *
 have hglt:=own_lt hR hk hm
 have hsub:∀ j,j≠k0→skel st'.o j≠none→j≠k∧skel st.o j≠none:=by
  intro j hj h
  simp only [skel,hlkj j hj] at h
  by_cases e:j=k
  ·simp [e] at h
  ·refine ⟨e,fun e2=>?_⟩
   simp only [skel,Option.map_eq_none_iff] at e2
   simp [e,e2] at h
 have hsk:∀ j s,¬ D j→skel st.o j=some s→skel st'.o j=some s:=by
  intro j s hnd hs
  have hjk:j≠k:=fun e=>hnd (e ▸ hDk)
  have hj0:j≠k0:=fun e=>by
   subst e
   exact hnd (hD0 (by rw [hs]; simp))
  simp only [skel,hlkj j hj0,if_neg hjk,Option.map_map]
  simp only [skel] at hs
  rw [← hs]; congr 1; funext z; exact sk_map f z
 have hC:∀ c y,RC (skel st.o) μ w c y→RC (skel st'.o) (upd μ k0 p) w' (f c) y:=by
  intro c y h
  refine h.gen hf hsk (fun j hnd hs=>?_) (fun b hb hno=>⟨hblk b hb fun e=>hno (.inl ⟨k,_,hk,hm,e.symm⟩),?_⟩) hsize
  ·by_cases e:j=k0
   ·subst e; exact absurd (hD0 hs) hnd
   ·exact upd_ne _ _ e
  ·rintro (⟨j,q,hj,hq,e⟩ | hfo)
   rotate_left
   ·exact hno (.inr hfo)
   by_cases ej:j=k0
   ·subst ej
    rw [upd_same] at hq
    rcases hp q hq with h1 | h1
    ·omega
    ·exact hno (.inl ⟨k,_,hk,hm,by omega⟩)
   ·rw [upd_ne _ _ ej] at hq
    exact hno (.inl ⟨j,q,(hsub j ej hj).2,hq,e⟩)
 refine hR.change (st':=st') f k0 hget hC (fun j ob' e hj=>?_) (fun ob' e=>?_) (fun q h1 h2=>?_) ⟨rfl,fun j hj=>upd_ne _ _ (by omega),fun hj=>by omega⟩ ?_
 ·rw [hlkj j hj] at e
  by_cases ejk:j=k
  ·simp [ejk] at e
  ·rw [if_neg ejk] at e
   cases e2:lkp st.o j with
   | none=>rw [e2] at e; cases e
   | some ob=>
    rw [e2] at e
    injection e with e
    exact ⟨ob,rfl,e.symm,upd_ne _ _ hj,fun q hq=>hblk _ (own_lt hR (skel_ne e2) hq) fun e3=>ejk (hR.inj j k q _ (skel_ne e2) hk hq hm e3)⟩
 ·rw [hlk0] at e
  injection e with e; subst e
  exact h0 _ fun c y hc h=>by have:=hC c y h; rwa [hro c hc] at this
 ·rw [upd_same] at h2
  have hge:=hR.fr.size
  refine ⟨fun j q' hj hs hm' e=>?_,fun _=>?_,?_⟩
  ·rw [upd_ne _ _ hj] at hm'
   obtain ⟨e1,e2⟩:=hsub j hj hs
   rcases hp q h2 with h | h
   ·have:=own_lt hR e2 hm'; omega
   ·exact e1 (hR.inj j k q' _ e2 hk hm' hm (by omega))
  ·rcases hp q h2 with h | h
   ·exact .inr (by omega)
   ·rw [h]; exact hR.wr k _ hk hlk hm
  ·rcases hp q h2 with h | h
   ·exact hR.up.1 _ _ (by omega)
   ·rw [h]; exact hR.tr k _ _ hk100 (hR.ok k _ hk hm)
 ·refine ⟨hos.trans hR.fr.os,htp.trans hR.fr.tape,hout.trans hR.fr.output,Nat.le_trans hR.fr.size hsize,fun b hb hnm=>?_⟩
  have hne:b≠g:=fun e=>by
   rcases hR.wr k _ hk hlk hm with hM | hge
   ·exact hnm (e ▸ hM)
   ·simp only at hge; omega
  exact (hblk b (Nat.lt_of_lt_of_le hb hR.fr.size) hne).trans (hR.fr.blk b hb hnm)
theorem appK_ok (hR:RepM N w0 M W lk μ st a w) {k:Nat} {g o s:Nat} (hk100:k < 100000) (hk:skel st.o k≠none) (hlk:memN lk k=false) (hm:μ k=some (g,o,s)) (k0:Nat) (hk0:k0 < 100000) (τ:Ty) (r:List τ.D) {w':World} (p:Option (Nat×Nat×Nat))
  (hos:w'.os=w.os) (htp:w'.tape=w.tape) (hout:w'.output=w.output) (hsize:w.heap.size≤w'.heap.size) (hblk:∀ b,b < w.heap.size→b≠g→w'.heap[b]?=w.heap[b]?)
  (hp:∀ q,p=some q→w.heap.size≤q.1∨q.1=g)
  (h0:(p=none∧r=[])∨∃ g o s cur T,p=some (g,o,s)∧w'.heap[g]?=some (.cells cur T (0,0))∧cur.size=s∧o+r.length*τ.sz≤s∧RowIs cur o τ r) :
  RepM N w0 M W lk (upd μ k0 p) ((st.kill k).newK k0 (.row τ r)) a w':=
 appG_ok hR hk100 hk hlk hm k0 hk0 (.row τ r) rfl p hos htp hout hsize hblk hp fun S' _=>by
  rcases h0 with ⟨h1,h2⟩ | ⟨g',o',s',cur,ty,h1,h2,h3,h4,h5⟩
  ·exact .inl ⟨by rw [upd_same]; exact h1,h2⟩
  ·exact .inr ⟨g',o',s',cur,ty,by rw [upd_same]; exact h1,h2,h3,h4,h5⟩
theorem newK_sk (st:St) (k:Nat) (τ:Ty) (l:List τ.D):skel (st.newK k (.row τ l)).o k=some (.row τ l.length):=by
 unfold St.newK; split <;> simp [skel,lkp,OB.sk,OB.map]
end
end Go.Ev
