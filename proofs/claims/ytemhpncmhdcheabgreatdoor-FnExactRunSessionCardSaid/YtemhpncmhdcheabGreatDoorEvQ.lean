/- Code,and whole functions. No statement is proved here. -/
import Derived.Test.YtemhpncmhdcheabGreatDoorEvP
namespace Go.Ev
set_option linter.unusedVariables false
set_option linter.unusedSimpArgs false
open Go
def plansOK (an:Ann):Code→Bool
 | .region id ops draw=>match draw with
  | false=>true
  | true=>match lkp an.pl id with
   | some (p,lk)=>match Region.noSelect ops with
    | true=>planOK .any ops ops.size (Array.replicate ops.size false) none p
    | false=>false
   | none=>true
 | .seq a b=>match plansOK an a with
  | true=>plansOK an b
  | false=>false
 | .cond _ a b=>match plansOK an a with
  | true=>plansOK an b
  | false=>false
 | .block _ a=>plansOK an a
 | .loop a=>plansOK an a
 | _=>true
section
variable {P:Program} {T:Tab} {N:Nat} {w0:World} {M:Nat→Prop} {W:Wd} {lk:List Nat} {μ:Mu} {st:St} {a:Act} {w:World} {Γ:Cons}
def QOf (N:Nat) (w0:World) (M:Nat→Prop) (W:Wd) (k:Kt):Go.Exit→Act→World→Prop
 | .normal,a,w=>∃ st,Rep N w0 M W [] st a w∧k .normal st
 | .exit id,a,w=>∃ st,Rep N w0 M W [] st a w∧k (.exit id) st
 | .ret,a,w=>∃ st,Rep N w0 M W [] st a w∧k .ret st
 | _,_,_=>False
theorem drawn_ok (hR:RepM N w0 M W lk μ st a w) (d:Nat):RepM N w0 M W lk μ st a { w with drawn:=d }:=by
 refine hR.changeZ (w':={ w with drawn:=d }) (fun c=>c) (fun _=>False) (fun i=>(AV.map_id _).symm) (fun c y h=>h.mono (fun _ _ h=>h) (fun _ _=>rfl) (fun b hb hno=>⟨rfl,hno⟩) (Nat.le_refl _)) (fun k ob' e _=>⟨ob',e,(OB.map_id _).symm,rfl,fun _ _=>rfl⟩) (fun _ _ h=>h.elim) (fun _ _ h=>h.elim) ⟨rfl,fun _ _=>rfl,fun _ _ h=>h.elim⟩ ?_
 exact hR.fr.trans ⟨rfl,rfl,rfl,Nat.le_refl _,fun _ _ _=>rfl⟩
theorem roLs_get {τ:Ty}:∀ {cs:List C} {ls:List (List τ.D)},roLs τ cs=some ls→ls.length=cs.length∧roCs cs=true∧
  ∀ (i:Nat) l,ls[i]?=some l→∃ c,cs[i]?=some c∧roC c=true∧∀ (S:Sk) (μ:Mu) (w:World) (y:Value),RC S μ w c y→RoAt S μ w τ l y
 | [],ls,h=>by injection h with h; subst h; exact ⟨rfl,rfl,fun i l h=>by simp at h⟩
 | c :: cs,ls,h=>by
  unfold roLs at h
  split at h
  ·rename_i e; cases e
  ·rename_i r e
   injection e with e1 e2; subst e1; subst e2
   split at h
   ·rename_i l hl
    injection h with h; subst h
    obtain ⟨h1,h2,h3⟩:=roLs_get hl
    refine ⟨by simp [h1],by simp [roCs,roC,h2],fun i l hi=>?_⟩
    cases i with
    | zero=>
     injection hi with hi; subst hi
     exact ⟨.nil,rfl,rfl,fun S μ w y hy=>⟨none,0,0,hy,⟨rfl,Nat.le_refl _,Nat.zero_le _,.inl ⟨rfl,rfl⟩⟩,fun h=>absurd h (by omega)⟩⟩
    | succ i=>exact h3 i l hi
   ·cases h
  ·rename_i σ x r e
   injection e with e1 e2; subst e1; subst e2
   split at h
   ·rename_i x' l hx hl
    injection h with h; subst h
    obtain ⟨rfl,rfl⟩:=castL_ok2 hx
    obtain ⟨h1,h2,h3⟩:=roLs_get hl
    refine ⟨by simp [h1],by simp [roCs,roC,h2],fun i l hi=>?_⟩
    cases i with
    | zero=>
     injection hi with hi; subst hi
     exact ⟨_,rfl,rfl,fun S μ w y hy=>hy⟩
    | succ i=>exact h3 i l hi
   ·cases h
  ·cases h
theorem RC_frzB (hR:RepM N w0 M W lk μ st a w) {k:Nat} {cs:List C} (hl:lkp st.o k=some (.box cs)) {τ:Ty} {ls:List (List τ.D)} (hls:roLs τ cs=some ls) (hk:k < 100000) {S':Sk} (hsk:∀ j,j≠k→S' j=skel st.o j) (hskk:S' k=none) {c:C} {y:Value}
  (h:RC (skel st.o) μ w c y):RC S' μ w (c.frzB k τ ls) y:=by
 have hsub:∀ j,S' j≠none→skel st.o j≠none:=fun j h=>by
  by_cases e:j=k
  ·subst e; exact absurd hskk h
  ·rwa [hsk j e] at h
 have hgone:∀ p,μ k=some p→¬ Own S' μ p.1:=by
  rintro p hp (⟨j,q,hj,hq,e⟩ | hf)
  ·have e1:=hR.inj j k q p (hsub j hj) (skel_ne hl) hq hp e
   subst e1; exact hj hskk
  ·exact hf (hR.fo k _ hk (hR.ok k p (skel_ne hl) hp))
 have hgen:∀ {c:C} {y:Value},RC (skel st.o) μ w c y→RC S' μ w (c.kill k) y:=fun h=>h.gen (killF_kill k) (fun j s hj hs=>by rw [hsk j hj]; exact hs) (fun _ _ _=>rfl) (fun b hb hno=>⟨rfl,own_sub hsub hno⟩) (Nat.le_refl _)
 cases c with
 | sb k' n=>
  rcases beq_cases k' k with ⟨rfl,e⟩ | ⟨hne,e⟩
  ·rcases beq_cases n ls.length with ⟨rfl,e2⟩ | ⟨hn,e2⟩
   ·simp only [C.frzB,e,e2]
    obtain ⟨g,o,s,c,rfl,hs,hm,hnc,hcm,hoc⟩:=h
    obtain ⟨g',o',s',cur,ty',hm',hg,hcs,hfit,hcells⟩:=hR.ob _ _ hl
    rw [hm] at hm'
    injection hm' with hm'; injection hm' with a1 a2; injection a2 with a2 a3; subst a1; subst a2; subst a3
    obtain ⟨l1,l2,l3⟩:=roLs_get hls
    refine ⟨_,_,c,rfl,rfl,hnc,hcm,fun _=>⟨g,o,rfl,hgone _ hm,heap_lt hg,fun i l hi=>?_⟩⟩
    obtain ⟨c1,c2,c3,c4⟩:=l3 i l hi
    obtain ⟨y,y1,y2,_⟩:=hcells.get c2
    refine ⟨y,?_,c4 _ _ _ _ (by have:=hgen y2; rwa [roC_kill _ _ c3] at this)⟩
    rw [List.getElem?_take] at y1
    split at y1
    ·rw [cell_of_heap hg,← Array.getElem?_toList,← List.getElem?_drop]; exact y1
    ·cases y1
   ·simp only [C.frzB,e,e2]; trivial
  ·have:=hgen h
   simp only [C.kill,C.frzB,e] at this ⊢; exact this
 | _=>exact hgen h
theorem frzB_ok (hR:RepM N w0 M W lk μ st a w) {k:Nat} {τ:Ty} {st':St} (h:st.frzB k τ=some st'):RepM N w0 M W lk μ st' a w:=by
 unfold St.frzB at h
 split at h
 ·rename_i cs hl hk
  split at h
  ·rename_i ls hls
   injection h with h; subst h
   have hk:k < 100000:=by simpa using hk
   have hsk:∀ j,j≠k→skel (mapO (C.frzB k τ ls) (dropO k st.o)) j=skel st.o j:=fun j hj=>by
    simp only [skel]; rw [lkp_frz,if_neg hj,Option.map_map]; congr 1; funext z; exact sk_map _ z
   have hskk:skel (mapO (C.frzB k τ ls) (dropO k st.o)) k=none:=by simp [skel,lkp_frz]
   refine hR.changeZ (C.frzB k τ ls) (fun _=>False) (fun i=>get_mapT _ st _ i rfl) (fun c y h=>RC_frzB hR hl hls hk hsk hskk h) (fun j ob' e _=>?_) (fun _ _ h=>h.elim) (fun _ _ h=>h.elim) ⟨rfl,fun _ _=>rfl,fun _ _ h=>h.elim⟩ hR.fr
   rw [lkp_frz] at e
   split at e
   ·cases e
   ·cases e2:lkp st.o j with
    | none=>rw [e2] at e; cases e
    | some ob=>
     rw [e2] at e; injection e with e
     exact ⟨ob,rfl,e.symm,rfl,fun _ _=>rfl⟩
  ·cases h
 ·cases h
theorem eachN_ok {x:Int} {f:Nat→Prop}:∀ {n i:Nat},eachN x f i n→∃ j:Nat,x=j∧f j
 | 0,i,h=>h.elim
 | n+1,i,h=>by
  unfold eachN br at h
  split at h
  ·rename_i e; exact ⟨i,by simpa using e,h⟩
  ·exact eachN_ok h
theorem hookA_ok (hR:RepM N w0 M W lk μ st a w) {h:Option Hook} {K:St→Prop} (hh:hookA h st K):∃ st',RepM N w0 M W lk μ st' a w∧K st':=by
 unfold hookA at hh
 split at hh
 ·exact ⟨st,hR,hh⟩
 ·rename_i s
  split at hh
  ·rename_i k hg
   split at hh
   ·rename_i τ l hl
    have hi:=hR.tm s
    rw [hg] at hi
    obtain ⟨A,n,c,σ,e,hs,hd⟩:=hi
    have hs':=hs
    rw [skel_of hl] at hs
    injection hs with hs; injection hs with e1 e2; subst e1; subst e2
    exact ⟨_,reput_ok hR (show RA _ _ _ (.one (.c (.xs k 0 l.length c))) _ from ⟨A,_,_,e,hs',hd⟩),hh c hd.1⟩
   ·exact hh.elim
  ·exact hh.elim
 ·rename_i s
  split at hh
  ·rename_i k n c hg
   split at hh
   ·rename_i τ l hl
    have hi:=hR.tm s
    rw [hg] at hi
    obtain ⟨A,σ,m,e,hs,hd⟩:=hi
    have hs':=hs
    rw [skel_of hl] at hs
    injection hs with hs; injection hs with e1 e2; subst e1; subst e2
    obtain ⟨rfl,hk⟩:=hh
    exact ⟨_,reput_ok hR (show RA _ _ _ (.one (.c (.ow k))) _ from ⟨A,_,_,_,e,hs',hd⟩),hk⟩
   ·exact hh.elim
  ·exact hh.elim
 ·rename_i s n
  split at hh
  ·rename_i x hg
   obtain ⟨j,hx,hK⟩:=eachN_ok hh
   subst hx
   have hi:=hR.tm s
   rw [hg] at hi
   exact ⟨_,reput_ok hR (show RA _ _ _ (VI j) _ from hi),hK⟩
  ·exact hh.elim
 ·rename_i s
  split at hh
  ·rename_i k n hg
   split at hh
   ·rename_i cs hl
    split at hh
    ·rename_i st1 h1
     split at hh
     ·rename_i st2 h2
      exact ⟨st2,frzB_ok (frzAll_ok _ hR h1) h2,hh⟩
     ·exact hh.elim
    ·exact hh.elim
   ·exact hh.elim
  ·exact hh.elim
theorem ev_ok {an:Ann} (hN:Γ.B+16*N+16≤100000) (hP:P.follows .mixedOrders=true) (hT:TabOK P T) (hΓ:ConsOK P N Γ) (hW:∀ k b,W k b→M b∨w0.heap.size≤b):∀ (c:Code) {k:Kt} {μ:Mu} {st:St} {a:Act} {w:World},
  plansOK an c=true→RepM N w0 M W [] μ st a w→ev T Γ N an c st k→c.wp P (QOf N w0 M W k) a w:=by
 intro c
 induction c with
 | skip=>intro k μ st a w _ hR h; exact wp_skip ⟨st,⟨μ,hR⟩,h⟩
 | region id ops draw=>
  intro k μ st a w hp hR h
  simp only [ev] at h
  have hrun:∀ {μ:Mu} {st:St},RepM N w0 M W [] μ st a w→evRun T Γ N an id ops draw st k→(Code.region id ops draw).wp P (QOf N w0 M W k) a w:=by
   clear h hR
   intro μ st hR h
   cases draw with
   | false=>
   refine wp_region ?_
   rw [List.range_eq_range']
   exact evOps_ok hN hT hΓ ops.size 0 (by omega) hR h fun μ' st' a' w' hR' hk=>⟨st',⟨μ',hR'⟩,hk⟩
   | true=>
   simp only [evRun] at h
   simp only [plansOK] at hp
   split at h
   ·rename_i p lk hl
    rw [hl] at hp
    simp only at hp
    split at hp
    ·rename_i hs
     refine wp_region_held (S:=fun w'=>Fr M w0 w') hP ?_
     exact evPlan_ok (w0:=w0) (M:=M) hN hT hΓ hs (fun c a w h=>h) hW (fun μ' st' a' w' hR' hk=>⟨st',⟨μ',hR'.relock hW []⟩,hk⟩) p ops.size _ none (fun h=>h) ((drawn_ok hR _).relock hW lk) h hp
    ·cases hp
   ·exact h.elim
  obtain ⟨st,hR,h⟩:=hookA_ok hR h
  split at h
  ·exact hrun hR h
  ·split at h
   ·rename_i st' hst
    obtain ⟨μ1,hR1⟩:=norm_ok _ hR hst
    exact hrun hR1 h.out
   ·exact h.elim
 | seq x y ih1 ih2=>
  intro k μ st a w hp hR h
  simp only [plansOK] at hp
  split at hp
  ·rename_i hp1
   refine wp_seq (wp_mono (ih1 hp1 hR h) fun e a' w' hq=>?_)
   cases e with
   | normal=>obtain ⟨st',⟨μ',hR'⟩,hk⟩:=hq; exact ih2 hp hR' hk
   | exit id=>exact hq
   | ret=>exact hq
   | goto l=>exact hq.elim
   | panic c=>exact hq.elim
   | outgrown=>exact hq.elim
  ·cases hp
 | cond c x y ih1 ih2=>
  intro k μ st a w hp hR h
  simp only [plansOK] at hp
  split at hp
  ·rename_i hp1
   simp only [ev] at h
   split at h
   ·rename_i i
    split at h
    ·rename_i b hb
     have hi':a.eval (.tmp i)=.bool b:=by
      have:=hR.tmp i
      rw [hb] at this; exact this
     have hi:=hR.tm i
     rw [(tmp_lt hb).2] at hi
     refine wp_cond hi' ?_
     cases b with
     | true=>exact ih1 hp1 (reput_ok hR hi) h
     | false=>exact ih2 hp (reput_ok hR hi) h
    ·exact h.elim
   ·rename_i b
    refine wp_cond (t:=b) rfl ?_
    cases b with
    | true=>exact ih1 hp1 hR h
    | false=>exact ih2 hp hR h
   ·exact h.elim
  ·cases hp
 | block id x ih=>
  intro k μ st a w hp hR h
  refine wp_block (wp_mono (ih hp hR h) fun e a' w' hq=>?_)
  cases e with
  | normal=>exact hq
  | exit id'=>
   obtain ⟨st',hR',hk⟩:=hq
   simp only [Exit.inBlock]
   simp only [blockK] at hk
   rcases beq_cases id' id with ⟨rfl,e⟩ | ⟨hne,e⟩
   ·rw [e] at hk; rw [if_pos rfl]; exact ⟨st',hR',hk⟩
   ·rw [e] at hk; rw [if_neg hne]; exact ⟨st',hR',hk⟩
  | ret=>exact hq
  | goto l=>exact hq.elim
  | panic c=>exact hq.elim
  | outgrown=>exact hq.elim
 | loop x ih=>
  intro k μ st a w hp hR h
  simp only [ev] at h
  have key:∀ (nm:List NStep) (n:Nat) (μ1:Mu) (st1:St),RepM N w0 M W [] μ1 st1 a w→iter (fun st k=>ev T Γ N an x st k) nm k n st1→(Code.loop x).wp P (QOf N w0 M W k) a w:=by
    intro nm n μ1 st1 hR1 h
    refine wp_loop_ghost (fun n a w=>∃ st,Rep N w0 M W [] st a w∧iter (fun st k=>ev T Γ N an x st k) nm k n st) n ⟨st1,⟨μ1,hR1⟩,h⟩ fun n a w hI=>?_
    obtain ⟨st2,⟨μ2,hR2⟩,h2⟩:=hI
    cases n with
    | zero=>exact h2.elim
    | succ n=>
     refine wp_mono (ih hp hR2 h2) fun e a' w' hq=>?_
     cases e with
     | normal=>
      obtain ⟨st3,⟨μ3,hR3⟩,h3⟩:=hq
      simp only [backK] at h3
      split at h3
      ·rename_i st4 hn4
       obtain ⟨μ4,hR4⟩:=norm_ok nm hR3 hn4
       exact ⟨n,Nat.lt_succ_self n,st4,⟨μ4,hR4⟩,h3⟩
      ·exact h3.elim
     | exit id=>exact hq
     | ret=>exact hq
     | goto l=>exact hq.elim
     | panic c=>exact hq.elim
     | outgrown=>exact hq.elim
  split at h
  ·rename_i nm hnm
   split at h
   ·exact key [] _ μ st hR h
   split at h
   ·rename_i st1 hn
    obtain ⟨n,h⟩:=h
    obtain ⟨μ1,hR1⟩:=norm_ok nm hR hn
    exact key nm n μ1 st1 hR1 h
   ·exact h.elim
  ·exact h.elim
 | exit id=>intro k μ st a w _ hR h; exact wp_exit ⟨st,⟨μ,hR⟩,h⟩
 | ret=>intro k μ st a w _ hR h; exact wp_ret ⟨st,⟨μ,hR⟩,h⟩
 | _=>intro k μ st a w _ hR h; exact h.elim
theorem lkp_entT {vs:List A1}:∀ (ms:List Md) (vs:List A1) (i j:Nat),ms.length=vs.length→lkp (entT i ms vs) (i+j)=((entA ms vs)[j]?).map AV.one
 | [],[],i,j,_=>rfl
 | m :: ms,v :: vs,i,j,h=>by
  have h':ms.length=vs.length:=by simpa using h
  cases j with
  | zero=>cases m <;> simp [entT,entA,lkp]
  | succ j=>
   have ih:=lkp_entT (vs:=vs) ms vs (i+1) j h'
   rw [show i+1+j=i+(j+1) by omega] at ih
   cases m <;> (simp only [entT,entA]; rw [lkp_cons_ne _ _ (by omega),ih]; rfl)
 | [],_ :: _,_,_,h=>by simp at h
 | _ :: _,[],_,_,h=>by simp at h
theorem entA_len:∀ (ms:List Md) (vs:List A1),ms.length=vs.length→(entA ms vs).length=vs.length
 | [],[],_=>rfl
 | m :: ms,v :: vs,h=>by
  have:=entA_len ms vs (by simpa using h)
  cases m <;> simp [entA,this]
 | [],_ :: _,h=>by simp at h
 | _ :: _,[],h=>by simp at h
theorem entO_hi {ms:List Md} {vs:List A1} {k:Nat} {ob:OB} (h:lkp (entO ms vs) k=some ob):100000≤k:=by
 unfold entO at h
 split at h
 ·rename_i m v _
  by_cases hp:∃ l,v=.ptr l
  ·obtain ⟨l,rfl⟩:=hp
   rcases beq_cases 100000 k with ⟨rfl,_⟩ | ⟨hne,_⟩
   ·exact Nat.le_refl _
   ·simp only [entK] at h
    rw [lkp_cons_ne _ _ hne] at h; cases h
  ·rw [entK_obs v fun l e=>hp ⟨l,e⟩] at h
   obtain ⟨j,τ,x,rfl,_⟩:=lkp_entCs_inv h
   omega
 ·cases h
def W0 (C:Con) (vs:List A1) (w:World) (μ:Mu) (M:Nat→Prop):Wd:=
 ⟨fun k b=>(k < 100000→w.heap.size≤b∨∃ j∈mvEnt C.mu vs,∃ q,μ j=some q∧q.1=b)∧(M b∨w.heap.size≤b),fun k=>μ k,μ.fo,skel (entO C.mu vs),fun _=>undef⟩
theorem begin0_ok {C:Con} {vs:List A1} {vals:List Value} (h:Pre C vs vals w μ M) (hn:vs.length≤N) (hN1:N≤1000000) :
  RepM N w M (W0 C vs w μ M) [] μ ⟨entT 0 C.mu vs,entO C.mu vs⟩ { tmps:=vals.toArray++Array.replicate (N - vals.toArray.size) undef,defers:=[] } w:=by
 have hvl:=R1s.len h.vl
 rw [entA_len _ _ h.nm] at hvl
 refine ⟨rfl,⟨by simp; omega,hN1⟩,fun i=>?_,h.ob,h.inj,Fr.refl M w,fun k p h1 _ h2=>.inl (h.inM k p h1 h2),fun k p h1 h2=>⟨fun hk=>?_,.inl (h.inM k p h1 h2)⟩,⟨fun k b hb=>⟨fun _=>.inl hb,.inr hb⟩,h.up.2⟩,fun k k' b hk hb=>⟨fun _=>hb.1 hk,hb.2⟩,fun k b hk hb=>(hb.1 hk).elim (h.up.1 b) (fun ⟨j,hj,q,hq,e⟩=>e ▸ h.fom j hj q hq),fun _ _=>rfl,rfl,fun _ _ _=>rfl⟩
 ·show RA _ _ _ (match lkp (entT 0 C.mu vs) i with
   | some x=>x
   | none=>.one (.c .un)) _
  have:=lkp_entT (vs:=vs) C.mu vs 0 i h.nm
  rw [Nat.zero_add] at this
  rw [this]
  cases e:(entA C.mu vs)[i]? with
  | none=>trivial
  | some x=>
   obtain ⟨y,e1,e2⟩:=R1s.get h.vl e
   have hlt:i < vals.length:=(List.getElem?_eq_some_iff.1 e1).1
   have:(vals.toArray++Array.replicate (N - vals.toArray.size) undef).getD i undef=y:=by
    rw [Array.getD_eq_getD_getElem?,Array.getElem?_append_left (by simpa using hlt)]
    simp [e1]
   simp only [Option.map_some]
   rw [vAt,if_pos (by omega),this]; exact e2
 ·obtain ⟨ob,e⟩:=skel_some h1
  have:=entO_hi e
  omega
theorem begin_ok {C:Con} {vs:List A1} {vals:List Value} (h:Pre C vs vals w μ M) (hn:vs.length≤N) (hN1:N≤1000000) :
  ∃ μ',RepM N w M (W0 C vs w μ M) [] μ' (st0 C vs) { tmps:=vals.toArray++Array.replicate (N - vals.toArray.size) undef,defers:=[] } w:=
 lowKeys_ok _ (begin0_ok h hn hN1) fun k hk p hp hw=>⟨fun _=>.inr ⟨k,hk,p,hp,rfl⟩,hw.2⟩
end
end Go.Ev
