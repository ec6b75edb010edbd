/- Small laws that the functions' texts need. No statement is proved here. -/
import Derived.Test.YtemhpncmhdcheabGreatDoorEvS
namespace Go.Ev
set_option linter.unusedVariables false
set_option linter.unusedSimpArgs false
open Go
def evF (T:Tab) (Γ:Cons) (N:Nat) (an:Ann) (f:Func) (p:List Nat) (st:St) (k:Kt):Prop:=ev T Γ N an (subc p (f.body.getD .skip)) st k
theorem meets_eq {p:Prop}:Meets p=p:=propext ⟨Meets.out,Meets.mk⟩
theorem ne_of_beq {a b:String} (h:(a==b)=false):a≠b:=fun e=>by subst e; simp at h
theorem okB:(fun r:Bool=>(AV.one (.c (.v (.bool r))))=AV.one (.c (.v (.bool true))))=(fun r=>r=true):=by funext r; simp
theorem consNil {P:Program}:ConOK P []:=fun f C h=>by cases h
theorem consCons {P:Program} {f:FuncId} {C:Con} {Γ:List (FuncId×Con)} (h:match C.box with
  | true=>HoldsB P f C
  | false=>Holds P f C) (hf:∃ fn,P.funcs[f]?=some fn∧fn.body.isSome=true∧fn.name ≠ "runtime.NumGoroutine") (hΓ:ConOK P Γ):ConOK P ((f,C) :: Γ):=by
 intro g D hg
 rcases beq_cases f g with ⟨rfl,_⟩ | ⟨hne,_⟩
 ·rw [lkp_cons_same] at hg; injection hg with hg; subst hg; exact ⟨h,hf⟩
 ·rw [lkp_cons_ne _ _ hne] at hg; exact hΓ g D hg
def InlsOK (P:Program) (N:Nat) (l:List (Nat×Inl)):Prop:=∀ p∈l,InlOK P N p.2
theorem inlNil {P:Program} {N:Nat}:InlsOK P N []:=fun f h=>by cases h
theorem inlCons {P:Program} {N d:Nat} {i:Inl} {l:List (Nat×Inl)} (h:InlOK P N i) (hl:InlsOK P N l):InlsOK P N ((d,i) :: l):=by
 intro p hp
 rcases List.mem_cons.1 hp with rfl | hp
 ·exact h
 ·exact hl p hp
theorem lkp_argT:∀ (av:List AV) (j:Nat) (t:List (Nat×AV)) (i:Nat),lkp (argT j av t) i=if j≤i∧i < j+av.length then av[i - j]? else lkp t i
 | [],j,t,i=>by rw [if_neg (by simp)]; rfl
 | x :: r,j,t,i=>by
  rw [argT]
  rcases beq_cases j i with ⟨rfl,_⟩ | ⟨hne,_⟩
  ·rw [lkp_cons_same,if_pos ⟨Nat.le_refl _,by simp⟩]; simp
  ·rw [lkp_cons_ne _ _ hne,lkp_argT r (j+1) t i]
   by_cases h:j+1≤i∧i < j+1+r.length
   ·rw [if_pos h,if_pos (by simp; omega),show i - j=(i - (j+1))+1 by omega,List.getElem?_cons_succ]
   ·rw [if_neg h,if_neg (by simp; omega)]
theorem nblt {a b:Nat} (h:Nat.blt a b=false):¬ a < b:=fun hl=>by
 have h2:Nat.blt a b=true:=by unfold Nat.blt; exact Nat.ble_eq.mpr hl
 rw [h2] at h; cases h
theorem nblt' {a b:Nat} (h:Nat.blt a b=true):a < b:=Nat.ble_eq.mp h
theorem lkp_inTB {B N:Nat} (hN:N≤B):∀ (t:List (Nat×AV)) (i:Nat),lkp (inTB B N t) i=if i < B then none else lkp t (if i - B < N then i - B else i - N)
 | [],i=>by simp [inTB,lkp]
 | (j,x) :: r,i=>by
  have ih:=lkp_inTB hN r i
  unfold inTB
  split
  ·rename_i hb
   have hj:j < N:=nblt' hb
   rcases beq_cases (B+j) i with ⟨rfl,_⟩ | ⟨hne,_⟩
   ·rw [lkp_cons_same,if_neg (by omega),if_pos (by omega),show B+j - B=j by omega,lkp_cons_same]
   ·rw [lkp_cons_ne _ _ hne,ih]
    split
    ·rfl
    ·rw [lkp_cons_ne]; split <;> omega
  ·rename_i hb
   have hj:¬ j < N:=nblt hb
   split
   ·rename_i hb2
    have hj2:j < B:=nblt' hb2
    rw [ih]
    split
    ·rfl
    ·rw [lkp_cons_ne]; split <;> omega
   ·rename_i hb2
    have hj2:¬ j < B:=nblt hb2
    rcases beq_cases (j+N) i with ⟨rfl,_⟩ | ⟨hne,_⟩
    ·rw [lkp_cons_same,if_neg (by omega),if_neg (by omega),show j+N - N=j by omega,lkp_cons_same]
    ·rw [lkp_cons_ne _ _ hne,ih]
     split
     ·rfl
     ·rw [lkp_cons_ne]; split <;> omega
theorem lkp_outTB {B N:Nat} (hN:N≤B):∀ (t:List (Nat×AV)) (i:Nat),lkp (outTB B N t) i=if i < N then lkp t (B+i) else if i < B then none else lkp t (i+N)
 | [],i=>by simp [outTB,lkp]
 | (j,x) :: r,i=>by
  have ih:=lkp_outTB hN r i
  unfold outTB
  split
  ·rename_i hb
   have hj:j < B:=nblt' hb
   rw [ih]
   split
   ·rw [lkp_cons_ne _ _ (by omega)]
   ·split
    ·rfl
    ·rw [lkp_cons_ne _ _ (by omega)]
  ·rename_i hb
   have hj:¬ j < B:=nblt hb
   split
   ·rename_i hb2
    have hj2:j - B < N:=nblt' hb2
    rcases beq_cases (j - B) i with ⟨rfl,_⟩ | ⟨hne,_⟩
    ·rw [lkp_cons_same,if_pos hj2,show B+(j - B)=j by omega,lkp_cons_same]
    ·rw [lkp_cons_ne _ _ hne,ih]
     split
     ·rw [lkp_cons_ne _ _ (by omega)]
     ·split
      ·rfl
      ·rw [lkp_cons_ne _ _ (by omega)]
   ·rename_i hb2
    have hj2:¬ j - B < N:=nblt hb2
    rcases beq_cases (j - N) i with ⟨rfl,_⟩ | ⟨hne,_⟩
    ·rw [lkp_cons_same,if_neg (by omega),if_neg (by omega),show j - N+N=j by omega,lkp_cons_same]
    ·rw [lkp_cons_ne _ _ hne,ih]
     split
     ·rw [lkp_cons_ne _ _ (by omega)]
     ·split
      ·rfl
      ·rw [lkp_cons_ne _ _ (by omega)]
theorem lkp_inT {N:Nat} (hN:N≤1000000) (t:List (Nat×AV)) (i:Nat):lkp (inT N t) i=if i < 1000000 then none else lkp t (if i - 1000000 < N then i - 1000000 else i - N):=lkp_inTB hN t i
theorem lkp_outT {N:Nat} (hN:N≤1000000) (t:List (Nat×AV)) (i:Nat):lkp (outT N t) i=if i < N then lkp t (1000000+i) else if i < 1000000 then none else lkp t (i+N):=lkp_outTB hN t i
theorem RAs.len {S:Sk} {μ:Mu} {w:World}:∀ {l:List AV} {ys:List Value},RAs S μ w l ys→ys.length=l.length
 | [],[],_=>rfl
 | _ :: _,_ :: _,h=>by simp [RAs.len h.2]
 | [],_ :: _,h=>h.elim
 | _ :: _,[],h=>h.elim
theorem RAs.get {S:Sk} {μ:Mu} {w:World}:∀ {l:List AV} {ys:List Value} {i:Nat} {x:AV},RAs S μ w l ys→l[i]?=some x→∃ y,ys[i]?=some y∧RA S μ w x y
 | [],[],_,_,_,h=>by simp at h
 | c :: cs,y :: ys,0,_,h,e=>by simp at e; subst e; exact ⟨y,rfl,h.1⟩
 | c :: cs,y :: ys,i+1,_,h,e=>by simpa using RAs.get h.2 (by simpa using e)
 | [],_ :: _,_,_,h,_=>h.elim
 | _ :: _,[],_,_,h,_=>h.elim
theorem get_eq (st:St) (i:Nat):st.get i=(lkp st.t i).getD (.one (.c .un)):=by
 unfold St.get; cases lkp st.t i <;> rfl
theorem inl_ok {P:Program} {T:Tab} {Γ:Cons} {N N':Nat} {an:Ann} {f:FuncId} {fn:Func} {c:Code} (hf:P.funcs[f]?=some fn) (hb:fn.body=some c) (hname:fn.name ≠ "runtime.NumGoroutine") (hn:fn.ntmps=N') (hN:Γ.B+16*N'+16≤100000)
  (hP:P.follows .mixedOrders=true) (hT:TabOK P T) (hΓ:ConsOK P N' Γ) (hpl:plansOK an c=true):InlOK P N ⟨f,inlG T Γ N N' an c fn.results.toList⟩:=by
 refine ⟨⟨fn,hf,by rw [hb]; rfl,hname⟩,fun w0 M W μ st a w av vals K hR hav h=>?_⟩
 simp only [inlG] at h
 split at h
 rotate_left
 ·exact h.elim
 rename_i hlen hN1
 have hlen:av.length≤N':=by simpa using hlen
 have hN1:N'≤1000000:=by simpa using hN1
 have hNN:=hR.sz.2
 have hvl:=RAs.len hav
 refine calls_of_wp hf hb ?_
 rw [hn]
 let W1:Wd:=⟨fun k b=>(liveM [] (skel st.o) μ b∨w.heap.size≤b)∧W k b,W.hi,W.fo,W.sk,fun i=>if i < N then a.tmps.getD i undef else W.fr (i - N)⟩
 have hW1:∀ j,W1.fr j=if j < N then a.tmps.getD j undef else W.fr (j - N):=fun _=>rfl
 have hent:RepM N' w (liveM [] (skel st.o) μ) W1 [] μ ⟨argT 0 av (inT N st.t),st.o⟩ { tmps:=vals.toArray++Array.replicate (N' - vals.toArray.size) undef,defers:=[] } w:=by
  refine ⟨rfl,⟨by simp; omega,hN1⟩,fun i=>?_,hR.ob,hR.inj,Fr.refl _ w,fun k p h1 h2 h3=>.inl ⟨k,p,h1,rfl,h3,rfl⟩,fun k p h1 h2=>⟨.inl ⟨k,p,h1,rfl,h2,rfl⟩,hR.ok k p h1 h2⟩,⟨fun k b h=>⟨.inr h,hR.up.1 k b (by have:=hR.fr.size; omega)⟩,hR.up.2.keep hR.fr fun b hb=>hR.liveM_le hb⟩,
   fun k k' b hk hb=>⟨hb.1,hR.tr k k' b hk hb.2⟩,fun k b hk hb=>hR.fo k b hk hb.2,hR.hh⟩
  have hg:St.get ⟨argT 0 av (inT N st.t),st.o⟩ i=(if 0≤i∧i < 0+av.length then av[i - 0]? else if i < 1000000 then none else lkp st.t (if i - 1000000 < N then i - 1000000 else i - N)).getD (.one (.c .un)):=by
   rw [get_eq,lkp_argT,lkp_inT hNN]
  rw [hg]
  by_cases h1:i < av.length
  ·rw [if_pos ⟨Nat.zero_le _,by omega⟩,Nat.sub_zero]
   obtain ⟨y,e1,e2⟩:=RAs.get hav (List.getElem?_eq_getElem h1)
   rw [List.getElem?_eq_getElem h1]
   have hlt:i < vals.length:=by omega
   have:(vals.toArray++Array.replicate (N' - vals.toArray.size) undef).getD i undef=y:=by
    rw [Array.getD_eq_getD_getElem?,Array.getElem?_append_left (by simpa using hlt)]
    simp [e1]
   rw [vAt,if_pos (by omega),this]; exact e2
  ·rw [if_neg (show ¬ (0≤i∧i < 0+av.length) by omega)]
   by_cases h2:i < 1000000
   ·rw [if_pos h2]; trivial
   ·rw [if_neg h2]
    have ht:=hR.tm (if i - 1000000 < N then i - 1000000 else i - N)
    rw [get_eq] at ht
    have hv:vAt W1.fr (vals.toArray++Array.replicate (N' - vals.toArray.size) undef) i=vAt W.fr a.tmps (if i - 1000000 < N then i - 1000000 else i - N):=by
     rw [vAt,if_neg h2,hW1]
     by_cases h3:i - 1000000 < N
     ·rw [if_pos h3,if_pos h3,vAt,if_pos (by omega)]
     ·rw [if_neg h3,if_neg h3,vAt,if_neg (by omega),Nat.sub_right_comm]
    rw [hv]; exact ht
 have hend:∀ {e:Ex} {μ':Mu} {st':St} {a':Act} {w':World},RepM N' w (liveM [] (skel st.o) μ) W1 [] μ' st' a' w'→outK T N fn.results.toList K e st'→
   ∃ v,(results fn a'.tmps).run P w'=.ok v w'∧∃ v',Ending.returned v=.returned v'∧∃ μ'' st'' r,RepM N w0 M W [] μ'' st'' a w'∧RA (skel st''.o) μ'' w' r v'∧K r st'':=by
  intro e μ' st' a' w' hR' hk
  have hk2:match resVars T st' fn.results.toList with
   | none=>False
   | some l=>K (pack l) ⟨outT N st'.t,st'.o⟩:=by
   cases e with
   | normal=>exact hk
   | ret=>exact hk
   | exit id=>exact hk.elim
  split at hk2
  ·exact hk2.elim
  rename_i l hl
  obtain ⟨ys,e1,e2⟩:=resVars_ok hT hR' hl
  refine ⟨packV ys,results_run e2,packV ys,rfl,μ',⟨outT N st'.t,st'.o⟩,pack l,?_,pack_RA e1,hk2⟩
  refine ⟨hR.df,hR.sz,fun i=>?_,hR'.ob,hR'.inj,hR.fr.join hR'.fr fun b hb=>hR.liveM_le hb,fun k p h1 h2 h3=>?_,fun k p h1 h2=>(hR'.ok k p h1 h2).2,hR.up,hR.tr,fun k b h1 hb=>?_,hR'.hh⟩
  ·have hg:St.get ⟨outT N st'.t,st'.o⟩ i=(if i < N then lkp st'.t (1000000+i) else if i < 1000000 then none else lkp st'.t (i+N)).getD (.one (.c .un)):=by
    rw [get_eq,lkp_outT hNN]
   rw [hg]
   by_cases h1:i < N
   ·rw [if_pos h1]
    have ht:=hR'.tm (1000000+i)
    rw [get_eq] at ht
    have hv:vAt W1.fr a'.tmps (1000000+i)=vAt W.fr a.tmps i:=by
     rw [vAt,if_neg (by omega),vAt,if_pos (by omega),hW1,Nat.add_sub_cancel_left,if_pos h1]
    rw [hv] at ht; exact ht
   ·rw [if_neg h1]
    by_cases h2:i < 1000000
    ·rw [if_pos h2]; trivial
    ·rw [if_neg h2]
     have ht:=hR'.tm (i+N)
     rw [get_eq] at ht
     have hv:vAt W1.fr a'.tmps (i+N)=vAt W.fr a.tmps i:=by
      rw [vAt,if_neg (by omega),vAt,if_neg h2,hW1,if_neg (by omega),Nat.sub_right_comm,Nat.add_sub_cancel]
     rw [hv] at ht; exact ht
  ·rcases (hR'.ok k p h1 h3).1 with h | h
   ·exact hR.liveM_le h
   ·exact .inr (by have:=hR.fr.size; omega)
  ·rw [hR'.hh.2.1]
   have:=hR.fo k b h1 hb
   rw [hR.hh.2.1] at this
   exact this
 refine wp_mono (ev_ok (W:=W1) hN hP hT hΓ (fun k b hb=>hb.1) c hpl hent h) fun e a' w' hq=>?_
 cases e with
 | normal=>
  obtain ⟨st',⟨μ',hR'⟩,hk⟩:=hq
  obtain ⟨v,h1,h2⟩:=hend hR' hk
  exact ⟨hR'.df,v,h1,h2⟩
 | ret=>
  obtain ⟨st',⟨μ',hR'⟩,hk⟩:=hq
  obtain ⟨v,h1,h2⟩:=hend hR' hk
  exact ⟨hR'.df,v,h1,h2⟩
 | exit id=>obtain ⟨st',_,hk⟩:=hq; exact hk.elim
 | goto l=>exact hq.elim
 | panic c=>exact hq.elim
 | outgrown=>exact hq.elim
def regK (T:Tab) (Γ:Cons) (N j:Nat) (k:Kt):Code→St→Prop
 | .region id ops draw=>fun st=>evOps T Γ [] N ops.toList (ops.toList.drop (j+1)) st (k .normal)
 | _=>fun _=>False
def inlK (T:Tab) (N:Nat) (f:Func) (d:Option Nat) (K:St→Prop):Kt:=outK T N f.results.toList fun r st'=>putK N d r st' K
theorem holds_of_any {P:Program} {f:FuncId} {C:Con} (h:∀ vs kk,C.F vs kk→∃ F',Holds P f { C with F:=F' }∧F' vs kk):Holds P f C:=by
 intro vs kk hF kd w vals μ M hkd hp
 obtain ⟨F',h1,h2⟩:=h vs kk hF
 exact h1 vs kk h2 kd w vals μ M hkd ⟨hp.nm,hp.one,hp.vl,hp.ob,hp.inj,hp.inM,hp.up,hp.cf,hp.fom⟩
def OvsOK (P:Program) (l:List FuncId):Prop:=∀ f,memN l f=true→OvOK P f
theorem ovNil {P:Program}:OvsOK P []:=fun f h=>by cases h
end Go.Ev
