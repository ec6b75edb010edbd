/- Regions: operations in their order,or in any order. No statement is proved here. -/
import Derived.Test.YtemhpncmhdcheabGreatDoorEvO
import Derived.Deep.LoopGhost
import Derived.OrdersHeld
namespace Go.Ev
set_option linter.unusedVariables false
set_option linter.unusedSimpArgs false
open Go
def planOK (md:Region.Mode) (ops:Array Oper):Nat→Array Bool→Option (List Nat)→Plan→Bool
 | _,listed,none,.done=>(Region.ready md ops listed).isEmpty
 | _,_,some [],.none=>true
 | n+1,listed,none,.take i p=>match Region.free md ops listed i,(Region.ready md ops listed).contains i with
  | true,true=>planOK md ops n (listed.setIfInBounds i true) none p
  | _,_=>false
 | n+1,listed,none,.alt i p r=>match Region.ready md ops listed with
  | j :: l=>match Nat.beq i j with
   | true=>match planOK md ops n (listed.setIfInBounds i true) none p with
    | true=>planOK md ops (n+1) listed (some l) r
    | false=>false
   | false=>false
  | []=>false
 | n+1,listed,some (j :: l),.alt i p r=>match Nat.beq i j with
  | true=>match planOK md ops n (listed.setIfInBounds i true) none p with
   | true=>planOK md ops (n+1) listed (some l) r
   | false=>false
  | false=>false
 | _,_,_,_=>false
section
variable {P:Program} {ops:Array Oper} {Q:Go.Exit→Act→World→Prop} {md:Region.Mode} {C:World→Prop}
theorem held_mono {C':World→Prop} (hC:∀ w,C w→C' w):∀ (fuel:Nat) (listed:Array Bool) (a:Act) (w:World),wpAnyH P md ops Q C fuel listed a w→wpAnyH P md ops Q C' fuel listed a w
 | 0,_,_,_,h=>h
 | fuel+1,_,_,_,h=>⟨h.1,fun i hi=>wpOp_mono (fun a w h=>⟨hC _ h.1,held_mono hC fuel _ a w h.2⟩) (h.2 i hi)⟩
end
section
variable {P:Program} {T:Tab} {N:Nat} {w0:World} {M:Nat→Prop} {W:Wd} {lk:List Nat} {μ:Mu} {st:St} {a:Act} {w:World} {K:St→Prop} {next:Act→World→Prop} {Q:Go.Exit→Act→World→Prop} {Γ:Cons} {ops:Array Oper}
theorem split_ok (hR:RepM N w0 M W lk μ st a w) {i:Nat} (h:split st i K):∃ st',RepM N w0 M W lk μ st' a w∧K st':=by
 unfold split at h
 split at h
 ·rename_i b hb
  have hi:=hR.tm i
  rw [(tmp_lt hb).2] at hi
  cases b with
  | true=>exact ⟨_,reput_ok hR hi,h⟩
  | false=>exact ⟨_,reput_ok hR hi,h⟩
 ·exact ⟨st,hR,h⟩
theorem splitO_ok (hR:RepM N w0 M W lk μ st a w) {i:Option Nat} (h:splitO st i K):∃ st',RepM N w0 M W lk μ st' a w∧K st':=by
 cases i with
 | none=>exact ⟨st,hR,h⟩
 | some i=>exact split_ok hR h
theorem spK_ok (hR:RepM N w0 M W lk μ st a w) {d:Option Nat} (h:spK Γ d K st):∃ st',RepM N w0 M W lk μ st' a w∧K st':=by
 cases d with
 | none=>exact ⟨st,hR,h⟩
 | some d=>
  simp only [spK] at h
  cases hm:memN Γ.sp d with
  | true=>rw [hm] at h; exact split_ok hR h
  | false=>rw [hm] at h; exact ⟨st,hR,h⟩
theorem yieldA_ok (hR:RepM N w0 M W lk μ st a w) {j:Nat} {r:Option Bool} (h:yieldA st ops.toList j=some r):yielded ops a.tmps j=r:=by
 unfold yieldA at h
 unfold yielded
 rw [Array.getElem?_toList] at h
 split at h
 ·rename_i o ho
  split at h
  ·rename_i d hd
   have ht:=hR.tmp d
   rw [ho]
   simp only [Option.bind_some,hd]
   split at h
   ·rename_i b hb
    rw [hb] at ht
    have ht:a.tmps.getD d undef=.bool b:=ht
    injection h with h; subst h
    cases e:a.tmps[d]? with
    | none=>simp [Array.getD_eq_getD_getElem?,e,undef] at ht
    | some x=>simp [Array.getD_eq_getD_getElem?,e] at ht; subst ht; rfl
   ·rename_i x _ hx
    split at h
    ·cases h
    ·rename_i hok
     injection h with h; subst h
     rw [hx] at ht
     have ht:a.tmps.getD d undef=x:=ht
     cases e:a.tmps[d]? with
     | none=>rfl
     | some y=>
      simp [Array.getD_eq_getD_getElem?,e] at ht
      subst ht
      cases y <;> first | rfl | (cases hok; done)
   ·cases h
  ·cases h
 ·cases h
theorem wanted_none {o:Oper} {y:Nat→Option Bool} (h:o.guard=none):Region.wanted o y=true:=by simp [Region.wanted,h]
theorem wanted_some {o:Oper} {y:Nat→Option Bool} {j:Nat} {want:Bool} (h:o.guard=some (j,want)):Region.wanted o y=(y j==some want):=by simp [Region.wanted,h]
theorem evG_ok (hN:Γ.B+16*N+16≤100000) (hT:TabOK P T) (hΓ:ConsOK P N Γ) (hR:RepM N w0 M W lk μ st a w) {i:Nat} {o:Oper} (hi:ops[i]?=some o) (h:evG T Γ lk N ops.toList o st K) (hk:∀ μ' st' a' w',RepM N w0 M W lk μ' st' a' w'→K st'→next a' w'):wpOp P ops Q i next a w:=by
 unfold evG at h
 obtain ⟨st1,hR1,h⟩:=splitO_ok hR h
 have hdo:∀ {st1:St},RepM N w0 M W lk μ st1 a w→splitO st1 (pslot o) (fun st=>evOp T Γ lk N o st (spK Γ o.dst K))→Region.wanted o (yielded ops a.tmps)=true→wpOp P ops Q i next a w:=fun hR1 h hw=>by
  obtain ⟨st2,hR2,h⟩:=splitO_ok hR1 h
  unfold wpOp
  simp only [hi,hw,if_true]
  exact .inl (evOp_ok hN hT hΓ hR2 h fun μ' st' a' w' hR' hs=>by obtain ⟨st3,q1,q2⟩:=spK_ok hR' hs; exact hk _ _ _ _ q1 q2)
 have hno:putK N o.dst (V undef) st1 K→Region.wanted o (yielded ops a.tmps)=false→wpOp P ops Q i next a w:=fun h hw=>by
  obtain ⟨st2,hR2,h⟩:=putK_ok hR1 (show RA (skel st1.o) μ w (V undef) undef from rfl) h
  unfold wpOp
  simp only [hi,hw,Bool.false_eq_true,if_false]
  exact hk _ _ _ _ hR2 h
 split at h
 ·rename_i hg
  exact hdo hR1 h (wanted_none hg)
 ·rename_i j want hg
  have hwant:Region.wanted o (yielded ops a.tmps)=(yielded ops a.tmps j==some want):=wanted_some hg
  split at h
  ·rename_i hy
   rw [yieldA_ok hR1 hy] at hwant
   cases want with
   | true=>exact hdo hR1 h hwant
   | false=>exact hno h hwant
  ·rename_i hy
   rw [yieldA_ok hR1 hy] at hwant
   cases want with
   | false=>exact hdo hR1 h hwant
   | true=>exact hno h hwant
  ·rename_i hy
   rw [yieldA_ok hR1 hy] at hwant
   exact hno h hwant
  ·exact h.elim
theorem evOps_ok (hN:Γ.B+16*N+16≤100000) (hT:TabOK P T) (hΓ:ConsOK P N Γ):∀ (k i:Nat) {μ:Mu} {st:St} {a:Act} {w:World},i+k=ops.size→RepM N w0 M W lk μ st a w→evOps T Γ lk N ops.toList (ops.toList.drop i) st K→
  (∀ μ' st' a' w',RepM N w0 M W lk μ' st' a' w'→K st'→Q .normal a' w')→wpOps P ops Q (List.range' i k) a w
 | 0,i,μ,st,a,w,hi,hR,h,hk=>by
  have:ops.toList.drop i=[]:=List.drop_eq_nil_of_le (by simp; omega)
  rw [this] at h
  exact hk _ _ _ _ hR h
 | k+1,i,μ,st,a,w,hi,hR,h,hk=>by
  have hlt:i < ops.toList.length:=by simp; omega
  rw [List.drop_eq_getElem_cons hlt] at h
  rw [List.range'_succ,wpOps_cons]
  have hio:ops[i]?=some (ops.toList[i]'hlt):=by simp
  exact evG_ok hN hT hΓ hR hio h fun μ' st' a' w' hR' h'=>evOps_ok hN hT hΓ k (i+1) (by omega) hR' h' hk
def liveM (lk:List Nat) (S:Sk) (μ:Mu) (b:Nat):Prop:=∃ k p,S k≠none∧memN lk k=false∧μ k=some p∧p.1=b
theorem RepM.liveM_le (hR:RepM N w0 M W lk μ st a w) {b:Nat} (h:liveM lk (skel st.o) μ b):M b∨w0.heap.size≤b:=by
 obtain ⟨k,p,h1,h2,h3,rfl⟩:=h
 exact hR.wr k p h1 h2 h3
theorem RepM.rebase (hR:RepM N w0 M W lk μ st a w):RepM N w (liveM lk (skel st.o) μ) W lk μ st a w:=
 ⟨hR.df,hR.sz,hR.tm,hR.ob,hR.inj,Fr.refl _ w,fun k p h1 h2 h3=>.inl ⟨k,p,h1,h2,h3,rfl⟩,hR.ok,⟨fun k b h=>hR.up.1 k b (by have:=hR.fr.size; omega),hR.up.2.keep hR.fr fun b hb=>hR.liveM_le hb⟩,hR.tr,hR.fo,hR.hh⟩
theorem Fr.join {w0 w w':World} {M M':Nat→Prop} (h:Fr M w0 w) (h':Fr M' w w') (hM:∀ b,M' b→M b∨w0.heap.size≤b):Fr M w0 w':=
 ⟨h'.os.trans h.os,h'.tape.trans h.tape,h'.output.trans h.output,Nat.le_trans h.size h'.size,fun b hb hnm=>
  (h'.blk b (Nat.lt_of_lt_of_le hb h.size) fun hm=>(hM b hm).elim hnm fun hge=>by omega).trans (h.blk b hb hnm)⟩
theorem RepM.unbase {lk':List Nat} {μ':Mu} {st':St} {a':Act} {w':World} (hR:RepM N w0 M W lk μ st a w) (hW:∀ k b,W k b→M b∨w0.heap.size≤b)
  (h':RepM N w (liveM lk (skel st.o) μ) W lk' μ' st' a' w'):RepM N w0 M W lk' μ' st' a' w':=
 ⟨h'.df,h'.sz,h'.tm,h'.ob,h'.inj,hR.fr.join h'.fr fun b hb=>hR.liveM_le hb,fun k p h1 h2 h3=>hW k _ (h'.ok k p h1 h3),h'.ok,hR.up,h'.tr,h'.fo,h'.hh⟩
theorem RepM.relock (hR:RepM N w0 M W lk μ st a w) (hW:∀ k b,W k b→M b∨w0.heap.size≤b) (lk':List Nat):RepM N w0 M W lk' μ st a w:=
 ⟨hR.df,hR.sz,hR.tm,hR.ob,hR.inj,hR.fr,fun k p h1 h2 h3=>hW k _ (hR.ok k p h1 h3),hR.ok,hR.up,hR.tr,hR.fo,hR.hh⟩
theorem evPure_ok (hT:TabOK P T) (hR:RepM N w0 M W lk μ st a w) {o:Oper} (h:evPure T lk N o st K):∃ v st',(∀ w',Fr (liveM lk (skel st.o) μ) w w'→(execOp a.eval o).run P w'=.ok (.value v) w')∧RepM N w0 M W lk μ st' (a.put o.dst v) w∧K st':=by
 have hsame:∀ w',Fr (liveM lk (skel st.o) μ) w w'→Same lk (skel st.o) μ w w':=fun w' hf b hb hall=>hf.blk b hb fun ⟨k,p,h1,h2,h3,h4⟩=>by
  rw [hall k p h1 h3 h4] at h2; cases h2
 unfold evPure at h
 split at h
 ·exact h.elim
 ·rename_i hs
  split at h
  ·rename_i x hp
   obtain ⟨v,h1,h2⟩:=pureOp_ok hT hR o (z:=x) (by rw [hp]; rfl)
   obtain ⟨st',h3,h4⟩:=putK_ok hR h1 h
   exact ⟨v,st',fun w' hf=>h2 w' (.inr ⟨hs,hsame w' hf⟩),h3,h4⟩
  ·rename_i c x hp
   obtain ⟨v,h1,h2⟩:=pureOp_ok hT hR o (z:=x) (by rw [hp]; exact ⟨h.1,rfl⟩)
   obtain ⟨st',h3,h4⟩:=putK_ok hR h1 h.2
   exact ⟨v,st',fun w' hf=>h2 w' (.inr ⟨hs,hsame w' hf⟩),h3,h4⟩
  ·exact h.elim
theorem evGP_ok (hT:TabOK P T) (hR:RepM N w0 M W lk μ st a w) {o:Oper} (h:evGP T lk N ops.toList o st K):∃ v st',YieldsIf P ops (fun w'=>Fr (liveM lk (skel st.o) μ) w w') o v a∧RepM N w0 M W lk μ st' (a.put o.dst v) w∧K st':=by
 unfold evGP at h
 have hsp:∀ {st:St} {i:Option Nat} {K:St→Prop},splitO st i K→∃ st',skel st'.o=skel st.o∧(RepM N w0 M W lk μ st a w→RepM N w0 M W lk μ st' a w)∧K st':=by
  intro st i K h
  cases i with
  | none=>exact ⟨st,rfl,fun h=>h,h⟩
  | some i=>
   simp only [splitO] at h
   unfold split at h
   split at h
   ·rename_i b hb
    cases b with
    | true=>exact ⟨st.put i (VB true),rfl,fun hR=>reput_ok hR (by have hi:=hR.tm i; rw [(tmp_lt hb).2] at hi; exact hi),h⟩
    | false=>exact ⟨st.put i (VB false),rfl,fun hR=>reput_ok hR (by have hi:=hR.tm i; rw [(tmp_lt hb).2] at hi; exact hi),h⟩
   ·exact ⟨st,rfl,fun h=>h,h⟩
 obtain ⟨st1,e1,hr1,h⟩:=hsp h
 have hR1:=hr1 hR
 have hdo:splitO st1 (pslot o) (fun st=>evPure T lk N o st K)→Region.wanted o (yielded ops a.tmps)=true→∃ v st',YieldsIf P ops (fun w'=>Fr (liveM lk (skel st.o) μ) w w') o v a∧RepM N w0 M W lk μ st' (a.put o.dst v) w∧K st':=fun h hw=>by
  obtain ⟨st2,e2,hr2,h⟩:=hsp h
  have hR2:=hr2 hR1
  obtain ⟨v,st',h1,h2,h3⟩:=evPure_ok hT hR2 h
  rw [e2,e1] at h1
  exact ⟨v,st',.inl ⟨hw,h1⟩,h2,h3⟩
 have hno:putK N o.dst (V undef) st1 K→Region.wanted o (yielded ops a.tmps)=false→∃ v st',YieldsIf P ops (fun w'=>Fr (liveM lk (skel st.o) μ) w w') o v a∧RepM N w0 M W lk μ st' (a.put o.dst v) w∧K st':=fun h hw=>by
  obtain ⟨st2,hR2,h⟩:=putK_ok hR1 (show RA (skel st1.o) μ w (V undef) undef from rfl) h
  exact ⟨undef,st2,.inr ⟨hw,rfl⟩,hR2,h⟩
 split at h
 ·rename_i hg
  exact hdo h (wanted_none hg)
 ·rename_i j want hg
  have hwant:Region.wanted o (yielded ops a.tmps)=(yielded ops a.tmps j==some want):=wanted_some hg
  split at h
  ·rename_i hy
   rw [yieldA_ok hR1 hy] at hwant
   cases want with
   | true=>exact hdo h hwant
   | false=>exact hno h hwant
  ·rename_i hy
   rw [yieldA_ok hR1 hy] at hwant
   cases want with
   | false=>exact hdo h hwant
   | true=>exact hno h hwant
  ·rename_i hy
   rw [yieldA_ok hR1 hy] at hwant
   exact hno h hwant
  ·exact h.elim
theorem evPlan_ok {md:Region.Mode} (hN:Γ.B+16*N+16≤100000) (hT:TabOK P T) (hΓ:ConsOK P N Γ) (hs:Region.noSelect ops=true) (hQ:∀ c a w,¬ Q (.panic c) a w) (hW:∀ k b,W k b→M b∨w0.heap.size≤b)
  (hk:∀ μ' st' a' w',RepM N w0 M W lk μ' st' a' w'→K st'→Q .normal a' w'):∀ (p:Plan) (fuel:Nat) (listed:Array Bool) (rs:Option (List Nat)) {wb:World} {Mb:Nat→Prop} {μ:Mu} {st:St} {a:Act} {w:World},
  (∀ {μ':Mu} {st':St} {a':Act} {w':World},RepM N wb Mb W lk μ' st' a' w'→RepM N w0 M W lk μ' st' a' w')→RepM N wb Mb W lk μ st a w→evPlan T Γ lk N ops.toList p st K→planOK md ops fuel listed rs p=true→
  match rs with
  | none=>wpAnyH P md ops Q (fun w'=>Fr Mb wb w') fuel listed a w
  | some l=>∀ i∈l,wpOp P ops Q i (fun a' w'=>Fr Mb wb w'∧wpAnyH P md ops Q (fun w'=>Fr Mb wb w') (fuel - 1) (listed.setIfInBounds i true) a' w') a w:=by
 intro p
 induction p with
 | done=>
  intro fuel listed rs wb Mb μ st a w hO hR h hp
  cases rs with
  | some l=>cases fuel <;> cases l <;> simp [planOK] at hp
  | none=>
   have hr:Region.ready md ops listed=[]:=by cases fuel <;> simpa [planOK] using hp
   cases fuel with
   | zero=>exact ⟨hr,hk _ _ _ _ (hO hR) h⟩
   | succ n=>exact ⟨fun _=>hk _ _ _ _ (hO hR) h,by rw [hr]; simp⟩
 | none=>
  intro fuel listed rs wb Mb μ st a w hO hR h hp
  cases rs with
  | none=>cases fuel <;> simp [planOK] at hp
  | some l=>
   cases l with
   | nil=>intro i hi; cases hi
   | cons j l=>cases fuel <;> simp [planOK] at hp
 | take i p ih=>
  intro fuel listed rs wb Mb μ st a w hO hR h hp
  cases fuel with
  | zero=>cases rs <;> simp [planOK] at hp
  | succ n=>
   cases rs with
   | some l=>cases l <;> simp [planOK] at hp
   | none=>
    simp only [planOK] at hp
    split at hp
    ·rename_i hfree hready
     simp only [evPlan,Array.getElem?_toList] at h
     split at h
     ·rename_i o ho
      obtain ⟨v,st',hy,hR',h⟩:=evGP_ok hT hR.rebase h
      have hbase:=ih n _ none (wb:=w) (Mb:=liveM lk (skel st.o) μ) (fun h'=>(hO hR).unbase hW h') hR' h hp
      exact held_mono (fun w' hf=>hR.fr.join hf fun b hb=>hR.liveM_le hb) _ _ _ _ (wpAnyH_take ho hs hfree hready (fun c a w h=>absurd h (hQ c _ w)) hy (Fr.refl _ w) hbase)
     ·exact h.elim
    ·cases hp
 | alt i p r ih1 ih2=>
  intro fuel listed rs wb Mb μ st a w hO hR h hp
  cases fuel with
  | zero=>cases rs <;> simp [planOK] at hp
  | succ n=>
   have hstep:∀ {o:Oper},ops[i]?=some o→evG T Γ lk N ops.toList o st (fun st=>evPlan T Γ lk N ops.toList p st K)→planOK md ops n (listed.setIfInBounds i true) none p=true→
     wpOp P ops Q i (fun a' w'=>Fr Mb wb w'∧wpAnyH P md ops Q (fun w'=>Fr Mb wb w') n (listed.setIfInBounds i true) a' w') a w:=fun ho h hp1=>
    evG_ok hN hT hΓ hR ho h fun μ' st' a' w' hR' h'=>⟨hR'.fr,ih1 n _ none hO hR' h' hp1⟩
   cases rs with
   | none=>
    simp only [planOK] at hp
    split at hp
    ·rename_i j l hr
     split at hp
     ·rename_i hij
      have hij:=Nat.eq_of_beq_eq_true hij
      subst hij
      split at hp
      ·rename_i hp1
       simp only [evPlan,Array.getElem?_toList] at h
       split at h
       ·rename_i o ho
        have h2:=ih2 (n+1) listed (some l) hO hR h.2 hp
        show _∧_
        refine ⟨fun h0=>?_,fun q hq=>?_⟩
        ·rw [hr] at h0; cases h0
        ·rw [hr] at hq
         rcases List.mem_cons.1 hq with rfl | hq
         ·exact hstep ho h.1 hp1
         ·exact h2 q hq
       ·exact h.elim
      ·cases hp
     ·cases hp
    ·cases hp
   | some l=>
    cases l with
    | nil=>simp [planOK] at hp
    | cons j l=>
     simp only [planOK] at hp
     split at hp
     ·rename_i hij
      have hij:=Nat.eq_of_beq_eq_true hij
      subst hij
      split at hp
      ·rename_i hp1
       simp only [evPlan,Array.getElem?_toList] at h
       split at h
       ·rename_i o ho
        have h2:=ih2 (n+1) listed (some l) hO hR h.2 hp
        intro q hq
        rcases List.mem_cons.1 hq with rfl | hq
        ·exact hstep ho h.1 hp1
        ·exact h2 q hq
       ·exact h.elim
      ·cases hp
     ·cases hp
end
end Go.Ev
