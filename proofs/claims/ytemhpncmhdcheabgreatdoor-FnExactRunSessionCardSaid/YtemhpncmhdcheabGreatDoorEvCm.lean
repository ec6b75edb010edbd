/- The map of the commands of a session: what the function that makes it answers. No statement is proved here. -/
import Derived.Test.YtemhpncmhdcheabGreatDoorEvT
import Derived.Test.YtemhpncmhdcheabGreatDoorChecked
import Derived.WalkKit
namespace Go.Ev
set_option linter.unusedVariables false
set_option linter.unusedSimpArgs false
open Go Go.Proofs Go.RowKit
def cmdG (av:List AV) (st:St) (K:AV→St→Prop):Prop:=match av with
 | [.one (.c (.pb k j))]=>match j with
  | 0=>K (.one (.c (.cl 2000000 [.b k]))) st
  | _=>False
 | _=>False
def cmdInl (f:FuncId):Inl:=⟨f,cmdG⟩
def MapAt (w w':World) (r:Nat) (ps:List Value) (T:List (ByteArray×Int×FuncId)):Prop:=
 r=w.heap.size∧Fr (fun _=>False) w w'∧∃ es n,w'.heap[r]?=some (.map es n)∧es.toList.map (fun e=>(e.key,e.val))=T.map fun c=>(Value.string c.1,Value.agg #[.int .i64 c.2.1,.func (.func c.2.2) ps.toArray #[]])
theorem MapAt.start (w:World) (ps:List Value):MapAt w (w.alloc (.map #[] 0)) w.heap.size ps []:=
 ⟨rfl,⟨rfl,rfl,rfl,by show w.heap.size≤(w.heap.push _).size; rw [Array.size_push]; omega,fun b hb _=>by
  show (w.heap.push _)[b]?=_
  rw [Array.getElem?_push,if_neg (by omega)]⟩,#[],0,by show (w.heap.push _)[w.heap.size]?=_; rw [Array.getElem?_push,if_pos rfl],rfl⟩
theorem insert_at {P:Program} {t kt et:TypeId} (hu:P.underlying t=some (.map kt et)) (hk:P.underlying kt=some .string) {w w1:World} {r:Nat} {ps:List Value} {T:List (ByteArray×Int×FuncId)} (h:MapAt w w1 r ps T) (s:ByteArray) (n:Int) (f:FuncId) (hn:lookV ps s T=none) :
  ∃ w2,(Instr.mapUpdate t (.map (some r)) (.string s) (.agg #[.int .i64 n,.func (.func f) ps.toArray #[]])).run P w1=.ok () w2∧MapAt w w2 r ps (T++[(s,n,f)]):=by
 obtain ⟨hr,hf,es,m,hh,he⟩:=h
 obtain ⟨q,g1,g2⟩:=findNow_ok ps s es.toList T 0 he
 rw [hn] at g2
 have hq:q=none:=by cases q with
  | none=>rfl
  | some x=>cases g2
 subst hq
 have hck:∀ b:Bool,(Instr.checkKey b 10000 kt (.string s)).run P w1=.ok () w1:=fun b=>by
  rw [show (10000:Nat)=9999+1 from rfl,Instr.checkKey]
  simp [Sem.run_bind,run_underlying hk,Result.andThen]
 have hfk:(Instr.findKey kt (.string s) es.toList).run P w1=.ok none w1:=by
  simp [Instr.findKey,Sem.run_bind,run_underlying hk,Result.andThen,g1]
 have hgo:(getObj r).run P w1=.ok (.map es m) w1:=by simp [getObj,Sem.run,hh]
 refine ⟨{ w1 with heap:=w1.heap.setIfInBounds r (.map (es.push { key:=.string s,val:=.agg #[.int .i64 n,.func (.func f) ps.toArray #[]],born:=m }) (m+1)) },?_,hr,?_,es.push { key:=.string s,val:=.agg #[.int .i64 n,.func (.func f) ps.toArray #[]],born:=m },m+1,?_,?_⟩
 ·unfold Instr.mapUpdate
  simp only [Sem.run_bind,run_underlying hu,Result.andThen_ok,hgo,hck,hfk]
  simp [setObj,Sem.run,hh]
 ·refine ⟨hf.os,hf.tape,hf.output,?_,fun b hb hM=>?_⟩
  ·show w.heap.size≤(w1.heap.setIfInBounds r _).size
   rw [Array.size_setIfInBounds]; exact hf.size
  ·show (w1.heap.setIfInBounds r _)[b]?=_
   rw [Array.getElem?_setIfInBounds_ne (by omega)]
   exact hf.blk b hb hM
 ·show (w1.heap.setIfInBounds r _)[r]?=_
  rw [Array.getElem?_setIfInBounds_self_of_lt (Array.getElem?_eq_some_iff.1 hh).1]
 ·rw [Array.toList_push,List.map_append,he,List.map_append]; rfl
set_option maxRecDepth 100000 in
set_option maxHeartbeats 4000000 in
theorem cmd_calls (g o:Nat) (w:World):Calls Tryz.prog 21 #[.pointer (some ⟨g,o,none⟩)] w fun e w'=>e=.returned (.map (some w.heap.size))∧MapAt w w' w.heap.size [.pointer (some ⟨g,o,none⟩)] cmdTab:=by
 have hmm:=@run_makeMap Tryz.prog
 have m0:=MapAt.start w [.pointer (some ⟨g,o,none⟩)]
 go_enter Tryz.func21,Tryz.ntmps21
 go_wp2
 obtain ⟨w1,e1,m1⟩:=insert_at Tryz.underlying52 Tryz.underlying9 m0 ⟨#[103,101,116]⟩ 2 38 rfl
 rw [e1]; simp only [Result.andThen]; rw [Oper.upon_skip]
 go_wp2
 obtain ⟨w2,e2,m2⟩:=insert_at Tryz.underlying52 Tryz.underlying9 m1 ⟨#[115,101,116]⟩ 3 39 (by kernel_rfl)
 rw [e2]; simp only [Result.andThen]; rw [Oper.upon_skip]
 go_wp2
 obtain ⟨w3,e3,m3⟩:=insert_at Tryz.underlying52 Tryz.underlying9 m2 ⟨#[104,105,116,115]⟩ 3 40 (by kernel_rfl)
 rw [e3]; simp only [Result.andThen]; rw [Oper.upon_skip]
 go_wp2
 obtain ⟨w4,e4,m4⟩:=insert_at Tryz.underlying52 Tryz.underlying9 m3 ⟨#[116,114,97,99,101]⟩ 1 41 (by kernel_rfl)
 rw [e4]; simp only [Result.andThen]; rw [Oper.upon_skip]
 go_wp2
 obtain ⟨w5,e5,m5⟩:=insert_at Tryz.underlying52 Tryz.underlying9 m4 ⟨#[100,105,114,116,121]⟩ 1 42 (by kernel_rfl)
 rw [e5]; simp only [Result.andThen]; rw [Oper.upon_skip]
 go_wp2
 obtain ⟨w6,e6,m6⟩:=insert_at Tryz.underlying52 Tryz.underlying9 m5 ⟨#[102,108,117,115,104]⟩ 1 43 (by kernel_rfl)
 rw [e6]; simp only [Result.andThen]; rw [Oper.upon_skip]
 go_wp2
 go_ret
 exact ⟨rfl,m6⟩
theorem RepM.grown {N:Nat} {w0 w w':World} {M:Nat→Prop} {W:Wd} {lk:List Nat} {μ:Mu} {st:St} {a:Act} (hR:RepM N w0 M W lk μ st a w) (hf:Fr (fun _=>False) w w'):RepM N w0 M W lk μ st a w':=by
 have hb:∀ {b:Nat} {x:Obj},w.heap[b]?=some x→w'.heap[b]?=some x:=fun {b x} h=>(hf.blk b (Array.getElem?_eq_some_iff.1 h).1 fun h=>h).trans h
 have hC:∀ c y,RC (skel st.o) μ w c y→RC (skel st.o) μ w' c y:=fun c y h=>h.mono (fun _ _ h=>h) (fun _ _=>rfl) (fun b h1 h2=>⟨hf.blk b h1 fun h=>h,h2⟩) hf.size
 refine ⟨hR.df,hR.sz,fun i=>RA.imp hC (hR.tm i),fun k ob h=>?_,hR.inj,hR.fr.trans ⟨hf.os,hf.tape,hf.output,hf.size,fun b h _=>hf.blk b h fun h=>h⟩,hR.wr,hR.ok,hR.up,hR.tr,hR.fo,hR.hh⟩
 have h2:=hR.ob k ob h
 cases ob with
 | row τ l=>
  rcases h2 with h2 | ⟨g,o,s,cur,T,hm,hh,hs,hsz,hr⟩
  ·exact .inl h2
  ·exact .inr ⟨g,o,s,cur,T,hm,hb hh,hs,hsz,hr⟩
 | box cs=>
  obtain ⟨g,o,s,cur,T,hm,hh,hs,hsz,hr⟩:=h2
  exact ⟨g,o,s,cur,T,hm,hb hh,hs,hsz,RCs.imp hC hr⟩
theorem cmd_ok {N:Nat}:InlOK Tryz.prog N (cmdInl 21):=by
 refine ⟨⟨_,Tryz.func21,by kernel_rfl,ne_of_beq (by kernel_rfl)⟩,fun w0 M W μ st a w av vals K hR hav h=>?_⟩
 simp only [cmdInl,cmdG] at h
 split at h
 ·rename_i k j
  split at h
  ·match vals,hav with
   | [y],hav=>
    obtain ⟨hy,_⟩:=hav
    have hy:RC (skel st.o) μ w (.pb k 0) y:=hy
    obtain ⟨g,o,s,hs,hm,rfl⟩:=hy
    have hcalls:=cmd_calls g (o+0) w
    refine Calls.mono hcalls ?_
    rintro e w' ⟨rfl,_,hf,es,n,hh,he⟩
    refine ⟨_,rfl,μ,st,_,hR.grown hf,?_,h⟩
    refine ⟨[.pointer (some ⟨g,o+0,none⟩)],?_,rfl,fun i x p hx hp=>?_⟩
    ·unfold ClIs
     refine ⟨w.heap.size,es,n,rfl,hh,?_,he⟩
     rintro (⟨k',p,h1,h2,h3⟩ | h2)
     ·have:=own_lt hR h1 h2; omega
     ·exact h2 (hR.fo 0 _ (by omega) (hR.up.1 0 _ hR.fr.size))
    ·cases i with
     | zero=>
      injection hx with hx; injection hp with hp; subst hx; subst hp
      exact ⟨g,o,s,hs,hm,rfl⟩
     | succ i=>cases hx
  ·exact h.elim
 ·exact h.elim
end Go.Ev
