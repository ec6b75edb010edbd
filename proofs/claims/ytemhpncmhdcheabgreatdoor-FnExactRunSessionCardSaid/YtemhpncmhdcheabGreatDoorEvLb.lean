/- Functions whose contract comes from elsewhere: what is read by the call only,and what it answers is plain. No statement is proved here. -/
import Derived.Test.YtemhpncmhdcheabGreatDoorEvT
import Derived.Below
namespace Go.Ev
set_option linter.unusedVariables false
set_option linter.unusedSimpArgs false
open Go Go.RowKit
theorem Fr.of_below {w w':World} (h:Below w.heap.size w w'):Fr (fun _=>False) w w':=⟨h.os,h.tape,h.output,h.size,fun b hb _=>h.block b hb⟩
theorem Fr.any {M:Nat→Prop} {w w':World} (h:Fr (fun _=>False) w w'):Fr M w w':=⟨h.os,h.tape,h.output,h.size,fun b hb _=>h.blk b hb fun h=>h⟩
theorem holds_plain {P:Program} {f:FuncId} {C:Con} (hrd:allRd C.mu=true)
  (h:∀ vs kk,C.F vs kk→∀ (w:World) (vals:List Value) (S:Sk) (μ:Mu),C.mu.length=vs.length→GLm (fun _=>False) w→R1s S μ w vs vals→
   Calls P f vals.toArray w fun e w'=>∃ r v,kk r []∧e=.returned v∧Fr (fun _=>False) w w'∧(∀ kd,instR C.fresh kd r=(r,[]))∧∀ S μ w',RA S μ w' r v):Holds P f C:=by
 intro vs kk hF kd w vals μ M hkd hpre
 have hmut:∀ x,mutA C.mu vs≠some x:=fun x e=>by rw [allRd_none hrd] at e; cases e
 have hO:entO C.mu vs=[]:=by unfold entO; rw [allRd_none hrd]
 have hvl:=hpre.vl
 rw [entA_rd hrd hpre.nm] at hvl
 refine (h vs kk hF w vals _ μ hpre.nm (hpre.up.2.at fun _ h=>h.elim) hvl).mono ?_
 rintro e w' ⟨r,v,hk,rfl,hfr,hi,hra⟩
 have hno:noOf C.mu vs []=some []:=by unfold noOf; rw [allRd_none hrd]
 refine ⟨r,[],v,μ,[],hk,rfl,hfr.any,hno,rfl,fun _ _=>rfl,fun k ob h=>(by cases h),?_,?_,?_,?_,?_⟩
 ·rw [hi kd]; intro k ob h; cases h
 ·rw [hi kd]; exact hra _ _ _
 ·rw [hi kd]; intro k ob h; cases h
 ·rw [hi kd]; intro k k' p p' h; exact absurd rfl h
 ·rw [hi kd]; intro k p h; exact absurd rfl h
theorem GLm.err {M:Nat→Prop} {w:World} (h:GLm M w) {g:Nat} (hg:(g,GlE g)∈globs):∃ e,w.cell? ⟨g,0,none⟩=some e∧(e=.nilIface∨∃ te pe,e=.iface te pe):=by
 obtain ⟨_,_,w1,h1,e,h2,h3⟩:=h _ hg
 exact ⟨e,(cell_heap h1).trans h2,h3⟩
end Go.Ev
