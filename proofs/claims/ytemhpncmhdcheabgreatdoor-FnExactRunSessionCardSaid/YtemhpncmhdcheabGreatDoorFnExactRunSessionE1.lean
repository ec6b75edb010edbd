/- What the evaluator gives for these functions: their contracts. No statement is proved here. -/
import Derived.Test.YtemhpncmhdcheabGreatDoorFnExactRunSessionE0
namespace Go.Ev
set_option linter.unusedVariables false
set_option linter.unusedSimpArgs false
set_option maxRecDepth 100000
open Go Go.Proofs
theorem h_qo:Holds Tryz.prog 92 con_qo:=by
 refine holds_of_ev (rt:=[.c (.sl .int),.c .sc]) (T:=TT) (Γ:=cs_qo) (an:=an_qo) (N:=11) (c:=Tryz.f92.body.getD .skip) Tryz.func92 (by kernel_rfl) Tryz.ntmps92 (by decide) (by decide) mixed tabOK cok_qo (by kernel_rfl) ?_
 intro vs kk _ hF
 exact i_qo (motive:=fun vs=>Goes (V_qo vs kk)) hF (fun b a hF=>goes_of (e_qo b a kk) (F_qo_S hF))
def K_ql (kk:AK):LI→Int→Prop:=(fun a b=>kk (.tup [.c (.ro .int a),.c (vi b)]) [])
def con_ql:Con:=⟨[.rd,.rd],true,[.c (.sl .int),.c (.sc)],fun vs k=>match vs with
  | [.c (.ro .int b),.c (.v (.int .i64 a))]=>F_ql b a (K_ql k)
  | _=>False,false⟩
def cl_ql:List (FuncId×Con):=[(117,con_qao)]
def an_ql:Ann:=⟨[],[],[],[]⟩
def cs_ql:Cons:=⟨cl_ql,[],0,[],[],[]⟩
def fin_ql (b:LI) (a:Int) (kk:AK):Kt:=fin TT con_ql Tryz.f93.results.toList [.c (.sl .int),.c .sc] [.c (.ro .int b),.c (vi a)] kk
def V_ql (vs:List A1) (kk:AK):Prop:=ev TT cs_ql 11 an_ql (Tryz.f93.body.getD .skip) (st0 con_ql vs) (fin TT con_ql Tryz.f93.results.toList [.c (.sl .int),.c .sc] vs kk)
theorem g_ql (b:LI) (a:Int) (kk:AK) :
  V_ql [.c (.ro .int b),.c (vi a)] kk=G_ql b a (K_ql kk):=by kernel_rfl
theorem e_ql (b:LI) (a:Int) (kk:AK) :
  V_ql [.c (.ro .int b),.c (vi a)] kk=S_ql b a (K_ql kk):=by
 rw [g_ql]
 rfl
theorem clok_ql:ConOK Tryz.prog cl_ql:=consCons h_qao (pf (by kernel_rfl)) (consNil)
theorem cok_ql:ConsOK Tryz.prog 11 cs_ql:=⟨clok_ql,inlNil,ovNil⟩
theorem i_ql {vs:List A1} {kk:AK} {motive:List A1→Prop} (h:con_ql.F vs kk) (H:∀ (b:LI) (a:Int),F_ql b a (K_ql kk)→motive [.c (.ro .int b),.c (vi a)]):motive vs:=by
 unfold con_ql at h
 dsimp only at h
 split at h
 ·exact H _ _ h
 ·exact h.elim
theorem h_ql:Holds Tryz.prog 93 con_ql:=by
 refine holds_of_ev (rt:=[.c (.sl .int),.c .sc]) (T:=TT) (Γ:=cs_ql) (an:=an_ql) (N:=11) (c:=Tryz.f93.body.getD .skip) Tryz.func93 (by kernel_rfl) Tryz.ntmps93 (by decide) (by decide) mixed tabOK cok_ql (by kernel_rfl) ?_
 intro vs kk _ hF
 exact i_ql (motive:=fun vs=>Goes (V_ql vs kk)) hF (fun b a hF=>goes_of (e_ql b a kk) (F_ql_S hF))
def K_qv (kk:AK):Bool→Prop:=(fun a=>kk (.one (.c (.v (.bool a)))) [])
def con_qv:Con:=⟨[.rd],true,[.agg [.sc,.sl .int,.sl .bool,.sc]],fun vs k=>match vs with
  | [.agg [.v (.int .i64 a),.ro .int b,.ro .bool c,.v (.int .i64 d)]]=>F_qv a b c d (K_qv k)
  | _=>False,false⟩
def cl_qv:List (FuncId×Con):=[(113,con_qx)]
def an_qv:Ann:=⟨[],[],[],[]⟩
def cs_qv:Cons:=⟨cl_qv,[],0,[],[],[]⟩
def fin_qv (a:Int) (b:LI) (d:List Bool) (e:Int) (kk:AK):Kt:=fin TT con_qv Tryz.f149.results.toList [.c .sc] [.agg [vi a,.ro .int b,.ro .bool d,vi e]] kk
def V_qv (vs:List A1) (kk:AK):Prop:=ev TT cs_qv 38 an_qv (Tryz.f149.body.getD .skip) (st0 con_qv vs) (fin TT con_qv Tryz.f149.results.toList [.c .sc] vs kk)
theorem g_qv (a:Int) (b:LI) (c:List Bool) (d:Int) (kk:AK) :
  V_qv [.agg [vi a,.ro .int b,.ro .bool c,vi d]] kk=G_qv a b c d (K_qv kk):=by kernel_rfl
theorem e_qv (a:Int) (b:LI) (c:List Bool) (d:Int) (kk:AK) :
  V_qv [.agg [vi a,.ro .int b,.ro .bool c,vi d]] kk=S_qv a b c d (K_qv kk):=by
 rw [g_qv]
 rfl
theorem clok_qv:ConOK Tryz.prog cl_qv:=consCons h_qx (pf (by kernel_rfl)) (consNil)
theorem cok_qv:ConsOK Tryz.prog 38 cs_qv:=⟨clok_qv,inlNil,ovNil⟩
theorem i_qv {vs:List A1} {kk:AK} {motive:List A1→Prop} (h:con_qv.F vs kk) (H:∀ (a:Int) (b:LI) (c:List Bool) (d:Int),F_qv a b c d (K_qv kk)→motive [.agg [vi a,.ro .int b,.ro .bool c,vi d]]):motive vs:=by
 unfold con_qv at h
 dsimp only at h
 split at h
 ·exact H _ _ _ _ h
 ·exact h.elim
theorem h_qv:Holds Tryz.prog 149 con_qv:=by
 refine holds_of_ev (rt:=[.c .sc]) (T:=TT) (Γ:=cs_qv) (an:=an_qv) (N:=38) (c:=Tryz.f149.body.getD .skip) Tryz.func149 (by kernel_rfl) Tryz.ntmps149 (by decide) (by decide) mixed tabOK cok_qv (by kernel_rfl) ?_
 intro vs kk _ hF
 exact i_qv (motive:=fun vs=>Goes (V_qv vs kk)) hF (fun a b d e hF=>goes_of (e_qv a b d e kk) (F_qv_S hF))
def K_qah (kk:AK):Int→Prop:=(fun a=>kk (.one (.c (vi a))) [])
def con_qah:Con:=⟨[.rd],true,[.agg [.sc,.sl .int,.sl .bool,.sc]],fun vs k=>match vs with
  | [.agg [.v (.int .i64 a),.ro .int b,.ro .bool c,.v (.int .i64 d)]]=>F_qah a b c d (K_qah k)
  | _=>False,false⟩
def cl_qah:List (FuncId×Con):=[]
def an_qah:Ann:=⟨[],[],[],[]⟩
def cs_qah:Cons:=⟨cl_qah,[],0,[],[],[]⟩
def fin_qah (a:Int) (b:LI) (d:List Bool) (e:Int) (kk:AK):Kt:=fin TT con_qah Tryz.f151.results.toList [.c .sc] [.agg [vi a,.ro .int b,.ro .bool d,vi e]] kk
def V_qah (vs:List A1) (kk:AK):Prop:=ev TT cs_qah 10 an_qah (Tryz.f151.body.getD .skip) (st0 con_qah vs) (fin TT con_qah Tryz.f151.results.toList [.c .sc] vs kk)
theorem g_qah (a:Int) (b:LI) (c:List Bool) (d:Int) (kk:AK) :
  V_qah [.agg [vi a,.ro .int b,.ro .bool c,vi d]] kk=G_qah a b c d (K_qah kk):=by kernel_rfl
theorem e_qah (a:Int) (b:LI) (c:List Bool) (d:Int) (kk:AK) :
  V_qah [.agg [vi a,.ro .int b,.ro .bool c,vi d]] kk=S_qah a b c d (K_qah kk):=by
 rw [g_qah]
 rfl
theorem clok_qah:ConOK Tryz.prog cl_qah:=consNil
theorem cok_qah:ConsOK Tryz.prog 10 cs_qah:=⟨clok_qah,inlNil,ovNil⟩
theorem i_qah {vs:List A1} {kk:AK} {motive:List A1→Prop} (h:con_qah.F vs kk) (H:∀ (a:Int) (b:LI) (c:List Bool) (d:Int),F_qah a b c d (K_qah kk)→motive [.agg [vi a,.ro .int b,.ro .bool c,vi d]]):motive vs:=by
 unfold con_qah at h
 dsimp only at h
 split at h
 ·exact H _ _ _ _ h
 ·exact h.elim
theorem h_qah:Holds Tryz.prog 151 con_qah:=by
 refine holds_of_ev (rt:=[.c .sc]) (T:=TT) (Γ:=cs_qah) (an:=an_qah) (N:=10) (c:=Tryz.f151.body.getD .skip) Tryz.func151 (by kernel_rfl) Tryz.ntmps151 (by decide) (by decide) mixed tabOK cok_qah (by kernel_rfl) ?_
 intro vs kk _ hF
 exact i_qah (motive:=fun vs=>Goes (V_qah vs kk)) hF (fun a b d e hF=>goes_of (e_qah a b d e kk) (F_qah_S hF))
def K_qq (kk:AK):Int→LI→List Bool→Int→Bool→Prop:=(fun a b d e f=>kk (.tup [.agg [vi a,.ro .int b,.ro .bool d,vi e],.c (.v (.bool f))]) [])
def con_qq:Con:=⟨[.rd,.rd],true,[.agg [.sc,.sl .int,.sl .bool,.sc],.c (.sc)],fun vs k=>match vs with
  | [.agg [.v (.int .i64 a),.ro .int b,.ro .bool d,.v (.int .i64 e)],.c (.v (.int .i64 f))]=>F_qq a b d e f (K_qq k)
  | _=>False,false⟩
def cl_qq:List (FuncId×Con):=[(87,con_qbd),(149,con_qv),(150,con_qby),(151,con_qah)]
def nm0_qq:List NStep:=[.keep [1,4,6] [64,96,352,416]]
def an_qq:Ann:=⟨[(3,.take 0 (.take 1 (.take 3 (.take 4 (.take 7 (.take 8 (.take 10 (.take 11 (.alt 2 (.alt 5 (.alt 6 (.alt 9 (.take 12 (.alt 13 (.alt 14 (.done) (.none)) (.none))) (.alt 13 (.alt 9 (.take 12 (.alt 14 (.done) (.none))) (.none)) (.none))) (.alt 13 (.alt 6 (.alt 9 (.take 12 (.alt 14 (.done) (.none))) (.none)) (.none)) (.none))) (.alt 6 (.alt 5 (.alt 9 (.take 12 (.alt 13 (.alt 14 (.done) (.none)) (.none))) (.alt 13 (.alt 9 (.take 12 (.alt 14 (.done) (.none))) (.none)) (.none))) (.alt 13 (.alt 5 (.alt 9 (.take 12 (.alt 14 (.done) (.none))) (.none)) (.none)) (.none))) (.alt 13 (.alt 5 (.alt 6 (.alt 9 (.take 12 (.alt 14 (.done) (.none))) (.none)) (.none)) (.alt 6 (.alt 5 (.alt 9 (.take 12 (.alt 14 (.done) (.none))) (.none)) (.none)) (.none))) (.none)))) (.alt 6 (.alt 2 (.alt 5 (.alt 9 (.take 12 (.alt 13 (.alt 14 (.done) (.none)) (.none))) (.alt 13 (.alt 9 (.take 12 (.alt 14 (.done) (.none))) (.none)) (.none))) (.alt 13 (.alt 5 (.alt 9 (.take 12 (.alt 14 (.done) (.none))) (.none)) (.none)) (.none))) (.alt 13 (.alt 2 (.alt 5 (.alt 9 (.take 12 (.alt 14 (.done) (.none))) (.none)) (.none)) (.none)) (.none))) (.alt 13 (.alt 2 (.alt 5 (.alt 6 (.alt 9 (.take 12 (.alt 14 (.done) (.none))) (.none)) (.none)) (.alt 6 (.alt 5 (.alt 9 (.take 12 (.alt 14 (.done) (.none))) (.none)) (.none)) (.none))) (.alt 6 (.alt 2 (.alt 5 (.alt 9 (.take 12 (.alt 14 (.done) (.none))) (.none)) (.none)) (.none)) (.none))) (.none))))))))))),[32])],[(12,nm0_qq)],[],[]⟩
def cs_qq:Cons:=⟨cl_qq,[],0,[],[],[]⟩
def can0_qq (a:LI) (b e d:Int) (f:List Bool):St:=⟨[(1,.one (.c (vi e))),(4,.one (.c (.pb 64 0))),(6,.one (.c (.pb 96 0)))],[(64,.box [vi 0,.nil,.nil,vi 0]),(96,.box [vi b,.ow 352,.ow 416,vi d]),(352,.row .int a),(416,.row .bool f)]⟩
def fin_qq (a:Int) (b:LI) (d:List Bool) (e f:Int) (kk:AK):Kt:=fin TT con_qq Tryz.f122.results.toList [.agg [.sc,.sl .int,.sl .bool,.sc],.c .sc] [.agg [vi a,.ro .int b,.ro .bool d,vi e],.c (vi f)] kk
def V_qq (vs:List A1) (kk:AK):Prop:=ev TT cs_qq 83 an_qq (Tryz.f122.body.getD .skip) (st0 con_qq vs) (fin TT con_qq Tryz.f122.results.toList [.agg [.sc,.sl .int,.sl .bool,.sc],.c .sc] vs kk)
def kt0_qq (kf:Kt):Kt:=blockK 0 (seqK (evF TT cs_qq 83 an_qq Tryz.f122 [1,1,1,1,1,1]) (kf))
def I0_qq (a:Int) (b:LI) (c:List Bool) (d e:Int) (kk:AK):Nat→St→Prop:=iter (evF TT cs_qq 83 an_qq Tryz.f122 [1,1,1,1,1,0,0,0]) nm0_qq (kt0_qq (fin_qq a b c d e kk))
theorem r0_qq (a:Int) (b:LI) (f:List Bool) (g d:Int) (kk:AK) (n:Nat) (c:Int) (e:List Bool) :
  I0_qq a b f g d kk (n+1) (can0_qq b a d c e)=T0_qq b a d c e (K_qq kk) (fun c e=>I0_qq a b f g d kk n (can0_qq b a d c e)):=by kernel_rfl
theorem l0_qq (a:Int) (b:LI) (f:List Bool) (g e:Int) (kk:AK):∀ (n:Nat) (c:Int) (d:List Bool),I0_qq a b f g e kk n (can0_qq b a e c d)=L0_qq b a e (K_qq kk) n c d:=by
 intro n
 induction n with
 | zero=>intros; rfl
 | succ n ih=>
  intro c d
  rw [r0_qq a b f g e kk n c d]
  simp only [ih] <;> rfl
theorem g_qq (a:Int) (b:LI) (d:List Bool) (e f:Int) (kk:AK) :
  V_qq [.agg [vi a,.ro .int b,.ro .bool d,vi e],.c (vi f)] kk=G_qq a b d e f (K_qq kk) (fun b a f g h=>∃ j,I0_qq a b d e f kk j (can0_qq b a f g h)):=by kernel_rfl
theorem e_qq (a:Int) (b:LI) (e:List Bool) (f d:Int) (kk:AK) :
  V_qq [.agg [vi a,.ro .int b,.ro .bool e,vi f],.c (vi d)] kk=S_qq a b e f d (K_qq kk):=by
 rw [g_qq]
 have hi0:(fun b a d g h=>∃ j,I0_qq a b e f d kk j (can0_qq b a d g h))=(fun b a d g h=>∃ j,L0_qq b a d (K_qq kk) j g h):=by
  funext b a d g h
  refine congrArg Exists (funext fun j=>?_)
  rw [l0_qq a b e f d kk j g h]
 rw [hi0]
 rw [G_qq_eq]
 rfl
theorem clok_qq:ConOK Tryz.prog cl_qq:=consCons h_qbd (pf (by kernel_rfl)) (consCons h_qv (pf (by kernel_rfl)) (consCons h_qby (pf (by kernel_rfl)) (consCons h_qah (pf (by kernel_rfl)) (consNil))))
theorem cok_qq:ConsOK Tryz.prog 83 cs_qq:=⟨clok_qq,inlNil,ovNil⟩
theorem i_qq {vs:List A1} {kk:AK} {motive:List A1→Prop} (h:con_qq.F vs kk) (H:∀ (a:Int) (b:LI) (d:List Bool) (e f:Int),F_qq a b d e f (K_qq kk)→motive [.agg [vi a,.ro .int b,.ro .bool d,vi e],.c (vi f)]):motive vs:=by
 unfold con_qq at h
 dsimp only at h
 split at h
 ·exact H _ _ _ _ _ h
 ·exact h.elim
theorem h_qq:Holds Tryz.prog 122 con_qq:=by
 refine holds_of_ev (rt:=[.agg [.sc,.sl .int,.sl .bool,.sc],.c .sc]) (T:=TT) (Γ:=cs_qq) (an:=an_qq) (N:=83) (c:=Tryz.f122.body.getD .skip) Tryz.func122 (by kernel_rfl) Tryz.ntmps122 (by decide) (by decide) mixed tabOK cok_qq (by kernel_rfl) ?_
 intro vs kk _ hF
 exact i_qq (motive:=fun vs=>Goes (V_qq vs kk)) hF (fun a b d e f hF=>goes_of (e_qq a b d e f kk) (F_qq_S hF))
def con_qav:Con:=⟨[.rd,.mv,.rd],true,[.c (.sl .int),.agg [.sc,.sl .int,.sl .bool,.sc],.c (.fn)],fun vs k=>match vs with
  | [.c (.ro .int f),.agg [.v (.int .i64 a),.ro .int b,.ro .bool d,.v (.int .i64 e)],.c (.v (.func (.func 122) ⟨[]⟩ ⟨[]⟩))]=>F_qaw f a b d e (fun g h i j l=>k (.tup [.agg [.v (.int .i64 g),.ro .int h,.ro .bool i,.v (.int .i64 j)],.c (.v (.int .i64 l))]) [])
  | _=>False,false⟩
def cl_qaw:List (FuncId×Con):=[(122,con_qq)]
def nm0_qaw:List NStep:=[.ownc 64 1 .int 90000,.ownc 64 2 .bool 90001,.keep [2,4,6,8,13,14,15] [64,90000,90001,96]]
def an_qaw:Ann:=⟨[],[(3,nm0_qaw)],[],[]⟩
def cs_qaw:Cons:=⟨cl_qaw,[],0,[],[],[]⟩
def can0_qaw (i:LI) (g a:Int) (h b d:Int) (e:LI) (f:List Bool):St:=⟨[(2,.one (.c (.v (.func (.func 122) ⟨[]⟩ ⟨[]⟩)))),(4,.one (.c (.pb 64 0))),(6,.one (.c (.pb 96 0))),(8,.one (.c (vi a))),(13,.one (.c (.ro .int i))),(14,.one (.c (vi g))),(15,.one (.c (vi h)))],[(64,.box [vi b,.ow 90000,.ow 90001,vi d]),(90000,.row .int e),(90001,.row .bool f),(96,.box [vi 0,.nil,.nil,vi 0])]⟩
def K_qaw (kk:AK):Int→LI→List Bool→Int→Int→Prop:=(fun a b d e f=>kk (.tup [.agg [vi a,.ro .int b,.ro .bool d,vi e],.c (vi f)]) [])
def fin_qaw (f:LI) (a:Int) (b:LI) (d:List Bool) (e:Int) (kk:AK):Kt:=fin TT con_qav Tryz.f121.results.toList [.agg [.sc,.sl .int,.sl .bool,.sc],.c .sc] [.c (.ro .int f),.agg [vi a,.ro .int b,.ro .bool d,vi e],.c (.v (.func (.func 122) ⟨[]⟩ ⟨[]⟩))] kk
def kt0_qaw (kf:Kt):Kt:=blockK 0 (seqK (evF TT cs_qaw 33 an_qaw Tryz.f121 [1,1,1]) (kf))
def I0_qaw (e:LI) (a:Int) (b:LI) (c:List Bool) (d:Int) (kk:AK):Nat→St→Prop:=iter (evF TT cs_qaw 33 an_qaw Tryz.f121 [1,1,0,1,0,0]) nm0_qaw (kt0_qaw (fin_qaw e a b c d kk))
theorem r0_qaw (m:LI) (a:Int) (b:LI) (c:List Bool) (d l:Int) (kk:AK) (n:Nat) (e j:Int) (f g:Int) (h:LI) (i:List Bool) :
  I0_qaw m a b c d kk (n+1) (can0_qaw m l e j f g h i)=T0_qaw m l e j f g h i (K_qaw kk) (fun e j f g h i=>I0_qaw m a b c d kk n (can0_qaw m l e j f g h i)):=by kernel_rfl
theorem l0_qaw (m:LI) (f:Int) (g:LI) (h:List Bool) (i l:Int) (kk:AK):∀ (n:Nat) (a j:Int) (b c:Int) (d:LI) (e:List Bool),I0_qaw m f g h i kk n (can0_qaw m l a j b c d e)=L0_qaw m l (K_qaw kk) n a j b c d e:=by
 intro n
 induction n with
 | zero=>intros; rfl
 | succ n ih=>
  intro a j b c d e
  rw [r0_qaw m f g h i l kk n a j b c d e]
  simp only [ih] <;> rfl
theorem g_qaw (f:LI) (a:Int) (b:LI) (d:List Bool) (e:Int) (kk:AK) :
  ev TT cs_qaw 33 an_qaw (Tryz.f121.body.getD .skip) (st0 con_qav [.c (.ro .int f),.agg [vi a,.ro .int b,.ro .bool d,vi e],.c (.v (.func (.func 122) ⟨[]⟩ ⟨[]⟩))]) (fin TT con_qav Tryz.f121.results.toList [.agg [.sc,.sl .int,.sl .bool,.sc],.c .sc] [.c (.ro .int f),.agg [vi a,.ro .int b,.ro .bool d,vi e],.c (.v (.func (.func 122) ⟨[]⟩ ⟨[]⟩))] kk)=G_qaw f a b d e (fun f n g o h i l m=>∃ j,I0_qaw f a b d e kk j (can0_qaw f n g o h i l m)):=by kernel_rfl
theorem e_qaw (o:LI) (a:Int) (b:LI) (d:List Bool) (e:Int) (kk:AK) :
  ev TT cs_qaw 33 an_qaw (Tryz.f121.body.getD .skip) (st0 con_qav [.c (.ro .int o),.agg [vi a,.ro .int b,.ro .bool d,vi e],.c (.v (.func (.func 122) ⟨[]⟩ ⟨[]⟩))]) (fin TT con_qav Tryz.f121.results.toList [.agg [.sc,.sl .int,.sl .bool,.sc],.c .sc] [.c (.ro .int o),.agg [vi a,.ro .int b,.ro .bool d,vi e],.c (.v (.func (.func 122) ⟨[]⟩ ⟨[]⟩))] kk)=S_qaw o a b d e (K_qaw kk):=by
 rw [g_qaw]
 have hi0:(fun o m f n g h i l=>∃ j,I0_qaw o a b d e kk j (can0_qaw o m f n g h i l))=(fun o m f n g h i l=>∃ j,L0_qaw o m (K_qaw kk) j f n g h i l):=by
  funext o m f n g h i l
  refine congrArg Exists (funext fun j=>?_)
  rw [l0_qaw o a b d e m kk j f n g h i l]
 rw [hi0]
 rfl
theorem clok_qaw:ConOK Tryz.prog cl_qaw:=consCons h_qq (pf (by kernel_rfl)) (consNil)
theorem cok_qaw:ConsOK Tryz.prog 33 cs_qaw:=⟨clok_qaw,inlNil,ovNil⟩
theorem i_qaw {vs:List A1} {kk:AK} {motive:List A1→Prop} (h:con_qav.F vs kk) (H:∀ (f:LI) (a:Int) (b:LI) (d:List Bool) (e:Int),F_qaw f a b d e (K_qaw kk)→motive [.c (.ro .int f),.agg [vi a,.ro .int b,.ro .bool d,vi e],.c (.v (.func (.func 122) ⟨[]⟩ ⟨[]⟩))]):motive vs:=by
 unfold con_qav at h
 dsimp only at h
 split at h
 ·exact H _ _ _ _ _ h
 ·exact h.elim
theorem h_qav:Holds Tryz.prog 121 con_qav:=by
 refine holds_of_ev (rt:=[.agg [.sc,.sl .int,.sl .bool,.sc],.c .sc]) (T:=TT) (Γ:=cs_qaw) (an:=an_qaw) (N:=33) (c:=Tryz.f121.body.getD .skip) Tryz.func121 (by kernel_rfl) Tryz.ntmps121 (by decide) (by decide) mixed tabOK cok_qaw (by kernel_rfl) ?_
 intro vs kk _ hF
 exact i_qaw (motive:=fun vs=>Goes (ev TT cs_qaw 33 an_qaw (Tryz.f121.body.getD .skip) (st0 con_qav vs) (fin TT con_qav Tryz.f121.results.toList [.agg [.sc,.sl .int,.sl .bool,.sc],.c .sc] vs kk))) hF (fun f a b d e hF=>goes_of (e_qaw f a b d e kk) (F_qaw_S hF))
def K_qk (kk:AK):Int→LI→List Bool→Int→Int→Prop:=(fun a b d e f=>kk (.tup [.agg [vi a,.ro .int b,.ro .bool d,vi e],.c (vi f)]) [])
def con_qk:Con:=⟨[.rd,.rd],true,[.c (.sl .int),.c (.sc)],fun vs k=>match vs with
  | [.c (.ro .int b),.c (.v (.int .i64 a))]=>F_qk b a (K_qk k)
  | _=>False,false⟩
def cl_qk:List (FuncId×Con):=[(98,con_qaa),(120,con_qbf),(121,con_qav)]
def an_qk:Ann:=⟨[],[],[],[]⟩
def cs_qk:Cons:=⟨cl_qk,[],0,[],[],[]⟩
def fin_qk (b:LI) (a:Int) (kk:AK):Kt:=fin TT con_qk Tryz.f94.results.toList [.agg [.sc,.sl .int,.sl .bool,.sc],.c .sc] [.c (.ro .int b),.c (vi a)] kk
def V_qk (vs:List A1) (kk:AK):Prop:=ev TT cs_qk 21 an_qk (Tryz.f94.body.getD .skip) (st0 con_qk vs) (fin TT con_qk Tryz.f94.results.toList [.agg [.sc,.sl .int,.sl .bool,.sc],.c .sc] vs kk)
theorem g_qk (b:LI) (a:Int) (kk:AK) :
  V_qk [.c (.ro .int b),.c (vi a)] kk=G_qk b a (K_qk kk):=by kernel_rfl
theorem e_qk (b:LI) (a:Int) (kk:AK) :
  V_qk [.c (.ro .int b),.c (vi a)] kk=S_qk b a (K_qk kk):=by
 rw [g_qk]
 rfl
theorem clok_qk:ConOK Tryz.prog cl_qk:=consCons h_qaa (pf (by kernel_rfl)) (consCons h_qbf (pf (by kernel_rfl)) (consCons h_qav (pf (by kernel_rfl)) (consNil)))
theorem cok_qk:ConsOK Tryz.prog 21 cs_qk:=⟨clok_qk,inlNil,ovNil⟩
theorem i_qk {vs:List A1} {kk:AK} {motive:List A1→Prop} (h:con_qk.F vs kk) (H:∀ (b:LI) (a:Int),F_qk b a (K_qk kk)→motive [.c (.ro .int b),.c (vi a)]):motive vs:=by
 unfold con_qk at h
 dsimp only at h
 split at h
 ·exact H _ _ h
 ·exact h.elim
theorem h_qk:Holds Tryz.prog 94 con_qk:=by
 refine holds_of_ev (rt:=[.agg [.sc,.sl .int,.sl .bool,.sc],.c .sc]) (T:=TT) (Γ:=cs_qk) (an:=an_qk) (N:=21) (c:=Tryz.f94.body.getD .skip) Tryz.func94 (by kernel_rfl) Tryz.ntmps94 (by decide) (by decide) mixed tabOK cok_qk (by kernel_rfl) ?_
 intro vs kk _ hF
 exact i_qk (motive:=fun vs=>Goes (V_qk vs kk)) hF (fun b a hF=>goes_of (e_qk b a kk) (F_qk_S hF))
def K_qbh (kk:AK):Bool→Prop:=(fun a=>kk (.one (.c (.v (.bool a)))) [])
def con_qbh:Con:=⟨[.rd],true,[.c (.sc)],fun vs k=>match vs with
  | [.c (.v (.int .i64 a))]=>F_qbh a (K_qbh k)
  | _=>False,false⟩
def cl_qbh:List (FuncId×Con):=[]
def an_qbh:Ann:=⟨[],[],[],[]⟩
def cs_qbh:Cons:=⟨cl_qbh,[],0,[],[],[]⟩
def fin_qbh (a:Int) (kk:AK):Kt:=fin TT con_qbh Tryz.f153.results.toList [.c .sc] [.c (vi a)] kk
def V_qbh (vs:List A1) (kk:AK):Prop:=ev TT cs_qbh 9 an_qbh (Tryz.f153.body.getD .skip) (st0 con_qbh vs) (fin TT con_qbh Tryz.f153.results.toList [.c .sc] vs kk)
theorem g_qbh (a:Int) (kk:AK) :
  V_qbh [.c (vi a)] kk=G_qbh a (K_qbh kk):=by kernel_rfl
theorem e_qbh (a:Int) (kk:AK) :
  V_qbh [.c (vi a)] kk=S_qbh a (K_qbh kk):=by
 rw [g_qbh]
 rfl
theorem clok_qbh:ConOK Tryz.prog cl_qbh:=consNil
theorem cok_qbh:ConsOK Tryz.prog 9 cs_qbh:=⟨clok_qbh,inlNil,ovNil⟩
theorem i_qbh {vs:List A1} {kk:AK} {motive:List A1→Prop} (h:con_qbh.F vs kk) (H:∀ (a:Int),F_qbh a (K_qbh kk)→motive [.c (vi a)]):motive vs:=by
 unfold con_qbh at h
 dsimp only at h
 split at h
 ·exact H _ h
 ·exact h.elim
theorem h_qbh:Holds Tryz.prog 153 con_qbh:=by
 refine holds_of_ev (rt:=[.c .sc]) (T:=TT) (Γ:=cs_qbh) (an:=an_qbh) (N:=9) (c:=Tryz.f153.body.getD .skip) Tryz.func153 (by kernel_rfl) Tryz.ntmps153 (by decide) (by decide) mixed tabOK cok_qbh (by kernel_rfl) ?_
 intro vs kk _ hF
 exact i_qbh (motive:=fun vs=>Goes (V_qbh vs kk)) hF (fun a hF=>goes_of (e_qbh a kk) (F_qbh_S hF))
def K_qbc (kk:AK):Bool→Prop:=(fun a=>kk (.one (.c (.v (.bool a)))) [])
def con_qbc:Con:=⟨[.rd],true,[.agg [.sc,.sc,.sc]],fun vs k=>match vs with
  | [.agg [.v (.int .i64 c),.v (.int .i64 a),.v (.int .i64 b)]]=>F_qbc c a b (K_qbc k)
  | _=>False,false⟩
def cl_qbc:List (FuncId×Con):=[(87,con_qbd),(153,con_qbh)]
def an_qbc:Ann:=⟨[],[],[],[]⟩
def cs_qbc:Cons:=⟨cl_qbc,[],0,[],[],[]⟩
def fin_qbc (d a b:Int) (kk:AK):Kt:=fin TT con_qbc Tryz.f172.results.toList [.c .sc] [.agg [vi d,vi a,vi b]] kk
def V_qbc (vs:List A1) (kk:AK):Prop:=ev TT cs_qbc 21 an_qbc (Tryz.f172.body.getD .skip) (st0 con_qbc vs) (fin TT con_qbc Tryz.f172.results.toList [.c .sc] vs kk)
theorem g_qbc (c a b:Int) (kk:AK) :
  V_qbc [.agg [vi c,vi a,vi b]] kk=G_qbc c a b (K_qbc kk):=by kernel_rfl
theorem e_qbc (c a b:Int) (kk:AK) :
  V_qbc [.agg [vi c,vi a,vi b]] kk=S_qbc c a b (K_qbc kk):=by
 rw [g_qbc]
 rfl
theorem clok_qbc:ConOK Tryz.prog cl_qbc:=consCons h_qbd (pf (by kernel_rfl)) (consCons h_qbh (pf (by kernel_rfl)) (consNil))
theorem cok_qbc:ConsOK Tryz.prog 21 cs_qbc:=⟨clok_qbc,inlNil,ovNil⟩
theorem i_qbc {vs:List A1} {kk:AK} {motive:List A1→Prop} (h:con_qbc.F vs kk) (H:∀ (c a b:Int),F_qbc c a b (K_qbc kk)→motive [.agg [vi c,vi a,vi b]]):motive vs:=by
 unfold con_qbc at h
 dsimp only at h
 split at h
 ·exact H _ _ _ h
 ·exact h.elim
theorem h_qbc:Holds Tryz.prog 172 con_qbc:=by
 refine holds_of_ev (rt:=[.c .sc]) (T:=TT) (Γ:=cs_qbc) (an:=an_qbc) (N:=21) (c:=Tryz.f172.body.getD .skip) Tryz.func172 (by kernel_rfl) Tryz.ntmps172 (by decide) (by decide) mixed tabOK cok_qbc (by kernel_rfl) ?_
 intro vs kk _ hF
 exact i_qbc (motive:=fun vs=>Goes (V_qbc vs kk)) hF (fun d a b hF=>goes_of (e_qbc d a b kk) (F_qbc_S hF))
def K_qf (kk:AK):Bool→Prop:=(fun a=>kk (.one (.c (.v (.bool a)))) [])
def con_qf:Con:=⟨[.rd,.rd],true,[.agg [.sc,.sc,.sc],.agg [.sc,.sc,.sc]],fun vs k=>match vs with
  | [.agg [.v (.int .i64 f),.v (.int .i64 d),.v (.int .i64 e)],.agg [.v (.int .i64 c),.v (.int .i64 a),.v (.int .i64 b)]]=>F_qf f d e c a b (K_qf k)
  | _=>False,false⟩
def cl_qf:List (FuncId×Con):=[]
def an_qf:Ann:=⟨[],[],[],[]⟩
def cs_qf:Cons:=⟨cl_qf,[],0,[],[],[]⟩
def fin_qf (g e:Int) (f d:Int) (a b:Int) (kk:AK):Kt:=fin TT con_qf Tryz.f174.results.toList [.c .sc] [.agg [vi g,vi e,vi f],.agg [vi d,vi a,vi b]] kk
def V_qf (vs:List A1) (kk:AK):Prop:=ev TT cs_qf 17 an_qf (Tryz.f174.body.getD .skip) (st0 con_qf vs) (fin TT con_qf Tryz.f174.results.toList [.c .sc] vs kk)
theorem g_qf (f d:Int) (e c:Int) (a b:Int) (kk:AK) :
  V_qf [.agg [vi f,vi d,vi e],.agg [vi c,vi a,vi b]] kk=G_qf f d e c a b (K_qf kk):=by kernel_rfl
theorem e_qf (f d:Int) (e c:Int) (a b:Int) (kk:AK) :
  V_qf [.agg [vi f,vi d,vi e],.agg [vi c,vi a,vi b]] kk=S_qf f d e c a b (K_qf kk):=by
 rw [g_qf]
 rfl
theorem clok_qf:ConOK Tryz.prog cl_qf:=consNil
theorem cok_qf:ConsOK Tryz.prog 17 cs_qf:=⟨clok_qf,inlNil,ovNil⟩
theorem i_qf {vs:List A1} {kk:AK} {motive:List A1→Prop} (h:con_qf.F vs kk) (H:∀ (f d:Int) (e c:Int) (a b:Int),F_qf f d e c a b (K_qf kk)→motive [.agg [vi f,vi d,vi e],.agg [vi c,vi a,vi b]]):motive vs:=by
 unfold con_qf at h
 dsimp only at h
 split at h
 ·exact H _ _ _ _ _ _ h
 ·exact h.elim
theorem h_qf:Holds Tryz.prog 174 con_qf:=by
 refine holds_of_ev (rt:=[.c .sc]) (T:=TT) (Γ:=cs_qf) (an:=an_qf) (N:=17) (c:=Tryz.f174.body.getD .skip) Tryz.func174 (by kernel_rfl) Tryz.ntmps174 (by decide) (by decide) mixed tabOK cok_qf (by kernel_rfl) ?_
 intro vs kk _ hF
 exact i_qf (motive:=fun vs=>Goes (V_qf vs kk)) hF (fun g e f d a b hF=>goes_of (e_qf g e f d a b kk) (F_qf_S hF))
def con_qbv:Con:=⟨[.rd,.rd],true,[.c (.sl .iii),.c (.fn)],fun vs k=>match vs with
  | [.c (.ro .iii e),.c (.v (.func (.func 174) ⟨[.agg ⟨[.int .i64 a,.int .i64 b,.int .i64 d]⟩]⟩ ⟨[]⟩))]=>F_qbw e a b d (fun f=>k (.one (.c (.v (.int .i64 f)))) [])
  | _=>False,false⟩
def cl_qbw:List (FuncId×Con):=[(174,con_qf)]
def nm0_qbw:List NStep:=[.keep [0,1,7,8] []]
def an_qbw:Ann:=⟨[],[(2,nm0_qbw)],[],[]⟩
def cs_qbw:Cons:=⟨cl_qbw,[],0,[],[],[]⟩
def can0_qbw (a b d:Int) (g:List (Int×Int×Int)) (e f:Int):St:=⟨[(0,.one (.c (.ro .iii g))),(1,.one (.c (.v (.func (.func 174) ⟨[.agg ⟨[.int .i64 a,.int .i64 b,.int .i64 d]⟩]⟩ ⟨[]⟩)))),(7,.one (.c (vi e))),(8,.one (.c (vi f)))],[]⟩
def K_qbw (kk:AK):Int→Prop:=(fun a=>kk (.one (.c (vi a))) [])
def fin_qbw (e:List (Int×Int×Int)) (a b d:Int) (kk:AK):Kt:=fin TT con_qbv Tryz.f189.results.toList [.c .sc] [.c (.ro .iii e),.c (.v (.func (.func 174) ⟨[.agg ⟨[.int .i64 a,.int .i64 b,.int .i64 d]⟩]⟩ ⟨[]⟩))] kk
def kt0_qbw (kf:Kt):Kt:=blockK 0 (seqK (evF TT cs_qbw 19 an_qbw Tryz.f189 [1,1]) (kf))
def I0_qbw (d:List (Int×Int×Int)) (a b c:Int) (kk:AK):Nat→St→Prop:=iter (evF TT cs_qbw 19 an_qbw Tryz.f189 [1,0,1,0,0]) nm0_qbw (kt0_qbw (fin_qbw d a b c kk))
theorem r0_qbw (e:List (Int×Int×Int)) (a b:Int) (c f:Int) (kk:AK) (n:Nat) (d:Int) :
  I0_qbw e a b c kk (n+1) (can0_qbw a b c e f d)=T0_qbw a b c e f d (K_qbw kk) (fun d=>I0_qbw e a b c kk n (can0_qbw a b c e f d)):=by kernel_rfl
theorem l0_qbw (f:List (Int×Int×Int)) (a b:Int) (c e:Int) (kk:AK):∀ (n:Nat) (d:Int),I0_qbw f a b c kk n (can0_qbw a b c f e d)=L0_qbw a b c f e (K_qbw kk) n d:=by
 intro n
 induction n with
 | zero=>intros; rfl
 | succ n ih=>
  intro d
  rw [r0_qbw f a b c e kk n d]
  simp only [ih] <;> rfl
theorem g_qbw (e:List (Int×Int×Int)) (a b d:Int) (kk:AK) :
  ev TT cs_qbw 19 an_qbw (Tryz.f189.body.getD .skip) (st0 con_qbv [.c (.ro .iii e),.c (.v (.func (.func 174) ⟨[.agg ⟨[.int .i64 a,.int .i64 b,.int .i64 d]⟩]⟩ ⟨[]⟩))]) (fin TT con_qbv Tryz.f189.results.toList [.c .sc] [.c (.ro .iii e),.c (.v (.func (.func 174) ⟨[.agg ⟨[.int .i64 a,.int .i64 b,.int .i64 d]⟩]⟩ ⟨[]⟩))] kk)=G_qbw e a b d (fun a b d e f g=>∃ j,I0_qbw e a b d kk j (can0_qbw a b d e f g)):=by kernel_rfl
theorem e_qbw (e:List (Int×Int×Int)) (a b d:Int) (kk:AK) :
  ev TT cs_qbw 19 an_qbw (Tryz.f189.body.getD .skip) (st0 con_qbv [.c (.ro .iii e),.c (.v (.func (.func 174) ⟨[.agg ⟨[.int .i64 a,.int .i64 b,.int .i64 d]⟩]⟩ ⟨[]⟩))]) (fin TT con_qbv Tryz.f189.results.toList [.c .sc] [.c (.ro .iii e),.c (.v (.func (.func 174) ⟨[.agg ⟨[.int .i64 a,.int .i64 b,.int .i64 d]⟩]⟩ ⟨[]⟩))] kk)=S_qbw e a b d (K_qbw kk):=by
 rw [g_qbw]
 have hi0:(fun a b d e f g=>∃ j,I0_qbw e a b d kk j (can0_qbw a b d e f g))=(fun a b d e f g=>∃ j,L0_qbw a b d e f (K_qbw kk) j g):=by
  funext a b d e f g
  refine congrArg Exists (funext fun j=>?_)
  rw [l0_qbw e a b d f kk j g]
 rw [hi0]
 rfl
theorem clok_qbw:ConOK Tryz.prog cl_qbw:=consCons h_qf (pf (by kernel_rfl)) (consNil)
theorem cok_qbw:ConsOK Tryz.prog 19 cs_qbw:=⟨clok_qbw,inlNil,ovNil⟩
theorem i_qbw {vs:List A1} {kk:AK} {motive:List A1→Prop} (h:con_qbv.F vs kk) (H:∀ (e:List (Int×Int×Int)) (a b d:Int),F_qbw e a b d (K_qbw kk)→motive [.c (.ro .iii e),.c (.v (.func (.func 174) ⟨[.agg ⟨[.int .i64 a,.int .i64 b,.int .i64 d]⟩]⟩ ⟨[]⟩))]):motive vs:=by
 unfold con_qbv at h
 dsimp only at h
 split at h
 ·exact H _ _ _ _ h
 ·exact h.elim
theorem h_qbv:Holds Tryz.prog 189 con_qbv:=by
 refine holds_of_ev (rt:=[.c .sc]) (T:=TT) (Γ:=cs_qbw) (an:=an_qbw) (N:=19) (c:=Tryz.f189.body.getD .skip) Tryz.func189 (by kernel_rfl) Tryz.ntmps189 (by decide) (by decide) mixed tabOK cok_qbw (by kernel_rfl) ?_
 intro vs kk _ hF
 exact i_qbw (motive:=fun vs=>Goes (ev TT cs_qbw 19 an_qbw (Tryz.f189.body.getD .skip) (st0 con_qbv vs) (fin TT con_qbv Tryz.f189.results.toList [.c .sc] vs kk))) hF (fun e a b d hF=>goes_of (e_qbw e a b d kk) (F_qbw_S hF))
def con_qbr:Con:=⟨[.rd,.rd],true,[.c (.sl .iii),.c (.fn)],fun vs k=>match vs with
  | [.c (.ro .iii e),.c (.v (.func (.func 174) ⟨[.agg ⟨[.int .i64 a,.int .i64 b,.int .i64 d]⟩]⟩ ⟨[]⟩))]=>F_qbs e a b d (fun f=>k (.one (.c (.v (.bool f)))) [])
  | _=>False,false⟩
def cl_qbs:List (FuncId×Con):=[(189,con_qbv)]
def an_qbs:Ann:=⟨[],[],[],[]⟩
def cs_qbs:Cons:=⟨cl_qbs,[],0,[],[],[]⟩
def K_qbs (kk:AK):Bool→Prop:=(fun a=>kk (.one (.c (.v (.bool a)))) [])
def fin_qbs (e:List (Int×Int×Int)) (a b d:Int) (kk:AK):Kt:=fin TT con_qbr Tryz.f173.results.toList [.c .sc] [.c (.ro .iii e),.c (.v (.func (.func 174) ⟨[.agg ⟨[.int .i64 a,.int .i64 b,.int .i64 d]⟩]⟩ ⟨[]⟩))] kk
theorem g_qbs (e:List (Int×Int×Int)) (a b d:Int) (kk:AK) :
  ev TT cs_qbs 9 an_qbs (Tryz.f173.body.getD .skip) (st0 con_qbr [.c (.ro .iii e),.c (.v (.func (.func 174) ⟨[.agg ⟨[.int .i64 a,.int .i64 b,.int .i64 d]⟩]⟩ ⟨[]⟩))]) (fin TT con_qbr Tryz.f173.results.toList [.c .sc] [.c (.ro .iii e),.c (.v (.func (.func 174) ⟨[.agg ⟨[.int .i64 a,.int .i64 b,.int .i64 d]⟩]⟩ ⟨[]⟩))] kk)=G_qbs e a b d (K_qbs kk):=by kernel_rfl
theorem e_qbs (e:List (Int×Int×Int)) (a b d:Int) (kk:AK) :
  ev TT cs_qbs 9 an_qbs (Tryz.f173.body.getD .skip) (st0 con_qbr [.c (.ro .iii e),.c (.v (.func (.func 174) ⟨[.agg ⟨[.int .i64 a,.int .i64 b,.int .i64 d]⟩]⟩ ⟨[]⟩))]) (fin TT con_qbr Tryz.f173.results.toList [.c .sc] [.c (.ro .iii e),.c (.v (.func (.func 174) ⟨[.agg ⟨[.int .i64 a,.int .i64 b,.int .i64 d]⟩]⟩ ⟨[]⟩))] kk)=S_qbs e a b d (K_qbs kk):=by
 rw [g_qbs]
 rfl
theorem clok_qbs:ConOK Tryz.prog cl_qbs:=consCons h_qbv (pf (by kernel_rfl)) (consNil)
theorem cok_qbs:ConsOK Tryz.prog 9 cs_qbs:=⟨clok_qbs,inlNil,ovNil⟩
theorem i_qbs {vs:List A1} {kk:AK} {motive:List A1→Prop} (h:con_qbr.F vs kk) (H:∀ (e:List (Int×Int×Int)) (a b d:Int),F_qbs e a b d (K_qbs kk)→motive [.c (.ro .iii e),.c (.v (.func (.func 174) ⟨[.agg ⟨[.int .i64 a,.int .i64 b,.int .i64 d]⟩]⟩ ⟨[]⟩))]):motive vs:=by
 unfold con_qbr at h
 dsimp only at h
 split at h
 ·exact H _ _ _ _ h
 ·exact h.elim
theorem h_qbr:Holds Tryz.prog 173 con_qbr:=by
 refine holds_of_ev (rt:=[.c .sc]) (T:=TT) (Γ:=cs_qbs) (an:=an_qbs) (N:=9) (c:=Tryz.f173.body.getD .skip) Tryz.func173 (by kernel_rfl) Tryz.ntmps173 (by decide) (by decide) mixed tabOK cok_qbs (by kernel_rfl) ?_
 intro vs kk _ hF
 exact i_qbs (motive:=fun vs=>Goes (ev TT cs_qbs 9 an_qbs (Tryz.f173.body.getD .skip) (st0 con_qbr vs) (fin TT con_qbr Tryz.f173.results.toList [.c .sc] vs kk))) hF (fun e a b d hF=>goes_of (e_qbs e a b d kk) (F_qbs_S hF))
def K_qw (kk:AK):Bool→Prop:=(fun a=>kk (.one (.c (.v (.bool a)))) [])
def con_qw:Con:=⟨[.rd,.rd],true,[.c (.sl .iii),.c (.sc)],fun vs k=>match vs with
  | [.c (.ro .iii a),.c (.v (.int .i64 b))]=>F_qw a b (K_qw k)
  | _=>False,false⟩
def cl_qw:List (FuncId×Con):=[(120,con_qbf),(172,con_qbc),(173,con_qbr)]
def nm0_qw:List NStep:=[.keep [0,16,17,18] []]
def an_qw:Ann:=⟨[(6,.take 0 (.alt 1 (.take 2 (.take 3 (.take 4 (.take 5 (.take 6 (.take 7 (.take 8 (.alt 9 (.take 10 (.done)) (.none))))))))) (.none)),[96])],[(4,nm0_qw)],[],[]⟩
def cs_qw:Cons:=⟨cl_qw,[],0,[],[],[]⟩
def can0_qw (a:List (Int×Int×Int)) (b d:Int):St:=⟨[(0,.one (.c (.ro .iii a))),(16,.one (.c (.ro .iii a))),(17,.one (.c (vi b))),(18,.one (.c (vi d)))],[]⟩
def fin_qw (a:List (Int×Int×Int)) (b:Int) (kk:AK):Kt:=fin TT con_qw Tryz.f152.results.toList [.c .sc] [.c (.ro .iii a),.c (vi b)] kk
def V_qw (vs:List A1) (kk:AK):Prop:=ev TT cs_qw 35 an_qw (Tryz.f152.body.getD .skip) (st0 con_qw vs) (fin TT con_qw Tryz.f152.results.toList [.c .sc] vs kk)
def kt0_qw (kf:Kt):Kt:=blockK 0 (seqK (evF TT cs_qw 35 an_qw Tryz.f152 [1,1,1]) (kf))
def I0_qw (a:List (Int×Int×Int)) (b:Int) (kk:AK):Nat→St→Prop:=iter (evF TT cs_qw 35 an_qw Tryz.f152 [1,1,0,1,0,0]) nm0_qw (kt0_qw (fin_qw a b kk))
theorem r0_qw (a:List (Int×Int×Int)) (d c:Int) (kk:AK) (n:Nat) (b:Int) :
  I0_qw a d kk (n+1) (can0_qw a c b)=T0_qw a c b (K_qw kk) (fun b=>I0_qw a d kk n (can0_qw a c b)):=by kernel_rfl
theorem l0_qw (a:List (Int×Int×Int)) (d c:Int) (kk:AK):∀ (n:Nat) (b:Int),I0_qw a d kk n (can0_qw a c b)=L0_qw a c (K_qw kk) n b:=by
 intro n
 induction n with
 | zero=>intros; rfl
 | succ n ih=>
  intro b
  rw [r0_qw a d c kk n b]
  have hb:(fun b=>I0_qw a d kk n (can0_qw a c b))=L0_qw a c (K_qw kk) n:=by
   funext b; exact ih b
  rw [hb]
  rw [T0_qw_eq]
  rfl
theorem g_qw (a:List (Int×Int×Int)) (b:Int) (kk:AK) :
  V_qw [.c (.ro .iii a),.c (vi b)] kk=G_qw a b (K_qw kk) (fun a d e=>∃ j,I0_qw a b kk j (can0_qw a d e)):=by kernel_rfl
theorem e_qw (a:List (Int×Int×Int)) (b:Int) (kk:AK) :
  V_qw [.c (.ro .iii a),.c (vi b)] kk=S_qw a b (K_qw kk):=by
 rw [g_qw]
 have hi0:(fun a d e=>∃ j,I0_qw a b kk j (can0_qw a d e))=(fun a d e=>∃ j,L0_qw a d (K_qw kk) j e):=by
  funext a d e
  refine congrArg Exists (funext fun j=>?_)
  rw [l0_qw a b d kk j e]
 rw [hi0]
 rfl
theorem clok_qw:ConOK Tryz.prog cl_qw:=consCons h_qbf (pf (by kernel_rfl)) (consCons h_qbc (pf (by kernel_rfl)) (consCons h_qbr (pf (by kernel_rfl)) (consNil)))
theorem cok_qw:ConsOK Tryz.prog 35 cs_qw:=⟨clok_qw,inlNil,ovNil⟩
theorem i_qw {vs:List A1} {kk:AK} {motive:List A1→Prop} (h:con_qw.F vs kk) (H:∀ (a:List (Int×Int×Int)) (b:Int),F_qw a b (K_qw kk)→motive [.c (.ro .iii a),.c (vi b)]):motive vs:=by
 unfold con_qw at h
 dsimp only at h
 split at h
 ·exact H _ _ h
 ·exact h.elim
theorem h_qw:Holds Tryz.prog 152 con_qw:=by
 refine holds_of_ev (rt:=[.c .sc]) (T:=TT) (Γ:=cs_qw) (an:=an_qw) (N:=35) (c:=Tryz.f152.body.getD .skip) Tryz.func152 (by kernel_rfl) Tryz.ntmps152 (by decide) (by decide) mixed tabOK cok_qw (by kernel_rfl) ?_
 intro vs kk _ hF
 exact i_qw (motive:=fun vs=>Goes (V_qw vs kk)) hF (fun a b hF=>goes_of (e_qw a b kk) (F_qw_S hF))
def K_qc (kk:AK):Bool→Prop:=(fun a=>kk (.one (.c (.v (.bool a)))) [])
def con_qc:Con:=⟨[.rd],true,[.c (.sc)],fun vs k=>match vs with
  | [.c (.v (.int .i64 a))]=>F_qc a (K_qc k)
  | _=>False,false⟩
def cl_qc:List (FuncId×Con):=[]
def an_qc:Ann:=⟨[],[],[],[]⟩
def cs_qc:Cons:=⟨cl_qc,[],0,[],[],[]⟩
def fin_qc (a:Int) (kk:AK):Kt:=fin TT con_qc Tryz.f190.results.toList [.c .sc] [.c (vi a)] kk
def V_qc (vs:List A1) (kk:AK):Prop:=ev TT cs_qc 6 an_qc (Tryz.f190.body.getD .skip) (st0 con_qc vs) (fin TT con_qc Tryz.f190.results.toList [.c .sc] vs kk)
theorem g_qc (a:Int) (kk:AK) :
  V_qc [.c (vi a)] kk=G_qc a (K_qc kk):=by kernel_rfl
theorem e_qc (a:Int) (kk:AK) :
  V_qc [.c (vi a)] kk=S_qc a (K_qc kk):=by
 rw [g_qc]
 rfl
theorem clok_qc:ConOK Tryz.prog cl_qc:=consNil
theorem cok_qc:ConsOK Tryz.prog 6 cs_qc:=⟨clok_qc,inlNil,ovNil⟩
theorem i_qc {vs:List A1} {kk:AK} {motive:List A1→Prop} (h:con_qc.F vs kk) (H:∀ (a:Int),F_qc a (K_qc kk)→motive [.c (vi a)]):motive vs:=by
 unfold con_qc at h
 dsimp only at h
 split at h
 ·exact H _ h
 ·exact h.elim
theorem h_qc:Holds Tryz.prog 190 con_qc:=by
 refine holds_of_ev (rt:=[.c .sc]) (T:=TT) (Γ:=cs_qc) (an:=an_qc) (N:=6) (c:=Tryz.f190.body.getD .skip) Tryz.func190 (by kernel_rfl) Tryz.ntmps190 (by decide) (by decide) mixed tabOK cok_qc (by kernel_rfl) ?_
 intro vs kk _ hF
 exact i_qc (motive:=fun vs=>Goes (V_qc vs kk)) hF (fun a hF=>goes_of (e_qc a kk) (F_qc_S hF))
def K_qa (kk:AK):Int→Prop:=(fun a=>kk (.one (.c (vi a))) [])
def con_qa:Con:=⟨[.rd,.rd],true,[.c (.sc),.c (.sc)],fun vs k=>match vs with
  | [.c (.v (.int .i64 a)),.c (.v (.int .i64 b))]=>F_qa a b (K_qa k)
  | _=>False,false⟩
def cl_qa:List (FuncId×Con):=[(190,con_qc)]
def an_qa:Ann:=⟨[],[],[],[]⟩
def cs_qa:Cons:=⟨cl_qa,[],0,[],[],[]⟩
def fin_qa (a b:Int) (kk:AK):Kt:=fin TT con_qa Tryz.f178.results.toList [.c .sc] [.c (vi a),.c (vi b)] kk
def V_qa (vs:List A1) (kk:AK):Prop:=ev TT cs_qa 20 an_qa (Tryz.f178.body.getD .skip) (st0 con_qa vs) (fin TT con_qa Tryz.f178.results.toList [.c .sc] vs kk)
theorem g_qa (a b:Int) (kk:AK) :
  V_qa [.c (vi a),.c (vi b)] kk=G_qa a b (K_qa kk):=by kernel_rfl
theorem e_qa (a b:Int) (kk:AK) :
  V_qa [.c (vi a),.c (vi b)] kk=S_qa a b (K_qa kk):=by
 rw [g_qa]
 rfl
theorem clok_qa:ConOK Tryz.prog cl_qa:=consCons h_qc (pf (by kernel_rfl)) (consNil)
theorem cok_qa:ConsOK Tryz.prog 20 cs_qa:=⟨clok_qa,inlNil,ovNil⟩
theorem i_qa {vs:List A1} {kk:AK} {motive:List A1→Prop} (h:con_qa.F vs kk) (H:∀ (a b:Int),F_qa a b (K_qa kk)→motive [.c (vi a),.c (vi b)]):motive vs:=by
 unfold con_qa at h
 dsimp only at h
 split at h
 ·exact H _ _ h
 ·exact h.elim
theorem h_qa:Holds Tryz.prog 178 con_qa:=by
 refine holds_of_ev (rt:=[.c .sc]) (T:=TT) (Γ:=cs_qa) (an:=an_qa) (N:=20) (c:=Tryz.f178.body.getD .skip) Tryz.func178 (by kernel_rfl) Tryz.ntmps178 (by decide) (by decide) mixed tabOK cok_qa (by kernel_rfl) ?_
 intro vs kk _ hF
 exact i_qa (motive:=fun vs=>Goes (V_qa vs kk)) hF (fun a b hF=>goes_of (e_qa a b kk) (F_qa_S hF))
def K_qb (kk:AK):Int→Prop:=(fun a=>kk (.one (.c (vi a))) [])
def con_qb:Con:=⟨[.rd],true,[.c (.sl .int)],fun vs k=>match vs with
  | [.c (.ro .int a)]=>F_qb a (K_qb k)
  | _=>False,false⟩
def cl_qb:List (FuncId×Con):=[]
def nm0_qb:List NStep:=[.keep [3,6,7,8] []]
def an_qb:Ann:=⟨[],[(3,nm0_qb)],[],[]⟩
def cs_qb:Cons:=⟨cl_qb,[],0,[],[],[]⟩
def can0_qb (a:LI) (b d:Int):St:=⟨[(3,.one (.c (vi 0))),(6,.one (.c (.ro .int a))),(7,.one (.c (vi b))),(8,.one (.c (vi d)))],[]⟩
def fin_qb (a:LI) (kk:AK):Kt:=fin TT con_qb Tryz.f177.results.toList [.c .sc] [.c (.ro .int a)] kk
def V_qb (vs:List A1) (kk:AK):Prop:=ev TT cs_qb 18 an_qb (Tryz.f177.body.getD .skip) (st0 con_qb vs) (fin TT con_qb Tryz.f177.results.toList [.c .sc] vs kk)
def kt0_qb (kf:Kt):Kt:=blockK 0 (seqK (evF TT cs_qb 18 an_qb Tryz.f177 [1,1,1]) (kf))
def I0_qb (a:LI) (kk:AK):Nat→St→Prop:=iter (evF TT cs_qb 18 an_qb Tryz.f177 [1,1,0,1,0,0]) nm0_qb (kt0_qb (fin_qb a kk))
theorem r0_qb (a:LI) (c:Int) (kk:AK) (n:Nat) (b:Int) :
  I0_qb a kk (n+1) (can0_qb a c b)=T0_qb a c b (K_qb kk) (fun b=>I0_qb a kk n (can0_qb a c b)):=by kernel_rfl
theorem l0_qb (a:LI) (c:Int) (kk:AK):∀ (n:Nat) (b:Int),I0_qb a kk n (can0_qb a c b)=L0_qb a c (K_qb kk) n b:=by
 intro n
 induction n with
 | zero=>intros; rfl
 | succ n ih=>
  intro b
  rw [r0_qb a c kk n b]
  simp only [ih] <;> rfl
theorem g_qb (a:LI) (kk:AK) :
  V_qb [.c (.ro .int a)] kk=G_qb a (fun a b d=>∃ j,I0_qb a kk j (can0_qb a b d)):=by kernel_rfl
theorem e_qb (a:LI) (kk:AK) :
  V_qb [.c (.ro .int a)] kk=S_qb a (K_qb kk):=by
 rw [g_qb]
 have hi0:(fun a b d=>∃ j,I0_qb a kk j (can0_qb a b d))=(fun a b d=>∃ j,L0_qb a b (K_qb kk) j d):=by
  funext a b d
  refine congrArg Exists (funext fun j=>?_)
  rw [l0_qb a b kk j d]
 rw [hi0]
 rfl
theorem clok_qb:ConOK Tryz.prog cl_qb:=consNil
theorem cok_qb:ConsOK Tryz.prog 18 cs_qb:=⟨clok_qb,inlNil,ovNil⟩
theorem i_qb {vs:List A1} {kk:AK} {motive:List A1→Prop} (h:con_qb.F vs kk) (H:∀ (a:LI),F_qb a (K_qb kk)→motive [.c (.ro .int a)]):motive vs:=by
 unfold con_qb at h
 dsimp only at h
 split at h
 ·exact H _ h
 ·exact h.elim
theorem h_qb:Holds Tryz.prog 177 con_qb:=by
 refine holds_of_ev (rt:=[.c .sc]) (T:=TT) (Γ:=cs_qb) (an:=an_qb) (N:=18) (c:=Tryz.f177.body.getD .skip) Tryz.func177 (by kernel_rfl) Tryz.ntmps177 (by decide) (by decide) mixed tabOK cok_qb (by kernel_rfl) ?_
 intro vs kk _ hF
 exact i_qb (motive:=fun vs=>Goes (V_qb vs kk)) hF (fun a hF=>goes_of (e_qb a kk) (F_qb_S hF))
def K_qan (kk:AK):Int→Prop:=(fun a=>kk (.one (.c (vi a))) [])
def con_qan:Con:=⟨[.rd,.rd],true,[.agg [.sc,.sc,.sc],.agg [.sc,.sc,.sc]],fun vs k=>match vs with
  | [.agg [.v (.int .i64 e),.v (.int .i64 a),.v (.int .i64 c)],.agg [.v (.int .i64 f),.v (.int .i64 b),.v (.int .i64 d)]]=>F_qan e a c f b d (K_qan k)
  | _=>False,false⟩
def cl_qan:List (FuncId×Con):=[(177,con_qb),(178,con_qa)]
def an_qan:Ann:=⟨[(1,.take 0 (.take 1 (.take 2 (.take 3 (.take 5 (.take 6 (.take 7 (.take 8 (.alt 4 (.alt 9 (.alt 10 (.alt 11 (.take 12 (.done)) (.none)) (.none)) (.none)) (.none))))))))),[32,48])],[],[],[]⟩
def cs_qan:Cons:=⟨cl_qan,[],0,[],[],[]⟩
def fin_qan (f a:Int) (d g:Int) (b e:Int) (kk:AK):Kt:=fin TT con_qan Tryz.f176.results.toList [.c .sc] [.agg [vi f,vi a,vi d],.agg [vi g,vi b,vi e]] kk
def V_qan (vs:List A1) (kk:AK):Prop:=ev TT cs_qan 17 an_qan (Tryz.f176.body.getD .skip) (st0 con_qan vs) (fin TT con_qan Tryz.f176.results.toList [.c .sc] vs kk)
theorem g_qan (e a:Int) (c f:Int) (b d:Int) (kk:AK) :
  V_qan [.agg [vi e,vi a,vi c],.agg [vi f,vi b,vi d]] kk=G_qan e a c f b d (K_qan kk):=by kernel_rfl
theorem e_qan (e a:Int) (c f:Int) (b d:Int) (kk:AK) :
  V_qan [.agg [vi e,vi a,vi c],.agg [vi f,vi b,vi d]] kk=S_qan e a c f b d (K_qan kk):=by
 rw [g_qan]
 rw [G_qan_eq]
 rfl
theorem clok_qan:ConOK Tryz.prog cl_qan:=consCons h_qb (pf (by kernel_rfl)) (consCons h_qa (pf (by kernel_rfl)) (consNil))
theorem cok_qan:ConsOK Tryz.prog 17 cs_qan:=⟨clok_qan,inlNil,ovNil⟩
theorem i_qan {vs:List A1} {kk:AK} {motive:List A1→Prop} (h:con_qan.F vs kk) (H:∀ (e a:Int) (c f:Int) (b d:Int),F_qan e a c f b d (K_qan kk)→motive [.agg [vi e,vi a,vi c],.agg [vi f,vi b,vi d]]):motive vs:=by
 unfold con_qan at h
 dsimp only at h
 split at h
 ·exact H _ _ _ _ _ _ h
 ·exact h.elim
theorem h_qan:Holds Tryz.prog 176 con_qan:=by
 refine holds_of_ev (rt:=[.c .sc]) (T:=TT) (Γ:=cs_qan) (an:=an_qan) (N:=17) (c:=Tryz.f176.body.getD .skip) Tryz.func176 (by kernel_rfl) Tryz.ntmps176 (by decide) (by decide) mixed tabOK cok_qan (by kernel_rfl) ?_
 intro vs kk _ hF
 exact i_qan (motive:=fun vs=>Goes (V_qan vs kk)) hF (fun f a d g b e hF=>goes_of (e_qan f a d g b e kk) (F_qan_S hF))
def con_qbz:Con:=⟨[.rd,.rd],true,[.c (.sl .iii),.c (.fn)],fun vs k=>match vs with
  | [.c (.ro .iii a),.c (.v (.func (.func 176) ⟨[]⟩ ⟨[]⟩))]=>F_qca a (fun b d e=>k (.one (.agg [.v (.int .i64 b),.v (.int .i64 d),.v (.int .i64 e)])) [])
  | _=>False,false⟩
def cl_qca:List (FuncId×Con):=[(176,con_qan)]
def nm0_qca:List NStep:=[.keep [0,1,4,5,6] [64,80]]
def an_qca:Ann:=⟨[(7,.take 0 (.take 1 (.take 2 (.take 3 (.take 4 (.take 5 (.alt 6 (.take 7 (.done)) (.none))))))),[80])],[(5,nm0_qca)],[],[]⟩
def cs_qca:Cons:=⟨cl_qca,[],0,[],[],[]⟩
def can0_qca (f:List (Int×Int×Int)) (e a:Int) (b d:Int):St:=⟨[(0,.one (.c (.ro .iii f))),(1,.one (.c (.v (.func (.func 176) ⟨[]⟩ ⟨[]⟩)))),(4,.one (.c (.pb 64 0))),(5,.one (.c (.pb 80 0))),(6,.one (.c (vi e)))],[(64,.box [vi 0,vi 0,vi 0]),(80,.box [vi a,vi b,vi d])]⟩
def K_qca (kk:AK):Int→Int→Int→Prop:=(fun a b c=>kk (.one (.agg [vi a,vi b,vi c])) [])
def fin_qca (a:List (Int×Int×Int)) (kk:AK):Kt:=fin TT con_qbz Tryz.f175.results.toList [.agg [.sc,.sc,.sc]] [.c (.ro .iii a),.c (.v (.func (.func 176) ⟨[]⟩ ⟨[]⟩))] kk
def kt0_qca (kf:Kt):Kt:=blockK 0 (seqK (evF TT cs_qca 33 an_qca Tryz.f175 [1,1,1,1]) (kf))
def I0_qca (a:List (Int×Int×Int)) (kk:AK):Nat→St→Prop:=iter (evF TT cs_qca 33 an_qca Tryz.f175 [1,1,1,0,1,0,0]) nm0_qca (kt0_qca (fin_qca a kk))
theorem r0_qca (e:List (Int×Int×Int)) (kk:AK) (n:Nat) (d a:Int) (b c:Int) :
  I0_qca e kk (n+1) (can0_qca e d a b c)=T0_qca e d a b c (K_qca kk) (fun d a b c=>I0_qca e kk n (can0_qca e d a b c)):=by kernel_rfl
theorem l0_qca (e:List (Int×Int×Int)) (kk:AK):∀ (n:Nat) (d a:Int) (b c:Int),I0_qca e kk n (can0_qca e d a b c)=L0_qca e (K_qca kk) n d a b c:=by
 intro n
 induction n with
 | zero=>intros; rfl
 | succ n ih=>
  intro d a b c
  rw [r0_qca e kk n d a b c]
  have hb:(fun d a b c=>I0_qca e kk n (can0_qca e d a b c))=L0_qca e (K_qca kk) n:=by
   funext d a b c; exact ih d a b c
  rw [hb]
  rw [T0_qca_eq]
  rfl
theorem g_qca (a:List (Int×Int×Int)) (kk:AK) :
  ev TT cs_qca 33 an_qca (Tryz.f175.body.getD .skip) (st0 con_qbz [.c (.ro .iii a),.c (.v (.func (.func 176) ⟨[]⟩ ⟨[]⟩))]) (fin TT con_qbz Tryz.f175.results.toList [.agg [.sc,.sc,.sc]] [.c (.ro .iii a),.c (.v (.func (.func 176) ⟨[]⟩ ⟨[]⟩))] kk)=G_qca a (fun a f b d e=>∃ j,I0_qca a kk j (can0_qca a f b d e)):=by kernel_rfl
theorem e_qca (e:List (Int×Int×Int)) (kk:AK) :
  ev TT cs_qca 33 an_qca (Tryz.f175.body.getD .skip) (st0 con_qbz [.c (.ro .iii e),.c (.v (.func (.func 176) ⟨[]⟩ ⟨[]⟩))]) (fin TT con_qbz Tryz.f175.results.toList [.agg [.sc,.sc,.sc]] [.c (.ro .iii e),.c (.v (.func (.func 176) ⟨[]⟩ ⟨[]⟩))] kk)=S_qca e (K_qca kk):=by
 rw [g_qca]
 have hi0:(fun e f a b d=>∃ j,I0_qca e kk j (can0_qca e f a b d))=(fun e f a b d=>∃ j,L0_qca e (K_qca kk) j f a b d):=by
  funext e f a b d
  refine congrArg Exists (funext fun j=>?_)
  rw [l0_qca e kk j f a b d]
 rw [hi0]
 rfl
theorem clok_qca:ConOK Tryz.prog cl_qca:=consCons h_qan (pf (by kernel_rfl)) (consNil)
theorem cok_qca:ConsOK Tryz.prog 33 cs_qca:=⟨clok_qca,inlNil,ovNil⟩
theorem i_qca {vs:List A1} {kk:AK} {motive:List A1→Prop} (h:con_qbz.F vs kk) (H:∀ (a:List (Int×Int×Int)),F_qca a (K_qca kk)→motive [.c (.ro .iii a),.c (.v (.func (.func 176) ⟨[]⟩ ⟨[]⟩))]):motive vs:=by
 unfold con_qbz at h
 dsimp only at h
 split at h
 ·exact H _ h
 ·exact h.elim
theorem h_qbz:Holds Tryz.prog 175 con_qbz:=by
 refine holds_of_ev (rt:=[.agg [.sc,.sc,.sc]]) (T:=TT) (Γ:=cs_qca) (an:=an_qca) (N:=33) (c:=Tryz.f175.body.getD .skip) Tryz.func175 (by kernel_rfl) Tryz.ntmps175 (by decide) (by decide) mixed tabOK cok_qca (by kernel_rfl) ?_
 intro vs kk _ hF
 exact i_qca (motive:=fun vs=>Goes (ev TT cs_qca 33 an_qca (Tryz.f175.body.getD .skip) (st0 con_qbz vs) (fin TT con_qbz Tryz.f175.results.toList [.agg [.sc,.sc,.sc]] vs kk))) hF (fun a hF=>goes_of (e_qca a kk) (F_qca_S hF))
def K_qam (kk:AK):Int→Int→Int→Prop:=(fun a b c=>kk (.one (.agg [vi a,vi b,vi c])) [])
def con_qam:Con:=⟨[.rd],true,[.c (.sl .iii)],fun vs k=>match vs with
  | [.c (.ro .iii a)]=>F_qam a (K_qam k)
  | _=>False,false⟩
def cl_qam:List (FuncId×Con):=[(175,con_qbz)]
def an_qam:Ann:=⟨[],[],[],[]⟩
def cs_qam:Cons:=⟨cl_qam,[],0,[],[],[]⟩
def fin_qam (a:List (Int×Int×Int)) (kk:AK):Kt:=fin TT con_qam Tryz.f155.results.toList [.agg [.sc,.sc,.sc]] [.c (.ro .iii a)] kk
def V_qam (vs:List A1) (kk:AK):Prop:=ev TT cs_qam 5 an_qam (Tryz.f155.body.getD .skip) (st0 con_qam vs) (fin TT con_qam Tryz.f155.results.toList [.agg [.sc,.sc,.sc]] vs kk)
theorem g_qam (a:List (Int×Int×Int)) (kk:AK) :
  V_qam [.c (.ro .iii a)] kk=G_qam a (K_qam kk):=by kernel_rfl
theorem e_qam (a:List (Int×Int×Int)) (kk:AK) :
  V_qam [.c (.ro .iii a)] kk=S_qam a (K_qam kk):=by
 rw [g_qam]
 rfl
theorem clok_qam:ConOK Tryz.prog cl_qam:=consCons h_qbz (pf (by kernel_rfl)) (consNil)
theorem cok_qam:ConsOK Tryz.prog 5 cs_qam:=⟨clok_qam,inlNil,ovNil⟩
theorem i_qam {vs:List A1} {kk:AK} {motive:List A1→Prop} (h:con_qam.F vs kk) (H:∀ (a:List (Int×Int×Int)),F_qam a (K_qam kk)→motive [.c (.ro .iii a)]):motive vs:=by
 unfold con_qam at h
 dsimp only at h
 split at h
 ·exact H _ h
 ·exact h.elim
theorem h_qam:Holds Tryz.prog 155 con_qam:=by
 refine holds_of_ev (rt:=[.agg [.sc,.sc,.sc]]) (T:=TT) (Γ:=cs_qam) (an:=an_qam) (N:=5) (c:=Tryz.f155.body.getD .skip) Tryz.func155 (by kernel_rfl) Tryz.ntmps155 (by decide) (by decide) mixed tabOK cok_qam (by kernel_rfl) ?_
 intro vs kk _ hF
 exact i_qam (motive:=fun vs=>Goes (V_qam vs kk)) hF (fun a hF=>goes_of (e_qam a kk) (F_qam_S hF))
def K_qbx (kk:AK):Int→Prop:=(fun a=>kk (.one (.c (vi a))) [])
def con_qbx:Con:=⟨[.rd,.rd],true,[.c (.sl .iii),.agg [.sc,.sc,.sc]],fun vs k=>match vs with
  | [.c (.ro .iii e),.agg [.v (.int .i64 d),.v (.int .i64 a),.v (.int .i64 b)]]=>F_qbx e d a b (K_qbx k)
  | _=>False,false⟩
def cl_qbx:List (FuncId×Con):=[]
def nm0_qbx:List NStep:=[.keep [0,3,7,8] [48]]
def an_qbx:Ann:=⟨[(4,.take 0 (.take 1 (.take 2 (.take 3 (.take 4 (.take 5 (.done)))))),[48])],[(2,nm0_qbx)],[],[]⟩
def cs_qbx:Cons:=⟨cl_qbx,[],0,[],[],[]⟩
def can0_qbx (g:List (Int×Int×Int)) (a d:Int) (b e f:Int):St:=⟨[(0,.one (.c (.ro .iii g))),(3,.one (.c (.pb 48 0))),(7,.one (.c (vi e))),(8,.one (.c (vi f)))],[(48,.box [vi d,vi a,vi b])]⟩
def fin_qbx (e:List (Int×Int×Int)) (d a b:Int) (kk:AK):Kt:=fin TT con_qbx Tryz.f154.results.toList [.c .sc] [.c (.ro .iii e),.agg [vi d,vi a,vi b]] kk
def V_qbx (vs:List A1) (kk:AK):Prop:=ev TT cs_qbx 19 an_qbx (Tryz.f154.body.getD .skip) (st0 con_qbx vs) (fin TT con_qbx Tryz.f154.results.toList [.c .sc] vs kk)
def kt0_qbx (kf:Kt):Kt:=blockK 0 (seqK (evF TT cs_qbx 19 an_qbx Tryz.f154 [1,1]) (kf))
def I0_qbx (d:List (Int×Int×Int)) (c a b:Int) (kk:AK):Nat→St→Prop:=iter (evF TT cs_qbx 19 an_qbx Tryz.f154 [1,0,1,0,0]) nm0_qbx (kt0_qbx (fin_qbx d c a b kk))
theorem r0_qbx (e:List (Int×Int×Int)) (c a:Int) (b f:Int) (kk:AK) (n:Nat) (d:Int) :
  I0_qbx e c a b kk (n+1) (can0_qbx e a c b f d)=T0_qbx e a c b f d (K_qbx kk) (fun d=>I0_qbx e c a b kk n (can0_qbx e a c b f d)):=by kernel_rfl
theorem l0_qbx (f:List (Int×Int×Int)) (c a:Int) (b e:Int) (kk:AK):∀ (n:Nat) (d:Int),I0_qbx f c a b kk n (can0_qbx f a c b e d)=L0_qbx f a c b e (K_qbx kk) n d:=by
 intro n
 induction n with
 | zero=>intros; rfl
 | succ n ih=>
  intro d
  rw [r0_qbx f c a b e kk n d]
  simp only [ih] <;> rfl
theorem g_qbx (e:List (Int×Int×Int)) (d a b:Int) (kk:AK) :
  V_qbx [.c (.ro .iii e),.agg [vi d,vi a,vi b]] kk=G_qbx e d a b (fun e a d b f g=>∃ j,I0_qbx e d a b kk j (can0_qbx e a d b f g)):=by kernel_rfl
theorem e_qbx (e:List (Int×Int×Int)) (d a b:Int) (kk:AK) :
  V_qbx [.c (.ro .iii e),.agg [vi d,vi a,vi b]] kk=S_qbx e d a b (K_qbx kk):=by
 rw [g_qbx]
 have hi0:(fun e a d b f g=>∃ j,I0_qbx e d a b kk j (can0_qbx e a d b f g))=(fun e a d b f g=>∃ j,L0_qbx e a d b f (K_qbx kk) j g):=by
  funext e a d b f g
  refine congrArg Exists (funext fun j=>?_)
  rw [l0_qbx e d a b f kk j g]
 rw [hi0]
 rfl
theorem clok_qbx:ConOK Tryz.prog cl_qbx:=consNil
theorem cok_qbx:ConsOK Tryz.prog 19 cs_qbx:=⟨clok_qbx,inlNil,ovNil⟩
theorem i_qbx {vs:List A1} {kk:AK} {motive:List A1→Prop} (h:con_qbx.F vs kk) (H:∀ (e:List (Int×Int×Int)) (d a b:Int),F_qbx e d a b (K_qbx kk)→motive [.c (.ro .iii e),.agg [vi d,vi a,vi b]]):motive vs:=by
 unfold con_qbx at h
 dsimp only at h
 split at h
 ·exact H _ _ _ _ h
 ·exact h.elim
theorem h_qbx:Holds Tryz.prog 154 con_qbx:=by
 refine holds_of_ev (rt:=[.c .sc]) (T:=TT) (Γ:=cs_qbx) (an:=an_qbx) (N:=19) (c:=Tryz.f154.body.getD .skip) Tryz.func154 (by kernel_rfl) Tryz.ntmps154 (by decide) (by decide) mixed tabOK cok_qbx (by kernel_rfl) ?_
 intro vs kk _ hF
 exact i_qbx (motive:=fun vs=>Goes (V_qbx vs kk)) hF (fun e d a b hF=>goes_of (e_qbx e d a b kk) (F_qbx_S hF))
def K_qbu (kk:AK):List (Int×Int×Int)→Prop:=(fun a=>kk (.one (.c (.ro .iii a))) [])
def con_qbu:Con:=⟨[.mv,.rd,.rd],true,[.c (.sl .iii),.c (.sc),.c (.sc)],fun vs k=>match vs with
  | [.c (.ro .iii a),.c (.v (.int .i64 b)),.c (.v (.int .i64 d))]=>F_qbu a b d (K_qbu k)
  | _=>False,false⟩
def cl_qbu:List (FuncId×Con):=[]
def an_qbu:Ann:=⟨[(5,.take 0 (.take 1 (.take 2 (.take 3 (.take 4 (.take 5 (.alt 6 (.take 7 (.done)) (.none))))))),[])],[],[],[]⟩
def cs_qbu:Cons:=⟨cl_qbu,[],0,[],[],[]⟩
def fin_qbu (a:List (Int×Int×Int)) (b d:Int) (kk:AK):Kt:=fin TT con_qbu Tryz.f156.results.toList [.c (.sl .iii)] [.c (.ro .iii a),.c (vi b),.c (vi d)] kk
def V_qbu (vs:List A1) (kk:AK):Prop:=ev TT cs_qbu 33 an_qbu (Tryz.f156.body.getD .skip) (st0 con_qbu vs) (fin TT con_qbu Tryz.f156.results.toList [.c (.sl .iii)] vs kk)
theorem g_qbu (a:List (Int×Int×Int)) (b d:Int) (kk:AK) :
  V_qbu [.c (.ro .iii a),.c (vi b),.c (vi d)] kk=G_qbu a b d (K_qbu kk):=by kernel_rfl
theorem e_qbu (a:List (Int×Int×Int)) (b d:Int) (kk:AK) :
  V_qbu [.c (.ro .iii a),.c (vi b),.c (vi d)] kk=S_qbu a b d (K_qbu kk):=by
 rw [g_qbu]
 rw [G_qbu_eq]
 rfl
theorem clok_qbu:ConOK Tryz.prog cl_qbu:=consNil
theorem cok_qbu:ConsOK Tryz.prog 33 cs_qbu:=⟨clok_qbu,inlNil,ovNil⟩
theorem i_qbu {vs:List A1} {kk:AK} {motive:List A1→Prop} (h:con_qbu.F vs kk) (H:∀ (a:List (Int×Int×Int)) (b d:Int),F_qbu a b d (K_qbu kk)→motive [.c (.ro .iii a),.c (vi b),.c (vi d)]):motive vs:=by
 unfold con_qbu at h
 dsimp only at h
 split at h
 ·exact H _ _ _ h
 ·exact h.elim
theorem h_qbu:Holds Tryz.prog 156 con_qbu:=by
 refine holds_of_ev (rt:=[.c (.sl .iii)]) (T:=TT) (Γ:=cs_qbu) (an:=an_qbu) (N:=33) (c:=Tryz.f156.body.getD .skip) Tryz.func156 (by kernel_rfl) Tryz.ntmps156 (by decide) (by decide) mixed tabOK cok_qbu (by kernel_rfl) ?_
 intro vs kk _ hF
 exact i_qbu (motive:=fun vs=>Goes (V_qbu vs kk)) hF (fun a b d hF=>goes_of (e_qbu a b d kk) (F_qbu_S hF))
def K_qt (kk:AK):List (Int×Int×Int)→Bool→Prop:=(fun a b=>kk (.tup [.c (.ro .iii a),.c (.v (.bool b))]) [])
def con_qt:Con:=⟨[.rd,.rd,.rd,.rd],true,[.c (.sl .iii),.c (.sc),.c (.sc),.c (.sc)],fun vs k=>match vs with
  | [.c (.ro .iii a),.c (.v (.int .i64 b)),.c (.v (.int .i64 d)),.c (.v (.int .i64 e))]=>F_qt a b d e (K_qt k)
  | _=>False,false⟩
def cl_qt:List (FuncId×Con):=[(87,con_qbd),(152,con_qw),(153,con_qbh),(154,con_qbx),(155,con_qam),(156,con_qbu)]
def nm0_qt:List NStep:=[.own 10 .iii 90000,.keep [1,2,3,10,11,30,31,32] [90000]]
def an_qt:Ann:=⟨[],[(6,nm0_qt)],[],[]⟩
def cs_qt:Cons:=⟨cl_qt,[],0,[],[],[]⟩
def can0_qt (f:Int) (d:List (Int×Int×Int)) (g e h:Int) (a:Bool) (i:Int) (b:List (Int×Int×Int)):St:=⟨[(1,.one (.c (vi e))),(2,.one (.c (vi f))),(3,.one (.c (vi g))),(10,.one (.c (.ow 90000))),(11,.one (.c (.v (.bool a)))),(30,.one (.c (.ro .iii d))),(31,.one (.c (vi h))),(32,.one (.c (vi i)))],[(90000,.row .iii b)]⟩
def fin_qt (a:List (Int×Int×Int)) (b d e:Int) (kk:AK):Kt:=fin TT con_qt Tryz.f125.results.toList [.c (.sl .iii),.c .sc] [.c (.ro .iii a),.c (vi b),.c (vi d),.c (vi e)] kk
def V_qt (vs:List A1) (kk:AK):Prop:=ev TT cs_qt 77 an_qt (Tryz.f125.body.getD .skip) (st0 con_qt vs) (fin TT con_qt Tryz.f125.results.toList [.c (.sl .iii),.c .sc] vs kk)
def kt0_qt (kf:Kt):Kt:=blockK 0 (seqK (evF TT cs_qt 77 an_qt Tryz.f125 [1,1,1,1,1]) (kf))
def I0_qt (a:List (Int×Int×Int)) (b c d:Int) (kk:AK):Nat→St→Prop:=iter (evF TT cs_qt 77 an_qt Tryz.f125 [1,1,1,1,0,1,0,0]) nm0_qt (kt0_qt (fin_qt a b c d kk))
theorem r0_qt (b:List (Int×Int×Int)) (c e:Int) (f h:Int) (kk:AK) (n:Nat) (a:Bool) (g:Int) (d:List (Int×Int×Int)) :
  I0_qt b c e f kk (n+1) (can0_qt e b f c h a g d)=T0_qt e b f c h a g d (K_qt kk) (fun a g d=>I0_qt b c e f kk n (can0_qt e b f c h a g d)):=by kernel_rfl
theorem l0_qt (c:List (Int×Int×Int)) (d f:Int) (g h:Int) (kk:AK):∀ (n:Nat) (a:Bool) (e:Int) (b:List (Int×Int×Int)),I0_qt c d f g kk n (can0_qt f c g d h a e b)=L0_qt f c g d h (K_qt kk) n a e b:=by
 intro n
 induction n with
 | zero=>intros; rfl
 | succ n ih=>
  intro a e b
  rw [r0_qt c d f g h kk n a e b]
  simp only [ih] <;> rfl
theorem g_qt (a:List (Int×Int×Int)) (b d e:Int) (kk:AK) :
  V_qt [.c (.ro .iii a),.c (vi b),.c (vi d),.c (vi e)] kk=G_qt a b d e (K_qt kk) (fun d a e b h f i g=>∃ j,I0_qt a b d e kk j (can0_qt d a e b h f i g)):=by kernel_rfl
theorem e_qt (a:List (Int×Int×Int)) (b e f:Int) (kk:AK) :
  V_qt [.c (.ro .iii a),.c (vi b),.c (vi e),.c (vi f)] kk=S_qt a b e f (K_qt kk):=by
 rw [g_qt]
 have hi0:(fun e a f b h d i g=>∃ j,I0_qt a b e f kk j (can0_qt e a f b h d i g))=(fun e a f b h d i g=>∃ j,L0_qt e a f b h (K_qt kk) j d i g):=by
  funext e a f b h d i g
  refine congrArg Exists (funext fun j=>?_)
  rw [l0_qt a b e f h kk j d i g]
 rw [hi0]
 rfl
theorem clok_qt:ConOK Tryz.prog cl_qt:=consCons h_qbd (pf (by kernel_rfl)) (consCons h_qw (pf (by kernel_rfl)) (consCons h_qbh (pf (by kernel_rfl)) (consCons h_qbx (pf (by kernel_rfl)) (consCons h_qam (pf (by kernel_rfl)) (consCons h_qbu (pf (by kernel_rfl)) (consNil))))))
theorem cok_qt:ConsOK Tryz.prog 77 cs_qt:=⟨clok_qt,inlNil,ovNil⟩
theorem i_qt {vs:List A1} {kk:AK} {motive:List A1→Prop} (h:con_qt.F vs kk) (H:∀ (a:List (Int×Int×Int)) (b d e:Int),F_qt a b d e (K_qt kk)→motive [.c (.ro .iii a),.c (vi b),.c (vi d),.c (vi e)]):motive vs:=by
 unfold con_qt at h
 dsimp only at h
 split at h
 ·exact H _ _ _ _ h
 ·exact h.elim
theorem h_qt:Holds Tryz.prog 125 con_qt:=by
 refine holds_of_ev (rt:=[.c (.sl .iii),.c .sc]) (T:=TT) (Γ:=cs_qt) (an:=an_qt) (N:=77) (c:=Tryz.f125.body.getD .skip) Tryz.func125 (by kernel_rfl) Tryz.ntmps125 (by decide) (by decide) mixed tabOK cok_qt (by kernel_rfl) ?_
 intro vs kk _ hF
 exact i_qt (motive:=fun vs=>Goes (V_qt vs kk)) hF (fun a b d e hF=>goes_of (e_qt a b d e kk) (F_qt_S hF))
def K_qn (kk:AK):List (Int×Int×Int)→Int→Prop:=(fun a b=>kk (.tup [.c (.ro .iii a),.c (vi b)]) [])
def con_qn:Con:=⟨[.rd,.rd],true,[.c (.sl .int),.c (.sc)],fun vs k=>match vs with
  | [.c (.ro .int b),.c (.v (.int .i64 a))]=>F_qn b a (K_qn k)
  | _=>False,false⟩
def cl_qn:List (FuncId×Con):=[(98,con_qaa),(120,con_qbf),(125,con_qt)]
def nm0_qn:List NStep:=[.own 1 .iii 90000,.keep [1,2,8,13,14,15,1000004,1000005] [90000,96]]
def an_qn_i2:Ann:=⟨[],[],[],[]⟩
def cs_qn_i2:Cons:=⟨cl_qn,[],896,[],[],[]⟩
def an_qn_i1:Ann:=⟨[],[(3,nm0_qn)],[],[]⟩
def cs_qn_i1:Cons:=⟨cl_qn,[(23,⟨124,inlG TT cs_qn_i2 33 22 an_qn_i2 (Tryz.f124.body.getD .skip) Tryz.f124.results.toList⟩)],352,[],[],[]⟩
def an_qn:Ann:=⟨[],[],[],[]⟩
def cs_qn:Cons:=⟨cl_qn,[(18,⟨123,inlG TT cs_qn_i1 21 33 an_qn_i1 (Tryz.f123.body.getD .skip) Tryz.f123.results.toList⟩)],0,[],[],[]⟩
def can0_qn (g:Int) (i:LI) (e a f:Int) (d:List (Int×Int×Int)) (h:Int):St:=⟨[(1,.one (.c (.ow 90000))),(2,.one (.c (.cl 124 [.k (.int .i64 g),.b 96]))),(8,.one (.c (vi a))),(13,.one (.c (.ro .int i))),(14,.one (.c (vi e))),(15,.one (.c (vi f))),(1000004,.one (.c (.nil))),(1000005,.one (.c (vi 0)))],[(90000,.row .iii d),(96,.box [vi h])]⟩
def fin_qn (b:LI) (a:Int) (kk:AK):Kt:=fin TT con_qn Tryz.f95.results.toList [.c (.sl .iii),.c .sc] [.c (.ro .int b),.c (vi a)] kk
def V_qn (vs:List A1) (kk:AK):Prop:=ev TT cs_qn 21 an_qn (Tryz.f95.body.getD .skip) (st0 con_qn vs) (fin TT con_qn Tryz.f95.results.toList [.c (.sl .iii),.c .sc] vs kk)
def kt0_qn (kf:Kt):Kt:=blockK 0 (seqK (evF TT cs_qn_i1 33 an_qn_i1 Tryz.f123 [1,1,1]) (inlK TT 21 Tryz.f123 (some 18) (regK TT cs_qn 21 3 (seqK (evF TT cs_qn 21 an_qn Tryz.f95 [1,1,1,1]) (kf)) (subc [1,1,1,0] (Tryz.f95.body.getD .skip)))))
def I0_qn (b:LI) (a:Int) (kk:AK):Nat→St→Prop:=iter (evF TT cs_qn_i1 33 an_qn_i1 Tryz.f123 [1,1,0,1,0,0]) nm0_qn (kt0_qn (fin_qn b a kk))
theorem r0_qn (g:LI) (c f:Int) (kk:AK) (n:Nat) (a d:Int) (b:List (Int×Int×Int)) (e:Int) :
  I0_qn g c kk (n+1) (can0_qn c g f a d b e)=T0_qn c g f a d b e (K_qn kk) (fun a d b e=>I0_qn g c kk n (can0_qn c g f a d b e)):=by kernel_rfl
theorem l0_qn (g:LI) (e f:Int) (kk:AK):∀ (n:Nat) (a c:Int) (b:List (Int×Int×Int)) (d:Int),I0_qn g e kk n (can0_qn e g f a c b d)=L0_qn e g f (K_qn kk) n a c b d:=by
 intro n
 induction n with
 | zero=>intros; rfl
 | succ n ih=>
  intro a c b d
  rw [r0_qn g e f kk n a c b d]
  simp only [ih] <;> rfl
theorem g_qn (e:LI) (a:Int) (kk:AK) :
  V_qn [.c (.ro .int e),.c (vi a)] kk=G_qn e a (K_qn kk) (fun a e f b g d h=>∃ j,I0_qn e a kk j (can0_qn a e f b g d h)):=by kernel_rfl
theorem e_qn (h:LI) (a:Int) (kk:AK) :
  V_qn [.c (.ro .int h),.c (vi a)] kk=S_qn h a (K_qn kk):=by
 rw [g_qn]
 have hi0:(fun a h e b f d g=>∃ j,I0_qn h a kk j (can0_qn a h e b f d g))=(fun a h e b f d g=>∃ j,L0_qn a h e (K_qn kk) j b f d g):=by
  funext a h e b f d g
  refine congrArg Exists (funext fun j=>?_)
  rw [l0_qn h a e kk j b f d g]
 rw [hi0]
 rfl
theorem clok_qn:ConOK Tryz.prog cl_qn:=consCons h_qaa (pf (by kernel_rfl)) (consCons h_qbf (pf (by kernel_rfl)) (consCons h_qt (pf (by kernel_rfl)) (consNil)))
theorem cok_qn_i2:ConsOK Tryz.prog 22 cs_qn_i2:=⟨clok_qn,inlNil,ovNil⟩
theorem cok_qn_i1:ConsOK Tryz.prog 33 cs_qn_i1:=⟨clok_qn,inlCons (inl_ok Tryz.func124 (by kernel_rfl) (ne_of_beq (by kernel_rfl)) Tryz.ntmps124 (by decide) mixed tabOK cok_qn_i2 (by kernel_rfl)) (inlNil),ovNil⟩
theorem cok_qn:ConsOK Tryz.prog 21 cs_qn:=⟨clok_qn,inlCons (inl_ok Tryz.func123 (by kernel_rfl) (ne_of_beq (by kernel_rfl)) Tryz.ntmps123 (by decide) mixed tabOK cok_qn_i1 (by kernel_rfl)) (inlNil),ovNil⟩
theorem i_qn {vs:List A1} {kk:AK} {motive:List A1→Prop} (h:con_qn.F vs kk) (H:∀ (b:LI) (a:Int),F_qn b a (K_qn kk)→motive [.c (.ro .int b),.c (vi a)]):motive vs:=by
 unfold con_qn at h
 dsimp only at h
 split at h
 ·exact H _ _ h
 ·exact h.elim
theorem h_qn:Holds Tryz.prog 95 con_qn:=by
 refine holds_of_ev (rt:=[.c (.sl .iii),.c .sc]) (T:=TT) (Γ:=cs_qn) (an:=an_qn) (N:=21) (c:=Tryz.f95.body.getD .skip) Tryz.func95 (by kernel_rfl) Tryz.ntmps95 (by decide) (by decide) mixed tabOK cok_qn (by kernel_rfl) ?_
 intro vs kk _ hF
 exact i_qn (motive:=fun vs=>Goes (V_qn vs kk)) hF (fun b a hF=>goes_of (e_qn b a kk) (F_qn_S hF))
def K_qbq (kk:AK):LI→Prop:=(fun a=>kk (.one (.c (.ro .int a))) [])
def con_qbq:Con:=⟨[.rd],true,[.c (.sll .int)],fun vs k=>match vs with
  | [.c (.rol .int a)]=>F_qbq a (K_qbq k)
  | _=>False,false⟩
def cl_qbq:List (FuncId×Con):=[]
def nm1_qbq:List NStep:=[.own 6 .int 90100,.keep [6,25,26,27] [90100]]
def nm0_qbq:List NStep:=[.keep [0,3,9,10,11] []]
def an_qbq_i1:Ann:=⟨[],[],[],[]⟩
def cs_qbq_i1:Cons:=⟨cl_qbq,[],592,[],[],[]⟩
def an_qbq:Ann:=⟨[],[(11,nm1_qbq),(3,nm0_qbq)],[],[]⟩
def cs_qbq:Cons:=⟨cl_qbq,[(24,⟨191,inlG TT cs_qbq_i1 36 27 an_qbq_i1 (Tryz.f191.body.getD .skip) Tryz.f191.results.toList⟩)],0,[],[],[]⟩
def can1_qbq (b:List (LI)) (d e:Int) (a:LI):St:=⟨[(6,.one (.c (.ow 90100))),(25,.one (.c (.rol .int b))),(26,.one (.c (vi d))),(27,.one (.c (vi e)))],[(90100,.row .int a)]⟩
def can0_qbq (a:List (LI)) (d b e:Int):St:=⟨[(0,.one (.c (.rol .int a))),(3,.one (.c (vi b))),(9,.one (.c (.rol .int a))),(10,.one (.c (vi d))),(11,.one (.c (vi e)))],[]⟩
def fin_qbq (a:List (LI)) (kk:AK):Kt:=fin TT con_qbq Tryz.f179.results.toList [.c (.sl .int)] [.c (.rol .int a)] kk
def V_qbq (vs:List A1) (kk:AK):Prop:=ev TT cs_qbq 36 an_qbq (Tryz.f179.body.getD .skip) (st0 con_qbq vs) (fin TT con_qbq Tryz.f179.results.toList [.c (.sl .int)] vs kk)
def kt1_qbq (kf:Kt):Kt:=blockK 2 (seqK (evF TT cs_qbq 36 an_qbq Tryz.f179 [1,1,1,1,1]) (kf))
def kt0_qbq (kf:Kt):Kt:=blockK 0 (seqK (evF TT cs_qbq 36 an_qbq Tryz.f179 [1,1,1]) (kf))
def I1_qbq (a:List (LI)) (kk:AK):Nat→St→Prop:=iter (evF TT cs_qbq 36 an_qbq Tryz.f179 [1,1,1,1,0,1,0,0]) nm1_qbq (kt1_qbq (fin_qbq a kk))
theorem r1_qbq (b:List (LI)) (kk:AK) (n:Nat) (c d:Int) (a:LI) :
  I1_qbq b kk (n+1) (can1_qbq b c d a)=T1_qbq b c d a (K_qbq kk) (fun c d a=>I1_qbq b kk n (can1_qbq b c d a)):=by kernel_rfl
theorem l1_qbq (b:List (LI)) (kk:AK):∀ (n:Nat) (c d:Int) (a:LI),I1_qbq b kk n (can1_qbq b c d a)=L1_qbq b (K_qbq kk) n c d a:=by
 intro n
 induction n with
 | zero=>intros; rfl
 | succ n ih=>
  intro c d a
  rw [r1_qbq b kk n c d a]
  simp only [ih] <;> rfl
def I0_qbq (a:List (LI)) (kk:AK):Nat→St→Prop:=iter (evF TT cs_qbq 36 an_qbq Tryz.f179 [1,1,0,1,0,0]) nm0_qbq (kt0_qbq (fin_qbq a kk))
theorem r0_qbq (a:List (LI)) (e:Int) (kk:AK) (n:Nat) (b c:Int) :
  I0_qbq a kk (n+1) (can0_qbq a e b c)=T0_qbq a e b c (fun b c=>I0_qbq a kk n (can0_qbq a e b c)) (fun a f g d=>∃ j,I1_qbq a kk j (can1_qbq a f g d)):=by kernel_rfl
theorem l0_qbq (a:List (LI)) (d:Int) (kk:AK):∀ (n:Nat) (c e:Int),I0_qbq a kk n (can0_qbq a d c e)=L0_qbq a d (K_qbq kk) n c e:=by
 intro n
 induction n generalizing a d with
 | zero=>intros; rfl
 | succ n ih=>
  intro c e
  rw [r0_qbq a d kk n c e]
  have hb:∀ (a:List (LI)) (d:Int),(fun c e=>I0_qbq a kk n (can0_qbq a d c e))=L0_qbq a d (K_qbq kk) n:=by
   intro a d
   funext c e; exact ih a d c e
  have hi1:(fun a f g b=>∃ j,I1_qbq a kk j (can1_qbq a f g b))=(fun a f g b=>∃ j,L1_qbq a (K_qbq kk) j f g b):=by
   funext a f g b
   refine congrArg Exists (funext fun j=>?_)
   rw [l1_qbq a kk j f g b]
  rw [hb,hi1]
  rfl
theorem g_qbq (a:List (LI)) (kk:AK) :
  V_qbq [.c (.rol .int a)] kk=G_qbq a (fun a d b e=>∃ j,I0_qbq a kk j (can0_qbq a d b e)):=by kernel_rfl
theorem e_qbq (a:List (LI)) (kk:AK) :
  V_qbq [.c (.rol .int a)] kk=S_qbq a (K_qbq kk):=by
 rw [g_qbq]
 have hi0:(fun a d b e=>∃ j,I0_qbq a kk j (can0_qbq a d b e))=(fun a d b e=>∃ j,L0_qbq a d (K_qbq kk) j b e):=by
  funext a d b e
  refine congrArg Exists (funext fun j=>?_)
  rw [l0_qbq a d kk j b e]
 rw [hi0]
 rfl
theorem clok_qbq:ConOK Tryz.prog cl_qbq:=consNil
theorem cok_qbq_i1:ConsOK Tryz.prog 27 cs_qbq_i1:=⟨clok_qbq,inlNil,ovNil⟩
theorem cok_qbq:ConsOK Tryz.prog 36 cs_qbq:=⟨clok_qbq,inlCons (inl_ok Tryz.func191 (by kernel_rfl) (ne_of_beq (by kernel_rfl)) Tryz.ntmps191 (by decide) mixed tabOK cok_qbq_i1 (by kernel_rfl)) (inlNil),ovNil⟩
theorem i_qbq {vs:List A1} {kk:AK} {motive:List A1→Prop} (h:con_qbq.F vs kk) (H:∀ (a:List (LI)),F_qbq a (K_qbq kk)→motive [.c (.rol .int a)]):motive vs:=by
 unfold con_qbq at h
 dsimp only at h
 split at h
 ·exact H _ h
 ·exact h.elim
theorem h_qbq:Holds Tryz.prog 179 con_qbq:=by
 refine holds_of_ev (rt:=[.c (.sl .int)]) (T:=TT) (Γ:=cs_qbq) (an:=an_qbq) (N:=36) (c:=Tryz.f179.body.getD .skip) Tryz.func179 (by kernel_rfl) Tryz.ntmps179 (by decide) (by decide) mixed tabOK cok_qbq (by kernel_rfl) ?_
 intro vs kk _ hF
 exact i_qbq (motive:=fun vs=>Goes (V_qbq vs kk)) hF (fun a hF=>goes_of (e_qbq a kk) (F_qbq_S hF))
def K_qy (kk:AK):Bool→Prop:=(fun a=>kk (.one (.c (.v (.bool a)))) [])
def con_qy:Con:=⟨[.rd],true,[.agg [.sc,.sc,.sl .int,.sl .int,.sl .int,.sl .int]],fun vs k=>match vs with
  | [.agg [.v (.int .i64 e),.v (.int .i64 c),.ro .int f,.ro .int d,.ro .int b,.ro .int a]]=>F_qy e c f d b a (K_qy k)
  | _=>False,false⟩
def cl_qy:List (FuncId×Con):=[(120,con_qbf),(141,con_qac),(179,con_qbq)]
def an_qy:Ann:=⟨[],[],[],[]⟩
def cs_qy:Cons:=⟨cl_qy,[],0,[],[],[]⟩
def fin_qy (f d:Int) (g e:LI) (b a:LI) (kk:AK):Kt:=fin TT con_qy Tryz.f157.results.toList [.c .sc] [.agg [vi f,vi d,.ro .int g,.ro .int e,.ro .int b,.ro .int a]] kk
def V_qy (vs:List A1) (kk:AK):Prop:=ev TT cs_qy 71 an_qy (Tryz.f157.body.getD .skip) (st0 con_qy vs) (fin TT con_qy Tryz.f157.results.toList [.c .sc] vs kk)
theorem g_qy (e c:Int) (f d:LI) (b a:LI) (kk:AK) :
  V_qy [.agg [vi e,vi c,.ro .int f,.ro .int d,.ro .int b,.ro .int a]] kk=G_qy e c f d b a (K_qy kk):=by kernel_rfl
theorem e_qy (e c:Int) (f d:LI) (b a:LI) (kk:AK) :
  V_qy [.agg [vi e,vi c,.ro .int f,.ro .int d,.ro .int b,.ro .int a]] kk=S_qy e c f d b a (K_qy kk):=by
 rw [g_qy]
 rfl
theorem clok_qy:ConOK Tryz.prog cl_qy:=consCons h_qbf (pf (by kernel_rfl)) (consCons h_qac (pf (by kernel_rfl)) (consCons h_qbq (pf (by kernel_rfl)) (consNil)))
theorem cok_qy:ConsOK Tryz.prog 71 cs_qy:=⟨clok_qy,inlNil,ovNil⟩
theorem i_qy {vs:List A1} {kk:AK} {motive:List A1→Prop} (h:con_qy.F vs kk) (H:∀ (e c:Int) (f d:LI) (b a:LI),F_qy e c f d b a (K_qy kk)→motive [.agg [vi e,vi c,.ro .int f,.ro .int d,.ro .int b,.ro .int a]]):motive vs:=by
 unfold con_qy at h
 dsimp only at h
 split at h
 ·exact H _ _ _ _ _ _ h
 ·exact h.elim
theorem h_qy:Holds Tryz.prog 157 con_qy:=by
 refine holds_of_ev (rt:=[.c .sc]) (T:=TT) (Γ:=cs_qy) (an:=an_qy) (N:=71) (c:=Tryz.f157.body.getD .skip) Tryz.func157 (by kernel_rfl) Tryz.ntmps157 (by decide) (by decide) mixed tabOK cok_qy (by kernel_rfl) ?_
 intro vs kk _ hF
 exact i_qy (motive:=fun vs=>Goes (V_qy vs kk)) hF (fun f d g e b a hF=>goes_of (e_qy f d g e b a kk) (F_qy_S hF))
def K_qai (kk:AK):Int→Prop:=(fun a=>kk (.one (.c (vi a))) [])
def con_qai:Con:=⟨[.rd,.rd],true,[.agg [.sc,.sc,.sl .int,.sl .int,.sl .int,.sl .int],.c (.sc)],fun vs k=>match vs with
  | [.agg [.v (.int .i64 f),.v (.int .i64 d),.ro .int g,.ro .int e,.ro .int b,.ro .int a],.c (.v (.int .i64 h))]=>F_qai f d g e b a h (K_qai k)
  | _=>False,false⟩
def cl_qai:List (FuncId×Con):=[(128,con_qbt)]
def an_qai:Ann:=⟨[(2,.take 0 (.take 1 (.take 2 (.take 3 (.take 4 (.take 5 (.take 6 (.take 7 (.take 8 (.take 9 (.take 10 (.take 11 (.take 12 (.take 13 (.take 14 (.done))))))))))))))),[32]),(4,.take 0 (.take 1 (.take 2 (.take 3 (.take 4 (.take 5 (.take 6 (.take 7 (.take 8 (.take 9 (.take 10 (.take 11 (.take 12 (.done))))))))))))),[32])],[],[],[]⟩
def cs_qai:Cons:=⟨cl_qai,[],0,[],[],[]⟩
def fin_qai (f d:Int) (g e:LI) (b a:LI) (h:Int) (kk:AK):Kt:=fin TT con_qai Tryz.f158.results.toList [.c .sc] [.agg [vi f,vi d,.ro .int g,.ro .int e,.ro .int b,.ro .int a],.c (vi h)] kk
def V_qai (vs:List A1) (kk:AK):Prop:=ev TT cs_qai 41 an_qai (Tryz.f158.body.getD .skip) (st0 con_qai vs) (fin TT con_qai Tryz.f158.results.toList [.c .sc] vs kk)
theorem g_qai (f d:Int) (g e:LI) (b a:LI) (h:Int) (kk:AK) :
  V_qai [.agg [vi f,vi d,.ro .int g,.ro .int e,.ro .int b,.ro .int a],.c (vi h)] kk=G_qai f d g e b a h (K_qai kk):=by kernel_rfl
theorem e_qai (f d:Int) (g e:LI) (b a:LI) (h:Int) (kk:AK) :
  V_qai [.agg [vi f,vi d,.ro .int g,.ro .int e,.ro .int b,.ro .int a],.c (vi h)] kk=S_qai f d g e b a h (K_qai kk):=by
 rw [g_qai]
 rfl
theorem clok_qai:ConOK Tryz.prog cl_qai:=consCons h_qbt (pf (by kernel_rfl)) (consNil)
theorem cok_qai:ConsOK Tryz.prog 41 cs_qai:=⟨clok_qai,inlNil,ovNil⟩
theorem i_qai {vs:List A1} {kk:AK} {motive:List A1→Prop} (h:con_qai.F vs kk) (H:∀ (f d:Int) (g e:LI) (b a:LI) (i:Int),F_qai f d g e b a i (K_qai kk)→motive [.agg [vi f,vi d,.ro .int g,.ro .int e,.ro .int b,.ro .int a],.c (vi i)]):motive vs:=by
 unfold con_qai at h
 dsimp only at h
 split at h
 ·exact H _ _ _ _ _ _ _ h
 ·exact h.elim
theorem h_qai:Holds Tryz.prog 158 con_qai:=by
 refine holds_of_ev (rt:=[.c .sc]) (T:=TT) (Γ:=cs_qai) (an:=an_qai) (N:=41) (c:=Tryz.f158.body.getD .skip) Tryz.func158 (by kernel_rfl) Tryz.ntmps158 (by decide) (by decide) mixed tabOK cok_qai (by kernel_rfl) ?_
 intro vs kk _ hF
 exact i_qai (motive:=fun vs=>Goes (V_qai vs kk)) hF (fun f d g e b a h hF=>goes_of (e_qai f d g e b a h kk) (F_qai_S hF))
def K_qs (kk:AK):Int→Int→LI→LI→LI→LI→Bool→Prop:=(fun a b d e f g h=>kk (.tup [.agg [vi a,vi b,.ro .int d,.ro .int e,.ro .int f,.ro .int g],.c (.v (.bool h))]) [])
def con_qs:Con:=⟨[.rd,.rd],true,[.agg [.sc,.sc,.sl .int,.sl .int,.sl .int,.sl .int],.c (.sc)],fun vs k=>match vs with
  | [.agg [.v (.int .i64 f),.v (.int .i64 d),.ro .int g,.ro .int e,.ro .int b,.ro .int a],.c (.v (.int .i64 h))]=>F_qs f d g e b a h (K_qs k)
  | _=>False,false⟩
def cl_qs:List (FuncId×Con):=[(87,con_qbd),(128,con_qbt),(129,con_qbk),(148,con_qal),(157,con_qy),(158,con_qai)]
def nm5_qs:List NStep:=[.keep [0,1000001,1000004,1000006,1000007,1000009] [96,90300,496,90301,90302,64]]
def nm4_qs:List NStep:=[.keep [0,4,5,1000001,1000004,1000006,1000007,1000009] [96,90300,496,90301,90302,64]]
def nm3_qs:List NStep:=[.ownc 96 2 .int 90300,.ownc 96 4 .int 90301,.ownc 96 5 .int 90302,.keep [1,4,6,7,8,9] [64,96,90300,496,90301,90302]]
def nm2_qs:List NStep:=[.keep [1,4,6,7,8,9] [64,96,432,496,560,624]]
def nm1_qs:List NStep:=[.keep [1,2,4,6,7] [32,64,96,432,496,560,624]]
def nm0_qs:List NStep:=[.keep [1,2,4,6] [32,64,96,432,496,560,624]]
def an_qs_i9:Ann:=⟨[],[],[],[]⟩
def cs_qs_i9:Cons:=⟨cl_qs,[],5328,[],[],[]⟩
def an_qs_i8:Ann:=⟨[],[],[],[]⟩
def cs_qs_i8:Cons:=⟨cl_qs,[],5184,[],[],[]⟩
def an_qs_i7:Ann:=⟨[],[],[],[]⟩
def cs_qs_i7:Cons:=⟨cl_qs,[],5040,[],[],[]⟩
def an_qs_i6:Ann:=⟨[(0,.take 0 (.take 1 (.take 2 (.take 3 (.take 4 (.take 5 (.take 6 (.take 7 (.take 8 (.take 9 (.take 10 (.take 11 (.done)))))))))))),[96]),(1,.take 0 (.take 1 (.take 2 (.take 3 (.take 4 (.take 5 (.take 6 (.take 7 (.take 8 (.take 9 (.take 10 (.take 11 (.done)))))))))))),[96])],[],[],[]⟩
def cs_qs_i6:Cons:=⟨cl_qs,[(46,⟨180,inlG TT cs_qs_i7 82 8 an_qs_i7 (Tryz.f180.body.getD .skip) Tryz.f180.results.toList⟩),(61,⟨180,inlG TT cs_qs_i8 82 8 an_qs_i8 (Tryz.f180.body.getD .skip) Tryz.f180.results.toList⟩),(79,⟨180,inlG TT cs_qs_i9 82 8 an_qs_i9 (Tryz.f180.body.getD .skip) Tryz.f180.results.toList⟩)],3712,[],[],[]⟩
def an_qs_i5:Ann:=⟨[],[],[],[]⟩
def cs_qs_i5:Cons:=⟨cl_qs,[],3568,[],[],[]⟩
def an_qs_i4:Ann:=⟨[(1,.take 0 (.take 2 (.take 3 (.take 4 (.take 5 (.take 6 (.take 7 (.alt 1 (.alt 8 (.alt 9 (.take 10 (.take 11 (.done))) (.none)) (.none)) (.alt 8 (.alt 1 (.alt 9 (.take 10 (.take 11 (.done))) (.none)) (.none)) (.none))))))))),[])],[],[],[]⟩
def cs_qs_i4:Cons:=⟨cl_qs,[(7,⟨180,inlG TT cs_qs_i5 16 8 an_qs_i5 (Tryz.f180.body.getD .skip) Tryz.f180.results.toList⟩)],3296,[],[],[]⟩
def an_qs_i3:Ann:=⟨[],[],[],[]⟩
def cs_qs_i3:Cons:=⟨cl_qs,[],3152,[],[],[]⟩
def an_qs_i2:Ann:=⟨[(1,.take 0 (.take 2 (.take 3 (.take 4 (.take 5 (.take 6 (.take 7 (.alt 1 (.alt 8 (.alt 9 (.take 10 (.take 11 (.done))) (.none)) (.none)) (.alt 8 (.alt 1 (.alt 9 (.take 10 (.take 11 (.done))) (.none)) (.none)) (.none))))))))),[])],[],[],[]⟩
def cs_qs_i2:Cons:=⟨cl_qs,[(7,⟨180,inlG TT cs_qs_i3 16 8 an_qs_i3 (Tryz.f180.body.getD .skip) Tryz.f180.results.toList⟩)],2880,[],[],[]⟩
def an_qs_i1:Ann:=⟨[(0,.take 0 (.take 1 (.take 2 (.take 3 (.take 4 (.take 5 (.take 6 (.take 7 (.take 8 (.take 9 (.take 10 (.done))))))))))),[96]),(1,.take 0 (.take 1 (.take 2 (.take 3 (.take 4 (.take 5 (.take 6 (.take 7 (.take 8 (.take 9 (.take 10 (.take 11 (.take 12 (.take 13 (.take 14 (.take 15 (.take 16 (.take 17 (.take 18 (.take 19 (.take 20 (.take 21 (.done)))))))))))))))))))))),[96]),(3,.take 0 (.take 1 (.take 2 (.take 3 (.take 4 (.take 6 (.take 7 (.take 8 (.alt 5 (.alt 9 (.alt 10 (.take 11 (.take 12 (.take 13 (.take 14 (.take 15 (.alt 16 (.take 17 (.take 18 (.alt 19 (.done) (.none)))) (.none))))))) (.none)) (.none)) (.alt 9 (.alt 5 (.alt 10 (.take 11 (.take 12 (.take 13 (.take 14 (.take 15 (.alt 16 (.take 17 (.take 18 (.alt 19 (.done) (.none)))) (.none))))))) (.none)) (.none)) (.none)))))))))),[]),(4,.take 0 (.take 1 (.take 2 (.take 3 (.take 4 (.take 6 (.take 7 (.take 8 (.alt 5 (.alt 9 (.alt 10 (.take 11 (.take 12 (.take 13 (.take 14 (.take 15 (.alt 16 (.take 17 (.take 18 (.alt 19 (.done) (.none)))) (.none))))))) (.none)) (.none)) (.alt 9 (.alt 5 (.alt 10 (.take 11 (.take 12 (.take 13 (.take 14 (.take 15 (.alt 16 (.take 17 (.take 18 (.alt 19 (.done) (.none)))) (.none))))))) (.none)) (.none)) (.none)))))))))),[])],[],[(3,nm5_qs),(2,nm4_qs)],[]⟩
def cs_qs_i1:Cons:=⟨cl_qs,[(60,⟨181,inlG TT cs_qs_i2 85 16 an_qs_i2 (Tryz.f181.body.getD .skip) Tryz.f181.results.toList⟩),(78,⟨181,inlG TT cs_qs_i4 85 16 an_qs_i4 (Tryz.f181.body.getD .skip) Tryz.f181.results.toList⟩)],1504,[],[],[]⟩
def an_qs:Ann:=⟨[(3,.take 0 (.take 1 (.take 2 (.take 3 (.take 5 (.take 6 (.take 7 (.take 9 (.take 10 (.take 11 (.take 13 (.take 14 (.take 15 (.take 17 (.take 18 (.take 19 (.alt 4 (.alt 8 (.alt 12 (.alt 16 (.alt 20 (.take 21 (.alt 22 (.alt 23 (.done) (.none)) (.none))) (.alt 22 (.alt 20 (.take 21 (.alt 23 (.done) (.none))) (.none)) (.none))) (.alt 22 (.alt 16 (.alt 20 (.take 21 (.alt 23 (.done) (.none))) (.none)) (.none)) (.none))) (.alt 22 (.alt 12 (.alt 16 (.alt 20 (.take 21 (.alt 23 (.done) (.none))) (.none)) (.none)) (.none)) (.none))) (.alt 22 (.alt 8 (.alt 12 (.alt 16 (.alt 20 (.take 21 (.alt 23 (.done) (.none))) (.none)) (.none)) (.none)) (.none)) (.none))) (.alt 22 (.alt 4 (.alt 8 (.alt 12 (.alt 16 (.alt 20 (.take 21 (.alt 23 (.done) (.none))) (.none)) (.none)) (.none)) (.none)) (.none)) (.none)))))))))))))))))),[32])],[],[(9,nm3_qs),(7,nm2_qs),(5,nm1_qs),(4,nm0_qs)],[]⟩
def cs_qs:Cons:=⟨cl_qs,[(67,⟨159,inlG TT cs_qs_i6 93 82 an_qs_i6 (Tryz.f159.body.getD .skip) Tryz.f159.results.toList⟩),(79,⟨160,inlG TT cs_qs_i1 93 85 an_qs_i1 (Tryz.f160.body.getD .skip) Tryz.f160.results.toList⟩)],0,[],[],[]⟩
def can5_qs (e j a:Int) (b f:LI) (g h:LI) (i d:Bool):St:=⟨[(0,.one (.c (.pb 96 0))),(1000001,.one (.c (vi j))),(1000004,.one (.c (.pb 64 0))),(1000006,.one (.c (.pb 96 0))),(1000007,.one (.c (.v (.bool i)))),(1000009,.one (.c (.v (.bool d))))],[(96,.box [vi e,vi a,.ow 90300,.ow 496,.ow 90301,.ow 90302]),(90300,.row .int f),(496,.row .int b),(90301,.row .int g),(90302,.row .int h),(64,.box [vi 0,vi 0,.nil,.nil,.nil,.nil])]⟩
def can4_qs (g m a:Int) (b h:LI) (i j:LI) (l f:Bool) (e d:Bool):St:=⟨[(0,.one (.c (.pb 96 0))),(4,.one (.c (.v (.bool e)))),(5,.one (.c (.v (.bool d)))),(1000001,.one (.c (vi m))),(1000004,.one (.c (.pb 64 0))),(1000006,.one (.c (.pb 96 0))),(1000007,.one (.c (.v (.bool l)))),(1000009,.one (.c (.v (.bool f))))],[(96,.box [vi g,vi a,.ow 90300,.ow 496,.ow 90301,.ow 90302]),(90300,.row .int h),(496,.row .int b),(90301,.row .int i),(90302,.row .int j),(64,.box [vi 0,vi 0,.nil,.nil,.nil,.nil])]⟩
def can3_qs (f:Int) (d:Bool) (l a:Int) (b:LI) (g e:Bool) (h i j:LI):St:=⟨[(1,.one (.c (vi l))),(4,.one (.c (.pb 64 0))),(6,.one (.c (.pb 96 0))),(7,.one (.c (.v (.bool g)))),(8,.one (.c (.v (.bool d)))),(9,.one (.c (.v (.bool e))))],[(64,.box [vi 0,vi 0,.nil,.nil,.nil,.nil]),(96,.box [vi f,vi a,.ow 90300,.ow 496,.ow 90301,.ow 90302]),(90300,.row .int h),(496,.row .int b),(90301,.row .int i),(90302,.row .int j)]⟩
def can2_qs (i:Int) (g:Bool) (l a:Int) (b d:LI) (e f:LI) (j h:Bool):St:=⟨[(1,.one (.c (vi l))),(4,.one (.c (.pb 64 0))),(6,.one (.c (.pb 96 0))),(7,.one (.c (.v (.bool j)))),(8,.one (.c (.v (.bool g)))),(9,.one (.c (.v (.bool h))))],[(64,.box [vi 0,vi 0,.nil,.nil,.nil,.nil]),(96,.box [vi i,vi a,.ow 432,.ow 496,.ow 560,.ow 624]),(432,.row .int b),(496,.row .int d),(560,.row .int e),(624,.row .int f)]⟩
def can1_qs (l m:LI) (h j:Int) (g i:LI) (o a:Int) (b d:LI) (e f:LI) (n:Bool):St:=⟨[(1,.one (.c (vi o))),(2,.one (.c (.pb 32 0))),(4,.one (.c (.pb 64 0))),(6,.one (.c (.pb 96 0))),(7,.one (.c (.v (.bool n))))],[(32,.box [vi h,vi j,.ro .int m,.ro .int l,.ro .int i,.ro .int g]),(64,.box [vi 0,vi 0,.nil,.nil,.nil,.nil]),(96,.box [vi h,vi a,.ow 432,.ow 496,.ow 560,.ow 624]),(432,.row .int b),(496,.row .int d),(560,.row .int e),(624,.row .int f)]⟩
def can0_qs (l m:LI) (h j:Int) (g i:LI) (n a:Int) (b d:LI) (e f:LI):St:=⟨[(1,.one (.c (vi n))),(2,.one (.c (.pb 32 0))),(4,.one (.c (.pb 64 0))),(6,.one (.c (.pb 96 0)))],[(32,.box [vi h,vi j,.ro .int m,.ro .int l,.ro .int i,.ro .int g]),(64,.box [vi 0,vi 0,.nil,.nil,.nil,.nil]),(96,.box [vi h,vi a,.ow 432,.ow 496,.ow 560,.ow 624]),(432,.row .int b),(496,.row .int d),(560,.row .int e),(624,.row .int f)]⟩
def fin_qs (f d:Int) (g e:LI) (b a:LI) (h:Int) (kk:AK):Kt:=fin TT con_qs Tryz.f127.results.toList [.agg [.sc,.sc,.sl .int,.sl .int,.sl .int,.sl .int],.c .sc] [.agg [vi f,vi d,.ro .int g,.ro .int e,.ro .int b,.ro .int a],.c (vi h)] kk
def V_qs (vs:List A1) (kk:AK):Prop:=ev TT cs_qs 93 an_qs (Tryz.f127.body.getD .skip) (st0 con_qs vs) (fin TT con_qs Tryz.f127.results.toList [.agg [.sc,.sc,.sl .int,.sl .int,.sl .int,.sl .int],.c .sc] vs kk)
def kt5_qs (kf:Kt):Kt:=inlK TT 93 Tryz.f160 (some 79) (regK TT cs_qs 93 1 (seqK (evF TT cs_qs 93 an_qs Tryz.f127 [1,1,1,1,1,1,1,1]) (kf)) (subc [1,1,1,1,1,1,1,0,1,0] (Tryz.f127.body.getD .skip)))
def kt4_qs (kf:Kt):Kt:=seqK (evF TT cs_qs_i1 85 an_qs_i1 Tryz.f160 [1,1,1]) (inlK TT 93 Tryz.f160 (some 79) (regK TT cs_qs 93 1 (seqK (evF TT cs_qs 93 an_qs Tryz.f127 [1,1,1,1,1,1,1,1]) (kf)) (subc [1,1,1,1,1,1,1,0,1,0] (Tryz.f127.body.getD .skip))))
def kt3_qs (kf:Kt):Kt:=seqK (evF TT cs_qs 93 an_qs Tryz.f127 [1,1,1,1,1,1,1,0,1]) (seqK (evF TT cs_qs 93 an_qs Tryz.f127 [1,1,1,1,1,1,1,1]) (kf))
def kt2_qs (kf:Kt):Kt:=seqK (evF TT cs_qs 93 an_qs Tryz.f127 [1,1,1,1,1,1,0,1]) (seqK (evF TT cs_qs 93 an_qs Tryz.f127 [1,1,1,1,1,1,1]) (kf))
def kt1_qs (kf:Kt):Kt:=seqK (evF TT cs_qs 93 an_qs Tryz.f127 [1,1,1,1,1]) (kf)
def kt0_qs (kf:Kt):Kt:=seqK (evF TT cs_qs 93 an_qs Tryz.f127 [1,1,1,1]) (kf)
theorem r5_qs (c g:Int) (o n:LI) (f e:LI) (h a:Int) (b i:LI) (j l:LI) (m d:Bool) (kk:AK) :
  evRunC TT cs_qs_i1 85 an_qs_i1 (subc [1,1,1,0] (Tryz.f160.body.getD .skip)) (can5_qs c h a b i j l m d) (kt5_qs (fin_qs c g o n f e h kk))=T5_qs c h a b i j l m d (K_qs kk):=by kernel_rfl
theorem l5_qs (c g:Int) (o h:LI) (f d:LI) (i a:Int) (b j:LI) (l m:LI) (n e:Bool) (kk:AK):evRunC TT cs_qs_i1 85 an_qs_i1 (subc [1,1,1,0] (Tryz.f160.body.getD .skip)) (can5_qs c i a b j l m n e) (kt5_qs (fin_qs c g o h f d i kk))=L5_qs c i a b j l m n e (K_qs kk):=by
 rw [r5_qs c g o h f d i a b j l m n e kk]
 rw [T5_qs_eq]
 rfl
theorem r4_qs (c n:Int) (q p:LI) (h e:LI) (g a:Int) (b i:LI) (j l:LI) (m d:Bool) (kk:AK) (o f:Bool) :
  evRunC TT cs_qs_i1 85 an_qs_i1 (subc [1,1,0] (Tryz.f160.body.getD .skip)) (can4_qs c g a b i j l m d o f) (kt4_qs (fin_qs c n q p h e g kk))=T4_qs c g a b i j l m d o f (K_qs kk) (fun c g a b i j l m d=>Meets (evRunC TT cs_qs_i1 85 an_qs_i1 (subc [1,1,1,0] (Tryz.f160.body.getD .skip)) (can5_qs c g a b i j l m d) (kt5_qs (fin_qs c n q p h e g kk)))):=by kernel_rfl
theorem l4_qs (c m:Int) (q o:LI) (l e:LI) (j a:Int) (b f:LI) (g h:LI) (i d:Bool) (kk:AK) (p n:Bool):evRunC TT cs_qs_i1 85 an_qs_i1 (subc [1,1,0] (Tryz.f160.body.getD .skip)) (can4_qs c j a b f g h i d p n) (kt4_qs (fin_qs c m q o l e j kk))=L4_qs c j a b f g h i d (K_qs kk) p n:=by
 rw [r4_qs c m q o l e j a b f g h i d kk p n]
 have hi5:(fun c j a b f g h i d=>Meets (evRunC TT cs_qs_i1 85 an_qs_i1 (subc [1,1,1,0] (Tryz.f160.body.getD .skip)) (can5_qs c j a b f g h i d) (kt5_qs (fin_qs c m q o l e j kk))))=(fun c j a b f g h i d=>L5_qs c j a b f g h i d (K_qs kk)):=by
  funext c j a b f g h i d
  rw [meets_eq,l5_qs c m q o l e j a b f g h i d kk]
 rw [hi5]
 rw [T4_qs_eq]
 rfl
theorem r3_qs (c n:Int) (q o:LI) (h e:LI) (g:Int) (f:Bool) (a:Int) (b:LI) (i d:Bool) (kk:AK) (j l m:LI) :
  evRunC TT cs_qs 93 an_qs (subc [1,1,1,1,1,1,1,0,0] (Tryz.f127.body.getD .skip)) (can3_qs c f g a b i d j l m) (kt3_qs (fin_qs c n q o h e g kk))=T3_qs c f g a b i d j l m (K_qs kk) (fun c g a b j l m i d r p=>Meets (evRunC TT cs_qs_i1 85 an_qs_i1 (subc [1,1,0] (Tryz.f160.body.getD .skip)) (can4_qs c g a b j l m i d r p) (kt4_qs (fin_qs c n q o h e g kk)))):=by kernel_rfl
theorem l3_qs (c o:Int) (r q:LI) (n f:LI) (l:Int) (p:Bool) (a:Int) (b:LI) (g d:Bool) (kk:AK) (h i j:LI):evRunC TT cs_qs 93 an_qs (subc [1,1,1,1,1,1,1,0,0] (Tryz.f127.body.getD .skip)) (can3_qs c p l a b g d h i j) (kt3_qs (fin_qs c o r q n f l kk))=L3_qs c p l a b g d (K_qs kk) h i j:=by
 rw [r3_qs c o r q n f l p a b g d kk h i j]
 have hi4:(fun c l a b h i j g d m e=>Meets (evRunC TT cs_qs_i1 85 an_qs_i1 (subc [1,1,0] (Tryz.f160.body.getD .skip)) (can4_qs c l a b h i j g d m e) (kt4_qs (fin_qs c o r q n f l kk))))=(fun c l a b h i j g d m e=>L4_qs c l a b h i j g d (K_qs kk) m e):=by
  funext c l a b h i j g d m e
  rw [meets_eq,l4_qs c o r q n f l a b h i j g d kk m e]
 rw [hi4]
 rfl
theorem r2_qs (d n:Int) (p o:LI) (l i:LI) (j:Int) (c:Bool) (a:Int) (e b:LI) (f g:LI) (m:Bool) (kk:AK) (h:Bool) :
  evRunC TT cs_qs 93 an_qs (subc [1,1,1,1,1,1,0,0] (Tryz.f127.body.getD .skip)) (can2_qs d c j a e b f g m h) (kt2_qs (fin_qs d n p o l i j kk))=T2_qs d c j a e b f g m h (fun d c j a b m h q r s=>Meets (evRunC TT cs_qs 93 an_qs (subc [1,1,1,1,1,1,1,0,0] (Tryz.f127.body.getD .skip)) (can3_qs d c j a b m h q r s) (kt3_qs (fin_qs d n p o l i j kk)))):=by kernel_rfl
theorem l2_qs (d n:Int) (p o:LI) (m f:LI) (h:Int) (c:Bool) (a:Int) (i b:LI) (j l:LI) (g:Bool) (kk:AK) (e:Bool):evRunC TT cs_qs 93 an_qs (subc [1,1,1,1,1,1,0,0] (Tryz.f127.body.getD .skip)) (can2_qs d c h a i b j l g e) (kt2_qs (fin_qs d n p o m f h kk))=L2_qs d c h a i b j l g (K_qs kk) e:=by
 rw [r2_qs d n p o m f h c a i b j l g kk e]
 have hi3:(fun d c h a b g e q r s=>Meets (evRunC TT cs_qs 93 an_qs (subc [1,1,1,1,1,1,1,0,0] (Tryz.f127.body.getD .skip)) (can3_qs d c h a b g e q r s) (kt3_qs (fin_qs d n p o m f h kk))))=(fun d c h a b g e q r s=>L3_qs d c h a b g e (K_qs kk) q r s):=by
  funext d c h a b g e q r s
  rw [meets_eq,l3_qs d n p o m f h c a b g e kk q r s]
 rw [hi3]
 rfl
theorem r1_qs (h i:Int) (l j:LI) (g f:LI) (m a:Int) (b c:LI) (d e:LI) (kk:AK) (n:Bool) :
  evRunC TT cs_qs 93 an_qs (subc [1,1,1,1,0] (Tryz.f127.body.getD .skip)) (can1_qs j l h i f g m a b c d e n) (kt1_qs (fin_qs h i l j g f m kk))=T1_qs j l h i f g m a b c d e n (fun h o m a b c d e n p=>Meets (evRunC TT cs_qs 93 an_qs (subc [1,1,1,1,1,1,0,0] (Tryz.f127.body.getD .skip)) (can2_qs h o m a b c d e n p) (kt2_qs (fin_qs h i l j g f m kk)))):=by kernel_rfl
theorem l1_qs (f j:Int) (o m:LI) (h g:LI) (n a:Int) (b c:LI) (d e:LI) (kk:AK) (l:Bool):evRunC TT cs_qs 93 an_qs (subc [1,1,1,1,0] (Tryz.f127.body.getD .skip)) (can1_qs m o f j g h n a b c d e l) (kt1_qs (fin_qs f j o m h g n kk))=L1_qs m o f j g h n a b c d e (K_qs kk) l:=by
 rw [r1_qs f j o m h g n a b c d e kk l]
 have hi2:(fun f i n a b c d e l p=>Meets (evRunC TT cs_qs 93 an_qs (subc [1,1,1,1,1,1,0,0] (Tryz.f127.body.getD .skip)) (can2_qs f i n a b c d e l p) (kt2_qs (fin_qs f j o m h g n kk))))=(fun f i n a b c d e l p=>L2_qs f i n a b c d e l (K_qs kk) p):=by
  funext f i n a b c d e l p
  rw [meets_eq,l2_qs f j o m h g n i a b c d e l kk p]
 rw [hi2]
 rfl
theorem r0_qs (j h:Int) (l i:LI) (b a:LI) (m c:Int) (d e:LI) (f g:LI) (kk:AK) :
  evRunC TT cs_qs 93 an_qs (subc [1,1,1,0] (Tryz.f127.body.getD .skip)) (can0_qs i l j h a b m c d e f g) (kt0_qs (fin_qs j h l i b a m kk))=T0_qs i l j h a b m c d e f g (fun i l j h a b m c d e f g n=>Meets (evRunC TT cs_qs 93 an_qs (subc [1,1,1,1,0] (Tryz.f127.body.getD .skip)) (can1_qs i l j h a b m c d e f g n) (kt1_qs (fin_qs j h l i b a m kk)))):=by kernel_rfl
theorem l0_qs (j h:Int) (l i:LI) (g a:LI) (m b:Int) (c d:LI) (e f:LI) (kk:AK):evRunC TT cs_qs 93 an_qs (subc [1,1,1,0] (Tryz.f127.body.getD .skip)) (can0_qs i l j h a g m b c d e f) (kt0_qs (fin_qs j h l i g a m kk))=L0_qs i l j h a g m b c d e f (K_qs kk):=by
 rw [r0_qs j h l i g a m b c d e f kk]
 have hi1:(fun i l j h a g m b c d e f n=>Meets (evRunC TT cs_qs 93 an_qs (subc [1,1,1,1,0] (Tryz.f127.body.getD .skip)) (can1_qs i l j h a g m b c d e f n) (kt1_qs (fin_qs j h l i g a m kk))))=(fun i l j h a g m b c d e f n=>L1_qs i l j h a g m b c d e f (K_qs kk) n):=by
  funext i l j h a g m b c d e f n
  rw [meets_eq,l1_qs j h l i g a m b c d e f kk n]
 rw [hi1]
 rfl
theorem g_qs (f d:Int) (g e:LI) (b a:LI) (h:Int) (kk:AK) :
  V_qs [.agg [vi f,vi d,.ro .int g,.ro .int e,.ro .int b,.ro .int a],.c (vi h)] kk=G_qs f d g e b a h (K_qs kk) (fun e g f d a b h i j l m n=>Meets (evRunC TT cs_qs 93 an_qs (subc [1,1,1,0] (Tryz.f127.body.getD .skip)) (can0_qs e g f d a b h i j l m n) (kt0_qs (fin_qs f d g e b a h kk)))):=by kernel_rfl
theorem e_qs (l d:Int) (m j:LI) (b a:LI) (n:Int) (kk:AK) :
  V_qs [.agg [vi l,vi d,.ro .int m,.ro .int j,.ro .int b,.ro .int a],.c (vi n)] kk=S_qs l d m j b a n (K_qs kk):=by
 rw [g_qs]
 have hi0:(fun j m l d a b n e f g h i=>Meets (evRunC TT cs_qs 93 an_qs (subc [1,1,1,0] (Tryz.f127.body.getD .skip)) (can0_qs j m l d a b n e f g h i) (kt0_qs (fin_qs l d m j b a n kk))))=(fun j m l d a b n e f g h i=>L0_qs j m l d a b n e f g h i (K_qs kk)):=by
  funext j m l d a b n e f g h i
  rw [meets_eq,l0_qs l d m j b a n e f g h i kk]
 rw [hi0]
 rw [G_qs_eq]
 rfl
theorem clok_qs:ConOK Tryz.prog cl_qs:=consCons h_qbd (pf (by kernel_rfl)) (consCons h_qbt (pf (by kernel_rfl)) (consCons h_qbk (pf (by kernel_rfl)) (consCons h_qal (pf (by kernel_rfl)) (consCons h_qy (pf (by kernel_rfl)) (consCons h_qai (pf (by kernel_rfl)) (consNil))))))
theorem cok_qs_i9:ConsOK Tryz.prog 8 cs_qs_i9:=⟨clok_qs,inlNil,ovNil⟩
theorem cok_qs_i8:ConsOK Tryz.prog 8 cs_qs_i8:=⟨clok_qs,inlNil,ovNil⟩
theorem cok_qs_i7:ConsOK Tryz.prog 8 cs_qs_i7:=⟨clok_qs,inlNil,ovNil⟩
theorem cok_qs_i6:ConsOK Tryz.prog 82 cs_qs_i6:=⟨clok_qs,inlCons (inl_ok Tryz.func180 (by kernel_rfl) (ne_of_beq (by kernel_rfl)) Tryz.ntmps180 (by decide) mixed tabOK cok_qs_i7 (by kernel_rfl)) (inlCons (inl_ok Tryz.func180 (by kernel_rfl) (ne_of_beq (by kernel_rfl)) Tryz.ntmps180 (by decide) mixed tabOK cok_qs_i8 (by kernel_rfl)) (inlCons (inl_ok Tryz.func180 (by kernel_rfl) (ne_of_beq (by kernel_rfl)) Tryz.ntmps180 (by decide) mixed tabOK cok_qs_i9 (by kernel_rfl)) (inlNil))),ovNil⟩
theorem cok_qs_i5:ConsOK Tryz.prog 8 cs_qs_i5:=⟨clok_qs,inlNil,ovNil⟩
theorem cok_qs_i4:ConsOK Tryz.prog 16 cs_qs_i4:=⟨clok_qs,inlCons (inl_ok Tryz.func180 (by kernel_rfl) (ne_of_beq (by kernel_rfl)) Tryz.ntmps180 (by decide) mixed tabOK cok_qs_i5 (by kernel_rfl)) (inlNil),ovNil⟩
theorem cok_qs_i3:ConsOK Tryz.prog 8 cs_qs_i3:=⟨clok_qs,inlNil,ovNil⟩
theorem cok_qs_i2:ConsOK Tryz.prog 16 cs_qs_i2:=⟨clok_qs,inlCons (inl_ok Tryz.func180 (by kernel_rfl) (ne_of_beq (by kernel_rfl)) Tryz.ntmps180 (by decide) mixed tabOK cok_qs_i3 (by kernel_rfl)) (inlNil),ovNil⟩
theorem cok_qs_i1:ConsOK Tryz.prog 85 cs_qs_i1:=⟨clok_qs,inlCons (inl_ok Tryz.func181 (by kernel_rfl) (ne_of_beq (by kernel_rfl)) Tryz.ntmps181 (by decide) mixed tabOK cok_qs_i2 (by kernel_rfl)) (inlCons (inl_ok Tryz.func181 (by kernel_rfl) (ne_of_beq (by kernel_rfl)) Tryz.ntmps181 (by decide) mixed tabOK cok_qs_i4 (by kernel_rfl)) (inlNil)),ovNil⟩
theorem cok_qs:ConsOK Tryz.prog 93 cs_qs:=⟨clok_qs,inlCons (inl_ok Tryz.func159 (by kernel_rfl) (ne_of_beq (by kernel_rfl)) Tryz.ntmps159 (by decide) mixed tabOK cok_qs_i6 (by kernel_rfl)) (inlCons (inl_ok Tryz.func160 (by kernel_rfl) (ne_of_beq (by kernel_rfl)) Tryz.ntmps160 (by decide) mixed tabOK cok_qs_i1 (by kernel_rfl)) (inlNil)),ovNil⟩
theorem i_qs {vs:List A1} {kk:AK} {motive:List A1→Prop} (h:con_qs.F vs kk) (H:∀ (f d:Int) (g e:LI) (b a:LI) (i:Int),F_qs f d g e b a i (K_qs kk)→motive [.agg [vi f,vi d,.ro .int g,.ro .int e,.ro .int b,.ro .int a],.c (vi i)]):motive vs:=by
 unfold con_qs at h
 dsimp only at h
 split at h
 ·exact H _ _ _ _ _ _ _ h
 ·exact h.elim
theorem h_qs:Holds Tryz.prog 127 con_qs:=by
 refine holds_of_ev (rt:=[.agg [.sc,.sc,.sl .int,.sl .int,.sl .int,.sl .int],.c .sc]) (T:=TT) (Γ:=cs_qs) (an:=an_qs) (N:=93) (c:=Tryz.f127.body.getD .skip) Tryz.func127 (by kernel_rfl) Tryz.ntmps127 (by decide) (by decide) mixed tabOK cok_qs (by kernel_rfl) ?_
 intro vs kk _ hF
 exact i_qs (motive:=fun vs=>Goes (V_qs vs kk)) hF (fun f d g e b a h hF=>goes_of (e_qs f d g e b a h kk) (F_qs_S hF))
def con_qax:Con:=⟨[.rd,.mv,.rd],true,[.c (.sl .int),.agg [.sc,.sc,.sl .int,.sl .int,.sl .int,.sl .int],.c (.fn)],fun vs k=>match vs with
  | [.c (.ro .int h),.agg [.v (.int .i64 f),.v (.int .i64 d),.ro .int g,.ro .int e,.ro .int b,.ro .int a],.c (.v (.func (.func 127) ⟨[]⟩ ⟨[]⟩))]=>F_qay h f d g e b a (fun i j l m n o p=>k (.tup [.agg [.v (.int .i64 i),.v (.int .i64 j),.ro .int l,.ro .int m,.ro .int n,.ro .int o],.c (.v (.int .i64 p))]) [])
  | _=>False,false⟩
def cl_qay:List (FuncId×Con):=[(127,con_qs)]
def nm0_qay:List NStep:=[.ownc 64 2 .int 90000,.ownc 64 3 .int 90001,.ownc 64 4 .int 90002,.ownc 64 5 .int 90003,.keep [2,4,6,8,13,14,15] [64,90000,90001,90002,90003,96]]
def an_qay:Ann:=⟨[],[(3,nm0_qay)],[],[]⟩
def cs_qay:Cons:=⟨cl_qay,[],0,[],[],[]⟩
def can0_qay (l:LI) (i a:Int) (j b d:Int) (e f:LI) (g h:LI):St:=⟨[(2,.one (.c (.v (.func (.func 127) ⟨[]⟩ ⟨[]⟩)))),(4,.one (.c (.pb 64 0))),(6,.one (.c (.pb 96 0))),(8,.one (.c (vi a))),(13,.one (.c (.ro .int l))),(14,.one (.c (vi i))),(15,.one (.c (vi j)))],[(64,.box [vi b,vi d,.ow 90000,.ow 90001,.ow 90002,.ow 90003]),(90000,.row .int e),(90001,.row .int f),(90002,.row .int g),(90003,.row .int h),(96,.box [vi 0,vi 0,.nil,.nil,.nil,.nil])]⟩
def K_qay (kk:AK):Int→Int→LI→LI→LI→LI→Int→Prop:=(fun a b d e f g h=>kk (.tup [.agg [vi a,vi b,.ro .int d,.ro .int e,.ro .int f,.ro .int g],.c (vi h)]) [])
def fin_qay (h:LI) (f d:Int) (g e:LI) (b a:LI) (kk:AK):Kt:=fin TT con_qax Tryz.f126.results.toList [.agg [.sc,.sc,.sl .int,.sl .int,.sl .int,.sl .int],.c .sc] [.c (.ro .int h),.agg [vi f,vi d,.ro .int g,.ro .int e,.ro .int b,.ro .int a],.c (.v (.func (.func 127) ⟨[]⟩ ⟨[]⟩))] kk
def kt0_qay (kf:Kt):Kt:=blockK 0 (seqK (evF TT cs_qay 33 an_qay Tryz.f126 [1,1,1]) (kf))
def I0_qay (g:LI) (e c:Int) (f d b a:LI) (kk:AK):Nat→St→Prop:=iter (evF TT cs_qay 33 an_qay Tryz.f126 [1,1,0,1,0,0]) nm0_qay (kt0_qay (fin_qay g e c f d b a kk))
theorem r0_qay (r:LI) (e c:Int) (f d:LI) (b a:LI) (q:Int) (kk:AK) (n:Nat) (g p:Int) (h i:Int) (j l:LI) (m o:LI) :
  I0_qay r e c f d b a kk (n+1) (can0_qay r q g p h i j l m o)=T0_qay r q g p h i j l m o (K_qay kk) (fun g p h i j l m o=>I0_qay r e c f d b a kk n (can0_qay r q g p h i j l m o)):=by kernel_rfl
theorem l0_qay (r:LI) (m d:Int) (o l:LI) (c a:LI) (q:Int) (kk:AK):∀ (n:Nat) (b p:Int) (e f:Int) (g h:LI) (i j:LI),I0_qay r m d o l c a kk n (can0_qay r q b p e f g h i j)=L0_qay r q (K_qay kk) n b p e f g h i j:=by
 intro n
 induction n with
 | zero=>intros; rfl
 | succ n ih=>
  intro b p e f g h i j
  rw [r0_qay r m d o l c a q kk n b p e f g h i j]
  simp only [ih] <;> rfl
theorem g_qay (h:LI) (f d:Int) (g e:LI) (b a:LI) (kk:AK) :
  ev TT cs_qay 33 an_qay (Tryz.f126.body.getD .skip) (st0 con_qax [.c (.ro .int h),.agg [vi f,vi d,.ro .int g,.ro .int e,.ro .int b,.ro .int a],.c (.v (.func (.func 127) ⟨[]⟩ ⟨[]⟩))]) (fin TT con_qax Tryz.f126.results.toList [.agg [.sc,.sc,.sl .int,.sl .int,.sl .int,.sl .int],.c .sc] [.c (.ro .int h),.agg [vi f,vi d,.ro .int g,.ro .int e,.ro .int b,.ro .int a],.c (.v (.func (.func 127) ⟨[]⟩ ⟨[]⟩))] kk)=G_qay h f d g e b a (fun h r i s l m n o p q=>∃ j,I0_qay h f d g e b a kk j (can0_qay h r i s l m n o p q)):=by kernel_rfl
theorem e_qay (s:LI) (f d:Int) (g e:LI) (b a:LI) (kk:AK) :
  ev TT cs_qay 33 an_qay (Tryz.f126.body.getD .skip) (st0 con_qax [.c (.ro .int s),.agg [vi f,vi d,.ro .int g,.ro .int e,.ro .int b,.ro .int a],.c (.v (.func (.func 127) ⟨[]⟩ ⟨[]⟩))]) (fin TT con_qax Tryz.f126.results.toList [.agg [.sc,.sc,.sl .int,.sl .int,.sl .int,.sl .int],.c .sc] [.c (.ro .int s),.agg [vi f,vi d,.ro .int g,.ro .int e,.ro .int b,.ro .int a],.c (.v (.func (.func 127) ⟨[]⟩ ⟨[]⟩))] kk)=S_qay s f d g e b a (K_qay kk):=by
 rw [g_qay]
 have hi0:(fun s q h r i l m n o p=>∃ j,I0_qay s f d g e b a kk j (can0_qay s q h r i l m n o p))=(fun s q h r i l m n o p=>∃ j,L0_qay s q (K_qay kk) j h r i l m n o p):=by
  funext s q h r i l m n o p
  refine congrArg Exists (funext fun j=>?_)
  rw [l0_qay s f d g e b a q kk j h r i l m n o p]
 rw [hi0]
 rfl
theorem clok_qay:ConOK Tryz.prog cl_qay:=consCons h_qs (pf (by kernel_rfl)) (consNil)
theorem cok_qay:ConsOK Tryz.prog 33 cs_qay:=⟨clok_qay,inlNil,ovNil⟩
theorem i_qay {vs:List A1} {kk:AK} {motive:List A1→Prop} (h:con_qax.F vs kk) (H:∀ (i:LI) (f d:Int) (g e:LI) (b a:LI),F_qay i f d g e b a (K_qay kk)→motive [.c (.ro .int i),.agg [vi f,vi d,.ro .int g,.ro .int e,.ro .int b,.ro .int a],.c (.v (.func (.func 127) ⟨[]⟩ ⟨[]⟩))]):motive vs:=by
 unfold con_qax at h
 dsimp only at h
 split at h
 ·exact H _ _ _ _ _ _ _ h
 ·exact h.elim
theorem h_qax:Holds Tryz.prog 126 con_qax:=by
 refine holds_of_ev (rt:=[.agg [.sc,.sc,.sl .int,.sl .int,.sl .int,.sl .int],.c .sc]) (T:=TT) (Γ:=cs_qay) (an:=an_qay) (N:=33) (c:=Tryz.f126.body.getD .skip) Tryz.func126 (by kernel_rfl) Tryz.ntmps126 (by decide) (by decide) mixed tabOK cok_qay (by kernel_rfl) ?_
 intro vs kk _ hF
 exact i_qay (motive:=fun vs=>Goes (ev TT cs_qay 33 an_qay (Tryz.f126.body.getD .skip) (st0 con_qax vs) (fin TT con_qax Tryz.f126.results.toList [.agg [.sc,.sc,.sl .int,.sl .int,.sl .int,.sl .int],.c .sc] vs kk))) hF (fun h f d g e b a hF=>goes_of (e_qay h f d g e b a kk) (F_qay_S hF))
def K_qm (kk:AK):Int→Int→LI→LI→LI→LI→Int→Prop:=(fun a b d e f g h=>kk (.tup [.agg [vi a,vi b,.ro .int d,.ro .int e,.ro .int f,.ro .int g],.c (vi h)]) [])
def con_qm:Con:=⟨[.rd,.rd],true,[.c (.sl .int),.c (.sc)],fun vs k=>match vs with
  | [.c (.ro .int b),.c (.v (.int .i64 a))]=>F_qm b a (K_qm k)
  | _=>False,false⟩
def cl_qm:List (FuncId×Con):=[(98,con_qaa),(120,con_qbf),(126,con_qax)]
def an_qm:Ann:=⟨[],[],[],[]⟩
def cs_qm:Cons:=⟨cl_qm,[],0,[],[],[]⟩
def fin_qm (b:LI) (a:Int) (kk:AK):Kt:=fin TT con_qm Tryz.f96.results.toList [.agg [.sc,.sc,.sl .int,.sl .int,.sl .int,.sl .int],.c .sc] [.c (.ro .int b),.c (vi a)] kk
def V_qm (vs:List A1) (kk:AK):Prop:=ev TT cs_qm 21 an_qm (Tryz.f96.body.getD .skip) (st0 con_qm vs) (fin TT con_qm Tryz.f96.results.toList [.agg [.sc,.sc,.sl .int,.sl .int,.sl .int,.sl .int],.c .sc] vs kk)
theorem g_qm (b:LI) (a:Int) (kk:AK) :
  V_qm [.c (.ro .int b),.c (vi a)] kk=G_qm b a (K_qm kk):=by kernel_rfl
theorem e_qm (b:LI) (a:Int) (kk:AK) :
  V_qm [.c (.ro .int b),.c (vi a)] kk=S_qm b a (K_qm kk):=by
 rw [g_qm]
 rfl
theorem clok_qm:ConOK Tryz.prog cl_qm:=consCons h_qaa (pf (by kernel_rfl)) (consCons h_qbf (pf (by kernel_rfl)) (consCons h_qax (pf (by kernel_rfl)) (consNil)))
theorem cok_qm:ConsOK Tryz.prog 21 cs_qm:=⟨clok_qm,inlNil,ovNil⟩
theorem i_qm {vs:List A1} {kk:AK} {motive:List A1→Prop} (h:con_qm.F vs kk) (H:∀ (b:LI) (a:Int),F_qm b a (K_qm kk)→motive [.c (.ro .int b),.c (vi a)]):motive vs:=by
 unfold con_qm at h
 dsimp only at h
 split at h
 ·exact H _ _ h
 ·exact h.elim
theorem h_qm:Holds Tryz.prog 96 con_qm:=by
 refine holds_of_ev (rt:=[.agg [.sc,.sc,.sl .int,.sl .int,.sl .int,.sl .int],.c .sc]) (T:=TT) (Γ:=cs_qm) (an:=an_qm) (N:=21) (c:=Tryz.f96.body.getD .skip) Tryz.func96 (by kernel_rfl) Tryz.ntmps96 (by decide) (by decide) mixed tabOK cok_qm (by kernel_rfl) ?_
 intro vs kk _ hF
 exact i_qm (motive:=fun vs=>Goes (V_qm vs kk)) hF (fun b a hF=>goes_of (e_qm b a kk) (F_qm_S hF))
def K_qbe (kk:AK):Bool→Prop:=(fun a=>kk (.one (.c (.v (.bool a)))) [])
def con_qbe:Con:=⟨[.rd,.rd],true,[.c (.sl .int),.c (.sc)],fun vs k=>match vs with
  | [.c (.ro .int b),.c (.v (.int .i64 a))]=>F_qbe b a (K_qbe k)
  | _=>False,false⟩
def cl_qbe:List (FuncId×Con):=[]
def an_qbe:Ann:=⟨[],[],[],[]⟩
def cs_qbe:Cons:=⟨cl_qbe,[],0,[],[],[]⟩
def fin_qbe (b:LI) (a:Int) (kk:AK):Kt:=fin TT con_qbe Tryz.f182.results.toList [.c .sc] [.c (.ro .int b),.c (vi a)] kk
def V_qbe (vs:List A1) (kk:AK):Prop:=ev TT cs_qbe 13 an_qbe (Tryz.f182.body.getD .skip) (st0 con_qbe vs) (fin TT con_qbe Tryz.f182.results.toList [.c .sc] vs kk)
theorem g_qbe (b:LI) (a:Int) (kk:AK) :
  V_qbe [.c (.ro .int b),.c (vi a)] kk=G_qbe b a (K_qbe kk):=by kernel_rfl
theorem e_qbe (b:LI) (a:Int) (kk:AK) :
  V_qbe [.c (.ro .int b),.c (vi a)] kk=S_qbe b a (K_qbe kk):=by
 rw [g_qbe]
 rfl
theorem clok_qbe:ConOK Tryz.prog cl_qbe:=consNil
theorem cok_qbe:ConsOK Tryz.prog 13 cs_qbe:=⟨clok_qbe,inlNil,ovNil⟩
theorem i_qbe {vs:List A1} {kk:AK} {motive:List A1→Prop} (h:con_qbe.F vs kk) (H:∀ (b:LI) (a:Int),F_qbe b a (K_qbe kk)→motive [.c (.ro .int b),.c (vi a)]):motive vs:=by
 unfold con_qbe at h
 dsimp only at h
 split at h
 ·exact H _ _ h
 ·exact h.elim
theorem h_qbe:Holds Tryz.prog 182 con_qbe:=by
 refine holds_of_ev (rt:=[.c .sc]) (T:=TT) (Γ:=cs_qbe) (an:=an_qbe) (N:=13) (c:=Tryz.f182.body.getD .skip) Tryz.func182 (by kernel_rfl) Tryz.ntmps182 (by decide) (by decide) mixed tabOK cok_qbe (by kernel_rfl) ?_
 intro vs kk _ hF
 exact i_qbe (motive:=fun vs=>Goes (V_qbe vs kk)) hF (fun b a hF=>goes_of (e_qbe b a kk) (F_qbe_S hF))
def K_qi (kk:AK):Int→Prop:=(fun a=>kk (.one (.c (vi a))) [])
def con_qi:Con:=⟨[.rd,.rd,.rd],true,[.c (.sl .int),.c (.sc),.c (.sc)],fun vs k=>match vs with
  | [.c (.ro .int d),.c (.v (.int .i64 a)),.c (.v (.int .i64 b))]=>F_qi d a b (K_qi k)
  | _=>False,false⟩
def cl_qi:List (FuncId×Con):=[(87,con_qbd),(98,con_qaa),(150,con_qby),(182,con_qbe)]
def an_qi:Ann:=⟨[],[],[],[]⟩
def cs_qi:Cons:=⟨cl_qi,[],0,[],[],[]⟩
def fin_qi (d:LI) (a b:Int) (kk:AK):Kt:=fin TT con_qi Tryz.f161.results.toList [.c .sc] [.c (.ro .int d),.c (vi a),.c (vi b)] kk
def V_qi (vs:List A1) (kk:AK):Prop:=ev TT cs_qi 34 an_qi (Tryz.f161.body.getD .skip) (st0 con_qi vs) (fin TT con_qi Tryz.f161.results.toList [.c .sc] vs kk)
theorem g_qi (d:LI) (a b:Int) (kk:AK) :
  V_qi [.c (.ro .int d),.c (vi a),.c (vi b)] kk=G_qi d a b (K_qi kk):=by kernel_rfl
theorem e_qi (d:LI) (a b:Int) (kk:AK) :
  V_qi [.c (.ro .int d),.c (vi a),.c (vi b)] kk=S_qi d a b (K_qi kk):=by
 rw [g_qi]
 rfl
theorem clok_qi:ConOK Tryz.prog cl_qi:=consCons h_qbd (pf (by kernel_rfl)) (consCons h_qaa (pf (by kernel_rfl)) (consCons h_qby (pf (by kernel_rfl)) (consCons h_qbe (pf (by kernel_rfl)) (consNil))))
theorem cok_qi:ConsOK Tryz.prog 34 cs_qi:=⟨clok_qi,inlNil,ovNil⟩
theorem i_qi {vs:List A1} {kk:AK} {motive:List A1→Prop} (h:con_qi.F vs kk) (H:∀ (d:LI) (a b:Int),F_qi d a b (K_qi kk)→motive [.c (.ro .int d),.c (vi a),.c (vi b)]):motive vs:=by
 unfold con_qi at h
 dsimp only at h
 split at h
 ·exact H _ _ _ h
 ·exact h.elim
theorem h_qi:Holds Tryz.prog 161 con_qi:=by
 refine holds_of_ev (rt:=[.c .sc]) (T:=TT) (Γ:=cs_qi) (an:=an_qi) (N:=34) (c:=Tryz.f161.body.getD .skip) Tryz.func161 (by kernel_rfl) Tryz.ntmps161 (by decide) (by decide) mixed tabOK cok_qi (by kernel_rfl) ?_
 intro vs kk _ hF
 exact i_qi (motive:=fun vs=>Goes (V_qi vs kk)) hF (fun d a b hF=>goes_of (e_qi d a b kk) (F_qi_S hF))
def K_qae (kk:AK):Int→Prop:=(fun a=>kk (.one (.c (vi a))) [])
def con_qae:Con:=⟨[.rd,.rd,.rd],true,[.c (.sl .int),.c (.sc),.c (.sl .int)],fun vs k=>match vs with
  | [.c (.ro .int d),.c (.v (.int .i64 b)),.c (.ro .int a)]=>F_qae d b a (K_qae k)
  | _=>False,false⟩
def cl_qae:List (FuncId×Con):=[(161,con_qi)]
def nm0_qae:List NStep:=[.keep [0,1,7,13,14,15] []]
def an_qae:Ann:=⟨[],[(3,nm0_qae)],[],[]⟩
def cs_qae:Cons:=⟨cl_qae,[],0,[],[],[]⟩
def can0_qae (b:LI) (d:Int) (g:LI) (e a f:Int):St:=⟨[(0,.one (.c (.ro .int g))),(1,.one (.c (vi d))),(7,.one (.c (vi a))),(13,.one (.c (.ro .int b))),(14,.one (.c (vi e))),(15,.one (.c (vi f)))],[]⟩
def fin_qae (d:LI) (b:Int) (a:LI) (kk:AK):Kt:=fin TT con_qae Tryz.f130.results.toList [.c .sc] [.c (.ro .int d),.c (vi b),.c (.ro .int a)] kk
def V_qae (vs:List A1) (kk:AK):Prop:=ev TT cs_qae 31 an_qae (Tryz.f130.body.getD .skip) (st0 con_qae vs) (fin TT con_qae Tryz.f130.results.toList [.c .sc] vs kk)
def kt0_qae (kf:Kt):Kt:=blockK 0 (seqK (evF TT cs_qae 31 an_qae Tryz.f130 [1,1,1]) (kf))
def I0_qae (c:LI) (b:Int) (a:LI) (kk:AK):Nat→St→Prop:=iter (evF TT cs_qae 31 an_qae Tryz.f130 [1,1,0,1,0,0]) nm0_qae (kt0_qae (fin_qae c b a kk))
theorem r0_qae (f:LI) (c:Int) (b:LI) (e:Int) (kk:AK) (n:Nat) (a d:Int) :
  I0_qae f c b kk (n+1) (can0_qae b c f e a d)=T0_qae b c f e a d (K_qae kk) (fun a d=>I0_qae f c b kk n (can0_qae b c f e a d)):=by kernel_rfl
theorem l0_qae (f:LI) (c:Int) (b:LI) (e:Int) (kk:AK):∀ (n:Nat) (a d:Int),I0_qae f c b kk n (can0_qae b c f e a d)=L0_qae b c f e (K_qae kk) n a d:=by
 intro n
 induction n with
 | zero=>intros; rfl
 | succ n ih=>
  intro a d
  rw [r0_qae f c b e kk n a d]
  simp only [ih] <;> rfl
theorem g_qae (e:LI) (b:Int) (a:LI) (kk:AK) :
  V_qae [.c (.ro .int e),.c (vi b),.c (.ro .int a)] kk=G_qae e b a (fun a b e f d g=>∃ j,I0_qae e b a kk j (can0_qae a b e f d g)):=by kernel_rfl
theorem e_qae (g:LI) (b:Int) (a:LI) (kk:AK) :
  V_qae [.c (.ro .int g),.c (vi b),.c (.ro .int a)] kk=S_qae g b a (K_qae kk):=by
 rw [g_qae]
 have hi0:(fun a b g e d f=>∃ j,I0_qae g b a kk j (can0_qae a b g e d f))=(fun a b g e d f=>∃ j,L0_qae a b g e (K_qae kk) j d f):=by
  funext a b g e d f
  refine congrArg Exists (funext fun j=>?_)
  rw [l0_qae g b a e kk j d f]
 rw [hi0]
 rfl
theorem clok_qae:ConOK Tryz.prog cl_qae:=consCons h_qi (pf (by kernel_rfl)) (consNil)
theorem cok_qae:ConsOK Tryz.prog 31 cs_qae:=⟨clok_qae,inlNil,ovNil⟩
theorem i_qae {vs:List A1} {kk:AK} {motive:List A1→Prop} (h:con_qae.F vs kk) (H:∀ (d:LI) (b:Int) (a:LI),F_qae d b a (K_qae kk)→motive [.c (.ro .int d),.c (vi b),.c (.ro .int a)]):motive vs:=by
 unfold con_qae at h
 dsimp only at h
 split at h
 ·exact H _ _ _ h
 ·exact h.elim
theorem h_qae:Holds Tryz.prog 130 con_qae:=by
 refine holds_of_ev (rt:=[.c .sc]) (T:=TT) (Γ:=cs_qae) (an:=an_qae) (N:=31) (c:=Tryz.f130.body.getD .skip) Tryz.func130 (by kernel_rfl) Tryz.ntmps130 (by decide) (by decide) mixed tabOK cok_qae (by kernel_rfl) ?_
 intro vs kk _ hF
 exact i_qae (motive:=fun vs=>Goes (V_qae vs kk)) hF (fun d b a hF=>goes_of (e_qae d b a kk) (F_qae_S hF))
def K_qd (kk:AK):Int→Prop:=(fun a=>kk (.one (.c (vi a))) [])
def con_qd:Con:=⟨[.rd,.rd],true,[.c (.sl .int),.c (.sc)],fun vs k=>match vs with
  | [.c (.ro .int b),.c (.v (.int .i64 a))]=>F_qd b a (K_qd k)
  | _=>False,false⟩
def cl_qd:List (FuncId×Con):=[(98,con_qaa),(120,con_qbf),(128,con_qbt),(129,con_qbk),(130,con_qae)]
def nm0_qd:List NStep:=[.own 5 .int 90000,.keep [0,1,5,6,18,19,20] [90000]]
def an_qd:Ann:=⟨[],[(6,nm0_qd)],[],[]⟩
def cs_qd:Cons:=⟨cl_qd,[],0,[],[],[]⟩
def can0_qd (d:Int) (g:LI) (e b f:Int) (a:LI):St:=⟨[(0,.one (.c (.ro .int g))),(1,.one (.c (vi d))),(5,.one (.c (.ow 90000))),(6,.one (.c (vi b))),(18,.one (.c (.ro .int g))),(19,.one (.c (vi e))),(20,.one (.c (vi f)))],[(90000,.row .int a)]⟩
def fin_qd (b:LI) (a:Int) (kk:AK):Kt:=fin TT con_qd Tryz.f97.results.toList [.c .sc] [.c (.ro .int b),.c (vi a)] kk
def V_qd (vs:List A1) (kk:AK):Prop:=ev TT cs_qd 47 an_qd (Tryz.f97.body.getD .skip) (st0 con_qd vs) (fin TT con_qd Tryz.f97.results.toList [.c .sc] vs kk)
def kt0_qd (kf:Kt):Kt:=blockK 0 (seqK (evF TT cs_qd 47 an_qd Tryz.f97 [1,1,1,1,1]) (kf))
def I0_qd (b:LI) (a:Int) (kk:AK):Nat→St→Prop:=iter (evF TT cs_qd 47 an_qd Tryz.f97 [1,1,1,1,0,1,0,0]) nm0_qd (kt0_qd (fin_qd b a kk))
theorem r0_qd (f:LI) (b e:Int) (kk:AK) (n:Nat) (c d:Int) (a:LI) :
  I0_qd f b kk (n+1) (can0_qd b f e c d a)=T0_qd b f e c d a (K_qd kk) (fun c d a=>I0_qd f b kk n (can0_qd b f e c d a)):=by kernel_rfl
theorem l0_qd (f:LI) (c e:Int) (kk:AK):∀ (n:Nat) (b d:Int) (a:LI),I0_qd f c kk n (can0_qd c f e b d a)=L0_qd c f e (K_qd kk) n b d a:=by
 intro n
 induction n with
 | zero=>intros; rfl
 | succ n ih=>
  intro b d a
  rw [r0_qd f c e kk n b d a]
  simp only [ih] <;> rfl
theorem g_qd (d:LI) (a:Int) (kk:AK) :
  V_qd [.c (.ro .int d),.c (vi a)] kk=G_qd d a (K_qd kk) (fun a d f e g b=>∃ j,I0_qd d a kk j (can0_qd a d f e g b)):=by kernel_rfl
theorem e_qd (g:LI) (a:Int) (kk:AK) :
  V_qd [.c (.ro .int g),.c (vi a)] kk=S_qd g a (K_qd kk):=by
 rw [g_qd]
 have hi0:(fun a g e d f b=>∃ j,I0_qd g a kk j (can0_qd a g e d f b))=(fun a g e d f b=>∃ j,L0_qd a g e (K_qd kk) j d f b):=by
  funext a g e d f b
  refine congrArg Exists (funext fun j=>?_)
  rw [l0_qd g a e kk j d f b]
 rw [hi0]
 rfl
theorem clok_qd:ConOK Tryz.prog cl_qd:=consCons h_qaa (pf (by kernel_rfl)) (consCons h_qbf (pf (by kernel_rfl)) (consCons h_qbt (pf (by kernel_rfl)) (consCons h_qbk (pf (by kernel_rfl)) (consCons h_qae (pf (by kernel_rfl)) (consNil)))))
theorem cok_qd:ConsOK Tryz.prog 47 cs_qd:=⟨clok_qd,inlNil,ovNil⟩
theorem i_qd {vs:List A1} {kk:AK} {motive:List A1→Prop} (h:con_qd.F vs kk) (H:∀ (b:LI) (a:Int),F_qd b a (K_qd kk)→motive [.c (.ro .int b),.c (vi a)]):motive vs:=by
 unfold con_qd at h
 dsimp only at h
 split at h
 ·exact H _ _ h
 ·exact h.elim
theorem h_qd:Holds Tryz.prog 97 con_qd:=by
 refine holds_of_ev (rt:=[.c .sc]) (T:=TT) (Γ:=cs_qd) (an:=an_qd) (N:=47) (c:=Tryz.f97.body.getD .skip) Tryz.func97 (by kernel_rfl) Tryz.ntmps97 (by decide) (by decide) mixed tabOK cok_qd (by kernel_rfl) ?_
 intro vs kk _ hF
 exact i_qd (motive:=fun vs=>Goes (V_qd vs kk)) hF (fun b a hF=>goes_of (e_qd b a kk) (F_qd_S hF))
def K_qak (kk:AK):Int→Prop:=(fun a=>kk (.one (.c (vi a))) [])
def con_qak:Con:=⟨[.rd,.rd,.rd],true,[.c (.sl .int),.c (.sc),.c (.sc)],fun vs k=>match vs with
  | [.c (.ro .int d),.c (.v (.string a)),.c (.v (.int .i64 b))]=>F_qak d a b (K_qak k)
  | _=>False,false⟩
def cl_qak:List (FuncId×Con):=[(92,con_qo),(93,con_ql),(94,con_qk),(95,con_qn),(96,con_qm),(97,con_qd)]
def an_qak:Ann:=⟨[],[],[],[]⟩
def cs_qak:Cons:=⟨cl_qak,[],0,[],[],[]⟩
def fin_qak (d:LI) (a:ByteArray) (b:Int) (kk:AK):Kt:=fin TT con_qak Tryz.f66.results.toList [.c .sc] [.c (.ro .int d),.c (.v (.string a)),.c (vi b)] kk
def V_qak (vs:List A1) (kk:AK):Prop:=ev TT cs_qak 55 an_qak (Tryz.f66.body.getD .skip) (st0 con_qak vs) (fin TT con_qak Tryz.f66.results.toList [.c .sc] vs kk)
theorem g_qak (d:LI) (a:ByteArray) (b:Int) (kk:AK) :
  V_qak [.c (.ro .int d),.c (.v (.string a)),.c (vi b)] kk=G_qak d a b (K_qak kk):=by kernel_rfl
theorem e_qak (d:LI) (a:ByteArray) (b:Int) (kk:AK) :
  V_qak [.c (.ro .int d),.c (.v (.string a)),.c (vi b)] kk=S_qak d a b (K_qak kk):=by
 rw [g_qak]
 rfl
theorem clok_qak:ConOK Tryz.prog cl_qak:=consCons h_qo (pf (by kernel_rfl)) (consCons h_ql (pf (by kernel_rfl)) (consCons h_qk (pf (by kernel_rfl)) (consCons h_qn (pf (by kernel_rfl)) (consCons h_qm (pf (by kernel_rfl)) (consCons h_qd (pf (by kernel_rfl)) (consNil))))))
theorem cok_qak:ConsOK Tryz.prog 55 cs_qak:=⟨clok_qak,inlNil,ovNil⟩
theorem i_qak {vs:List A1} {kk:AK} {motive:List A1→Prop} (h:con_qak.F vs kk) (H:∀ (d:LI) (a:ByteArray) (b:Int),F_qak d a b (K_qak kk)→motive [.c (.ro .int d),.c (.v (.string a)),.c (vi b)]):motive vs:=by
 unfold con_qak at h
 dsimp only at h
 split at h
 ·exact H _ _ _ h
 ·exact h.elim
theorem h_qak:Holds Tryz.prog 66 con_qak:=by
 refine holds_of_ev (rt:=[.c .sc]) (T:=TT) (Γ:=cs_qak) (an:=an_qak) (N:=55) (c:=Tryz.f66.body.getD .skip) Tryz.func66 (by kernel_rfl) Tryz.ntmps66 (by decide) (by decide) mixed tabOK cok_qak (by kernel_rfl) ?_
 intro vs kk _ hF
 exact i_qak (motive:=fun vs=>Goes (V_qak vs kk)) hF (fun d a b hF=>goes_of (e_qak d a b kk) (F_qak_S hF))
def K_qad (kk:AK):Int→Prop:=(fun a=>kk (.one (.c (vi a))) [])
def con_qad:Con:=⟨[.rd],true,[.c (.sl .int)],fun vs k=>match vs with
  | [.c (.ro .int a)]=>F_qad a (K_qad k)
  | _=>False,false⟩
def cl_qad:List (FuncId×Con):=[]
def nm0_qad:List NStep:=[.keep [0,5,6,7] []]
def an_qad:Ann:=⟨[],[(2,nm0_qad)],[],[]⟩
def cs_qad:Cons:=⟨cl_qad,[],0,[],[],[]⟩
def can0_qad (a:LI) (b d:Int):St:=⟨[(0,.one (.c (.ro .int a))),(5,.one (.c (.ro .int a))),(6,.one (.c (vi b))),(7,.one (.c (vi d)))],[]⟩
def fin_qad (a:LI) (kk:AK):Kt:=fin TT con_qad Tryz.f99.results.toList [.c .sc] [.c (.ro .int a)] kk
def V_qad (vs:List A1) (kk:AK):Prop:=ev TT cs_qad 21 an_qad (Tryz.f99.body.getD .skip) (st0 con_qad vs) (fin TT con_qad Tryz.f99.results.toList [.c .sc] vs kk)
def kt0_qad (kf:Kt):Kt:=blockK 0 (seqK (evF TT cs_qad 21 an_qad Tryz.f99 [1,1]) (kf))
def I0_qad (a:LI) (kk:AK):Nat→St→Prop:=iter (evF TT cs_qad 21 an_qad Tryz.f99 [1,0,1,0,0]) nm0_qad (kt0_qad (fin_qad a kk))
theorem r0_qad (b:LI) (c:Int) (kk:AK) (n:Nat) (a:Int) :
  I0_qad b kk (n+1) (can0_qad b c a)=T0_qad b c a (K_qad kk) (fun a=>I0_qad b kk n (can0_qad b c a)):=by kernel_rfl
theorem l0_qad (c:LI) (b:Int) (kk:AK):∀ (n:Nat) (a:Int),I0_qad c kk n (can0_qad c b a)=L0_qad c b (K_qad kk) n a:=by
 intro n
 induction n with
 | zero=>intros; rfl
 | succ n ih=>
  intro a
  rw [r0_qad c b kk n a]
  simp only [ih] <;> rfl
theorem g_qad (a:LI) (kk:AK) :
  V_qad [.c (.ro .int a)] kk=G_qad a (fun a b d=>∃ j,I0_qad a kk j (can0_qad a b d)):=by kernel_rfl
theorem e_qad (a:LI) (kk:AK) :
  V_qad [.c (.ro .int a)] kk=S_qad a (K_qad kk):=by
 rw [g_qad]
 have hi0:(fun a b d=>∃ j,I0_qad a kk j (can0_qad a b d))=(fun a b d=>∃ j,L0_qad a b (K_qad kk) j d):=by
  funext a b d
  refine congrArg Exists (funext fun j=>?_)
  rw [l0_qad a b kk j d]
 rw [hi0]
 rfl
theorem clok_qad:ConOK Tryz.prog cl_qad:=consNil
theorem cok_qad:ConsOK Tryz.prog 21 cs_qad:=⟨clok_qad,inlNil,ovNil⟩
theorem i_qad {vs:List A1} {kk:AK} {motive:List A1→Prop} (h:con_qad.F vs kk) (H:∀ (a:LI),F_qad a (K_qad kk)→motive [.c (.ro .int a)]):motive vs:=by
 unfold con_qad at h
 dsimp only at h
 split at h
 ·exact H _ h
 ·exact h.elim
theorem h_qad:Holds Tryz.prog 99 con_qad:=by
 refine holds_of_ev (rt:=[.c .sc]) (T:=TT) (Γ:=cs_qad) (an:=an_qad) (N:=21) (c:=Tryz.f99.body.getD .skip) Tryz.func99 (by kernel_rfl) Tryz.ntmps99 (by decide) (by decide) mixed tabOK cok_qad (by kernel_rfl) ?_
 intro vs kk _ hF
 exact i_qad (motive:=fun vs=>Goes (V_qad vs kk)) hF (fun a hF=>goes_of (e_qad a kk) (F_qad_S hF))
def K_qau (kk:AK):ByteArray→Prop:=(fun a=>kk (.one (.c (.v (.string a)))) [])
def con_qau:Con:=⟨[.rd,.rd],true,[.c (.sc),.c (.sc)],fun vs k=>match vs with
  | [.c (.v (.int .i64 b)),.c (.v (.int .i64 a))]=>F_qau b a (K_qau k)
  | _=>False,false⟩
def cl_qau:List (FuncId×Con):=[(64,con_qdy)]
def an_qau:Ann:=⟨[],[],[],[]⟩
def cs_qau:Cons:=⟨cl_qau,[],0,[],[],[]⟩
def fin_qau (b a:Int) (kk:AK):Kt:=fin TT con_qau Tryz.f100.results.toList [.c .sc] [.c (vi b),.c (vi a)] kk
def V_qau (vs:List A1) (kk:AK):Prop:=ev TT cs_qau 15 an_qau (Tryz.f100.body.getD .skip) (st0 con_qau vs) (fin TT con_qau Tryz.f100.results.toList [.c .sc] vs kk)
theorem g_qau (b a:Int) (kk:AK) :
  V_qau [.c (vi b),.c (vi a)] kk=G_qau b a (K_qau kk):=by kernel_rfl
theorem e_qau (b a:Int) (kk:AK) :
  V_qau [.c (vi b),.c (vi a)] kk=S_qau b a (K_qau kk):=by
 rw [g_qau]
 rfl
theorem clok_qau:ConOK Tryz.prog cl_qau:=consCons h_qdy (pf (by kernel_rfl)) (consNil)
theorem cok_qau:ConsOK Tryz.prog 15 cs_qau:=⟨clok_qau,inlNil,ovNil⟩
theorem i_qau {vs:List A1} {kk:AK} {motive:List A1→Prop} (h:con_qau.F vs kk) (H:∀ (b a:Int),F_qau b a (K_qau kk)→motive [.c (vi b),.c (vi a)]):motive vs:=by
 unfold con_qau at h
 dsimp only at h
 split at h
 ·exact H _ _ h
 ·exact h.elim
theorem h_qau:Holds Tryz.prog 100 con_qau:=by
 refine holds_of_ev (rt:=[.c .sc]) (T:=TT) (Γ:=cs_qau) (an:=an_qau) (N:=15) (c:=Tryz.f100.body.getD .skip) Tryz.func100 (by kernel_rfl) Tryz.ntmps100 (by decide) (by decide) mixed tabOK cok_qau (by kernel_rfl) ?_
 intro vs kk _ hF
 exact i_qau (motive:=fun vs=>Goes (V_qau vs kk)) hF (fun b a hF=>goes_of (e_qau b a kk) (F_qau_S hF))
def con_qeb:Con:=⟨[.rd,.rd],true,[.c (.sl .str),.c (.sc)],fun vs k=>match vs with
  | [.c (.ro .str a),.c (.v (.string b))]=>F_qeb a b (fun d=>k (.one (.c (.v (.string d)))) [])
  | _=>False,false⟩
theorem str_list (a : List Int) : (strOfNums a).data.toList = a.map (fun x => UInt8.ofNat x.toNat) := by rw [str_data]
theorem join_list (s : List Int) : ∀ W : List (List Int), Lib.join ((W.map strOfNums).map (·.data.toList)) (strOfNums s).data.toList = (joinB s W).map (fun x => UInt8.ofNat x.toNat)
 | [] => rfl
 | [x] => by rw [List.map_singleton, List.map_singleton, Lib.join_one, str_list]; rfl
 | x :: y :: r => by
  have ih := join_list s (y :: r)
  rw [List.map_cons, List.map_cons] at ih
  rw [Lib.join_cons] at ih
  rw [List.map_cons, List.map_cons, Lib.join_cons, List.map_cons, List.map_cons, joinB, List.map_append, List.map_append, ← ih, Lib.joinTail, List.map_cons, List.flatten_cons, ← Lib.joinTail, str_list x, str_list s]
  simp only [List.append_assoc]
theorem h_qeb : Holds Tryz.prog 101 con_qeb := by
 refine holds_plain rfl fun vs kk hF w vals S μ hlen hG hv => ?_
 clear hlen
 unfold con_qeb at hF
 dsimp only at hF
 split at hF
 ·rename_i xs sep
  obtain ⟨W, s, ⟨rfl, rfl, hW, hJ⟩, hk⟩ := hF
  match vals, hv with
  | [y, z], hv =>
   obtain ⟨hy, hz, _⟩ := hv
   have hz : z = .string (strOfNums s) := hz
   subst hz
   obtain ⟨A, n, c, rfl, ⟨rfl, hn1, hn2, hro⟩, _⟩ := hy
   have out : ∀ v, v = .string (strOfNums (joinB s W)) → ∃ r v', kk r [] ∧ (Ending.returned v = .returned v') ∧ (∀ kd, instR con_qeb.fresh kd r = (r, [])) ∧ ∀ S μ w', RA S μ w' r v' := fun v e => ⟨_, v, hk, rfl, fun _ => rfl, fun _ _ _ => e⟩
   cases W with
   | nil =>
    refine (Tryz.strings_Join_none A c (strOfNums s) w).mono ?_
    rintro e w' ⟨rfl, rfl⟩
    obtain ⟨r, v', h1, h2, h3, h4⟩ := out (.string ⟨#[]⟩) rfl
    exact ⟨r, v', h1, h2, Fr.refl _ _, h3, h4⟩
   | cons x r =>
    rcases hro with ⟨_, hc⟩ | ⟨a, rfl, hcell⟩
    ·subst hc; simp at hn1
    ·obtain ⟨b, o, e, hc2⟩ := hcell (by simp)
     clear hcell
     subst e
     have hcell : ∀ (j : Nat) x', ((x :: r).map strOfNums)[j]? = some x' → w.cell? ⟨b, o + j, none⟩ = some (.string x') := fun j x' hx => by
      have := hc2 j x' hx 0 (.string x') rfl
      simpa [Ty.sz] using this
     have hb : b < w.heap.size := cell_lt (hcell 0 (strOfNums x) rfl)
     refine (Tryz.strings_Join b o c ((x :: r).map strOfNums) (strOfNums s) w hcell hb (by rw [List.length_map]; omega) hn1 (by rw [join_list, List.length_map]; omega)).mono ?_
     rintro e w' ⟨rfl, hbel⟩
     obtain ⟨r', v', h1, h2, h3, h4⟩ := out (.string ⟨(Lib.join (((x :: r).map strOfNums).map (·.data.toList)) (strOfNums s).data.toList).toArray⟩) (by rw [join_list]; rfl)
     exact ⟨r', v', h1, h2, Fr.of_below hbel, h3, h4⟩
 ·exact hF.elim
def K_qh (kk:AK):ByteArray→Prop:=(fun a=>kk (.one (.c (.v (.string a)))) [])
def con_qh:Con:=⟨[.rd],true,[.c (.sl .int)],fun vs k=>match vs with
  | [.c (.ro .int a)]=>F_qh a (K_qh k)
  | _=>False,false⟩
def cl_qh:List (FuncId×Con):=[(98,con_qaa),(99,con_qad),(100,con_qau),(101,con_qeb)]
def nm0_qh:List NStep:=[.own 3 .str 90000,.keep [3,4] [90000]]
def an_qh:Ann:=⟨[],[(5,nm0_qh)],[],[]⟩
def cs_qh:Cons:=⟨cl_qh,[],0,[],[],[]⟩
def can0_qh (b:LI) (a:LB):St:=⟨[(3,.one (.c (.ow 90000))),(4,.one (.c (.ro .int b)))],[(90000,.row .str a)]⟩
def fin_qh (a:LI) (kk:AK):Kt:=fin TT con_qh Tryz.f67.results.toList [.c .sc] [.c (.ro .int a)] kk
def V_qh (vs:List A1) (kk:AK):Prop:=ev TT cs_qh 29 an_qh (Tryz.f67.body.getD .skip) (st0 con_qh vs) (fin TT con_qh Tryz.f67.results.toList [.c .sc] vs kk)
def kt0_qh (kf:Kt):Kt:=blockK 0 (seqK (evF TT cs_qh 29 an_qh Tryz.f67 [1,1,1,1]) (kf))
def I0_qh (a:LI) (kk:AK):Nat→St→Prop:=iter (evF TT cs_qh 29 an_qh Tryz.f67 [1,1,1,0,1,0,0]) nm0_qh (kt0_qh (fin_qh a kk))
theorem r0_qh (c:LI) (kk:AK) (n:Nat) (b:LI) (a:LB) :
  I0_qh c kk (n+1) (can0_qh b a)=T0_qh b a (K_qh kk) (fun b a=>I0_qh c kk n (can0_qh b a)):=by kernel_rfl
theorem l0_qh (c:LI) (kk:AK):∀ (n:Nat) (b:LI) (a:LB),I0_qh c kk n (can0_qh b a)=L0_qh (K_qh kk) n b a:=by
 intro n
 induction n with
 | zero=>intros; rfl
 | succ n ih=>
  intro b a
  rw [r0_qh c kk n b a]
  simp only [ih] <;> rfl
theorem g_qh (d:LI) (kk:AK) :
  V_qh [.c (.ro .int d)] kk=G_qh d (K_qh kk) (fun b a=>∃ j,I0_qh d kk j (can0_qh b a)):=by kernel_rfl
theorem e_qh (d:LI) (kk:AK) :
  V_qh [.c (.ro .int d)] kk=S_qh d (K_qh kk):=by
 rw [g_qh]
 have hi0:(fun b a=>∃ j,I0_qh d kk j (can0_qh b a))=(fun b a=>∃ j,L0_qh (K_qh kk) j b a):=by
  funext b a
  refine congrArg Exists (funext fun j=>?_)
  rw [l0_qh d kk j b a]
 rw [hi0]
 rfl
theorem clok_qh:ConOK Tryz.prog cl_qh:=consCons h_qaa (pf (by kernel_rfl)) (consCons h_qad (pf (by kernel_rfl)) (consCons h_qau (pf (by kernel_rfl)) (consCons h_qeb (pf (by kernel_rfl)) (consNil))))
theorem cok_qh:ConsOK Tryz.prog 29 cs_qh:=⟨clok_qh,inlNil,ovNil⟩
theorem i_qh {vs:List A1} {kk:AK} {motive:List A1→Prop} (h:con_qh.F vs kk) (H:∀ (a:LI),F_qh a (K_qh kk)→motive [.c (.ro .int a)]):motive vs:=by
 unfold con_qh at h
 dsimp only at h
 split at h
 ·exact H _ h
 ·exact h.elim
theorem h_qh:Holds Tryz.prog 67 con_qh:=by
 refine holds_of_ev (rt:=[.c .sc]) (T:=TT) (Γ:=cs_qh) (an:=an_qh) (N:=29) (c:=Tryz.f67.body.getD .skip) Tryz.func67 (by kernel_rfl) Tryz.ntmps67 (by decide) (by decide) mixed tabOK cok_qh (by kernel_rfl) ?_
 intro vs kk _ hF
 exact i_qh (motive:=fun vs=>Goes (V_qh vs kk)) hF (fun a hF=>goes_of (e_qh a kk) (F_qh_S hF))
def K_qe (kk:AK):LI→Prop:=(fun a=>kk (.one (.c (.ro .int a))) [])
def con_qe:Con:=⟨[.rd],true,[.agg [.sl .int,.sl .iib,.sc]],fun vs k=>match vs with
  | [.agg [.ro .int a,.ro .iib b,.v (.int .i64 c)]]=>F_qe a b c (K_qe k)
  | _=>False,false⟩
def cl_qe:List (FuncId×Con):=[(86,con_qz)]
def nm0_qe:List NStep:=[.own 3 .int 90000,.keep [3,11,12,13] [90000]]
def an_qe:Ann:=⟨[],[(5,nm0_qe)],[],[]⟩
def cs_qe:Cons:=⟨cl_qe,[],0,[],[],[]⟩
def can0_qe (a:LT) (d e:Int) (b:LI):St:=⟨[(3,.one (.c (.ow 90000))),(11,.one (.c (.ro .iib a))),(12,.one (.c (vi d))),(13,.one (.c (vi e)))],[(90000,.row .int b)]⟩
def fin_qe (a:LI) (b:LT) (d:Int) (kk:AK):Kt:=fin TT con_qe Tryz.f68.results.toList [.c (.sl .int)] [.agg [.ro .int a,.ro .iib b,vi d]] kk
def V_qe (vs:List A1) (kk:AK):Prop:=ev TT cs_qe 26 an_qe (Tryz.f68.body.getD .skip) (st0 con_qe vs) (fin TT con_qe Tryz.f68.results.toList [.c (.sl .int)] vs kk)
def kt0_qe (kf:Kt):Kt:=blockK 0 (seqK (evF TT cs_qe 26 an_qe Tryz.f68 [1,1,1,1]) (kf))
def I0_qe (a:LI) (b:LT) (c:Int) (kk:AK):Nat→St→Prop:=iter (evF TT cs_qe 26 an_qe Tryz.f68 [1,1,1,0,1,0,0]) nm0_qe (kt0_qe (fin_qe a b c kk))
theorem r0_qe (c:LI) (a:LT) (e f:Int) (kk:AK) (n:Nat) (d:Int) (b:LI) :
  I0_qe c a e kk (n+1) (can0_qe a f d b)=T0_qe a f d b (K_qe kk) (fun d b=>I0_qe c a e kk n (can0_qe a f d b)):=by kernel_rfl
theorem l0_qe (d:LI) (a:LT) (e f:Int) (kk:AK):∀ (n:Nat) (c:Int) (b:LI),I0_qe d a e kk n (can0_qe a f c b)=L0_qe a f (K_qe kk) n c b:=by
 intro n
 induction n with
 | zero=>intros; rfl
 | succ n ih=>
  intro c b
  rw [r0_qe d a e f kk n c b]
  simp only [ih] <;> rfl
theorem g_qe (b:LI) (a:LT) (c:Int) (kk:AK) :
  V_qe [.agg [.ro .int b,.ro .iib a,vi c]] kk=G_qe b a c (K_qe kk) (fun a e f d=>∃ j,I0_qe b a c kk j (can0_qe a e f d)):=by kernel_rfl
theorem e_qe (b:LI) (a:LT) (c:Int) (kk:AK) :
  V_qe [.agg [.ro .int b,.ro .iib a,vi c]] kk=S_qe b a c (K_qe kk):=by
 rw [g_qe]
 have hi0:(fun a e f d=>∃ j,I0_qe b a c kk j (can0_qe a e f d))=(fun a e f d=>∃ j,L0_qe a e (K_qe kk) j f d):=by
  funext a e f d
  refine congrArg Exists (funext fun j=>?_)
  rw [l0_qe b a c e kk j f d]
 rw [hi0]
 rfl
theorem clok_qe:ConOK Tryz.prog cl_qe:=consCons h_qz (pf (by kernel_rfl)) (consNil)
theorem cok_qe:ConsOK Tryz.prog 26 cs_qe:=⟨clok_qe,inlNil,ovNil⟩
theorem i_qe {vs:List A1} {kk:AK} {motive:List A1→Prop} (h:con_qe.F vs kk) (H:∀ (a:LI) (b:LT) (c:Int),F_qe a b c (K_qe kk)→motive [.agg [.ro .int a,.ro .iib b,vi c]]):motive vs:=by
 unfold con_qe at h
 dsimp only at h
 split at h
 ·exact H _ _ _ h
 ·exact h.elim
theorem h_qe:Holds Tryz.prog 68 con_qe:=by
 refine holds_of_ev (rt:=[.c (.sl .int)]) (T:=TT) (Γ:=cs_qe) (an:=an_qe) (N:=26) (c:=Tryz.f68.body.getD .skip) Tryz.func68 (by kernel_rfl) Tryz.ntmps68 (by decide) (by decide) mixed tabOK cok_qe (by kernel_rfl) ?_
 intro vs kk _ hF
 exact i_qe (motive:=fun vs=>Goes (V_qe vs kk)) hF (fun a b d hF=>goes_of (e_qe a b d kk) (F_qe_S hF))
def K_qg (kk:AK):LI→LT→Int→Bool→Prop:=(fun a b d e=>kk (.tup [.agg [.ro .int a,.ro .iib b,vi d],.c (.v (.bool e))]) [])
def con_qg:Con:=⟨[.rd],true,[.agg [.sl .int,.sl .iib,.sc]],fun vs k=>match vs with
  | [.agg [.ro .int a,.ro .iib b,.v (.int .i64 c)]]=>F_qg a b c (K_qg k)
  | _=>False,false⟩
def cl_qg:List (FuncId×Con):=[(86,con_qz),(102,con_qbp)]
def nm0_qg:List NStep:=[.ownc 64 1 .iib 90000,.keep [2,4,18,19,20] [32,64,208,90000]]
def an_qg:Ann:=⟨[(3,.take 0 (.take 1 (.take 3 (.take 4 (.alt 2 (.take 5 (.alt 6 (.alt 7 (.done) (.none)) (.none))) (.alt 6 (.alt 2 (.take 5 (.alt 7 (.done) (.none))) (.none)) (.none)))))),[16])],[(5,nm0_qg)],[],[]⟩
def cs_qg:Cons:=⟨cl_qg,[],0,[],[],[]⟩
def can0_qg (a:LT) (b e f:Int) (g:LI) (d:LT):St:=⟨[(2,.one (.c (.pb 32 0))),(4,.one (.c (.pb 64 0))),(18,.one (.c (.ro .iib a))),(19,.one (.c (vi e))),(20,.one (.c (vi f)))],[(32,.box [.nil,.nil,vi 0]),(64,.box [.ow 208,.ow 90000,vi b]),(208,.row .int g),(90000,.row .iib d)]⟩
def fin_qg (a:LI) (b:LT) (d:Int) (kk:AK):Kt:=fin TT con_qg Tryz.f69.results.toList [.agg [.sl .int,.sl .iib,.sc],.c .sc] [.agg [.ro .int a,.ro .iib b,vi d]] kk
def V_qg (vs:List A1) (kk:AK):Prop:=ev TT cs_qg 43 an_qg (Tryz.f69.body.getD .skip) (st0 con_qg vs) (fin TT con_qg Tryz.f69.results.toList [.agg [.sl .int,.sl .iib,.sc],.c .sc] vs kk)
def kt0_qg (kf:Kt):Kt:=blockK 0 (seqK (evF TT cs_qg 43 an_qg Tryz.f69 [1,1,1,1]) (kf))
def I0_qg (a:LI) (b:LT) (c:Int) (kk:AK):Nat→St→Prop:=iter (evF TT cs_qg 43 an_qg Tryz.f69 [1,1,1,0,1,0,0]) nm0_qg (kt0_qg (fin_qg a b c kk))
theorem r0_qg (d:LI) (a:LT) (b:Int) (kk:AK) (n:Nat) (e f:Int) (g:LI) (c:LT) :
  I0_qg d a b kk (n+1) (can0_qg a b e f g c)=T0_qg a b e f g c (K_qg kk) (fun e f g c=>I0_qg d a b kk n (can0_qg a b e f g c)):=by kernel_rfl
theorem l0_qg (g:LI) (a:LT) (b:Int) (kk:AK):∀ (n:Nat) (d e:Int) (f:LI) (c:LT),I0_qg g a b kk n (can0_qg a b d e f c)=L0_qg a b (K_qg kk) n d e f c:=by
 intro n
 induction n with
 | zero=>intros; rfl
 | succ n ih=>
  intro d e f c
  rw [r0_qg g a b kk n d e f c]
  simp only [ih] <;> rfl
theorem g_qg (c:LI) (a:LT) (b:Int) (kk:AK) :
  V_qg [.agg [.ro .int c,.ro .iib a,vi b]] kk=G_qg c a b (K_qg kk) (fun a b e f g d=>∃ j,I0_qg c a b kk j (can0_qg a b e f g d)):=by kernel_rfl
theorem e_qg (c:LI) (a:LT) (b:Int) (kk:AK) :
  V_qg [.agg [.ro .int c,.ro .iib a,vi b]] kk=S_qg c a b (K_qg kk):=by
 rw [g_qg]
 have hi0:(fun a b e f g d=>∃ j,I0_qg c a b kk j (can0_qg a b e f g d))=(fun a b e f g d=>∃ j,L0_qg a b (K_qg kk) j e f g d):=by
  funext a b e f g d
  refine congrArg Exists (funext fun j=>?_)
  rw [l0_qg c a b kk j e f g d]
 rw [hi0]
 rw [G_qg_eq]
 rfl
theorem clok_qg:ConOK Tryz.prog cl_qg:=consCons h_qz (pf (by kernel_rfl)) (consCons h_qbp (pf (by kernel_rfl)) (consNil))
theorem cok_qg:ConsOK Tryz.prog 43 cs_qg:=⟨clok_qg,inlNil,ovNil⟩
theorem i_qg {vs:List A1} {kk:AK} {motive:List A1→Prop} (h:con_qg.F vs kk) (H:∀ (a:LI) (b:LT) (c:Int),F_qg a b c (K_qg kk)→motive [.agg [.ro .int a,.ro .iib b,vi c]]):motive vs:=by
 unfold con_qg at h
 dsimp only at h
 split at h
 ·exact H _ _ _ h
 ·exact h.elim
theorem h_qg:Holds Tryz.prog 69 con_qg:=by
 refine holds_of_ev (rt:=[.agg [.sl .int,.sl .iib,.sc],.c .sc]) (T:=TT) (Γ:=cs_qg) (an:=an_qg) (N:=43) (c:=Tryz.f69.body.getD .skip) Tryz.func69 (by kernel_rfl) Tryz.ntmps69 (by decide) (by decide) mixed tabOK cok_qg (by kernel_rfl) ?_
 intro vs kk _ hF
 exact i_qg (motive:=fun vs=>Goes (V_qg vs kk)) hF (fun a b d hF=>goes_of (e_qg a b d kk) (F_qg_S hF))
def K_qp (kk:AK):ByteArray→Prop:=(fun a=>kk (.one (.c (.v (.string a)))) [])
def con_qp:Con:=⟨[.rd],true,[.c (.sl .str)],fun vs k=>match vs with
  | [.c (.ro .str a)]=>F_qp a (K_qp k)
  | _=>False,false⟩
def cl_qp:List (FuncId×Con):=[(20,con_qec),(61,con_qaj),(62,con_qj),(64,con_qdy),(65,con_qab),(66,con_qak),(67,con_qh),(68,con_qe),(69,con_qg)]
def nm0_qp:List NStep:=[.ownc 48 0 .int 90000,.ownc 48 1 .iib 90001,.ownc 48 3 .int 90002,.keep [3,4,14,15,16] [48,90000,90001,90002]]
def an_qp_i9:Ann:=⟨[],[],[],[]⟩
def cs_qp_i9:Cons:=⟨cl_qp,[],4272,[],[],[]⟩
def an_qp_i8:Ann:=⟨[],[],[],[]⟩
def cs_qp_i8:Cons:=⟨cl_qp,[],4080,[],[],[]⟩
def an_qp_i7:Ann:=⟨[],[],[],[]⟩
def cs_qp_i7:Cons:=⟨cl_qp,[],3904,[],[],[]⟩
def an_qp_i6:Ann:=⟨[(2,.take 0 (.take 1 (.take 2 (.take 3 (.take 4 (.take 5 (.take 6 (.take 7 (.alt 8 (.take 9 (.done)) (.none))))))))),[48,592])],[],[],[]⟩
def cs_qp_i6:Cons:=⟨cl_qp,[],3440,[],[],[]⟩
def an_qp_i5:Ann:=⟨[(3,.take 0 (.take 1 (.take 2 (.take 3 (.take 5 (.take 6 (.take 7 (.alt 4 (.alt 8 (.take 9 (.take 10 (.take 11 (.take 12 (.take 13 (.take 14 (.alt 15 (.done) (.none)))))))) (.none)) (.alt 8 (.take 9 (.take 10 (.take 11 (.alt 4 (.take 12 (.take 13 (.take 14 (.alt 15 (.done) (.none))))) (.none))))) (.none))))))))),[])],[],[],[]⟩
def cs_qp_i5:Cons:=⟨cl_qp,[],2864,[],[],[]⟩
def an_qp_i4:Ann:=⟨[],[],[],[]⟩
def cs_qp_i4:Cons:=⟨cl_qp,[(44,⟨63,inlG TT cs_qp_i5 45 35 an_qp_i5 (Tryz.f63.body.getD .skip) Tryz.f63.results.toList⟩)],2128,[],[],[]⟩
def an_qp_i3:Ann:=⟨[(3,.take 0 (.take 1 (.take 2 (.take 3 (.take 5 (.take 6 (.take 7 (.alt 4 (.alt 8 (.take 9 (.take 10 (.take 11 (.take 12 (.take 13 (.take 14 (.alt 15 (.done) (.none)))))))) (.none)) (.alt 8 (.take 9 (.take 10 (.take 11 (.alt 4 (.take 12 (.take 13 (.take 14 (.alt 15 (.done) (.none))))) (.none))))) (.none))))))))),[])],[],[],[]⟩
def cs_qp_i3:Cons:=⟨cl_qp,[],1552,[],[],[]⟩
def an_qp_i2:Ann:=⟨[],[],[],[]⟩
def cs_qp_i2:Cons:=⟨cl_qp,[(32,⟨63,inlG TT cs_qp_i3 35 35 an_qp_i3 (Tryz.f63.body.getD .skip) Tryz.f63.results.toList⟩)],976,[],[],[]⟩
def an_qp_i1:Ann:=⟨[(2,.take 0 (.take 2 (.take 3 (.alt 1 (.alt 4 (.alt 5 (.take 6 (.take 7 (.take 8 (.alt 9 (.alt 10 (.take 11 (.done)) (.none)) (.none))))) (.alt 9 (.alt 5 (.take 6 (.take 7 (.take 8 (.alt 10 (.take 11 (.done)) (.none))))) (.none)) (.none))) (.alt 9 (.alt 4 (.alt 5 (.take 6 (.take 7 (.take 8 (.alt 10 (.take 11 (.done)) (.none))))) (.none)) (.none)) (.none))) (.alt 4 (.alt 1 (.alt 5 (.take 6 (.take 7 (.take 8 (.alt 9 (.alt 10 (.take 11 (.done)) (.none)) (.none))))) (.alt 9 (.alt 5 (.take 6 (.take 7 (.take 8 (.alt 10 (.take 11 (.done)) (.none))))) (.none)) (.none))) (.alt 9 (.alt 1 (.alt 5 (.take 6 (.take 7 (.take 8 (.alt 10 (.take 11 (.done)) (.none))))) (.none)) (.none)) (.none))) (.alt 9 (.alt 1 (.alt 4 (.alt 5 (.take 6 (.take 7 (.take 8 (.alt 10 (.take 11 (.done)) (.none))))) (.none)) (.none)) (.alt 4 (.alt 1 (.alt 5 (.take 6 (.take 7 (.take 8 (.alt 10 (.take 11 (.done)) (.none))))) (.none)) (.none)) (.none))) (.none)))))),[])],[],[],[]⟩
def cs_qp_i1:Cons:=⟨cl_qp,[(12,cmdInl 21),(31,⟨38,inlG TT cs_qp_i2 32 35 an_qp_i2 (Tryz.f38.body.getD .skip) Tryz.f38.results.toList⟩),(31,⟨39,inlG TT cs_qp_i4 32 45 an_qp_i4 (Tryz.f39.body.getD .skip) Tryz.f39.results.toList⟩),(31,⟨40,inlG TT cs_qp_i6 32 28 an_qp_i6 (Tryz.f40.body.getD .skip) Tryz.f40.results.toList⟩),(31,⟨41,inlG TT cs_qp_i7 32 10 an_qp_i7 (Tryz.f41.body.getD .skip) Tryz.f41.results.toList⟩),(31,⟨42,inlG TT cs_qp_i8 32 11 an_qp_i8 (Tryz.f42.body.getD .skip) Tryz.f42.results.toList⟩),(31,⟨43,inlG TT cs_qp_i9 32 16 an_qp_i9 (Tryz.f43.body.getD .skip) Tryz.f43.results.toList⟩)],448,[],[],[]⟩
def an_qp:Ann:=⟨[],[(4,nm0_qp)],[],[]⟩
def cs_qp:Cons:=⟨cl_qp,[(22,⟨10,inlG TT cs_qp_i1 27 32 an_qp_i1 (Tryz.f10.body.getD .skip) Tryz.f10.results.toList⟩)],0,[],[],[]⟩
def can0_qp (g:LB) (h:Int) (a:ByteArray) (i b:Int) (d:LI) (e:LT) (f:LI):St:=⟨[(3,.one (.c (.pb 48 0))),(4,.one (.c (.v (.string a)))),(14,.one (.c (.ro .str g))),(15,.one (.c (vi h))),(16,.one (.c (vi i)))],[(48,.box [.ow 90000,.ow 90001,vi b,.ow 90002]),(90000,.row .int d),(90001,.row .iib e),(90002,.row .int f)]⟩
def fin_qp (a:LB) (kk:AK):Kt:=fin TT con_qp Tryz.f7.results.toList [.c .sc] [.c (.ro .str a)] kk
def V_qp (vs:List A1) (kk:AK):Prop:=ev TT cs_qp 27 an_qp (Tryz.f7.body.getD .skip) (st0 con_qp vs) (fin TT con_qp Tryz.f7.results.toList [.c .sc] vs kk)
def kt0_qp (kf:Kt):Kt:=blockK 0 (seqK (evF TT cs_qp 27 an_qp Tryz.f7 [1,1,1,1]) (kf))
def I0_qp (a:LB) (kk:AK):Nat→St→Prop:=iter (evF TT cs_qp 27 an_qp Tryz.f7 [1,1,1,0,1,0,0]) nm0_qp (kt0_qp (fin_qp a kk))
theorem r0_qp (g h:LB) (i:Int) (kk:AK) (n:Nat) (a:ByteArray) (f b:Int) (c:LI) (d:LT) (e:LI) :
  I0_qp g kk (n+1) (can0_qp h i a f b c d e)=T0_qp h i a f b c d e (K_qp kk) (fun a f b c d e=>I0_qp g kk n (can0_qp h i a f b c d e)):=by kernel_rfl
theorem l0_qp (g h:LB) (i:Int) (kk:AK):∀ (n:Nat) (a:ByteArray) (f b:Int) (c:LI) (d:LT) (e:LI),I0_qp g kk n (can0_qp h i a f b c d e)=L0_qp h i (K_qp kk) n a f b c d e:=by
 intro n
 induction n with
 | zero=>intros; rfl
 | succ n ih=>
  intro a f b c d e
  rw [r0_qp g h i kk n a f b c d e]
  have hb:(fun a f b c d e=>I0_qp g kk n (can0_qp h i a f b c d e))=L0_qp h i (K_qp kk) n:=by
   funext a f b c d e; exact ih a f b c d e
  rw [hb]
  rw [T0_qp_eq]
  rfl
theorem g_qp (a:LB) (kk:AK) :
  V_qp [.c (.ro .str a)] kk=G_qp a (fun h i b l d e f g=>∃ j,I0_qp a kk j (can0_qp h i b l d e f g)):=by kernel_rfl
theorem e_qp (a:LB) (kk:AK) :
  V_qp [.c (.ro .str a)] kk=S_qp a (K_qp kk):=by
 rw [g_qp]
 have hi0:(fun h i b l d e f g=>∃ j,I0_qp a kk j (can0_qp h i b l d e f g))=(fun h i b l d e f g=>∃ j,L0_qp h i (K_qp kk) j b l d e f g):=by
  funext h i b l d e f g
  refine congrArg Exists (funext fun j=>?_)
  rw [l0_qp a h i kk j b l d e f g]
 rw [hi0]
 rfl
theorem clok_qp:ConOK Tryz.prog cl_qp:=consCons h_qec (pf (by kernel_rfl)) (consCons h_qaj (pf (by kernel_rfl)) (consCons h_qj (pf (by kernel_rfl)) (consCons h_qdy (pf (by kernel_rfl)) (consCons h_qab (pf (by kernel_rfl)) (consCons h_qak (pf (by kernel_rfl)) (consCons h_qh (pf (by kernel_rfl)) (consCons h_qe (pf (by kernel_rfl)) (consCons h_qg (pf (by kernel_rfl)) (consNil)))))))))
theorem cok_qp_i9:ConsOK Tryz.prog 16 cs_qp_i9:=⟨clok_qp,inlNil,ovNil⟩
theorem cok_qp_i8:ConsOK Tryz.prog 11 cs_qp_i8:=⟨clok_qp,inlNil,ovNil⟩
theorem cok_qp_i7:ConsOK Tryz.prog 10 cs_qp_i7:=⟨clok_qp,inlNil,ovNil⟩
theorem cok_qp_i6:ConsOK Tryz.prog 28 cs_qp_i6:=⟨clok_qp,inlNil,ovNil⟩
theorem cok_qp_i5:ConsOK Tryz.prog 35 cs_qp_i5:=⟨clok_qp,inlNil,ovNil⟩
theorem cok_qp_i4:ConsOK Tryz.prog 45 cs_qp_i4:=⟨clok_qp,inlCons (inl_ok Tryz.func63 (by kernel_rfl) (ne_of_beq (by kernel_rfl)) Tryz.ntmps63 (by decide) mixed tabOK cok_qp_i5 (by kernel_rfl)) (inlNil),ovNil⟩
theorem cok_qp_i3:ConsOK Tryz.prog 35 cs_qp_i3:=⟨clok_qp,inlNil,ovNil⟩
theorem cok_qp_i2:ConsOK Tryz.prog 35 cs_qp_i2:=⟨clok_qp,inlCons (inl_ok Tryz.func63 (by kernel_rfl) (ne_of_beq (by kernel_rfl)) Tryz.ntmps63 (by decide) mixed tabOK cok_qp_i3 (by kernel_rfl)) (inlNil),ovNil⟩
theorem cok_qp_i1:ConsOK Tryz.prog 32 cs_qp_i1:=⟨clok_qp,inlCons cmd_ok (inlCons (inl_ok Tryz.func38 (by kernel_rfl) (ne_of_beq (by kernel_rfl)) Tryz.ntmps38 (by decide) mixed tabOK cok_qp_i2 (by kernel_rfl)) (inlCons (inl_ok Tryz.func39 (by kernel_rfl) (ne_of_beq (by kernel_rfl)) Tryz.ntmps39 (by decide) mixed tabOK cok_qp_i4 (by kernel_rfl)) (inlCons (inl_ok Tryz.func40 (by kernel_rfl) (ne_of_beq (by kernel_rfl)) Tryz.ntmps40 (by decide) mixed tabOK cok_qp_i6 (by kernel_rfl)) (inlCons (inl_ok Tryz.func41 (by kernel_rfl) (ne_of_beq (by kernel_rfl)) Tryz.ntmps41 (by decide) mixed tabOK cok_qp_i7 (by kernel_rfl)) (inlCons (inl_ok Tryz.func42 (by kernel_rfl) (ne_of_beq (by kernel_rfl)) Tryz.ntmps42 (by decide) mixed tabOK cok_qp_i8 (by kernel_rfl)) (inlCons (inl_ok Tryz.func43 (by kernel_rfl) (ne_of_beq (by kernel_rfl)) Tryz.ntmps43 (by decide) mixed tabOK cok_qp_i9 (by kernel_rfl)) (inlNil))))))),ovNil⟩
theorem cok_qp:ConsOK Tryz.prog 27 cs_qp:=⟨clok_qp,inlCons (inl_ok Tryz.func10 (by kernel_rfl) (ne_of_beq (by kernel_rfl)) Tryz.ntmps10 (by decide) mixed tabOK cok_qp_i1 (by kernel_rfl)) (inlNil),ovNil⟩
theorem i_qp {vs:List A1} {kk:AK} {motive:List A1→Prop} (h:con_qp.F vs kk) (H:∀ (a:LB),F_qp a (K_qp kk)→motive [.c (.ro .str a)]):motive vs:=by
 unfold con_qp at h
 dsimp only at h
 split at h
 ·exact H _ h
 ·exact h.elim
theorem h_qp:Holds Tryz.prog 7 con_qp:=by
 refine holds_of_ev (rt:=[.c .sc]) (T:=TT) (Γ:=cs_qp) (an:=an_qp) (N:=27) (c:=Tryz.f7.body.getD .skip) Tryz.func7 (by kernel_rfl) Tryz.ntmps7 (by decide) (by decide) mixed tabOK cok_qp (by kernel_rfl) ?_
 intro vs kk _ hF
 exact i_qp (motive:=fun vs=>Goes (V_qp vs kk)) hF (fun a hF=>goes_of (e_qp a kk) (F_qp_S hF))
def K_qbm (kk:AK):Bool→Prop:=(fun a=>kk (.one (.c (.v (.bool a)))) [])
def con_qbm:Con:=⟨[.rd,.rd],true,[.c (.sl .str),.c (.sl .str)],fun vs k=>match vs with
  | [.c (.ro .str a),.c (.ro .str b)]=>F_qbm a b (K_qbm k)
  | _=>False,false⟩
def cl_qbm:List (FuncId×Con):=[]
def nm0_qbm:List NStep:=[.keep [0,1,5] []]
def an_qbm:Ann:=⟨[(6,.take 0 (.take 1 (.take 2 (.take 3 (.take 4 (.take 5 (.take 6 (.take 7 (.take 8 (.done))))))))),[])],[(4,nm0_qbm)],[],[]⟩
def cs_qbm:Cons:=⟨cl_qbm,[],0,[],[],[]⟩
def can0_qbm (b d:LB) (a:Int):St:=⟨[(0,.one (.c (.ro .str b))),(1,.one (.c (.ro .str d))),(5,.one (.c (vi a)))],[]⟩
def fin_qbm (a b:LB) (kk:AK):Kt:=fin TT con_qbm Tryz.f8.results.toList [.c .sc] [.c (.ro .str a),.c (.ro .str b)] kk
def V_qbm (vs:List A1) (kk:AK):Prop:=ev TT cs_qbm 26 an_qbm (Tryz.f8.body.getD .skip) (st0 con_qbm vs) (fin TT con_qbm Tryz.f8.results.toList [.c .sc] vs kk)
def kt0_qbm (kf:Kt):Kt:=blockK 0 (seqK (evF TT cs_qbm 26 an_qbm Tryz.f8 [1,1,1]) (kf))
def I0_qbm (a b:LB) (kk:AK):Nat→St→Prop:=iter (evF TT cs_qbm 26 an_qbm Tryz.f8 [1,1,0,1,0,0]) nm0_qbm (kt0_qbm (fin_qbm a b kk))
theorem r0_qbm (b c:LB) (kk:AK) (n:Nat) (a:Int) :
  I0_qbm b c kk (n+1) (can0_qbm b c a)=T0_qbm b c a (K_qbm kk) (fun a=>I0_qbm b c kk n (can0_qbm b c a)):=by kernel_rfl
theorem l0_qbm (b c:LB) (kk:AK):∀ (n:Nat) (a:Int),I0_qbm b c kk n (can0_qbm b c a)=L0_qbm b c (K_qbm kk) n a:=by
 intro n
 induction n with
 | zero=>intros; rfl
 | succ n ih=>
  intro a
  rw [r0_qbm b c kk n a]
  simp only [ih] <;> rfl
theorem g_qbm (a b:LB) (kk:AK) :
  V_qbm [.c (.ro .str a),.c (.ro .str b)] kk=G_qbm a b (K_qbm kk) (fun a b d=>∃ j,I0_qbm a b kk j (can0_qbm a b d)):=by kernel_rfl
theorem e_qbm (a b:LB) (kk:AK) :
  V_qbm [.c (.ro .str a),.c (.ro .str b)] kk=S_qbm a b (K_qbm kk):=by
 rw [g_qbm]
 have hi0:(fun a b d=>∃ j,I0_qbm a b kk j (can0_qbm a b d))=(fun a b d=>∃ j,L0_qbm a b (K_qbm kk) j d):=by
  funext a b d
  refine congrArg Exists (funext fun j=>?_)
  rw [l0_qbm a b kk j d]
 rw [hi0]
 rfl
theorem clok_qbm:ConOK Tryz.prog cl_qbm:=consNil
theorem cok_qbm:ConsOK Tryz.prog 26 cs_qbm:=⟨clok_qbm,inlNil,ovNil⟩
theorem i_qbm {vs:List A1} {kk:AK} {motive:List A1→Prop} (h:con_qbm.F vs kk) (H:∀ (a b:LB),F_qbm a b (K_qbm kk)→motive [.c (.ro .str a),.c (.ro .str b)]):motive vs:=by
 unfold con_qbm at h
 dsimp only at h
 split at h
 ·exact H _ _ h
 ·exact h.elim
theorem h_qbm:Holds Tryz.prog 8 con_qbm:=by
 refine holds_of_ev (rt:=[.c .sc]) (T:=TT) (Γ:=cs_qbm) (an:=an_qbm) (N:=26) (c:=Tryz.f8.body.getD .skip) Tryz.func8 (by kernel_rfl) Tryz.ntmps8 (by decide) (by decide) mixed tabOK cok_qbm (by kernel_rfl) ?_
 intro vs kk _ hF
 exact i_qbm (motive:=fun vs=>Goes (V_qbm vs kk)) hF (fun a b hF=>goes_of (e_qbm a b kk) (F_qbm_S hF))
def K_laws_FnExactRunSession (kk : AK) : Bool → Prop := (fun r0 => kk (.one (.c (.v (.bool r0)))) [])
def con_laws_FnExactRunSession : Con := ⟨[.rd], true, [.c (.sl .str)], fun vs k => match vs with
  | [.c (.ro .str aLines0)] => F_laws_FnExactRunSession aLines0 (K_laws_FnExactRunSession k)
  | _ => False, false⟩
def cl_laws_FnExactRunSession : List (FuncId × Con) := [(4, con_qbn), (5, con_qcl), (6, con_qbo), (7, con_qp), (8, con_qbm)]
def an_laws_FnExactRunSession : Ann := ⟨[], [], [], []⟩
def cs_laws_FnExactRunSession : Cons := ⟨cl_laws_FnExactRunSession, [], 0, [], [], []⟩
def fin_laws_FnExactRunSession (aLines0 : List ByteArray) (kk : AK) : Kt := fin TT con_laws_FnExactRunSession Tryz.f3.results.toList [.c .sc] [.c (.ro .str aLines0)] kk
def V_laws_FnExactRunSession (vs : List A1) (kk : AK) : Prop := ev TT cs_laws_FnExactRunSession 27 an_laws_FnExactRunSession (Tryz.f3.body.getD .skip) (st0 con_laws_FnExactRunSession vs) (fin TT con_laws_FnExactRunSession Tryz.f3.results.toList [.c .sc] vs kk)
theorem g_laws_FnExactRunSession (aLines0 : List ByteArray) (kk : AK) :
  V_laws_FnExactRunSession [.c (.ro .str aLines0)] kk = G_laws_FnExactRunSession aLines0 (K_laws_FnExactRunSession kk) := by kernel_rfl
theorem e_laws_FnExactRunSession (aLines0 : List ByteArray) (kk : AK) :
  V_laws_FnExactRunSession [.c (.ro .str aLines0)] kk = S_laws_FnExactRunSession aLines0 (K_laws_FnExactRunSession kk) := by
 rw [g_laws_FnExactRunSession]
 rfl
theorem clok_laws_FnExactRunSession : ConOK Tryz.prog cl_laws_FnExactRunSession := consCons h_qbn ⟨Tryz.f4, Tryz.func4, by kernel_rfl, ne_of_beq (by kernel_rfl)⟩ (consCons h_qcl ⟨Tryz.f5, Tryz.func5, by kernel_rfl, ne_of_beq (by kernel_rfl)⟩ (consCons h_qbo ⟨Tryz.f6, Tryz.func6, by kernel_rfl, ne_of_beq (by kernel_rfl)⟩ (consCons h_qp ⟨Tryz.f7, Tryz.func7, by kernel_rfl, ne_of_beq (by kernel_rfl)⟩ (consCons h_qbm ⟨Tryz.f8, Tryz.func8, by kernel_rfl, ne_of_beq (by kernel_rfl)⟩ (consNil)))))
theorem cok_laws_FnExactRunSession : ConsOK Tryz.prog 27 cs_laws_FnExactRunSession := ⟨clok_laws_FnExactRunSession, inlNil, ovNil⟩
theorem i_laws_FnExactRunSession {vs : List A1} {kk : AK} {motive : List A1 → Prop} (h : con_laws_FnExactRunSession.F vs kk) (H : ∀ (aLines0 : List ByteArray), F_laws_FnExactRunSession aLines0 (K_laws_FnExactRunSession kk) → motive [.c (.ro .str aLines0)]) : motive vs := by
 unfold con_laws_FnExactRunSession at h
 dsimp only at h
 split at h
 ·exact H _ h
 ·exact h.elim
theorem h_laws_FnExactRunSession : Holds Tryz.prog 3 con_laws_FnExactRunSession := by
 refine holds_of_ev (rt := [.c .sc]) (T := TT) (Γ := cs_laws_FnExactRunSession) (an := an_laws_FnExactRunSession) (N := 27) (c := Tryz.f3.body.getD .skip) Tryz.func3 (by kernel_rfl) Tryz.ntmps3 (by decide) (by decide) mixed tabOK cok_laws_FnExactRunSession (by kernel_rfl) ?_
 intro vs kk _ hF
 exact i_laws_FnExactRunSession (motive := fun vs => Goes (V_laws_FnExactRunSession vs kk)) hF (fun aLines0 hF => goes_of (e_laws_FnExactRunSession aLines0 kk) (F_laws_FnExactRunSession_S hF))
end Go.Ev
