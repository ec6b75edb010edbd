/- What the evaluator gives for these functions: their contracts. No statement is proved here. -/
import Derived.Test.YtemhpncmhdcheabGreatDoorFnExactRunSessionP2
import Derived.Test.YtemhpncmhdcheabGreatDoorTt
import Derived.Test.YtemhpncmhdcheabGreatDoorEvCm
import Derived.Test.YtemhpncmhdcheabGreatDoorSh
import Derived.Test.YtemhpncmhdcheabGreatDoorEvLb
namespace Go.Ev
set_option linter.unusedVariables false
set_option linter.unusedSimpArgs false
set_option maxRecDepth 100000
open Go Go.Proofs
abbrev AK := AV → List A1 → Prop
theorem pf {f : FuncId} (h : (match Tryz.prog.funcs[f]? with
  | some fn => fn.body.isSome && !(fn.name == "runtime.NumGoroutine")
  | none => false) = true) : ∃ fn, Tryz.prog.funcs[f]? = some fn ∧ fn.body.isSome = true ∧ fn.name ≠ "runtime.NumGoroutine" := by
  split at h
  · rename_i fn e
    rw [Bool.and_eq_true] at h
    exact ⟨fn, e, h.1, fun c => by rw [c] at h; simp at h⟩
  · cases h
abbrev vi (n : Int) : C := .v (.int .i64 n)
def K_qbn (kk:AK):Int→Prop:=(fun a=>kk (.one (.c (vi a))) [])
def con_qbn:Con:=⟨[.rd,.rd],true,[.c (.sl .str),.c (.sc)],fun vs k=>match vs with
  | [.c (.ro .str b),.c (.v (.int .i64 a))]=>F_qbn b a (K_qbn k)
  | _=>False,false⟩
def cl_qbn:List (FuncId×Con):=[]
def nm0_qbn:List NStep:=[.keep [0,1,5] []]
def an_qbn:Ann:=⟨[],[(5,nm0_qbn)],[],[]⟩
def cs_qbn:Cons:=⟨cl_qbn,[],0,[],[],[]⟩
def can0_qbn (d:LB) (a b:Int):St:=⟨[(0,.one (.c (.ro .str d))),(1,.one (.c (vi a))),(5,.one (.c (vi b)))],[]⟩
def fin_qbn (b:LB) (a:Int) (kk:AK):Kt:=fin TT con_qbn Tryz.f4.results.toList [.c .sc] [.c (.ro .str b),.c (vi a)] kk
def V_qbn (vs:List A1) (kk:AK):Prop:=ev TT cs_qbn 28 an_qbn (Tryz.f4.body.getD .skip) (st0 con_qbn vs) (fin TT con_qbn Tryz.f4.results.toList [.c .sc] vs kk)
def kt0_qbn (kf:Kt):Kt:=blockK 0 (seqK (evF TT cs_qbn 28 an_qbn Tryz.f4 [1,1,1,1]) (kf))
def I0_qbn (b:LB) (a:Int) (kk:AK):Nat→St→Prop:=iter (evF TT cs_qbn 28 an_qbn Tryz.f4 [1,1,1,0,1,0,0]) nm0_qbn (kt0_qbn (fin_qbn b a kk))
theorem r0_qbn (d:LB) (b:Int) (kk:AK) (n:Nat) (a c:Int) :
  I0_qbn d b kk (n+1) (can0_qbn d a c)=T0_qbn d a c (K_qbn kk) (fun a c=>I0_qbn d b kk n (can0_qbn d a c)):=by kernel_rfl
theorem l0_qbn (d:LB) (c:Int) (kk:AK):∀ (n:Nat) (a b:Int),I0_qbn d c kk n (can0_qbn d a b)=L0_qbn d (K_qbn kk) n a b:=by
 intro n
 induction n with
 | zero=>intros; rfl
 | succ n ih=>
  intro a b
  rw [r0_qbn d c kk n a b]
  simp only [ih] <;> rfl
theorem g_qbn (b:LB) (a:Int) (kk:AK) :
  V_qbn [.c (.ro .str b),.c (vi a)] kk=G_qbn b a (K_qbn kk) (fun b d e=>∃ j,I0_qbn b a kk j (can0_qbn b d e)):=by kernel_rfl
theorem e_qbn (d:LB) (b:Int) (kk:AK) :
  V_qbn [.c (.ro .str d),.c (vi b)] kk=S_qbn d b (K_qbn kk):=by
 rw [g_qbn]
 have hi0:(fun d a e=>∃ j,I0_qbn d b kk j (can0_qbn d a e))=(fun d a e=>∃ j,L0_qbn d (K_qbn kk) j a e):=by
  funext d a e
  refine congrArg Exists (funext fun j=>?_)
  rw [l0_qbn d b kk j a e]
 rw [hi0]
 rfl
theorem clok_qbn:ConOK Tryz.prog cl_qbn:=consNil
theorem cok_qbn:ConsOK Tryz.prog 28 cs_qbn:=⟨clok_qbn,inlNil,ovNil⟩
theorem i_qbn {vs:List A1} {kk:AK} {motive:List A1→Prop} (h:con_qbn.F vs kk) (H:∀ (b:LB) (a:Int),F_qbn b a (K_qbn kk)→motive [.c (.ro .str b),.c (vi a)]):motive vs:=by
 unfold con_qbn at h
 dsimp only at h
 split at h
 ·exact H _ _ h
 ·exact h.elim
theorem h_qbn:Holds Tryz.prog 4 con_qbn:=by
 refine holds_of_ev (rt:=[.c .sc]) (T:=TT) (Γ:=cs_qbn) (an:=an_qbn) (N:=28) (c:=Tryz.f4.body.getD .skip) Tryz.func4 (by kernel_rfl) Tryz.ntmps4 (by decide) (by decide) mixed tabOK cok_qbn (by kernel_rfl) ?_
 intro vs kk _ hF
 exact i_qbn (motive:=fun vs=>Goes (V_qbn vs kk)) hF (fun b a hF=>goes_of (e_qbn b a kk) (F_qbn_S hF))
def K_qbo (kk:AK):LB→Prop:=(fun a=>kk (.one (.c (.ro .str a))) [])
def con_qbo:Con:=⟨[.rd],true,[.c (.sl .str)],fun vs k=>match vs with
  | [.c (.ro .str a)]=>F_qbo a (K_qbo k)
  | _=>False,false⟩
def cl_qbo:List (FuncId×Con):=[]
def nm0_qbo:List NStep:=[.keep [0,3,4] [112]]
def an_qbo:Ann:=⟨[],[(3,nm0_qbo)],[],[]⟩
def cs_qbo:Cons:=⟨cl_qbo,[],0,[],[],[]⟩
def can0_qbo (d:LB) (a:Int) (b:LB):St:=⟨[(0,.one (.c (.ro .str d))),(3,.one (.c (.ow 112))),(4,.one (.c (vi a)))],[(112,.row .str b)]⟩
def fin_qbo (a:LB) (kk:AK):Kt:=fin TT con_qbo Tryz.f6.results.toList [.c (.sl .str)] [.c (.ro .str a)] kk
def V_qbo (vs:List A1) (kk:AK):Prop:=ev TT cs_qbo 22 an_qbo (Tryz.f6.body.getD .skip) (st0 con_qbo vs) (fin TT con_qbo Tryz.f6.results.toList [.c (.sl .str)] vs kk)
def kt0_qbo (kf:Kt):Kt:=blockK 0 (seqK (evF TT cs_qbo 22 an_qbo Tryz.f6 [1,1,1]) (kf))
def I0_qbo (a:LB) (kk:AK):Nat→St→Prop:=iter (evF TT cs_qbo 22 an_qbo Tryz.f6 [1,1,0,1,0,0]) nm0_qbo (kt0_qbo (fin_qbo a kk))
theorem r0_qbo (c:LB) (kk:AK) (n:Nat) (a:Int) (b:LB) :
  I0_qbo c kk (n+1) (can0_qbo c a b)=T0_qbo c a b (K_qbo kk) (fun a b=>I0_qbo c kk n (can0_qbo c a b)):=by kernel_rfl
theorem l0_qbo (c:LB) (kk:AK):∀ (n:Nat) (a:Int) (b:LB),I0_qbo c kk n (can0_qbo c a b)=L0_qbo c (K_qbo kk) n a b:=by
 intro n
 induction n with
 | zero=>intros; rfl
 | succ n ih=>
  intro a b
  rw [r0_qbo c kk n a b]
  simp only [ih] <;> rfl
theorem g_qbo (a:LB) (kk:AK) :
  V_qbo [.c (.ro .str a)] kk=G_qbo a (fun a b d=>∃ j,I0_qbo a kk j (can0_qbo a b d)):=by kernel_rfl
theorem e_qbo (a:LB) (kk:AK) :
  V_qbo [.c (.ro .str a)] kk=S_qbo a (K_qbo kk):=by
 rw [g_qbo]
 have hi0:(fun a b d=>∃ j,I0_qbo a kk j (can0_qbo a b d))=(fun a b d=>∃ j,L0_qbo a (K_qbo kk) j b d):=by
  funext a b d
  refine congrArg Exists (funext fun j=>?_)
  rw [l0_qbo a kk j b d]
 rw [hi0]
 rfl
theorem clok_qbo:ConOK Tryz.prog cl_qbo:=consNil
theorem cok_qbo:ConsOK Tryz.prog 22 cs_qbo:=⟨clok_qbo,inlNil,ovNil⟩
theorem i_qbo {vs:List A1} {kk:AK} {motive:List A1→Prop} (h:con_qbo.F vs kk) (H:∀ (a:LB),F_qbo a (K_qbo kk)→motive [.c (.ro .str a)]):motive vs:=by
 unfold con_qbo at h
 dsimp only at h
 split at h
 ·exact H _ h
 ·exact h.elim
theorem h_qbo:Holds Tryz.prog 6 con_qbo:=by
 refine holds_of_ev (rt:=[.c (.sl .str)]) (T:=TT) (Γ:=cs_qbo) (an:=an_qbo) (N:=22) (c:=Tryz.f6.body.getD .skip) Tryz.func6 (by kernel_rfl) Tryz.ntmps6 (by decide) (by decide) mixed tabOK cok_qbo (by kernel_rfl) ?_
 intro vs kk _ hF
 exact i_qbo (motive:=fun vs=>Goes (V_qbo vs kk)) hF (fun a hF=>goes_of (e_qbo a kk) (F_qbo_S hF))
def K_qdq (kk:AK):LB→Prop:=(fun a=>kk (.one (.c (.ro .str a))) [])
def con_qdq:Con:=⟨[.rd,.rd],true,[.c (.sc),.c (.sc)],fun vs k=>match vs with
  | [.c (.v (.string a)),.c (.v (.int .u8 b))]=>F_qdq a b (K_qdq k)
  | _=>False,false⟩
def cl_qdq:List (FuncId×Con):=[]
def nm0_qdq:List NStep:=[.own 5 .str 90000,.keep [0,1,5,6,7] [90000]]
def an_qdq:Ann:=⟨[],[(4,nm0_qdq)],[],[]⟩
def cs_qdq:Cons:=⟨cl_qdq,[],0,[],[],[]⟩
def can0_qdq (e:Int) (f:ByteArray) (a d:Int) (b:LB):St:=⟨[(0,.one (.c (.v (.string f)))),(1,.one (.c (.v (.int .u8 e)))),(5,.one (.c (.ow 90000))),(6,.one (.c (vi a))),(7,.one (.c (vi d)))],[(90000,.row .str b)]⟩
def fin_qdq (a:ByteArray) (b:Int) (kk:AK):Kt:=fin TT con_qdq Tryz.f11.results.toList [.c (.sl .str)] [.c (.v (.string a)),.c (.v (.int .u8 b))] kk
def V_qdq (vs:List A1) (kk:AK):Prop:=ev TT cs_qdq 35 an_qdq (Tryz.f11.body.getD .skip) (st0 con_qdq vs) (fin TT con_qdq Tryz.f11.results.toList [.c (.sl .str)] vs kk)
def kt0_qdq (kf:Kt):Kt:=blockK 0 (seqK (evF TT cs_qdq 35 an_qdq Tryz.f11 [1,1,1,1]) (kf))
def I0_qdq (a:ByteArray) (b:Int) (kk:AK):Nat→St→Prop:=iter (evF TT cs_qdq 35 an_qdq Tryz.f11 [1,1,1,0,1,0,0]) nm0_qdq (kt0_qdq (fin_qdq a b kk))
theorem r0_qdq (d:ByteArray) (e:Int) (kk:AK) (n:Nat) (a c:Int) (b:LB) :
  I0_qdq d e kk (n+1) (can0_qdq e d a c b)=T0_qdq e d a c b (K_qdq kk) (fun a c b=>I0_qdq d e kk n (can0_qdq e d a c b)):=by kernel_rfl
theorem l0_qdq (d:ByteArray) (e:Int) (kk:AK):∀ (n:Nat) (a c:Int) (b:LB),I0_qdq d e kk n (can0_qdq e d a c b)=L0_qdq e d (K_qdq kk) n a c b:=by
 intro n
 induction n with
 | zero=>intros; rfl
 | succ n ih=>
  intro a c b
  rw [r0_qdq d e kk n a c b]
  simp only [ih] <;> rfl
theorem g_qdq (a:ByteArray) (b:Int) (kk:AK) :
  V_qdq [.c (.v (.string a)),.c (.v (.int .u8 b))] kk=G_qdq a b (fun b a d f e=>∃ j,I0_qdq a b kk j (can0_qdq b a d f e)):=by kernel_rfl
theorem e_qdq (d:ByteArray) (e:Int) (kk:AK) :
  V_qdq [.c (.v (.string d)),.c (.v (.int .u8 e))] kk=S_qdq d e (K_qdq kk):=by
 rw [g_qdq]
 have hi0:(fun e d a f b=>∃ j,I0_qdq d e kk j (can0_qdq e d a f b))=(fun e d a f b=>∃ j,L0_qdq e d (K_qdq kk) j a f b):=by
  funext e d a f b
  refine congrArg Exists (funext fun j=>?_)
  rw [l0_qdq d e kk j a f b]
 rw [hi0]
 rfl
theorem clok_qdq:ConOK Tryz.prog cl_qdq:=consNil
theorem cok_qdq:ConsOK Tryz.prog 35 cs_qdq:=⟨clok_qdq,inlNil,ovNil⟩
theorem i_qdq {vs:List A1} {kk:AK} {motive:List A1→Prop} (h:con_qdq.F vs kk) (H:∀ (a:ByteArray) (b:Int),F_qdq a b (K_qdq kk)→motive [.c (.v (.string a)),.c (.v (.int .u8 b))]):motive vs:=by
 unfold con_qdq at h
 dsimp only at h
 split at h
 ·exact H _ _ h
 ·exact h.elim
theorem h_qdq:Holds Tryz.prog 11 con_qdq:=by
 refine holds_of_ev (rt:=[.c (.sl .str)]) (T:=TT) (Γ:=cs_qdq) (an:=an_qdq) (N:=35) (c:=Tryz.f11.body.getD .skip) Tryz.func11 (by kernel_rfl) Tryz.ntmps11 (by decide) (by decide) mixed tabOK cok_qdq (by kernel_rfl) ?_
 intro vs kk _ hF
 exact i_qdq (motive:=fun vs=>Goes (V_qdq vs kk)) hF (fun a b hF=>goes_of (e_qdq a b kk) (F_qdq_S hF))
def K_qdc (kk:AK):Bool→Prop:=(fun a=>kk (.one (.c (.v (.bool a)))) [])
def con_qdc:Con:=⟨[.rd,.rd,.rd],true,[.c (.sc),.c (.sc),.c (.sc)],fun vs k=>match vs with
  | [.c (.v (.int .i64 d)),.c (.v (.int .i64 b)),.c (.v (.int .i64 a))]=>F_qdc d b a (K_qdc k)
  | _=>False,false⟩
def cl_qdc:List (FuncId×Con):=[]
def an_qdc:Ann:=⟨[],[],[],[]⟩
def cs_qdc:Cons:=⟨cl_qdc,[],0,[],[],[]⟩
def fin_qdc (d b a:Int) (kk:AK):Kt:=fin TT con_qdc Tryz.f44.results.toList [.c .sc] [.c (vi d),.c (vi b),.c (vi a)] kk
def V_qdc (vs:List A1) (kk:AK):Prop:=ev TT cs_qdc 15 an_qdc (Tryz.f44.body.getD .skip) (st0 con_qdc vs) (fin TT con_qdc Tryz.f44.results.toList [.c .sc] vs kk)
theorem g_qdc (d b a:Int) (kk:AK) :
  V_qdc [.c (vi d),.c (vi b),.c (vi a)] kk=G_qdc d b a (K_qdc kk):=by kernel_rfl
theorem e_qdc (d b a:Int) (kk:AK) :
  V_qdc [.c (vi d),.c (vi b),.c (vi a)] kk=S_qdc d b a (K_qdc kk):=by
 rw [g_qdc]
 rfl
theorem clok_qdc:ConOK Tryz.prog cl_qdc:=consNil
theorem cok_qdc:ConsOK Tryz.prog 15 cs_qdc:=⟨clok_qdc,inlNil,ovNil⟩
theorem i_qdc {vs:List A1} {kk:AK} {motive:List A1→Prop} (h:con_qdc.F vs kk) (H:∀ (d b a:Int),F_qdc d b a (K_qdc kk)→motive [.c (vi d),.c (vi b),.c (vi a)]):motive vs:=by
 unfold con_qdc at h
 dsimp only at h
 split at h
 ·exact H _ _ _ h
 ·exact h.elim
theorem h_qdc:Holds Tryz.prog 44 con_qdc:=by
 refine holds_of_ev (rt:=[.c .sc]) (T:=TT) (Γ:=cs_qdc) (an:=an_qdc) (N:=15) (c:=Tryz.f44.body.getD .skip) Tryz.func44 (by kernel_rfl) Tryz.ntmps44 (by decide) (by decide) mixed tabOK cok_qdc (by kernel_rfl) ?_
 intro vs kk _ hF
 exact i_qdc (motive:=fun vs=>Goes (V_qdc vs kk)) hF (fun d b a hF=>goes_of (e_qdc d b a kk) (F_qdc_S hF))
def K_qcw (kk:AK):ByteArray→Prop:=(fun a=>kk (.one (.c (.v (.string a)))) [])
def con_qcw:Con:=⟨[.rd],true,[.c (.sc)],fun vs k=>match vs with
  | [.c (.v (.int .i64 a))]=>F_qcw a (K_qcw k)
  | _=>False,false⟩
def conr_qcw (nn:Nat):Con:={ con_qcw with F:=fun vs k=>match vs with
  | [.c (.v (.int .i64 a))]=>Fr_qcw nn a (fun b=>k (.one (.c (.v (.string b)))) [])
  | _=>False }
def cl_qcw (nn:Nat):List (FuncId×Con):=[(24,conr_qcw nn)]
def an_qcw:Ann:=⟨[(7,.take 0 (.take 1 (.take 3 (.take 4 (.take 5 (.take 6 (.alt 2 (.alt 7 (.alt 8 (.take 9 (.take 10 (.done))) (.none)) (.none)) (.alt 7 (.alt 2 (.alt 8 (.take 9 (.take 10 (.done))) (.none)) (.alt 8 (.alt 2 (.take 9 (.take 10 (.done))) (.none)) (.none))) (.none)))))))),[])],[],[],[]⟩
def cs_qcw (nn:Nat):Cons:=⟨cl_qcw nn,[],0,[],[],[]⟩
def fin_qcw (nn:Nat) (a:Int) (kk:AK):Kt:=fin TT (conr_qcw (nn+1)) Tryz.f24.results.toList [.c .sc] [.c (vi a)] kk
theorem g_qcw (nn:Nat) (a:Int) (kk:AK) :
  ev TT (cs_qcw nn) 34 an_qcw (Tryz.f24.body.getD .skip) (st0 (conr_qcw (nn+1)) [.c (vi a)]) (fin TT (conr_qcw (nn+1)) Tryz.f24.results.toList [.c .sc] [.c (vi a)] kk)=G_qcw nn a (K_qcw kk):=by kernel_rfl
theorem e_qcw (nn:Nat) (a:Int) (kk:AK) :
  ev TT (cs_qcw nn) 34 an_qcw (Tryz.f24.body.getD .skip) (st0 (conr_qcw (nn+1)) [.c (vi a)]) (fin TT (conr_qcw (nn+1)) Tryz.f24.results.toList [.c .sc] [.c (vi a)] kk)=S_qcw nn a (K_qcw kk):=by
 rw [g_qcw]
 rw [G_qcw_eq]
 rfl
theorem clok_qcw (nn:Nat) (hr:Holds Tryz.prog 24 (conr_qcw nn)):ConOK Tryz.prog (cl_qcw nn):=consCons hr (pf (by kernel_rfl)) (consNil)
theorem cok_qcw (nn:Nat) (hr:Holds Tryz.prog 24 (conr_qcw nn)):ConsOK Tryz.prog 34 (cs_qcw nn):=⟨clok_qcw nn hr,inlNil,ovNil⟩
theorem ir_qcw (nn:Nat) {vs:List A1} {kk:AK} {motive:List A1→Prop} (h:(conr_qcw nn).F vs kk) (H:∀ (a:Int),Fr_qcw nn a (K_qcw kk)→motive [.c (vi a)]):motive vs:=by
 unfold conr_qcw at h
 dsimp only at h
 split at h
 ·exact H _ h
 ·exact h.elim
theorem i_qcw {vs:List A1} {kk:AK} {motive:List A1→Prop} (h:(con_qcw).F vs kk) (H:∀ (a:Int),F_qcw a (K_qcw kk)→motive [.c (vi a)]):motive vs:=by
 unfold con_qcw at h
 dsimp only at h
 split at h
 ·exact H _ h
 ·exact h.elim
theorem hr_qcw:∀ nn:Nat,Holds Tryz.prog 24 (conr_qcw nn):=by
 intro nn
 induction nn with
 | zero=>intro vs kk h; exact (ir_qcw 0 (motive:=fun _=>False) h (fun _ hF=>absurd hF.1 (Nat.not_lt_zero _))).elim
 | succ nn ih=>
  refine holds_of_ev (rt:=[.c .sc]) (T:=TT) (Γ:=cs_qcw nn) (an:=an_qcw) (N:=34) (c:=Tryz.f24.body.getD .skip) Tryz.func24 (by kernel_rfl) Tryz.ntmps24 (show (cs_qcw 0).B+16*34+16≤100000 by decide) (show (conr_qcw 0).mu.length≤34 by decide) mixed tabOK (cok_qcw nn ih) (by kernel_rfl) ?_
  intro vs kk _ hF
  exact ir_qcw (nn+1) (motive:=fun vs=>Goes (ev TT (cs_qcw nn) 34 an_qcw (Tryz.f24.body.getD .skip) (st0 (conr_qcw (nn+1)) vs) (fin TT (conr_qcw (nn+1)) Tryz.f24.results.toList [.c .sc] vs kk))) hF (fun a hF=>goes_of (e_qcw nn a kk) (F_qcw_S (Nat.le_of_lt_succ hF.1) hF.2))
theorem h_qcw:Holds Tryz.prog 24 con_qcw:=by
 refine holds_of_any fun vs kk h=>?_
 exact i_qcw (motive:=fun vs=>∃ F,Holds Tryz.prog 24 { con_qcw with F:=F }∧F vs kk) h (fun a hF=>⟨(conr_qcw (M_qcw a+1)).F,hr_qcw _,⟨Nat.lt_succ_self _,hF⟩⟩)
def K_qdk (kk:AK):Int→Bool→Prop:=(fun a b=>kk (.tup [.c (vi a),.c (.v (.bool b))]) [])
def con_qdk:Con:=⟨[.rd],true,[.c (.sc)],fun vs k=>match vs with
  | [.c (.v (.string a))]=>F_qdk a (K_qdk k)
  | _=>False,false⟩
def cl_qdk:List (FuncId×Con):=[(24,con_qcw),(44,con_qdc)]
def nm0_qdk:List NStep:=[.keep [0,4,5] []]
def an_qdk:Ann:=⟨[],[(3,nm0_qdk)],[],[]⟩
def cs_qdk:Cons:=⟨cl_qdk,[],0,[],[],[]⟩
def can0_qdk (d:ByteArray) (a b:Int):St:=⟨[(0,.one (.c (.v (.string d)))),(4,.one (.c (vi a))),(5,.one (.c (vi b)))],[]⟩
def fin_qdk (a:ByteArray) (kk:AK):Kt:=fin TT con_qdk Tryz.f25.results.toList [.c .sc,.c .sc] [.c (.v (.string a))] kk
def V_qdk (vs:List A1) (kk:AK):Prop:=ev TT cs_qdk 63 an_qdk (Tryz.f25.body.getD .skip) (st0 con_qdk vs) (fin TT con_qdk Tryz.f25.results.toList [.c .sc,.c .sc] vs kk)
def kt0_qdk (kf:Kt):Kt:=blockK 0 (seqK (evF TT cs_qdk 63 an_qdk Tryz.f25 [1,1,1]) (kf))
def I0_qdk (a:ByteArray) (kk:AK):Nat→St→Prop:=iter (evF TT cs_qdk 63 an_qdk Tryz.f25 [1,1,0,1,0,0]) nm0_qdk (kt0_qdk (fin_qdk a kk))
theorem r0_qdk (c:ByteArray) (kk:AK) (n:Nat) (a b:Int) :
  I0_qdk c kk (n+1) (can0_qdk c a b)=T0_qdk c a b (K_qdk kk) (fun a b=>I0_qdk c kk n (can0_qdk c a b)):=by kernel_rfl
theorem l0_qdk (c:ByteArray) (kk:AK):∀ (n:Nat) (a b:Int),I0_qdk c kk n (can0_qdk c a b)=L0_qdk c (K_qdk kk) n a b:=by
 intro n
 induction n with
 | zero=>intros; rfl
 | succ n ih=>
  intro a b
  rw [r0_qdk c kk n a b]
  simp only [ih] <;> rfl
theorem g_qdk (a:ByteArray) (kk:AK) :
  V_qdk [.c (.v (.string a))] kk=G_qdk a (fun a b d=>∃ j,I0_qdk a kk j (can0_qdk a b d)):=by kernel_rfl
theorem e_qdk (a:ByteArray) (kk:AK) :
  V_qdk [.c (.v (.string a))] kk=S_qdk a (K_qdk kk):=by
 rw [g_qdk]
 have hi0:(fun a b d=>∃ j,I0_qdk a kk j (can0_qdk a b d))=(fun a b d=>∃ j,L0_qdk a (K_qdk kk) j b d):=by
  funext a b d
  refine congrArg Exists (funext fun j=>?_)
  rw [l0_qdk a kk j b d]
 rw [hi0]
 rfl
theorem clok_qdk:ConOK Tryz.prog cl_qdk:=consCons h_qcw (pf (by kernel_rfl)) (consCons h_qdc (pf (by kernel_rfl)) (consNil))
theorem cok_qdk:ConsOK Tryz.prog 63 cs_qdk:=⟨clok_qdk,inlNil,ovNil⟩
theorem i_qdk {vs:List A1} {kk:AK} {motive:List A1→Prop} (h:con_qdk.F vs kk) (H:∀ (a:ByteArray),F_qdk a (K_qdk kk)→motive [.c (.v (.string a))]):motive vs:=by
 unfold con_qdk at h
 dsimp only at h
 split at h
 ·exact H _ h
 ·exact h.elim
theorem h_qdk:Holds Tryz.prog 25 con_qdk:=by
 refine holds_of_ev (rt:=[.c .sc,.c .sc]) (T:=TT) (Γ:=cs_qdk) (an:=an_qdk) (N:=63) (c:=Tryz.f25.body.getD .skip) Tryz.func25 (by kernel_rfl) Tryz.ntmps25 (by decide) (by decide) mixed tabOK cok_qdk (by kernel_rfl) ?_
 intro vs kk _ hF
 exact i_qdk (motive:=fun vs=>Goes (V_qdk vs kk)) hF (fun a hF=>goes_of (e_qdk a kk) (F_qdk_S hF))
def K_qdi (kk:AK):Int→Prop:=(fun a=>kk (.one (.c (vi a))) [])
def con_qdi:Con:=⟨[.rd],true,[.c (.sc)],fun vs k=>match vs with
  | [.c (.v (.string a))]=>F_qdi a (K_qdi k)
  | _=>False,false⟩
def cl_qdi:List (FuncId×Con):=[(25,con_qdk)]
def an_qdi:Ann:=⟨[],[],[],[]⟩
def cs_qdi:Cons:=⟨cl_qdi,[],0,[],[],[]⟩
def fin_qdi (a:ByteArray) (kk:AK):Kt:=fin TT con_qdi Tryz.f13.results.toList [.c .sc] [.c (.v (.string a))] kk
def V_qdi (vs:List A1) (kk:AK):Prop:=ev TT cs_qdi 13 an_qdi (Tryz.f13.body.getD .skip) (st0 con_qdi vs) (fin TT con_qdi Tryz.f13.results.toList [.c .sc] vs kk)
theorem g_qdi (a:ByteArray) (kk:AK) :
  V_qdi [.c (.v (.string a))] kk=G_qdi a (K_qdi kk):=by kernel_rfl
theorem e_qdi (a:ByteArray) (kk:AK) :
  V_qdi [.c (.v (.string a))] kk=S_qdi a (K_qdi kk):=by
 rw [g_qdi]
 rfl
theorem clok_qdi:ConOK Tryz.prog cl_qdi:=consCons h_qdk (pf (by kernel_rfl)) (consNil)
theorem cok_qdi:ConsOK Tryz.prog 13 cs_qdi:=⟨clok_qdi,inlNil,ovNil⟩
theorem i_qdi {vs:List A1} {kk:AK} {motive:List A1→Prop} (h:con_qdi.F vs kk) (H:∀ (a:ByteArray),F_qdi a (K_qdi kk)→motive [.c (.v (.string a))]):motive vs:=by
 unfold con_qdi at h
 dsimp only at h
 split at h
 ·exact H _ h
 ·exact h.elim
theorem h_qdi:Holds Tryz.prog 13 con_qdi:=by
 refine holds_of_ev (rt:=[.c .sc]) (T:=TT) (Γ:=cs_qdi) (an:=an_qdi) (N:=13) (c:=Tryz.f13.body.getD .skip) Tryz.func13 (by kernel_rfl) Tryz.ntmps13 (by decide) (by decide) mixed tabOK cok_qdi (by kernel_rfl) ?_
 intro vs kk _ hF
 exact i_qdi (motive:=fun vs=>Goes (V_qdi vs kk)) hF (fun a hF=>goes_of (e_qdi a kk) (F_qdi_S hF))
def K_qcp (kk:AK):Bool→Prop:=(fun a=>kk (.one (.c (.v (.bool a)))) [])
def con_qcp:Con:=⟨[.rd,.rd,.rd],true,[.c (.sl .int),.c (.sc),.c (.sc)],fun vs k=>match vs with
  | [.c (.ro .int a),.c (.v (.int .i64 d)),.c (.v (.int .i64 b))]=>F_qcp a d b (K_qcp k)
  | _=>False,false⟩
def cl_qcp:List (FuncId×Con):=[(44,con_qdc)]
def nm0_qcp:List NStep:=[.keep [0,1,2,7] []]
def an_qcp:Ann:=⟨[],[(2,nm0_qcp)],[],[]⟩
def cs_qcp:Cons:=⟨cl_qcp,[],0,[],[],[]⟩
def can0_qcp (a:Int) (b:LI) (d e:Int):St:=⟨[(0,.one (.c (.ro .int b))),(1,.one (.c (vi d))),(2,.one (.c (vi a))),(7,.one (.c (vi e)))],[]⟩
def fin_qcp (a:LI) (d b:Int) (kk:AK):Kt:=fin TT con_qcp Tryz.f55.results.toList [.c .sc] [.c (.ro .int a),.c (vi d),.c (vi b)] kk
def V_qcp (vs:List A1) (kk:AK):Prop:=ev TT cs_qcp 22 an_qcp (Tryz.f55.body.getD .skip) (st0 con_qcp vs) (fin TT con_qcp Tryz.f55.results.toList [.c .sc] vs kk)
def kt0_qcp (kf:Kt):Kt:=blockK 0 (seqK (evF TT cs_qcp 22 an_qcp Tryz.f55 [1,1]) (kf))
def I0_qcp (a:LI) (c b:Int) (kk:AK):Nat→St→Prop:=iter (evF TT cs_qcp 22 an_qcp Tryz.f55 [1,0,1,0,0]) nm0_qcp (kt0_qcp (fin_qcp a c b kk))
theorem r0_qcp (a:LI) (c b:Int) (kk:AK) (n:Nat) (d:Int) :
  I0_qcp a c b kk (n+1) (can0_qcp b a c d)=T0_qcp b a c d (K_qcp kk) (fun d=>I0_qcp a c b kk n (can0_qcp b a c d)):=by kernel_rfl
theorem l0_qcp (a:LI) (c b:Int) (kk:AK):∀ (n:Nat) (d:Int),I0_qcp a c b kk n (can0_qcp b a c d)=L0_qcp b a c (K_qcp kk) n d:=by
 intro n
 induction n with
 | zero=>intros; rfl
 | succ n ih=>
  intro d
  rw [r0_qcp a c b kk n d]
  simp only [ih] <;> rfl
theorem g_qcp (a:LI) (d b:Int) (kk:AK) :
  V_qcp [.c (.ro .int a),.c (vi d),.c (vi b)] kk=G_qcp a d b (fun b a d e=>∃ j,I0_qcp a d b kk j (can0_qcp b a d e)):=by kernel_rfl
theorem e_qcp (a:LI) (d b:Int) (kk:AK) :
  V_qcp [.c (.ro .int a),.c (vi d),.c (vi b)] kk=S_qcp a d b (K_qcp kk):=by
 rw [g_qcp]
 have hi0:(fun b a d e=>∃ j,I0_qcp a d b kk j (can0_qcp b a d e))=(fun b a d e=>∃ j,L0_qcp b a d (K_qcp kk) j e):=by
  funext b a d e
  refine congrArg Exists (funext fun j=>?_)
  rw [l0_qcp a d b kk j e]
 rw [hi0]
 rfl
theorem clok_qcp:ConOK Tryz.prog cl_qcp:=consCons h_qdc (pf (by kernel_rfl)) (consNil)
theorem cok_qcp:ConsOK Tryz.prog 22 cs_qcp:=⟨clok_qcp,inlNil,ovNil⟩
theorem i_qcp {vs:List A1} {kk:AK} {motive:List A1→Prop} (h:con_qcp.F vs kk) (H:∀ (a:LI) (d b:Int),F_qcp a d b (K_qcp kk)→motive [.c (.ro .int a),.c (vi d),.c (vi b)]):motive vs:=by
 unfold con_qcp at h
 dsimp only at h
 split at h
 ·exact H _ _ _ h
 ·exact h.elim
theorem h_qcp:Holds Tryz.prog 55 con_qcp:=by
 refine holds_of_ev (rt:=[.c .sc]) (T:=TT) (Γ:=cs_qcp) (an:=an_qcp) (N:=22) (c:=Tryz.f55.body.getD .skip) Tryz.func55 (by kernel_rfl) Tryz.ntmps55 (by decide) (by decide) mixed tabOK cok_qcp (by kernel_rfl) ?_
 intro vs kk _ hF
 exact i_qcp (motive:=fun vs=>Goes (V_qcp vs kk)) hF (fun a d b hF=>goes_of (e_qcp a d b kk) (F_qcp_S hF))
def K_qdt (kk:AK):Bool→Prop:=(fun a=>kk (.one (.c (.v (.bool a)))) [])
def con_qdt:Con:=⟨[.rd,.rd],true,[.c (.sl .iib),.c (.sc)],fun vs k=>match vs with
  | [.c (.ro .iib a),.c (.v (.int .i64 b))]=>F_qdt a b (K_qdt k)
  | _=>False,false⟩
def cl_qdt:List (FuncId×Con):=[(44,con_qdc)]
def nm1_qdt:List NStep:=[.keep [0,1,5,6] []]
def nm0_qdt:List NStep:=[.keep [0,1,5] []]
def an_qdt:Ann:=⟨[(9,.take 0 (.take 1 (.take 2 (.take 3 (.take 4 (.take 5 (.take 6 (.take 7 (.take 8 (.take 9 (.take 10 (.done))))))))))),[])],[(7,nm1_qdt),(2,nm0_qdt)],[],[]⟩
def cs_qdt:Cons:=⟨cl_qdt,[],0,[],[],[]⟩
def can1_qdt (a:LT) (b d e:Int):St:=⟨[(0,.one (.c (.ro .iib a))),(1,.one (.c (vi b))),(5,.one (.c (vi d))),(6,.one (.c (vi e)))],[]⟩
def can0_qdt (a:LT) (b d:Int):St:=⟨[(0,.one (.c (.ro .iib a))),(1,.one (.c (vi b))),(5,.one (.c (vi d)))],[]⟩
def fin_qdt (a:LT) (b:Int) (kk:AK):Kt:=fin TT con_qdt Tryz.f56.results.toList [.c .sc] [.c (.ro .iib a),.c (vi b)] kk
def V_qdt (vs:List A1) (kk:AK):Prop:=ev TT cs_qdt 53 an_qdt (Tryz.f56.body.getD .skip) (st0 con_qdt vs) (fin TT con_qdt Tryz.f56.results.toList [.c .sc] vs kk)
def kt1_qdt (kf:Kt) (a:St→Prop):Kt:=blockK 2 (blockK 1 (seqK (evF TT cs_qdt 53 an_qdt Tryz.f56 [1,0,1,0,0,1,1]) (backK nm0_qdt a (blockK 0 (seqK (evF TT cs_qdt 53 an_qdt Tryz.f56 [1,1]) (kf))))))
def kt0_qdt (kf:Kt):Kt:=blockK 0 (seqK (evF TT cs_qdt 53 an_qdt Tryz.f56 [1,1]) (kf))
theorem r1_qdt (a:LT) (b c:Int) (kk:AK) (e:St→Prop) (n:Nat) (d:Int) :
  iter (evF TT cs_qdt 53 an_qdt Tryz.f56 [1,0,1,0,0,1,0,0,1,1,0,0]) nm1_qdt (kt1_qdt (fin_qdt a b kk) e) (n+1) (can1_qdt a b c d)=T1_qdt a b c d (K_qdt kk) (fun c=>e (can0_qdt a b c)) (fun d=>iter (evF TT cs_qdt 53 an_qdt Tryz.f56 [1,0,1,0,0,1,0,0,1,1,0,0]) nm1_qdt (kt1_qdt (fin_qdt a b kk) e) n (can1_qdt a b c d)):=by kernel_rfl
theorem l1_qdt (a:LT) (b c:Int) (kk:AK) (e:St→Prop):∀ (n:Nat) (d:Int),iter (evF TT cs_qdt 53 an_qdt Tryz.f56 [1,0,1,0,0,1,0,0,1,1,0,0]) nm1_qdt (kt1_qdt (fin_qdt a b kk) e) n (can1_qdt a b c d)=L1_qdt a b c (K_qdt kk) (fun c=>e (can0_qdt a b c)) n d:=by
 intro n
 induction n with
 | zero=>intros; rfl
 | succ n ih=>
  intro d
  rw [r1_qdt a b c kk e n d]
  simp only [ih] <;> rfl
def I0_qdt (a:LT) (b:Int) (kk:AK):Nat→St→Prop:=iter (evF TT cs_qdt 53 an_qdt Tryz.f56 [1,0,1,0,0]) nm0_qdt (kt0_qdt (fin_qdt a b kk))
theorem r0_qdt (a:LT) (b:Int) (kk:AK) (n:Nat) (c:Int) :
  I0_qdt a b kk (n+1) (can0_qdt a b c)=T0_qdt a b c (K_qdt kk) (fun a b c d=>∃ j,iter (evF TT cs_qdt 53 an_qdt Tryz.f56 [1,0,1,0,0,1,0,0,1,1,0,0]) nm1_qdt (kt1_qdt (fin_qdt a b kk) (I0_qdt a b kk n)) j (can1_qdt a b c d)):=by kernel_rfl
theorem l0_qdt (a:LT) (b:Int) (kk:AK):∀ (n:Nat) (c:Int),I0_qdt a b kk n (can0_qdt a b c)=L0_qdt a b (K_qdt kk) n c:=by
 intro n
 induction n generalizing a b with
 | zero=>intros; rfl
 | succ n ih=>
  intro c
  rw [r0_qdt a b kk n c]
  have hb:∀ (a:LT) (b:Int),(fun c=>I0_qdt a b kk n (can0_qdt a b c))=L0_qdt a b (K_qdt kk) n:=by
   intro a b
   funext c; exact ih a b c
  have hi1:(fun a b c d=>∃ j,iter (evF TT cs_qdt 53 an_qdt Tryz.f56 [1,0,1,0,0,1,0,0,1,1,0,0]) nm1_qdt (kt1_qdt (fin_qdt a b kk) (I0_qdt a b kk n)) j (can1_qdt a b c d))=(fun a b c d=>∃ j,L1_qdt a b c (K_qdt kk) (L0_qdt a b (K_qdt kk) n) j d):=by
   funext a b c d
   refine congrArg Exists (funext fun j=>?_)
   rw [l1_qdt a b c kk (I0_qdt a b kk n) j d]
   rw [hb]
  rw [hi1]
  rfl
theorem g_qdt (a:LT) (b:Int) (kk:AK) :
  V_qdt [.c (.ro .iib a),.c (vi b)] kk=G_qdt a b (fun a b d=>∃ j,I0_qdt a b kk j (can0_qdt a b d)):=by kernel_rfl
theorem e_qdt (a:LT) (b:Int) (kk:AK) :
  V_qdt [.c (.ro .iib a),.c (vi b)] kk=S_qdt a b (K_qdt kk):=by
 rw [g_qdt]
 have hi0:(fun a b d=>∃ j,I0_qdt a b kk j (can0_qdt a b d))=(fun a b d=>∃ j,L0_qdt a b (K_qdt kk) j d):=by
  funext a b d
  refine congrArg Exists (funext fun j=>?_)
  rw [l0_qdt a b kk j d]
 rw [hi0]
 rfl
theorem clok_qdt:ConOK Tryz.prog cl_qdt:=consCons h_qdc (pf (by kernel_rfl)) (consNil)
theorem cok_qdt:ConsOK Tryz.prog 53 cs_qdt:=⟨clok_qdt,inlNil,ovNil⟩
theorem i_qdt {vs:List A1} {kk:AK} {motive:List A1→Prop} (h:con_qdt.F vs kk) (H:∀ (a:LT) (b:Int),F_qdt a b (K_qdt kk)→motive [.c (.ro .iib a),.c (vi b)]):motive vs:=by
 unfold con_qdt at h
 dsimp only at h
 split at h
 ·exact H _ _ h
 ·exact h.elim
theorem h_qdt:Holds Tryz.prog 56 con_qdt:=by
 refine holds_of_ev (rt:=[.c .sc]) (T:=TT) (Γ:=cs_qdt) (an:=an_qdt) (N:=53) (c:=Tryz.f56.body.getD .skip) Tryz.func56 (by kernel_rfl) Tryz.ntmps56 (by decide) (by decide) mixed tabOK cok_qdt (by kernel_rfl) ?_
 intro vs kk _ hF
 exact i_qdt (motive:=fun vs=>Goes (V_qdt vs kk)) hF (fun a b hF=>goes_of (e_qdt a b kk) (F_qdt_S hF))
def K_qcr (kk:AK):Bool→Prop:=(fun a=>kk (.one (.c (.v (.bool a)))) [])
def con_qcr:Con:=⟨[.rd],true,[.agg [.sl .int,.sl .iib,.sc]],fun vs k=>match vs with
  | [.agg [.ro .int a,.ro .iib b,.v (.int .i64 c)]]=>F_qcr a b c (K_qcr k)
  | _=>False,false⟩
def cl_qcr:List (FuncId×Con):=[]
def nm0_qcr:List NStep:=[.keep [1,3] [16]]
def an_qcr:Ann:=⟨[(4,.take 0 (.take 1 (.take 2 (.take 3 (.take 4 (.take 5 (.take 6 (.take 7 (.take 8 (.take 9 (.take 10 (.take 11 (.take 12 (.take 13 (.take 14 (.take 15 (.take 16 (.take 17 (.take 18 (.take 19 (.take 20 (.take 21 (.take 22 (.take 23 (.take 24 (.take 25 (.done)))))))))))))))))))))))))),[16])],[(2,nm0_qcr)],[],[]⟩
def cs_qcr:Cons:=⟨cl_qcr,[],0,[],[],[]⟩
def can0_qcr (a:LT) (d:Int) (b:LI) (e:Int):St:=⟨[(1,.one (.c (.pb 16 0))),(3,.one (.c (vi e)))],[(16,.box [.ro .int b,.ro .iib a,vi d])]⟩
def fin_qcr (a:LI) (b:LT) (d:Int) (kk:AK):Kt:=fin TT con_qcr Tryz.f57.results.toList [.c .sc] [.agg [.ro .int a,.ro .iib b,vi d]] kk
def V_qcr (vs:List A1) (kk:AK):Prop:=ev TT cs_qcr 37 an_qcr (Tryz.f57.body.getD .skip) (st0 con_qcr vs) (fin TT con_qcr Tryz.f57.results.toList [.c .sc] vs kk)
def kt0_qcr (kf:Kt):Kt:=blockK 0 (seqK (evF TT cs_qcr 37 an_qcr Tryz.f57 [1,1]) (kf))
def I0_qcr (a:LI) (b:LT) (c:Int) (kk:AK):Nat→St→Prop:=iter (evF TT cs_qcr 37 an_qcr Tryz.f57 [1,0,1,0,0]) nm0_qcr (kt0_qcr (fin_qcr a b c kk))
theorem r0_qcr (a:LI) (b:LT) (c:Int) (kk:AK) (n:Nat) (d:Int) :
  I0_qcr a b c kk (n+1) (can0_qcr b c a d)=T0_qcr b c a d (K_qcr kk) (fun d=>I0_qcr a b c kk n (can0_qcr b c a d)):=by kernel_rfl
theorem l0_qcr (a:LI) (b:LT) (c:Int) (kk:AK):∀ (n:Nat) (d:Int),I0_qcr a b c kk n (can0_qcr b c a d)=L0_qcr b c a (K_qcr kk) n d:=by
 intro n
 induction n with
 | zero=>intros; rfl
 | succ n ih=>
  intro d
  rw [r0_qcr a b c kk n d]
  simp only [ih] <;> rfl
theorem g_qcr (a:LI) (b:LT) (c:Int) (kk:AK) :
  V_qcr [.agg [.ro .int a,.ro .iib b,vi c]] kk=G_qcr a b c (fun b c a d=>∃ j,I0_qcr a b c kk j (can0_qcr b c a d)):=by kernel_rfl
theorem e_qcr (a:LI) (b:LT) (c:Int) (kk:AK) :
  V_qcr [.agg [.ro .int a,.ro .iib b,vi c]] kk=S_qcr a b c (K_qcr kk):=by
 rw [g_qcr]
 have hi0:(fun b c a d=>∃ j,I0_qcr a b c kk j (can0_qcr b c a d))=(fun b c a d=>∃ j,L0_qcr b c a (K_qcr kk) j d):=by
  funext b c a d
  refine congrArg Exists (funext fun j=>?_)
  rw [l0_qcr a b c kk j d]
 rw [hi0]
 rfl
theorem clok_qcr:ConOK Tryz.prog cl_qcr:=consNil
theorem cok_qcr:ConsOK Tryz.prog 37 cs_qcr:=⟨clok_qcr,inlNil,ovNil⟩
theorem i_qcr {vs:List A1} {kk:AK} {motive:List A1→Prop} (h:con_qcr.F vs kk) (H:∀ (a:LI) (b:LT) (c:Int),F_qcr a b c (K_qcr kk)→motive [.agg [.ro .int a,.ro .iib b,vi c]]):motive vs:=by
 unfold con_qcr at h
 dsimp only at h
 split at h
 ·exact H _ _ _ h
 ·exact h.elim
theorem h_qcr:Holds Tryz.prog 57 con_qcr:=by
 refine holds_of_ev (rt:=[.c .sc]) (T:=TT) (Γ:=cs_qcr) (an:=an_qcr) (N:=37) (c:=Tryz.f57.body.getD .skip) Tryz.func57 (by kernel_rfl) Tryz.ntmps57 (by decide) (by decide) mixed tabOK cok_qcr (by kernel_rfl) ?_
 intro vs kk _ hF
 exact i_qcr (motive:=fun vs=>Goes (V_qcr vs kk)) hF (fun a b d hF=>goes_of (e_qcr a b d kk) (F_qcr_S hF))
def K_qdu (kk:AK):Bool→Prop:=(fun a=>kk (.one (.c (.v (.bool a)))) [])
def con_qdu:Con:=⟨[.rd],true,[.agg [.sl .int,.sl .iib,.sc]],fun vs k=>match vs with
  | [.agg [.ro .int a,.ro .iib b,.v (.int .i64 c)]]=>F_qdu a b c (K_qdu k)
  | _=>False,false⟩
def cl_qdu:List (FuncId×Con):=[(55,con_qcp),(56,con_qdt),(57,con_qcr)]
def an_qdu:Ann:=⟨[],[],[],[]⟩
def cs_qdu:Cons:=⟨cl_qdu,[],0,[],[],[]⟩
def fin_qdu (a:LI) (b:LT) (d:Int) (kk:AK):Kt:=fin TT con_qdu Tryz.f35.results.toList [.c .sc] [.agg [.ro .int a,.ro .iib b,vi d]] kk
def V_qdu (vs:List A1) (kk:AK):Prop:=ev TT cs_qdu 23 an_qdu (Tryz.f35.body.getD .skip) (st0 con_qdu vs) (fin TT con_qdu Tryz.f35.results.toList [.c .sc] vs kk)
theorem g_qdu (a:LI) (b:LT) (c:Int) (kk:AK) :
  V_qdu [.agg [.ro .int a,.ro .iib b,vi c]] kk=G_qdu a b c (K_qdu kk):=by kernel_rfl
theorem e_qdu (a:LI) (b:LT) (c:Int) (kk:AK) :
  V_qdu [.agg [.ro .int a,.ro .iib b,vi c]] kk=S_qdu a b c (K_qdu kk):=by
 rw [g_qdu]
 rfl
theorem clok_qdu:ConOK Tryz.prog cl_qdu:=consCons h_qcp (pf (by kernel_rfl)) (consCons h_qdt (pf (by kernel_rfl)) (consCons h_qcr (pf (by kernel_rfl)) (consNil)))
theorem cok_qdu:ConsOK Tryz.prog 23 cs_qdu:=⟨clok_qdu,inlNil,ovNil⟩
theorem i_qdu {vs:List A1} {kk:AK} {motive:List A1→Prop} (h:con_qdu.F vs kk) (H:∀ (a:LI) (b:LT) (c:Int),F_qdu a b c (K_qdu kk)→motive [.agg [.ro .int a,.ro .iib b,vi c]]):motive vs:=by
 unfold con_qdu at h
 dsimp only at h
 split at h
 ·exact H _ _ _ h
 ·exact h.elim
theorem h_qdu:Holds Tryz.prog 35 con_qdu:=by
 refine holds_of_ev (rt:=[.c .sc]) (T:=TT) (Γ:=cs_qdu) (an:=an_qdu) (N:=23) (c:=Tryz.f35.body.getD .skip) Tryz.func35 (by kernel_rfl) Tryz.ntmps35 (by decide) (by decide) mixed tabOK cok_qdu (by kernel_rfl) ?_
 intro vs kk _ hF
 exact i_qdu (motive:=fun vs=>Goes (V_qdu vs kk)) hF (fun a b d hF=>goes_of (e_qdu a b d kk) (F_qdu_S hF))
def K_qct (kk:AK):LI→Prop:=(fun a=>kk (.one (.c (.ro .int a))) [])
def con_qct:Con:=⟨[.rd],true,[.c (.sl .int)],fun vs k=>match vs with
  | [.c (.ro .int a)]=>F_qct a (K_qct k)
  | _=>False,false⟩
def cl_qct:List (FuncId×Con):=[]
def an_qct:Ann:=⟨[],[],[],[]⟩
def cs_qct:Cons:=⟨cl_qct,[],0,[],[],[]⟩
def fin_qct (a:LI) (kk:AK):Kt:=fin TT con_qct Tryz.f46.results.toList [.c (.sl .int)] [.c (.ro .int a)] kk
def V_qct (vs:List A1) (kk:AK):Prop:=ev TT cs_qct 6 an_qct (Tryz.f46.body.getD .skip) (st0 con_qct vs) (fin TT con_qct Tryz.f46.results.toList [.c (.sl .int)] vs kk)
theorem g_qct (a:LI) (kk:AK) :
  V_qct [.c (.ro .int a)] kk=G_qct a (K_qct kk):=by kernel_rfl
theorem e_qct (a:LI) (kk:AK) :
  V_qct [.c (.ro .int a)] kk=S_qct a (K_qct kk):=by
 rw [g_qct]
 rfl
theorem clok_qct:ConOK Tryz.prog cl_qct:=consNil
theorem cok_qct:ConsOK Tryz.prog 6 cs_qct:=⟨clok_qct,inlNil,ovNil⟩
theorem i_qct {vs:List A1} {kk:AK} {motive:List A1→Prop} (h:con_qct.F vs kk) (H:∀ (a:LI),F_qct a (K_qct kk)→motive [.c (.ro .int a)]):motive vs:=by
 unfold con_qct at h
 dsimp only at h
 split at h
 ·exact H _ h
 ·exact h.elim
theorem h_qct:Holds Tryz.prog 46 con_qct:=by
 refine holds_of_ev (rt:=[.c (.sl .int)]) (T:=TT) (Γ:=cs_qct) (an:=an_qct) (N:=6) (c:=Tryz.f46.body.getD .skip) Tryz.func46 (by kernel_rfl) Tryz.ntmps46 (by decide) (by decide) mixed tabOK cok_qct (by kernel_rfl) ?_
 intro vs kk _ hF
 exact i_qct (motive:=fun vs=>Goes (V_qct vs kk)) hF (fun a hF=>goes_of (e_qct a kk) (F_qct_S hF))
def K_qcv (kk:AK):LI→LT→Int→Prop:=(fun a b c=>kk (.one (.agg [.ro .int a,.ro .iib b,vi c])) [])
def con_qcv:Con:=⟨[.rd],true,[.agg [.sl .int,.sl .iib,.sc]],fun vs k=>match vs with
  | [.agg [.ro .int a,.ro .iib b,.v (.int .i64 c)]]=>F_qcv a b c (K_qcv k)
  | _=>False,false⟩
def cl_qcv:List (FuncId×Con):=[(46,con_qct)]
def an_qcv:Ann:=⟨[(1,.take 0 (.take 1 (.take 4 (.take 5 (.take 7 (.take 8 (.alt 2 (.alt 3 (.alt 6 (.take 9 (.alt 10 (.done) (.none))) (.none)) (.none)) (.alt 3 (.alt 2 (.alt 6 (.take 9 (.alt 10 (.done) (.none))) (.none)) (.none)) (.none)))))))),[16])],[],[],[]⟩
def cs_qcv:Cons:=⟨cl_qcv,[],0,[],[],[]⟩
def fin_qcv (a:LI) (b:LT) (c:Int) (kk:AK):Kt:=fin TT con_qcv Tryz.f36.results.toList [.agg [.sl .int,.sl .iib,.sc]] [.agg [.ro .int a,.ro .iib b,vi c]] kk
def V_qcv (vs:List A1) (kk:AK):Prop:=ev TT cs_qcv 13 an_qcv (Tryz.f36.body.getD .skip) (st0 con_qcv vs) (fin TT con_qcv Tryz.f36.results.toList [.agg [.sl .int,.sl .iib,.sc]] vs kk)
theorem g_qcv (a:LI) (b:LT) (c:Int) (kk:AK) :
  V_qcv [.agg [.ro .int a,.ro .iib b,vi c]] kk=G_qcv a b c (K_qcv kk):=by kernel_rfl
theorem e_qcv (a:LI) (b:LT) (c:Int) (kk:AK) :
  V_qcv [.agg [.ro .int a,.ro .iib b,vi c]] kk=S_qcv a b c (K_qcv kk):=by
 rw [g_qcv]
 rw [G_qcv_eq]
 rfl
theorem clok_qcv:ConOK Tryz.prog cl_qcv:=consCons h_qct (pf (by kernel_rfl)) (consNil)
theorem cok_qcv:ConsOK Tryz.prog 13 cs_qcv:=⟨clok_qcv,inlNil,ovNil⟩
theorem i_qcv {vs:List A1} {kk:AK} {motive:List A1→Prop} (h:con_qcv.F vs kk) (H:∀ (a:LI) (b:LT) (c:Int),F_qcv a b c (K_qcv kk)→motive [.agg [.ro .int a,.ro .iib b,vi c]]):motive vs:=by
 unfold con_qcv at h
 dsimp only at h
 split at h
 ·exact H _ _ _ h
 ·exact h.elim
theorem h_qcv:Holds Tryz.prog 36 con_qcv:=by
 refine holds_of_ev (rt:=[.agg [.sl .int,.sl .iib,.sc]]) (T:=TT) (Γ:=cs_qcv) (an:=an_qcv) (N:=13) (c:=Tryz.f36.body.getD .skip) Tryz.func36 (by kernel_rfl) Tryz.ntmps36 (by decide) (by decide) mixed tabOK cok_qcv (by kernel_rfl) ?_
 intro vs kk _ hF
 exact i_qcv (motive:=fun vs=>Goes (V_qcv vs kk)) hF (fun a b d hF=>goes_of (e_qcv a b d kk) (F_qcv_S hF))
def K_qdf (kk:AK):Int→Prop:=(fun a=>kk (.one (.c (vi a))) [])
def con_qdf:Con:=⟨[.rd,.rd],true,[.agg [.sl .int,.sl .iib,.sc],.c (.sc)],fun vs k=>match vs with
  | [.agg [.ro .int a,.ro .iib b,.v (.int .i64 d)],.c (.v (.int .i64 e))]=>F_qdf a b d e (K_qdf k)
  | _=>False,false⟩
def cl_qdf:List (FuncId×Con):=[]
def nm0_qdf:List NStep:=[.keep [1,2,5] [32]]
def an_qdf:Ann:=⟨[],[(2,nm0_qdf)],[],[]⟩
def cs_qdf:Cons:=⟨cl_qdf,[],0,[],[],[]⟩
def can0_qdf (e:Int) (a:LT) (d:Int) (b:LI) (f:Int):St:=⟨[(1,.one (.c (vi e))),(2,.one (.c (.pb 32 0))),(5,.one (.c (vi f)))],[(32,.box [.ro .int b,.ro .iib a,vi d])]⟩
def fin_qdf (a:LI) (b:LT) (d e:Int) (kk:AK):Kt:=fin TT con_qdf Tryz.f70.results.toList [.c .sc] [.agg [.ro .int a,.ro .iib b,vi d],.c (vi e)] kk
def V_qdf (vs:List A1) (kk:AK):Prop:=ev TT cs_qdf 22 an_qdf (Tryz.f70.body.getD .skip) (st0 con_qdf vs) (fin TT con_qdf Tryz.f70.results.toList [.c .sc] vs kk)
def kt0_qdf (kf:Kt):Kt:=blockK 0 (seqK (evF TT cs_qdf 22 an_qdf Tryz.f70 [1,1]) (kf))
def I0_qdf (a:LI) (b:LT) (c d:Int) (kk:AK):Nat→St→Prop:=iter (evF TT cs_qdf 22 an_qdf Tryz.f70 [1,0,1,0,0]) nm0_qdf (kt0_qdf (fin_qdf a b c d kk))
theorem r0_qdf (a:LI) (b:LT) (c d:Int) (kk:AK) (n:Nat) (e:Int) :
  I0_qdf a b c d kk (n+1) (can0_qdf d b c a e)=T0_qdf d b c a e (K_qdf kk) (fun e=>I0_qdf a b c d kk n (can0_qdf d b c a e)):=by kernel_rfl
theorem l0_qdf (a:LI) (b:LT) (c d:Int) (kk:AK):∀ (n:Nat) (e:Int),I0_qdf a b c d kk n (can0_qdf d b c a e)=L0_qdf d b c a (K_qdf kk) n e:=by
 intro n
 induction n with
 | zero=>intros; rfl
 | succ n ih=>
  intro e
  rw [r0_qdf a b c d kk n e]
  simp only [ih] <;> rfl
theorem g_qdf (a:LI) (b:LT) (d e:Int) (kk:AK) :
  V_qdf [.agg [.ro .int a,.ro .iib b,vi d],.c (vi e)] kk=G_qdf a b d e (fun e b d a f=>∃ j,I0_qdf a b d e kk j (can0_qdf e b d a f)):=by kernel_rfl
theorem e_qdf (a:LI) (b:LT) (d e:Int) (kk:AK) :
  V_qdf [.agg [.ro .int a,.ro .iib b,vi d],.c (vi e)] kk=S_qdf a b d e (K_qdf kk):=by
 rw [g_qdf]
 have hi0:(fun e b d a f=>∃ j,I0_qdf a b d e kk j (can0_qdf e b d a f))=(fun e b d a f=>∃ j,L0_qdf e b d a (K_qdf kk) j f):=by
  funext e b d a f
  refine congrArg Exists (funext fun j=>?_)
  rw [l0_qdf a b d e kk j f]
 rw [hi0]
 rfl
theorem clok_qdf:ConOK Tryz.prog cl_qdf:=consNil
theorem cok_qdf:ConsOK Tryz.prog 22 cs_qdf:=⟨clok_qdf,inlNil,ovNil⟩
theorem i_qdf {vs:List A1} {kk:AK} {motive:List A1→Prop} (h:con_qdf.F vs kk) (H:∀ (a:LI) (b:LT) (d e:Int),F_qdf a b d e (K_qdf kk)→motive [.agg [.ro .int a,.ro .iib b,vi d],.c (vi e)]):motive vs:=by
 unfold con_qdf at h
 dsimp only at h
 split at h
 ·exact H _ _ _ _ h
 ·exact h.elim
theorem h_qdf:Holds Tryz.prog 70 con_qdf:=by
 refine holds_of_ev (rt:=[.c .sc]) (T:=TT) (Γ:=cs_qdf) (an:=an_qdf) (N:=22) (c:=Tryz.f70.body.getD .skip) Tryz.func70 (by kernel_rfl) Tryz.ntmps70 (by decide) (by decide) mixed tabOK cok_qdf (by kernel_rfl) ?_
 intro vs kk _ hF
 exact i_qdf (motive:=fun vs=>Goes (V_qdf vs kk)) hF (fun a b d e hF=>goes_of (e_qdf a b d e kk) (F_qdf_S hF))
def K_qcn (kk:AK):LI→LT→Int→Prop:=(fun a b c=>kk (.one (.agg [.ro .int a,.ro .iib b,vi c])) [])
def con_qcn:Con:=⟨[.rd,.rd],true,[.agg [.sl .int,.sl .iib,.sc],.c (.sc)],fun vs k=>match vs with
  | [.agg [.ro .int a,.ro .iib b,.v (.int .i64 d)],.c (.v (.int .i64 e))]=>F_qcn a b d e (K_qcn k)
  | _=>False,false⟩
def cl_qcn:List (FuncId×Con):=[(36,con_qcv),(70,con_qdf)]
def an_qcn:Ann:=⟨[(6,.take 0 (.take 2 (.take 4 (.take 6 (.take 7 (.alt 1 (.take 3 (.alt 5 (.take 8 (.alt 9 (.take 10 (.alt 11 (.done) (.none))) (.none))) (.none))) (.alt 5 (.take 8 (.alt 1 (.take 3 (.alt 9 (.take 10 (.alt 11 (.done) (.none))) (.none))) (.none))) (.none))))))),[])],[],[],[]⟩
def cs_qcn:Cons:=⟨cl_qcn,[],0,[],[],[]⟩
def fin_qcn (a:LI) (b:LT) (d e:Int) (kk:AK):Kt:=fin TT con_qcn Tryz.f45.results.toList [.agg [.sl .int,.sl .iib,.sc]] [.agg [.ro .int a,.ro .iib b,vi d],.c (vi e)] kk
def V_qcn (vs:List A1) (kk:AK):Prop:=ev TT cs_qcn 73 an_qcn (Tryz.f45.body.getD .skip) (st0 con_qcn vs) (fin TT con_qcn Tryz.f45.results.toList [.agg [.sl .int,.sl .iib,.sc]] vs kk)
theorem g_qcn (a:LI) (b:LT) (d e:Int) (kk:AK) :
  V_qcn [.agg [.ro .int a,.ro .iib b,vi d],.c (vi e)] kk=G_qcn a b d e (K_qcn kk):=by kernel_rfl
theorem e_qcn (a:LI) (b:LT) (d e:Int) (kk:AK) :
  V_qcn [.agg [.ro .int a,.ro .iib b,vi d],.c (vi e)] kk=S_qcn a b d e (K_qcn kk):=by
 rw [g_qcn]
 rw [G_qcn_eq]
 rfl
theorem clok_qcn:ConOK Tryz.prog cl_qcn:=consCons h_qcv (pf (by kernel_rfl)) (consCons h_qdf (pf (by kernel_rfl)) (consNil))
theorem cok_qcn:ConsOK Tryz.prog 73 cs_qcn:=⟨clok_qcn,inlNil,ovNil⟩
theorem i_qcn {vs:List A1} {kk:AK} {motive:List A1→Prop} (h:con_qcn.F vs kk) (H:∀ (a:LI) (b:LT) (d e:Int),F_qcn a b d e (K_qcn kk)→motive [.agg [.ro .int a,.ro .iib b,vi d],.c (vi e)]):motive vs:=by
 unfold con_qcn at h
 dsimp only at h
 split at h
 ·exact H _ _ _ _ h
 ·exact h.elim
theorem h_qcn:Holds Tryz.prog 45 con_qcn:=by
 refine holds_of_ev (rt:=[.agg [.sl .int,.sl .iib,.sc]]) (T:=TT) (Γ:=cs_qcn) (an:=an_qcn) (N:=73) (c:=Tryz.f45.body.getD .skip) Tryz.func45 (by kernel_rfl) Tryz.ntmps45 (by decide) (by decide) mixed tabOK cok_qcn (by kernel_rfl) ?_
 intro vs kk _ hF
 exact i_qcn (motive:=fun vs=>Goes (V_qcn vs kk)) hF (fun a b d e hF=>goes_of (e_qcn a b d e kk) (F_qcn_S hF))
def K_qcf (kk:AK):LI→LT→Int→Int→Bool→Prop:=(fun a b d e f=>kk (.tup [.agg [.ro .int a,.ro .iib b,vi d],.c (vi e),.c (.v (.bool f))]) [])
def con_qcf:Con:=⟨[.rd,.rd],true,[.agg [.sl .int,.sl .iib,.sc],.c (.sc)],fun vs k=>match vs with
  | [.agg [.ro .int a,.ro .iib b,.v (.int .i64 d)],.c (.v (.int .i64 e))]=>F_qcf a b d e (K_qcf k)
  | _=>False,false⟩
def cl_qcf:List (FuncId×Con):=[(35,con_qdu),(44,con_qdc),(45,con_qcn)]
def an_qcf:Ann:=⟨[(4,.take 0 (.take 1 (.take 2 (.take 3 (.take 4 (.take 5 (.alt 6 (.take 7 (.take 8 (.done))) (.none))))))),[112,305])],[],[],[]⟩
def cs_qcf:Cons:=⟨cl_qcf,[],0,[],[],[]⟩
def fin_qcf (a:LI) (b:LT) (d e:Int) (kk:AK):Kt:=fin TT con_qcf Tryz.f22.results.toList [.agg [.sl .int,.sl .iib,.sc],.c .sc,.c .sc] [.agg [.ro .int a,.ro .iib b,vi d],.c (vi e)] kk
def V_qcf (vs:List A1) (kk:AK):Prop:=ev TT cs_qcf 26 an_qcf (Tryz.f22.body.getD .skip) (st0 con_qcf vs) (fin TT con_qcf Tryz.f22.results.toList [.agg [.sl .int,.sl .iib,.sc],.c .sc,.c .sc] vs kk)
theorem g_qcf (a:LI) (b:LT) (d e:Int) (kk:AK) :
  V_qcf [.agg [.ro .int a,.ro .iib b,vi d],.c (vi e)] kk=G_qcf a b d e (K_qcf kk):=by kernel_rfl
theorem e_qcf (a:LI) (b:LT) (d e:Int) (kk:AK) :
  V_qcf [.agg [.ro .int a,.ro .iib b,vi d],.c (vi e)] kk=S_qcf a b d e (K_qcf kk):=by
 rw [g_qcf]
 rw [G_qcf_eq]
 rfl
theorem clok_qcf:ConOK Tryz.prog cl_qcf:=consCons h_qdu (pf (by kernel_rfl)) (consCons h_qdc (pf (by kernel_rfl)) (consCons h_qcn (pf (by kernel_rfl)) (consNil)))
theorem cok_qcf:ConsOK Tryz.prog 26 cs_qcf:=⟨clok_qcf,inlNil,ovNil⟩
theorem i_qcf {vs:List A1} {kk:AK} {motive:List A1→Prop} (h:con_qcf.F vs kk) (H:∀ (a:LI) (b:LT) (d e:Int),F_qcf a b d e (K_qcf kk)→motive [.agg [.ro .int a,.ro .iib b,vi d],.c (vi e)]):motive vs:=by
 unfold con_qcf at h
 dsimp only at h
 split at h
 ·exact H _ _ _ _ h
 ·exact h.elim
theorem h_qcf:Holds Tryz.prog 22 con_qcf:=by
 refine holds_of_ev (rt:=[.agg [.sl .int,.sl .iib,.sc],.c .sc,.c .sc]) (T:=TT) (Γ:=cs_qcf) (an:=an_qcf) (N:=26) (c:=Tryz.f22.body.getD .skip) Tryz.func22 (by kernel_rfl) Tryz.ntmps22 (by decide) (by decide) mixed tabOK cok_qcf (by kernel_rfl) ?_
 intro vs kk _ hF
 exact i_qcf (motive:=fun vs=>Goes (V_qcf vs kk)) hF (fun a b d e hF=>goes_of (e_qcf a b d e kk) (F_qcf_S hF))
def K_qcm (kk:AK):LI→LT→Int→Bool→Prop:=(fun a b d e=>kk (.tup [.agg [.ro .int a,.ro .iib b,vi d],.c (.v (.bool e))]) [])
def con_qcm:Con:=⟨[.rd,.rd,.rd],true,[.agg [.sl .int,.sl .iib,.sc],.c (.sc),.c (.sc)],fun vs k=>match vs with
  | [.agg [.ro .int a,.ro .iib b,.v (.int .i64 d)],.c (.v (.int .i64 f)),.c (.v (.int .i64 e))]=>F_qcm a b d f e (K_qcm k)
  | _=>False,false⟩
def cl_qcm:List (FuncId×Con):=[(35,con_qdu),(44,con_qdc),(45,con_qcn)]
def an_qcm:Ann:=⟨[],[],[],[]⟩
def cs_qcm:Cons:=⟨cl_qcm,[],0,[],[],[]⟩
def fin_qcm (a:LI) (b:LT) (d f e:Int) (kk:AK):Kt:=fin TT con_qcm Tryz.f26.results.toList [.agg [.sl .int,.sl .iib,.sc],.c .sc] [.agg [.ro .int a,.ro .iib b,vi d],.c (vi f),.c (vi e)] kk
def V_qcm (vs:List A1) (kk:AK):Prop:=ev TT cs_qcm 33 an_qcm (Tryz.f26.body.getD .skip) (st0 con_qcm vs) (fin TT con_qcm Tryz.f26.results.toList [.agg [.sl .int,.sl .iib,.sc],.c .sc] vs kk)
theorem g_qcm (a:LI) (b:LT) (d f e:Int) (kk:AK) :
  V_qcm [.agg [.ro .int a,.ro .iib b,vi d],.c (vi f),.c (vi e)] kk=G_qcm a b d f e (K_qcm kk):=by kernel_rfl
theorem e_qcm (a:LI) (b:LT) (d f e:Int) (kk:AK) :
  V_qcm [.agg [.ro .int a,.ro .iib b,vi d],.c (vi f),.c (vi e)] kk=S_qcm a b d f e (K_qcm kk):=by
 rw [g_qcm]
 rfl
theorem clok_qcm:ConOK Tryz.prog cl_qcm:=consCons h_qdu (pf (by kernel_rfl)) (consCons h_qdc (pf (by kernel_rfl)) (consCons h_qcn (pf (by kernel_rfl)) (consNil)))
theorem cok_qcm:ConsOK Tryz.prog 33 cs_qcm:=⟨clok_qcm,inlNil,ovNil⟩
theorem i_qcm {vs:List A1} {kk:AK} {motive:List A1→Prop} (h:con_qcm.F vs kk) (H:∀ (a:LI) (b:LT) (d f e:Int),F_qcm a b d f e (K_qcm kk)→motive [.agg [.ro .int a,.ro .iib b,vi d],.c (vi f),.c (vi e)]):motive vs:=by
 unfold con_qcm at h
 dsimp only at h
 split at h
 ·exact H _ _ _ _ _ h
 ·exact h.elim
theorem h_qcm:Holds Tryz.prog 26 con_qcm:=by
 refine holds_of_ev (rt:=[.agg [.sl .int,.sl .iib,.sc],.c .sc]) (T:=TT) (Γ:=cs_qcm) (an:=an_qcm) (N:=33) (c:=Tryz.f26.body.getD .skip) Tryz.func26 (by kernel_rfl) Tryz.ntmps26 (by decide) (by decide) mixed tabOK cok_qcm (by kernel_rfl) ?_
 intro vs kk _ hF
 exact i_qcm (motive:=fun vs=>Goes (V_qcm vs kk)) hF (fun a b d f e hF=>goes_of (e_qcm a b d f e kk) (F_qcm_S hF))
def K_qdv (kk:AK):Bool→Prop:=(fun a=>kk (.one (.c (.v (.bool a)))) [])
def con_qdv:Con:=⟨[.rd],true,[.c (.sl .int)],fun vs k=>match vs with
  | [.c (.ro .int a)]=>F_qdv a (K_qdv k)
  | _=>False,false⟩
def cl_qdv:List (FuncId×Con):=[(55,con_qcp)]
def an_qdv:Ann:=⟨[],[],[],[]⟩
def cs_qdv:Cons:=⟨cl_qdv,[],0,[],[],[]⟩
def fin_qdv (a:LI) (kk:AK):Kt:=fin TT con_qdv Tryz.f33.results.toList [.c .sc] [.c (.ro .int a)] kk
def V_qdv (vs:List A1) (kk:AK):Prop:=ev TT cs_qdv 10 an_qdv (Tryz.f33.body.getD .skip) (st0 con_qdv vs) (fin TT con_qdv Tryz.f33.results.toList [.c .sc] vs kk)
theorem g_qdv (a:LI) (kk:AK) :
  V_qdv [.c (.ro .int a)] kk=G_qdv a (K_qdv kk):=by kernel_rfl
theorem e_qdv (a:LI) (kk:AK) :
  V_qdv [.c (.ro .int a)] kk=S_qdv a (K_qdv kk):=by
 rw [g_qdv]
 rfl
theorem clok_qdv:ConOK Tryz.prog cl_qdv:=consCons h_qcp (pf (by kernel_rfl)) (consNil)
theorem cok_qdv:ConsOK Tryz.prog 10 cs_qdv:=⟨clok_qdv,inlNil,ovNil⟩
theorem i_qdv {vs:List A1} {kk:AK} {motive:List A1→Prop} (h:con_qdv.F vs kk) (H:∀ (a:LI),F_qdv a (K_qdv kk)→motive [.c (.ro .int a)]):motive vs:=by
 unfold con_qdv at h
 dsimp only at h
 split at h
 ·exact H _ h
 ·exact h.elim
theorem h_qdv:Holds Tryz.prog 33 con_qdv:=by
 refine holds_of_ev (rt:=[.c .sc]) (T:=TT) (Γ:=cs_qdv) (an:=an_qdv) (N:=10) (c:=Tryz.f33.body.getD .skip) Tryz.func33 (by kernel_rfl) Tryz.ntmps33 (by decide) (by decide) mixed tabOK cok_qdv (by kernel_rfl) ?_
 intro vs kk _ hF
 exact i_qdv (motive:=fun vs=>Goes (V_qdv vs kk)) hF (fun a hF=>goes_of (e_qdv a kk) (F_qdv_S hF))
def K_qdl (kk:AK):Int→Prop:=(fun a=>kk (.one (.c (vi a))) [])
def con_qdl:Con:=⟨[.rd,.rd],true,[.c (.sl .int),.c (.sc)],fun vs k=>match vs with
  | [.c (.ro .int a),.c (.v (.int .i64 b))]=>F_qdl a b (K_qdl k)
  | _=>False,false⟩
def cl_qdl:List (FuncId×Con):=[]
def nm0_qdl:List NStep:=[.keep [0,1,5] []]
def an_qdl:Ann:=⟨[],[(2,nm0_qdl)],[],[]⟩
def cs_qdl:Cons:=⟨cl_qdl,[],0,[],[],[]⟩
def can0_qdl (a:LI) (d b:Int):St:=⟨[(0,.one (.c (.ro .int a))),(1,.one (.c (vi d))),(5,.one (.c (vi b)))],[]⟩
def fin_qdl (a:LI) (b:Int) (kk:AK):Kt:=fin TT con_qdl Tryz.f71.results.toList [.c .sc] [.c (.ro .int a),.c (vi b)] kk
def V_qdl (vs:List A1) (kk:AK):Prop:=ev TT cs_qdl 19 an_qdl (Tryz.f71.body.getD .skip) (st0 con_qdl vs) (fin TT con_qdl Tryz.f71.results.toList [.c .sc] vs kk)
def kt0_qdl (kf:Kt):Kt:=blockK 0 (seqK (evF TT cs_qdl 19 an_qdl Tryz.f71 [1,1]) (kf))
def I0_qdl (a:LI) (b:Int) (kk:AK):Nat→St→Prop:=iter (evF TT cs_qdl 19 an_qdl Tryz.f71 [1,0,1,0,0]) nm0_qdl (kt0_qdl (fin_qdl a b kk))
theorem r0_qdl (a:LI) (c:Int) (kk:AK) (n:Nat) (b:Int) :
  I0_qdl a c kk (n+1) (can0_qdl a c b)=T0_qdl a c b (K_qdl kk) (fun b=>I0_qdl a c kk n (can0_qdl a c b)):=by kernel_rfl
theorem l0_qdl (a:LI) (c:Int) (kk:AK):∀ (n:Nat) (b:Int),I0_qdl a c kk n (can0_qdl a c b)=L0_qdl a c (K_qdl kk) n b:=by
 intro n
 induction n with
 | zero=>intros; rfl
 | succ n ih=>
  intro b
  rw [r0_qdl a c kk n b]
  simp only [ih] <;> rfl
theorem g_qdl (a:LI) (b:Int) (kk:AK) :
  V_qdl [.c (.ro .int a),.c (vi b)] kk=G_qdl a b (fun a b d=>∃ j,I0_qdl a b kk j (can0_qdl a b d)):=by kernel_rfl
theorem e_qdl (a:LI) (b:Int) (kk:AK) :
  V_qdl [.c (.ro .int a),.c (vi b)] kk=S_qdl a b (K_qdl kk):=by
 rw [g_qdl]
 have hi0:(fun a b d=>∃ j,I0_qdl a b kk j (can0_qdl a b d))=(fun a b d=>∃ j,L0_qdl a b (K_qdl kk) j d):=by
  funext a b d
  refine congrArg Exists (funext fun j=>?_)
  rw [l0_qdl a b kk j d]
 rw [hi0]
 rfl
theorem clok_qdl:ConOK Tryz.prog cl_qdl:=consNil
theorem cok_qdl:ConsOK Tryz.prog 19 cs_qdl:=⟨clok_qdl,inlNil,ovNil⟩
theorem i_qdl {vs:List A1} {kk:AK} {motive:List A1→Prop} (h:con_qdl.F vs kk) (H:∀ (a:LI) (b:Int),F_qdl a b (K_qdl kk)→motive [.c (.ro .int a),.c (vi b)]):motive vs:=by
 unfold con_qdl at h
 dsimp only at h
 split at h
 ·exact H _ _ h
 ·exact h.elim
theorem h_qdl:Holds Tryz.prog 71 con_qdl:=by
 refine holds_of_ev (rt:=[.c .sc]) (T:=TT) (Γ:=cs_qdl) (an:=an_qdl) (N:=19) (c:=Tryz.f71.body.getD .skip) Tryz.func71 (by kernel_rfl) Tryz.ntmps71 (by decide) (by decide) mixed tabOK cok_qdl (by kernel_rfl) ?_
 intro vs kk _ hF
 exact i_qdl (motive:=fun vs=>Goes (V_qdl vs kk)) hF (fun a b hF=>goes_of (e_qdl a b kk) (F_qdl_S hF))
def K_qdw (kk:AK):LI→Prop:=(fun a=>kk (.one (.c (.ro .int a))) [])
def con_qdw:Con:=⟨[.rd,.rd],true,[.c (.sl .int),.c (.sc)],fun vs k=>match vs with
  | [.c (.ro .int a),.c (.v (.int .i64 b))]=>F_qdw a b (K_qdw k)
  | _=>False,false⟩
def cl_qdw:List (FuncId×Con):=[]
def an_qdw:Ann:=⟨[(1,.take 1 (.take 2 (.take 3 (.take 5 (.take 6 (.take 7 (.take 8 (.alt 0 (.alt 4 (.alt 9 (.take 10 (.done)) (.none)) (.none)) (.none)))))))),[])],[],[],[]⟩
def cs_qdw:Cons:=⟨cl_qdw,[],0,[],[],[]⟩
def fin_qdw (a:LI) (b:Int) (kk:AK):Kt:=fin TT con_qdw Tryz.f72.results.toList [.c (.sl .int)] [.c (.ro .int a),.c (vi b)] kk
def V_qdw (vs:List A1) (kk:AK):Prop:=ev TT cs_qdw 15 an_qdw (Tryz.f72.body.getD .skip) (st0 con_qdw vs) (fin TT con_qdw Tryz.f72.results.toList [.c (.sl .int)] vs kk)
theorem g_qdw (a:LI) (b:Int) (kk:AK) :
  V_qdw [.c (.ro .int a),.c (vi b)] kk=G_qdw a b (K_qdw kk):=by kernel_rfl
theorem e_qdw (a:LI) (b:Int) (kk:AK) :
  V_qdw [.c (.ro .int a),.c (vi b)] kk=S_qdw a b (K_qdw kk):=by
 rw [g_qdw]
 rw [G_qdw_eq]
 rfl
theorem clok_qdw:ConOK Tryz.prog cl_qdw:=consNil
theorem cok_qdw:ConsOK Tryz.prog 15 cs_qdw:=⟨clok_qdw,inlNil,ovNil⟩
theorem i_qdw {vs:List A1} {kk:AK} {motive:List A1→Prop} (h:con_qdw.F vs kk) (H:∀ (a:LI) (b:Int),F_qdw a b (K_qdw kk)→motive [.c (.ro .int a),.c (vi b)]):motive vs:=by
 unfold con_qdw at h
 dsimp only at h
 split at h
 ·exact H _ _ h
 ·exact h.elim
theorem h_qdw:Holds Tryz.prog 72 con_qdw:=by
 refine holds_of_ev (rt:=[.c (.sl .int)]) (T:=TT) (Γ:=cs_qdw) (an:=an_qdw) (N:=15) (c:=Tryz.f72.body.getD .skip) Tryz.func72 (by kernel_rfl) Tryz.ntmps72 (by decide) (by decide) mixed tabOK cok_qdw (by kernel_rfl) ?_
 intro vs kk _ hF
 exact i_qdw (motive:=fun vs=>Goes (V_qdw vs kk)) hF (fun a b hF=>goes_of (e_qdw a b kk) (F_qdw_S hF))
def K_qdo (kk:AK):LI→Bool→Prop:=(fun a b=>kk (.tup [.c (.ro .int a),.c (.v (.bool b))]) [])
def con_qdo:Con:=⟨[.rd,.rd,.rd],true,[.c (.sl .int),.c (.sc),.c (.sc)],fun vs k=>match vs with
  | [.c (.ro .int a),.c (.v (.int .i64 b)),.c (.v (.int .i64 d))]=>F_qdo a b d (K_qdo k)
  | _=>False,false⟩
def cl_qdo:List (FuncId×Con):=[(71,con_qdl),(72,con_qdw)]
def an_qdo:Ann:=⟨[],[],[],[]⟩
def cs_qdo:Cons:=⟨cl_qdo,[],0,[],[],[]⟩
def fin_qdo (a:LI) (b d:Int) (kk:AK):Kt:=fin TT con_qdo Tryz.f47.results.toList [.c (.sl .int),.c .sc] [.c (.ro .int a),.c (vi b),.c (vi d)] kk
def V_qdo (vs:List A1) (kk:AK):Prop:=ev TT cs_qdo 31 an_qdo (Tryz.f47.body.getD .skip) (st0 con_qdo vs) (fin TT con_qdo Tryz.f47.results.toList [.c (.sl .int),.c .sc] vs kk)
theorem g_qdo (a:LI) (b d:Int) (kk:AK) :
  V_qdo [.c (.ro .int a),.c (vi b),.c (vi d)] kk=G_qdo a b d (K_qdo kk):=by kernel_rfl
theorem e_qdo (a:LI) (b d:Int) (kk:AK) :
  V_qdo [.c (.ro .int a),.c (vi b),.c (vi d)] kk=S_qdo a b d (K_qdo kk):=by
 rw [g_qdo]
 rfl
theorem clok_qdo:ConOK Tryz.prog cl_qdo:=consCons h_qdl (pf (by kernel_rfl)) (consCons h_qdw (pf (by kernel_rfl)) (consNil))
theorem cok_qdo:ConsOK Tryz.prog 31 cs_qdo:=⟨clok_qdo,inlNil,ovNil⟩
theorem i_qdo {vs:List A1} {kk:AK} {motive:List A1→Prop} (h:con_qdo.F vs kk) (H:∀ (a:LI) (b d:Int),F_qdo a b d (K_qdo kk)→motive [.c (.ro .int a),.c (vi b),.c (vi d)]):motive vs:=by
 unfold con_qdo at h
 dsimp only at h
 split at h
 ·exact H _ _ _ h
 ·exact h.elim
theorem h_qdo:Holds Tryz.prog 47 con_qdo:=by
 refine holds_of_ev (rt:=[.c (.sl .int),.c .sc]) (T:=TT) (Γ:=cs_qdo) (an:=an_qdo) (N:=31) (c:=Tryz.f47.body.getD .skip) Tryz.func47 (by kernel_rfl) Tryz.ntmps47 (by decide) (by decide) mixed tabOK cok_qdo (by kernel_rfl) ?_
 intro vs kk _ hF
 exact i_qdo (motive:=fun vs=>Goes (V_qdo vs kk)) hF (fun a b d hF=>goes_of (e_qdo a b d kk) (F_qdo_S hF))
def K_qds (kk:AK):Int→Prop:=(fun a=>kk (.one (.c (vi a))) [])
def con_qds:Con:=⟨[.rd],true,[.c (.sc)],fun vs k=>match vs with
  | [.c (.v (.bool a))]=>F_qds a (K_qds k)
  | _=>False,false⟩
def cl_qds:List (FuncId×Con):=[]
def an_qds:Ann:=⟨[],[],[],[]⟩
def cs_qds:Cons:=⟨cl_qds,[],0,[],[],[]⟩
def fin_qds (a:Bool) (kk:AK):Kt:=fin TT con_qds Tryz.f48.results.toList [.c .sc] [.c (.v (.bool a))] kk
def V_qds (vs:List A1) (kk:AK):Prop:=ev TT cs_qds 4 an_qds (Tryz.f48.body.getD .skip) (st0 con_qds vs) (fin TT con_qds Tryz.f48.results.toList [.c .sc] vs kk)
theorem g_qds (a:Bool) (kk:AK) :
  V_qds [.c (.v (.bool a))] kk=G_qds a (K_qds kk):=by kernel_rfl
theorem e_qds (a:Bool) (kk:AK) :
  V_qds [.c (.v (.bool a))] kk=S_qds a (K_qds kk):=by
 rw [g_qds]
 rfl
theorem clok_qds:ConOK Tryz.prog cl_qds:=consNil
theorem cok_qds:ConsOK Tryz.prog 4 cs_qds:=⟨clok_qds,inlNil,ovNil⟩
theorem i_qds {vs:List A1} {kk:AK} {motive:List A1→Prop} (h:con_qds.F vs kk) (H:∀ (a:Bool),F_qds a (K_qds kk)→motive [.c (.v (.bool a))]):motive vs:=by
 unfold con_qds at h
 dsimp only at h
 split at h
 ·exact H _ h
 ·exact h.elim
theorem h_qds:Holds Tryz.prog 48 con_qds:=by
 refine holds_of_ev (rt:=[.c .sc]) (T:=TT) (Γ:=cs_qds) (an:=an_qds) (N:=4) (c:=Tryz.f48.body.getD .skip) Tryz.func48 (by kernel_rfl) Tryz.ntmps48 (by decide) (by decide) mixed tabOK cok_qds (by kernel_rfl) ?_
 intro vs kk _ hF
 exact i_qds (motive:=fun vs=>Goes (V_qds vs kk)) hF (fun a hF=>goes_of (e_qds a kk) (F_qds_S hF))
def K_qck (kk:AK):LI→Int→Prop:=(fun a b=>kk (.tup [.c (.ro .int a),.c (vi b)]) [])
def con_qck:Con:=⟨[.rd,.rd],true,[.c (.sl .int),.c (.sc)],fun vs k=>match vs with
  | [.c (.ro .int b),.c (.v (.int .i64 a))]=>F_qck b a (K_qck k)
  | _=>False,false⟩
def cl_qck:List (FuncId×Con):=[(33,con_qdv),(44,con_qdc),(47,con_qdo),(48,con_qds)]
def nm0_qck:List NStep:=[.own 6 .int 90000,.keep [0,1,6,7,8] [90000]]
def an_qck:Ann:=⟨[],[(6,nm0_qck)],[],[]⟩
def cs_qck:Cons:=⟨cl_qck,[],0,[],[],[]⟩
def can0_qck (b:Int) (f:LI) (d e:Int) (a:LI):St:=⟨[(0,.one (.c (.ro .int f))),(1,.one (.c (vi b))),(6,.one (.c (.ow 90000))),(7,.one (.c (vi d))),(8,.one (.c (vi e)))],[(90000,.row .int a)]⟩
def fin_qck (b:LI) (a:Int) (kk:AK):Kt:=fin TT con_qck Tryz.f27.results.toList [.c (.sl .int),.c .sc] [.c (.ro .int b),.c (vi a)] kk
def V_qck (vs:List A1) (kk:AK):Prop:=ev TT cs_qck 43 an_qck (Tryz.f27.body.getD .skip) (st0 con_qck vs) (fin TT con_qck Tryz.f27.results.toList [.c (.sl .int),.c .sc] vs kk)
def kt0_qck (kf:Kt):Kt:=blockK 0 (seqK (evF TT cs_qck 43 an_qck Tryz.f27 [1,1,1,1,1]) (kf))
def I0_qck (b:LI) (a:Int) (kk:AK):Nat→St→Prop:=iter (evF TT cs_qck 43 an_qck Tryz.f27 [1,1,1,1,0,1,0,0]) nm0_qck (kt0_qck (fin_qck b a kk))
theorem r0_qck (e:LI) (a:Int) (kk:AK) (n:Nat) (c d:Int) (b:LI) :
  I0_qck e a kk (n+1) (can0_qck a e c d b)=T0_qck a e c d b (K_qck kk) (fun c d b=>I0_qck e a kk n (can0_qck a e c d b)):=by kernel_rfl
theorem l0_qck (e:LI) (b:Int) (kk:AK):∀ (n:Nat) (c d:Int) (a:LI),I0_qck e b kk n (can0_qck b e c d a)=L0_qck b e (K_qck kk) n c d a:=by
 intro n
 induction n with
 | zero=>intros; rfl
 | succ n ih=>
  intro c d a
  rw [r0_qck e b kk n c d a]
  simp only [ih] <;> rfl
theorem g_qck (b:LI) (a:Int) (kk:AK) :
  V_qck [.c (.ro .int b),.c (vi a)] kk=G_qck b a (K_qck kk) (fun a b e f d=>∃ j,I0_qck b a kk j (can0_qck a b e f d)):=by kernel_rfl
theorem e_qck (d:LI) (a:Int) (kk:AK) :
  V_qck [.c (.ro .int d),.c (vi a)] kk=S_qck d a (K_qck kk):=by
 rw [g_qck]
 have hi0:(fun a d e f b=>∃ j,I0_qck d a kk j (can0_qck a d e f b))=(fun a d e f b=>∃ j,L0_qck a d (K_qck kk) j e f b):=by
  funext a d e f b
  refine congrArg Exists (funext fun j=>?_)
  rw [l0_qck d a kk j e f b]
 rw [hi0]
 rfl
theorem clok_qck:ConOK Tryz.prog cl_qck:=consCons h_qdv (pf (by kernel_rfl)) (consCons h_qdc (pf (by kernel_rfl)) (consCons h_qdo (pf (by kernel_rfl)) (consCons h_qds (pf (by kernel_rfl)) (consNil))))
theorem cok_qck:ConsOK Tryz.prog 43 cs_qck:=⟨clok_qck,inlNil,ovNil⟩
theorem i_qck {vs:List A1} {kk:AK} {motive:List A1→Prop} (h:con_qck.F vs kk) (H:∀ (b:LI) (a:Int),F_qck b a (K_qck kk)→motive [.c (.ro .int b),.c (vi a)]):motive vs:=by
 unfold con_qck at h
 dsimp only at h
 split at h
 ·exact H _ _ h
 ·exact h.elim
theorem h_qck:Holds Tryz.prog 27 con_qck:=by
 refine holds_of_ev (rt:=[.c (.sl .int),.c .sc]) (T:=TT) (Γ:=cs_qck) (an:=an_qck) (N:=43) (c:=Tryz.f27.body.getD .skip) Tryz.func27 (by kernel_rfl) Tryz.ntmps27 (by decide) (by decide) mixed tabOK cok_qck (by kernel_rfl) ?_
 intro vs kk _ hF
 exact i_qck (motive:=fun vs=>Goes (V_qck vs kk)) hF (fun b a hF=>goes_of (e_qck b a kk) (F_qck_S hF))
def K_qde (kk:AK):Bool→Prop:=(fun a=>kk (.one (.c (.v (.bool a)))) [])
def con_qde:Con:=⟨[.rd,.rd],true,[.c (.sl .int),.c (.sc)],fun vs k=>match vs with
  | [.c (.ro .int a),.c (.v (.int .i64 b))]=>F_qde a b (K_qde k)
  | _=>False,false⟩
def cl_qde:List (FuncId×Con):=[(71,con_qdl)]
def an_qde:Ann:=⟨[],[],[],[]⟩
def cs_qde:Cons:=⟨cl_qde,[],0,[],[],[]⟩
def fin_qde (a:LI) (b:Int) (kk:AK):Kt:=fin TT con_qde Tryz.f73.results.toList [.c .sc] [.c (.ro .int a),.c (vi b)] kk
def V_qde (vs:List A1) (kk:AK):Prop:=ev TT cs_qde 9 an_qde (Tryz.f73.body.getD .skip) (st0 con_qde vs) (fin TT con_qde Tryz.f73.results.toList [.c .sc] vs kk)
theorem g_qde (a:LI) (b:Int) (kk:AK) :
  V_qde [.c (.ro .int a),.c (vi b)] kk=G_qde a b (K_qde kk):=by kernel_rfl
theorem e_qde (a:LI) (b:Int) (kk:AK) :
  V_qde [.c (.ro .int a),.c (vi b)] kk=S_qde a b (K_qde kk):=by
 rw [g_qde]
 rfl
theorem clok_qde:ConOK Tryz.prog cl_qde:=consCons h_qdl (pf (by kernel_rfl)) (consNil)
theorem cok_qde:ConsOK Tryz.prog 9 cs_qde:=⟨clok_qde,inlNil,ovNil⟩
theorem i_qde {vs:List A1} {kk:AK} {motive:List A1→Prop} (h:con_qde.F vs kk) (H:∀ (a:LI) (b:Int),F_qde a b (K_qde kk)→motive [.c (.ro .int a),.c (vi b)]):motive vs:=by
 unfold con_qde at h
 dsimp only at h
 split at h
 ·exact H _ _ h
 ·exact h.elim
theorem h_qde:Holds Tryz.prog 73 con_qde:=by
 refine holds_of_ev (rt:=[.c .sc]) (T:=TT) (Γ:=cs_qde) (an:=an_qde) (N:=9) (c:=Tryz.f73.body.getD .skip) Tryz.func73 (by kernel_rfl) Tryz.ntmps73 (by decide) (by decide) mixed tabOK cok_qde (by kernel_rfl) ?_
 intro vs kk _ hF
 exact i_qde (motive:=fun vs=>Goes (V_qde vs kk)) hF (fun a b hF=>goes_of (e_qde a b kk) (F_qde_S hF))
def K_qcy (kk:AK):LI→Bool→Prop:=(fun a b=>kk (.tup [.c (.ro .int a),.c (.v (.bool b))]) [])
def con_qcy:Con:=⟨[.rd,.rd,.rd],false,[.c (.sl .int),.c (.sc),.c (.sc)],fun vs k=>match vs with
  | [.c (.ro .int a),.c (.v (.int .i64 b)),.c (.v (.int .i64 d))]=>F_qcy a b d (K_qcy k)
  | _=>False,false⟩
def cl_qcy:List (FuncId×Con):=[(73,con_qde)]
def an_qcy:Ann:=⟨[],[],[],[]⟩
def cs_qcy:Cons:=⟨cl_qcy,[],0,[],[],[]⟩
def fin_qcy (a:LI) (b d:Int) (kk:AK):Kt:=fin TT con_qcy Tryz.f49.results.toList [.c (.sl .int),.c .sc] [.c (.ro .int a),.c (vi b),.c (vi d)] kk
def V_qcy (vs:List A1) (kk:AK):Prop:=ev TT cs_qcy 26 an_qcy (Tryz.f49.body.getD .skip) (st0 con_qcy vs) (fin TT con_qcy Tryz.f49.results.toList [.c (.sl .int),.c .sc] vs kk)
theorem g_qcy (a:LI) (b d:Int) (kk:AK) :
  V_qcy [.c (.ro .int a),.c (vi b),.c (vi d)] kk=G_qcy a b d (K_qcy kk):=by kernel_rfl
theorem e_qcy (a:LI) (b d:Int) (kk:AK) :
  V_qcy [.c (.ro .int a),.c (vi b),.c (vi d)] kk=S_qcy a b d (K_qcy kk):=by
 rw [g_qcy]
 rfl
theorem clok_qcy:ConOK Tryz.prog cl_qcy:=consCons h_qde (pf (by kernel_rfl)) (consNil)
theorem cok_qcy:ConsOK Tryz.prog 26 cs_qcy:=⟨clok_qcy,inlNil,ovNil⟩
theorem i_qcy {vs:List A1} {kk:AK} {motive:List A1→Prop} (h:con_qcy.F vs kk) (H:∀ (a:LI) (b d:Int),F_qcy a b d (K_qcy kk)→motive [.c (.ro .int a),.c (vi b),.c (vi d)]):motive vs:=by
 unfold con_qcy at h
 dsimp only at h
 split at h
 ·exact H _ _ _ h
 ·exact h.elim
theorem h_qcy:Holds Tryz.prog 49 con_qcy:=by
 refine holds_of_ev (rt:=[.c (.sl .int),.c .sc]) (T:=TT) (Γ:=cs_qcy) (an:=an_qcy) (N:=26) (c:=Tryz.f49.body.getD .skip) Tryz.func49 (by kernel_rfl) Tryz.ntmps49 (by decide) (by decide) mixed tabOK cok_qcy (by kernel_rfl) ?_
 intro vs kk _ hF
 exact i_qcy (motive:=fun vs=>Goes (V_qcy vs kk)) hF (fun a b d hF=>goes_of (e_qcy a b d kk) (F_qcy_S hF))
def K_qch (kk:AK):LI→Int→Prop:=(fun a b=>kk (.tup [.c (.ro .int a),.c (vi b)]) [])
def con_qch:Con:=⟨[.rd,.rd],true,[.c (.sl .int),.c (.sc)],fun vs k=>match vs with
  | [.c (.ro .int b),.c (.v (.int .i64 a))]=>F_qch b a (K_qch k)
  | _=>False,false⟩
def cl_qch:List (FuncId×Con):=[(33,con_qdv),(44,con_qdc),(48,con_qds),(49,con_qcy)]
def nm0_qch:List NStep:=[.frz 6 .int,.keep [0,1,6,7,8] []]
def an_qch:Ann:=⟨[],[(6,nm0_qch)],[],[]⟩
def cs_qch:Cons:=⟨cl_qch,[],0,[],[],[]⟩
def can0_qch (b:Int) (f a:LI) (d e:Int):St:=⟨[(0,.one (.c (.ro .int f))),(1,.one (.c (vi b))),(6,.one (.c (.ro .int a))),(7,.one (.c (vi d))),(8,.one (.c (vi e)))],[]⟩
def fin_qch (b:LI) (a:Int) (kk:AK):Kt:=fin TT con_qch Tryz.f28.results.toList [.c (.sl .int),.c .sc] [.c (.ro .int b),.c (vi a)] kk
def V_qch (vs:List A1) (kk:AK):Prop:=ev TT cs_qch 43 an_qch (Tryz.f28.body.getD .skip) (st0 con_qch vs) (fin TT con_qch Tryz.f28.results.toList [.c (.sl .int),.c .sc] vs kk)
def kt0_qch (kf:Kt):Kt:=blockK 0 (seqK (evF TT cs_qch 43 an_qch Tryz.f28 [1,1,1,1,1]) (kf))
def I0_qch (b:LI) (a:Int) (kk:AK):Nat→St→Prop:=iter (evF TT cs_qch 43 an_qch Tryz.f28 [1,1,1,1,0,1,0,0]) nm0_qch (kt0_qch (fin_qch b a kk))
theorem r0_qch (e:LI) (a:Int) (kk:AK) (n:Nat) (b:LI) (c d:Int) :
  I0_qch e a kk (n+1) (can0_qch a e b c d)=T0_qch a e b c d (K_qch kk) (fun b c d=>I0_qch e a kk n (can0_qch a e b c d)):=by kernel_rfl
theorem l0_qch (e:LI) (b:Int) (kk:AK):∀ (n:Nat) (a:LI) (c d:Int),I0_qch e b kk n (can0_qch b e a c d)=L0_qch b e (K_qch kk) n a c d:=by
 intro n
 induction n with
 | zero=>intros; rfl
 | succ n ih=>
  intro a c d
  rw [r0_qch e b kk n a c d]
  simp only [ih] <;> rfl
theorem g_qch (b:LI) (a:Int) (kk:AK) :
  V_qch [.c (.ro .int b),.c (vi a)] kk=G_qch b a (K_qch kk) (fun a b d e f=>∃ j,I0_qch b a kk j (can0_qch a b d e f)):=by kernel_rfl
theorem e_qch (d:LI) (a:Int) (kk:AK) :
  V_qch [.c (.ro .int d),.c (vi a)] kk=S_qch d a (K_qch kk):=by
 rw [g_qch]
 have hi0:(fun a d b e f=>∃ j,I0_qch d a kk j (can0_qch a d b e f))=(fun a d b e f=>∃ j,L0_qch a d (K_qch kk) j b e f):=by
  funext a d b e f
  refine congrArg Exists (funext fun j=>?_)
  rw [l0_qch d a kk j b e f]
 rw [hi0]
 rfl
theorem clok_qch:ConOK Tryz.prog cl_qch:=consCons h_qdv (pf (by kernel_rfl)) (consCons h_qdc (pf (by kernel_rfl)) (consCons h_qds (pf (by kernel_rfl)) (consCons h_qcy (pf (by kernel_rfl)) (consNil))))
theorem cok_qch:ConsOK Tryz.prog 43 cs_qch:=⟨clok_qch,inlNil,ovNil⟩
theorem i_qch {vs:List A1} {kk:AK} {motive:List A1→Prop} (h:con_qch.F vs kk) (H:∀ (b:LI) (a:Int),F_qch b a (K_qch kk)→motive [.c (.ro .int b),.c (vi a)]):motive vs:=by
 unfold con_qch at h
 dsimp only at h
 split at h
 ·exact H _ _ h
 ·exact h.elim
theorem h_qch:Holds Tryz.prog 28 con_qch:=by
 refine holds_of_ev (rt:=[.c (.sl .int),.c .sc]) (T:=TT) (Γ:=cs_qch) (an:=an_qch) (N:=43) (c:=Tryz.f28.body.getD .skip) Tryz.func28 (by kernel_rfl) Tryz.ntmps28 (by decide) (by decide) mixed tabOK cok_qch (by kernel_rfl) ?_
 intro vs kk _ hF
 exact i_qch (motive:=fun vs=>Goes (V_qch vs kk)) hF (fun b a hF=>goes_of (e_qch b a kk) (F_qch_S hF))
def K_qcs (kk:AK):Int→LI→List Bool→Int→Prop:=(fun a b c d=>kk (.one (.agg [vi a,.ro .int b,.ro .bool c,vi d])) [])
def con_qcs:Con:=⟨[.rd],true,[.agg [.sc,.sl .int,.sl .bool,.sc]],fun vs k=>match vs with
  | [.agg [.v (.int .i64 a),.ro .int b,.ro .bool c,.v (.int .i64 d)]]=>F_qcs a b c d (K_qcs k)
  | _=>False,false⟩
def cl_qcs:List (FuncId×Con):=[(46,con_qct)]
def an_qcs:Ann:=⟨[(1,.take 0 (.take 1 (.take 2 (.take 3 (.take 6 (.take 7 (.take 9 (.take 10 (.alt 4 (.alt 5 (.alt 8 (.take 11 (.alt 12 (.done) (.none))) (.none)) (.none)) (.alt 5 (.alt 4 (.alt 8 (.take 11 (.alt 12 (.done) (.none))) (.none)) (.none)) (.none)))))))))),[16])],[],[],[]⟩
def cs_qcs:Cons:=⟨cl_qcs,[],0,[],[],[]⟩
def fin_qcs (a:Int) (b:LI) (c:List Bool) (d:Int) (kk:AK):Kt:=fin TT con_qcs Tryz.f74.results.toList [.agg [.sc,.sl .int,.sl .bool,.sc]] [.agg [vi a,.ro .int b,.ro .bool c,vi d]] kk
def V_qcs (vs:List A1) (kk:AK):Prop:=ev TT cs_qcs 15 an_qcs (Tryz.f74.body.getD .skip) (st0 con_qcs vs) (fin TT con_qcs Tryz.f74.results.toList [.agg [.sc,.sl .int,.sl .bool,.sc]] vs kk)
theorem g_qcs (a:Int) (b:LI) (c:List Bool) (d:Int) (kk:AK) :
  V_qcs [.agg [vi a,.ro .int b,.ro .bool c,vi d]] kk=G_qcs a b c d (K_qcs kk):=by kernel_rfl
theorem e_qcs (a:Int) (b:LI) (c:List Bool) (d:Int) (kk:AK) :
  V_qcs [.agg [vi a,.ro .int b,.ro .bool c,vi d]] kk=S_qcs a b c d (K_qcs kk):=by
 rw [g_qcs]
 rw [G_qcs_eq]
 rfl
theorem clok_qcs:ConOK Tryz.prog cl_qcs:=consCons h_qct (pf (by kernel_rfl)) (consNil)
theorem cok_qcs:ConsOK Tryz.prog 15 cs_qcs:=⟨clok_qcs,inlNil,ovNil⟩
theorem i_qcs {vs:List A1} {kk:AK} {motive:List A1→Prop} (h:con_qcs.F vs kk) (H:∀ (a:Int) (b:LI) (c:List Bool) (d:Int),F_qcs a b c d (K_qcs kk)→motive [.agg [vi a,.ro .int b,.ro .bool c,vi d]]):motive vs:=by
 unfold con_qcs at h
 dsimp only at h
 split at h
 ·exact H _ _ _ _ h
 ·exact h.elim
theorem h_qcs:Holds Tryz.prog 74 con_qcs:=by
 refine holds_of_ev (rt:=[.agg [.sc,.sl .int,.sl .bool,.sc]]) (T:=TT) (Γ:=cs_qcs) (an:=an_qcs) (N:=15) (c:=Tryz.f74.body.getD .skip) Tryz.func74 (by kernel_rfl) Tryz.ntmps74 (by decide) (by decide) mixed tabOK cok_qcs (by kernel_rfl) ?_
 intro vs kk _ hF
 exact i_qcs (motive:=fun vs=>Goes (V_qcs vs kk)) hF (fun a b d e hF=>goes_of (e_qcs a b d e kk) (F_qcs_S hF))
def K_qdr (kk:AK):Int→LI→List Bool→Int→Bool→Prop:=(fun a b d e f=>kk (.tup [.agg [vi a,.ro .int b,.ro .bool d,vi e],.c (.v (.bool f))]) [])
def con_qdr:Con:=⟨[.rd,.rd],true,[.agg [.sc,.sl .int,.sl .bool,.sc],.c (.sc)],fun vs k=>match vs with
  | [.agg [.v (.int .i64 a),.ro .int b,.ro .bool d,.v (.int .i64 e)],.c (.v (.int .i64 f))]=>F_qdr a b d e f (K_qdr k)
  | _=>False,false⟩
def cl_qdr:List (FuncId×Con):=[(46,con_qct),(71,con_qdl),(74,con_qcs)]
def nm0_qdr:List NStep:=[.keep [1,4,6] [64,96,144,145]]
def an_qdr:Ann:=⟨[],[(10,nm0_qdr)],[],[]⟩
def cs_qdr:Cons:=⟨cl_qdr,[],0,[],[],[]⟩
def can0_qdr (a:LI) (b e d:Int) (f:List Bool):St:=⟨[(1,.one (.c (vi e))),(4,.one (.c (.pb 64 0))),(6,.one (.c (.pb 96 0)))],[(64,.box [vi 0,.nil,.nil,vi 0]),(96,.box [vi b,.ow 144,.ow 145,vi d]),(144,.row .int a),(145,.row .bool f)]⟩
def fin_qdr (a:Int) (b:LI) (d:List Bool) (e f:Int) (kk:AK):Kt:=fin TT con_qdr Tryz.f50.results.toList [.agg [.sc,.sl .int,.sl .bool,.sc],.c .sc] [.agg [vi a,.ro .int b,.ro .bool d,vi e],.c (vi f)] kk
def V_qdr (vs:List A1) (kk:AK):Prop:=ev TT cs_qdr 74 an_qdr (Tryz.f50.body.getD .skip) (st0 con_qdr vs) (fin TT con_qdr Tryz.f50.results.toList [.agg [.sc,.sl .int,.sl .bool,.sc],.c .sc] vs kk)
def kt0_qdr (kf:Kt):Kt:=blockK 0 (seqK (evF TT cs_qdr 74 an_qdr Tryz.f50 [1,1,1,1,1,1]) (kf))
def I0_qdr (a:Int) (b:LI) (c:List Bool) (d e:Int) (kk:AK):Nat→St→Prop:=iter (evF TT cs_qdr 74 an_qdr Tryz.f50 [1,1,1,1,1,0,0,0]) nm0_qdr (kt0_qdr (fin_qdr a b c d e kk))
theorem r0_qdr (e:Int) (f:LI) (g:List Bool) (h d:Int) (a:LI) (b:Int) (kk:AK) (n:Nat) (c:Int) (i:List Bool) :
  I0_qdr e f g h d kk (n+1) (can0_qdr a b d c i)=T0_qdr a b d c i (K_qdr kk) (fun c i=>I0_qdr e f g h d kk n (can0_qdr a b d c i)):=by kernel_rfl
theorem l0_qdr (f:Int) (g:LI) (h:List Bool) (i d:Int) (a:LI) (b:Int) (kk:AK):∀ (n:Nat) (c:Int) (e:List Bool),I0_qdr f g h i d kk n (can0_qdr a b d c e)=L0_qdr a b d (K_qdr kk) n c e:=by
 intro n
 induction n with
 | zero=>intros; rfl
 | succ n ih=>
  intro c e
  rw [r0_qdr f g h i d a b kk n c e]
  simp only [ih] <;> rfl
theorem g_qdr (d:Int) (e:LI) (f:List Bool) (g h:Int) (kk:AK) :
  V_qdr [.agg [vi d,.ro .int e,.ro .bool f,vi g],.c (vi h)] kk=G_qdr d e f g h (K_qdr kk) (fun a b h i l=>∃ j,I0_qdr d e f g h kk j (can0_qdr a b h i l)):=by kernel_rfl
theorem e_qdr (e:Int) (f:LI) (g:List Bool) (h d:Int) (kk:AK) :
  V_qdr [.agg [vi e,.ro .int f,.ro .bool g,vi h],.c (vi d)] kk=S_qdr e f g h d (K_qdr kk):=by
 rw [g_qdr]
 have hi0:(fun a b d i l=>∃ j,I0_qdr e f g h d kk j (can0_qdr a b d i l))=(fun a b d i l=>∃ j,L0_qdr a b d (K_qdr kk) j i l):=by
  funext a b d i l
  refine congrArg Exists (funext fun j=>?_)
  rw [l0_qdr e f g h d a b kk j i l]
 rw [hi0]
 rfl
theorem clok_qdr:ConOK Tryz.prog cl_qdr:=consCons h_qct (pf (by kernel_rfl)) (consCons h_qdl (pf (by kernel_rfl)) (consCons h_qcs (pf (by kernel_rfl)) (consNil)))
theorem cok_qdr:ConsOK Tryz.prog 74 cs_qdr:=⟨clok_qdr,inlNil,ovNil⟩
theorem i_qdr {vs:List A1} {kk:AK} {motive:List A1→Prop} (h:con_qdr.F vs kk) (H:∀ (a:Int) (b:LI) (d:List Bool) (e f:Int),F_qdr a b d e f (K_qdr kk)→motive [.agg [vi a,.ro .int b,.ro .bool d,vi e],.c (vi f)]):motive vs:=by
 unfold con_qdr at h
 dsimp only at h
 split at h
 ·exact H _ _ _ _ _ h
 ·exact h.elim
theorem h_qdr:Holds Tryz.prog 50 con_qdr:=by
 refine holds_of_ev (rt:=[.agg [.sc,.sl .int,.sl .bool,.sc],.c .sc]) (T:=TT) (Γ:=cs_qdr) (an:=an_qdr) (N:=74) (c:=Tryz.f50.body.getD .skip) Tryz.func50 (by kernel_rfl) Tryz.ntmps50 (by decide) (by decide) mixed tabOK cok_qdr (by kernel_rfl) ?_
 intro vs kk _ hF
 exact i_qdr (motive:=fun vs=>Goes (V_qdr vs kk)) hF (fun a b d e f hF=>goes_of (e_qdr a b d e f kk) (F_qdr_S hF))
def K_qcg (kk:AK):Int→LI→List Bool→Int→Int→Prop:=(fun a b d e f=>kk (.tup [.agg [vi a,.ro .int b,.ro .bool d,vi e],.c (vi f)]) [])
def con_qcg:Con:=⟨[.rd,.rd],true,[.c (.sl .int),.c (.sc)],fun vs k=>match vs with
  | [.c (.ro .int b),.c (.v (.int .i64 a))]=>F_qcg b a (K_qcg k)
  | _=>False,false⟩
def cl_qcg:List (FuncId×Con):=[(33,con_qdv),(44,con_qdc),(48,con_qds),(50,con_qdr)]
def nm0_qcg:List NStep:=[.ownc 96 1 .int 90000,.ownc 96 2 .bool 90001,.keep [0,4,6,7,8] [64,96,90000,90001]]
def an_qcg:Ann:=⟨[(9,.take 1 (.take 2 (.take 3 (.take 4 (.alt 0 (.alt 5 (.take 6 (.take 7 (.take 8 (.alt 9 (.take 10 (.done)) (.none))))) (.none)) (.none))))),[])],[(6,nm0_qcg)],[],[]⟩
def cs_qcg:Cons:=⟨cl_qcg,[],0,[],[],[]⟩
def can0_qcg (h:LI) (f g:Int) (a b:Int) (d:LI) (e:List Bool):St:=⟨[(0,.one (.c (.ro .int h))),(4,.one (.c (.pb 64 0))),(6,.one (.c (.pb 96 0))),(7,.one (.c (vi f))),(8,.one (.c (vi g)))],[(64,.box [vi 0,.nil,.nil,vi 0]),(96,.box [vi a,.ow 90000,.ow 90001,vi b]),(90000,.row .int d),(90001,.row .bool e)]⟩
def fin_qcg (b:LI) (a:Int) (kk:AK):Kt:=fin TT con_qcg Tryz.f29.results.toList [.agg [.sc,.sl .int,.sl .bool,.sc],.c .sc] [.c (.ro .int b),.c (vi a)] kk
def V_qcg (vs:List A1) (kk:AK):Prop:=ev TT cs_qcg 44 an_qcg (Tryz.f29.body.getD .skip) (st0 con_qcg vs) (fin TT con_qcg Tryz.f29.results.toList [.agg [.sc,.sl .int,.sl .bool,.sc],.c .sc] vs kk)
def kt0_qcg (kf:Kt):Kt:=blockK 0 (seqK (evF TT cs_qcg 44 an_qcg Tryz.f29 [1,1,1,1,1]) (kf))
def I0_qcg (b:LI) (a:Int) (kk:AK):Nat→St→Prop:=iter (evF TT cs_qcg 44 an_qcg Tryz.f29 [1,1,1,1,0,1,0,0]) nm0_qcg (kt0_qcg (fin_qcg b a kk))
theorem r0_qcg (h:LI) (e:Int) (kk:AK) (n:Nat) (f g:Int) (a b:Int) (c:LI) (d:List Bool) :
  I0_qcg h e kk (n+1) (can0_qcg h f g a b c d)=T0_qcg h f g a b c d (K_qcg kk) (fun f g a b c d=>I0_qcg h e kk n (can0_qcg h f g a b c d)):=by kernel_rfl
theorem l0_qcg (h:LI) (g:Int) (kk:AK):∀ (n:Nat) (e f:Int) (a b:Int) (c:LI) (d:List Bool),I0_qcg h g kk n (can0_qcg h e f a b c d)=L0_qcg h (K_qcg kk) n e f a b c d:=by
 intro n
 induction n with
 | zero=>intros; rfl
 | succ n ih=>
  intro e f a b c d
  rw [r0_qcg h g kk n e f a b c d]
  have hb:(fun e f a b c d=>I0_qcg h g kk n (can0_qcg h e f a b c d))=L0_qcg h (K_qcg kk) n:=by
   funext e f a b c d; exact ih e f a b c d
  rw [hb]
  rw [T0_qcg_eq]
  rfl
theorem g_qcg (b:LI) (a:Int) (kk:AK) :
  V_qcg [.c (.ro .int b),.c (vi a)] kk=G_qcg b a (K_qcg kk) (fun b h i d e f g=>∃ j,I0_qcg b a kk j (can0_qcg b h i d e f g)):=by kernel_rfl
theorem e_qcg (g:LI) (f:Int) (kk:AK) :
  V_qcg [.c (.ro .int g),.c (vi f)] kk=S_qcg g f (K_qcg kk):=by
 rw [g_qcg]
 have hi0:(fun g h i a b d e=>∃ j,I0_qcg g f kk j (can0_qcg g h i a b d e))=(fun g h i a b d e=>∃ j,L0_qcg g (K_qcg kk) j h i a b d e):=by
  funext g h i a b d e
  refine congrArg Exists (funext fun j=>?_)
  rw [l0_qcg g f kk j h i a b d e]
 rw [hi0]
 rfl
theorem clok_qcg:ConOK Tryz.prog cl_qcg:=consCons h_qdv (pf (by kernel_rfl)) (consCons h_qdc (pf (by kernel_rfl)) (consCons h_qds (pf (by kernel_rfl)) (consCons h_qdr (pf (by kernel_rfl)) (consNil))))
theorem cok_qcg:ConsOK Tryz.prog 44 cs_qcg:=⟨clok_qcg,inlNil,ovNil⟩
theorem i_qcg {vs:List A1} {kk:AK} {motive:List A1→Prop} (h:con_qcg.F vs kk) (H:∀ (b:LI) (a:Int),F_qcg b a (K_qcg kk)→motive [.c (.ro .int b),.c (vi a)]):motive vs:=by
 unfold con_qcg at h
 dsimp only at h
 split at h
 ·exact H _ _ h
 ·exact h.elim
theorem h_qcg:Holds Tryz.prog 29 con_qcg:=by
 refine holds_of_ev (rt:=[.agg [.sc,.sl .int,.sl .bool,.sc],.c .sc]) (T:=TT) (Γ:=cs_qcg) (an:=an_qcg) (N:=44) (c:=Tryz.f29.body.getD .skip) Tryz.func29 (by kernel_rfl) Tryz.ntmps29 (by decide) (by decide) mixed tabOK cok_qcg (by kernel_rfl) ?_
 intro vs kk _ hF
 exact i_qcg (motive:=fun vs=>Goes (V_qcg vs kk)) hF (fun b a hF=>goes_of (e_qcg b a kk) (F_qcg_S hF))
def K_qdm (kk:AK):Bool→Prop:=(fun a=>kk (.one (.c (.v (.bool a)))) [])
def con_qdm:Con:=⟨[.rd,.rd],true,[.agg [.sc,.sc,.sc],.agg [.sc,.sc,.sc]],fun vs k=>match vs with
  | [.agg [.v (.int .i64 e),.v (.int .i64 a),.v (.int .i64 c)],.agg [.v (.int .i64 f),.v (.int .i64 b),.v (.int .i64 d)]]=>F_qdm e a c f b d (K_qdm k)
  | _=>False,false⟩
def cl_qdm:List (FuncId×Con):=[]
def an_qdm:Ann:=⟨[],[],[],[]⟩
def cs_qdm:Cons:=⟨cl_qdm,[],0,[],[],[]⟩
def fin_qdm (f a:Int) (d g:Int) (b e:Int) (kk:AK):Kt:=fin TT con_qdm Tryz.f103.results.toList [.c .sc] [.agg [vi f,vi a,vi d],.agg [vi g,vi b,vi e]] kk
def V_qdm (vs:List A1) (kk:AK):Prop:=ev TT cs_qdm 24 an_qdm (Tryz.f103.body.getD .skip) (st0 con_qdm vs) (fin TT con_qdm Tryz.f103.results.toList [.c .sc] vs kk)
theorem g_qdm (e a:Int) (c f:Int) (b d:Int) (kk:AK) :
  V_qdm [.agg [vi e,vi a,vi c],.agg [vi f,vi b,vi d]] kk=G_qdm e a c f b d (K_qdm kk):=by kernel_rfl
theorem e_qdm (e a:Int) (c f:Int) (b d:Int) (kk:AK) :
  V_qdm [.agg [vi e,vi a,vi c],.agg [vi f,vi b,vi d]] kk=S_qdm e a c f b d (K_qdm kk):=by
 rw [g_qdm]
 rfl
theorem clok_qdm:ConOK Tryz.prog cl_qdm:=consNil
theorem cok_qdm:ConsOK Tryz.prog 24 cs_qdm:=⟨clok_qdm,inlNil,ovNil⟩
theorem i_qdm {vs:List A1} {kk:AK} {motive:List A1→Prop} (h:con_qdm.F vs kk) (H:∀ (e a:Int) (c f:Int) (b d:Int),F_qdm e a c f b d (K_qdm kk)→motive [.agg [vi e,vi a,vi c],.agg [vi f,vi b,vi d]]):motive vs:=by
 unfold con_qdm at h
 dsimp only at h
 split at h
 ·exact H _ _ _ _ _ _ h
 ·exact h.elim
theorem h_qdm:Holds Tryz.prog 103 con_qdm:=by
 refine holds_of_ev (rt:=[.c .sc]) (T:=TT) (Γ:=cs_qdm) (an:=an_qdm) (N:=24) (c:=Tryz.f103.body.getD .skip) Tryz.func103 (by kernel_rfl) Tryz.ntmps103 (by decide) (by decide) mixed tabOK cok_qdm (by kernel_rfl) ?_
 intro vs kk _ hF
 exact i_qdm (motive:=fun vs=>Goes (V_qdm vs kk)) hF (fun f a d g b e hF=>goes_of (e_qdm f a d g b e kk) (F_qdm_S hF))
def K_qdn (kk:AK):Int→Prop:=(fun a=>kk (.one (.c (vi a))) [])
def con_qdn:Con:=⟨[.rd],true,[.c (.sl .iii)],fun vs k=>match vs with
  | [.c (.ro .iii a)]=>F_qdn a (K_qdn k)
  | _=>False,false⟩
def cl_qdn:List (FuncId×Con):=[(103,con_qdm)]
def nm0_qdn:List NStep:=[.keep [0,3,4] []]
def an_qdn:Ann:=⟨[(5,.take 0 (.take 1 (.take 2 (.take 3 (.take 4 (.take 5 (.take 6 (.take 7 (.alt 8 (.done) (.none))))))))),[])],[(3,nm0_qdn)],[],[]⟩
def cs_qdn:Cons:=⟨cl_qdn,[],0,[],[],[]⟩
def can0_qdn (a:List (Int×Int×Int)) (b d:Int):St:=⟨[(0,.one (.c (.ro .iii a))),(3,.one (.c (vi b))),(4,.one (.c (vi d)))],[]⟩
def fin_qdn (a:List (Int×Int×Int)) (kk:AK):Kt:=fin TT con_qdn Tryz.f75.results.toList [.c .sc] [.c (.ro .iii a)] kk
def V_qdn (vs:List A1) (kk:AK):Prop:=ev TT cs_qdn 22 an_qdn (Tryz.f75.body.getD .skip) (st0 con_qdn vs) (fin TT con_qdn Tryz.f75.results.toList [.c .sc] vs kk)
def kt0_qdn (kf:Kt):Kt:=blockK 0 (seqK (evF TT cs_qdn 22 an_qdn Tryz.f75 [1,1,1]) (kf))
def I0_qdn (a:List (Int×Int×Int)) (kk:AK):Nat→St→Prop:=iter (evF TT cs_qdn 22 an_qdn Tryz.f75 [1,1,0,1,0,0]) nm0_qdn (kt0_qdn (fin_qdn a kk))
theorem r0_qdn (a:List (Int×Int×Int)) (kk:AK) (n:Nat) (b c:Int) :
  I0_qdn a kk (n+1) (can0_qdn a b c)=T0_qdn a b c (K_qdn kk) (fun b c=>I0_qdn a kk n (can0_qdn a b c)):=by kernel_rfl
theorem l0_qdn (a:List (Int×Int×Int)) (kk:AK):∀ (n:Nat) (b c:Int),I0_qdn a kk n (can0_qdn a b c)=L0_qdn a (K_qdn kk) n b c:=by
 intro n
 induction n with
 | zero=>intros; rfl
 | succ n ih=>
  intro b c
  rw [r0_qdn a kk n b c]
  have hb:(fun b c=>I0_qdn a kk n (can0_qdn a b c))=L0_qdn a (K_qdn kk) n:=by
   funext b c; exact ih b c
  rw [hb]
  rw [T0_qdn_eq]
  rfl
theorem g_qdn (a:List (Int×Int×Int)) (kk:AK) :
  V_qdn [.c (.ro .iii a)] kk=G_qdn a (fun a b d=>∃ j,I0_qdn a kk j (can0_qdn a b d)):=by kernel_rfl
theorem e_qdn (a:List (Int×Int×Int)) (kk:AK) :
  V_qdn [.c (.ro .iii a)] kk=S_qdn a (K_qdn kk):=by
 rw [g_qdn]
 have hi0:(fun a b d=>∃ j,I0_qdn a kk j (can0_qdn a b d))=(fun a b d=>∃ j,L0_qdn a (K_qdn kk) j b d):=by
  funext a b d
  refine congrArg Exists (funext fun j=>?_)
  rw [l0_qdn a kk j b d]
 rw [hi0]
 rfl
theorem clok_qdn:ConOK Tryz.prog cl_qdn:=consCons h_qdm (pf (by kernel_rfl)) (consNil)
theorem cok_qdn:ConsOK Tryz.prog 22 cs_qdn:=⟨clok_qdn,inlNil,ovNil⟩
theorem i_qdn {vs:List A1} {kk:AK} {motive:List A1→Prop} (h:con_qdn.F vs kk) (H:∀ (a:List (Int×Int×Int)),F_qdn a (K_qdn kk)→motive [.c (.ro .iii a)]):motive vs:=by
 unfold con_qdn at h
 dsimp only at h
 split at h
 ·exact H _ h
 ·exact h.elim
theorem h_qdn:Holds Tryz.prog 75 con_qdn:=by
 refine holds_of_ev (rt:=[.c .sc]) (T:=TT) (Γ:=cs_qdn) (an:=an_qdn) (N:=22) (c:=Tryz.f75.body.getD .skip) Tryz.func75 (by kernel_rfl) Tryz.ntmps75 (by decide) (by decide) mixed tabOK cok_qdn (by kernel_rfl) ?_
 intro vs kk _ hF
 exact i_qdn (motive:=fun vs=>Goes (V_qdn vs kk)) hF (fun a hF=>goes_of (e_qdn a kk) (F_qdn_S hF))
def K_qdj (kk:AK):List (Int×Int×Int)→Bool→Prop:=(fun a b=>kk (.tup [.c (.ro .iii a),.c (.v (.bool b))]) [])
def con_qdj:Con:=⟨[.rd,.rd,.rd,.rd],true,[.c (.sl .iii),.c (.sc),.c (.sc),.c (.sc)],fun vs k=>match vs with
  | [.c (.ro .iii a),.c (.v (.int .i64 b)),.c (.v (.int .i64 d)),.c (.v (.int .i64 e))]=>F_qdj a b d e (K_qdj k)
  | _=>False,false⟩
def cl_qdj:List (FuncId×Con):=[(75,con_qdn)]
def nm0_qdj:List NStep:=[.keep [1,2,3,10,11] [240]]
def an_qdj:Ann:=⟨[(10,.take 0 (.take 1 (.take 2 (.take 3 (.take 4 (.take 5 (.take 6 (.alt 7 (.take 8 (.done)) (.none)))))))),[])],[(3,nm0_qdj)],[],[]⟩
def cs_qdj:Cons:=⟨cl_qdj,[],0,[],[],[]⟩
def can0_qdj (d:Int) (a:List (Int×Int×Int)) (e b f:Int):St:=⟨[(1,.one (.c (vi b))),(2,.one (.c (vi d))),(3,.one (.c (vi e))),(10,.one (.c (.ow 240))),(11,.one (.c (vi f)))],[(240,.row .iii a)]⟩
def fin_qdj (a:List (Int×Int×Int)) (b d e:Int) (kk:AK):Kt:=fin TT con_qdj Tryz.f51.results.toList [.c (.sl .iii),.c .sc] [.c (.ro .iii a),.c (vi b),.c (vi d),.c (vi e)] kk
def V_qdj (vs:List A1) (kk:AK):Prop:=ev TT cs_qdj 63 an_qdj (Tryz.f51.body.getD .skip) (st0 con_qdj vs) (fin TT con_qdj Tryz.f51.results.toList [.c (.sl .iii),.c .sc] vs kk)
def kt0_qdj (kf:Kt):Kt:=blockK 0 (seqK (evF TT cs_qdj 63 an_qdj Tryz.f51 [1,1,1]) (kf))
def I0_qdj (a:List (Int×Int×Int)) (b c d:Int) (kk:AK):Nat→St→Prop:=iter (evF TT cs_qdj 63 an_qdj Tryz.f51 [1,1,0,1,0,0]) nm0_qdj (kt0_qdj (fin_qdj a b c d kk))
theorem r0_qdj (a:List (Int×Int×Int)) (b c d:Int) (kk:AK) (n:Nat) (e:Int) :
  I0_qdj a b c d kk (n+1) (can0_qdj c a d b e)=T0_qdj c a d b e (K_qdj kk) (fun e=>I0_qdj a b c d kk n (can0_qdj c a d b e)):=by kernel_rfl
theorem l0_qdj (a:List (Int×Int×Int)) (b d e:Int) (kk:AK):∀ (n:Nat) (c:Int),I0_qdj a b d e kk n (can0_qdj d a e b c)=L0_qdj d a e b (K_qdj kk) n c:=by
 intro n
 induction n with
 | zero=>intros; rfl
 | succ n ih=>
  intro c
  rw [r0_qdj a b d e kk n c]
  have hb:(fun c=>I0_qdj a b d e kk n (can0_qdj d a e b c))=L0_qdj d a e b (K_qdj kk) n:=by
   funext c; exact ih c
  rw [hb]
  rw [T0_qdj_eq]
  rfl
theorem g_qdj (a:List (Int×Int×Int)) (b d e:Int) (kk:AK) :
  V_qdj [.c (.ro .iii a),.c (vi b),.c (vi d),.c (vi e)] kk=G_qdj a b d e (fun d a e b f=>∃ j,I0_qdj a b d e kk j (can0_qdj d a e b f)):=by kernel_rfl
theorem e_qdj (a:List (Int×Int×Int)) (b d e:Int) (kk:AK) :
  V_qdj [.c (.ro .iii a),.c (vi b),.c (vi d),.c (vi e)] kk=S_qdj a b d e (K_qdj kk):=by
 rw [g_qdj]
 have hi0:(fun d a e b f=>∃ j,I0_qdj a b d e kk j (can0_qdj d a e b f))=(fun d a e b f=>∃ j,L0_qdj d a e b (K_qdj kk) j f):=by
  funext d a e b f
  refine congrArg Exists (funext fun j=>?_)
  rw [l0_qdj a b d e kk j f]
 rw [hi0]
 rfl
theorem clok_qdj:ConOK Tryz.prog cl_qdj:=consCons h_qdn (pf (by kernel_rfl)) (consNil)
theorem cok_qdj:ConsOK Tryz.prog 63 cs_qdj:=⟨clok_qdj,inlNil,ovNil⟩
theorem i_qdj {vs:List A1} {kk:AK} {motive:List A1→Prop} (h:con_qdj.F vs kk) (H:∀ (a:List (Int×Int×Int)) (b d e:Int),F_qdj a b d e (K_qdj kk)→motive [.c (.ro .iii a),.c (vi b),.c (vi d),.c (vi e)]):motive vs:=by
 unfold con_qdj at h
 dsimp only at h
 split at h
 ·exact H _ _ _ _ h
 ·exact h.elim
theorem h_qdj:Holds Tryz.prog 51 con_qdj:=by
 refine holds_of_ev (rt:=[.c (.sl .iii),.c .sc]) (T:=TT) (Γ:=cs_qdj) (an:=an_qdj) (N:=63) (c:=Tryz.f51.body.getD .skip) Tryz.func51 (by kernel_rfl) Tryz.ntmps51 (by decide) (by decide) mixed tabOK cok_qdj (by kernel_rfl) ?_
 intro vs kk _ hF
 exact i_qdj (motive:=fun vs=>Goes (V_qdj vs kk)) hF (fun a b d e hF=>goes_of (e_qdj a b d e kk) (F_qdj_S hF))
def K_qcj (kk:AK):List (Int×Int×Int)→Int→Prop:=(fun a b=>kk (.tup [.c (.ro .iii a),.c (vi b)]) [])
def con_qcj:Con:=⟨[.rd,.rd],true,[.c (.sl .int),.c (.sc)],fun vs k=>match vs with
  | [.c (.ro .int b),.c (.v (.int .i64 a))]=>F_qcj b a (K_qcj k)
  | _=>False,false⟩
def cl_qcj:List (FuncId×Con):=[(33,con_qdv),(44,con_qdc),(48,con_qds),(51,con_qdj)]
def nm0_qcj:List NStep:=[.own 6 .iii 90000,.keep [0,1,6,7,8] [90000]]
def an_qcj:Ann:=⟨[],[(6,nm0_qcj)],[],[]⟩
def cs_qcj:Cons:=⟨cl_qcj,[],0,[],[],[]⟩
def can0_qcj (b:Int) (f:LI) (d e:Int) (a:List (Int×Int×Int)):St:=⟨[(0,.one (.c (.ro .int f))),(1,.one (.c (vi b))),(6,.one (.c (.ow 90000))),(7,.one (.c (vi d))),(8,.one (.c (vi e)))],[(90000,.row .iii a)]⟩
def fin_qcj (b:LI) (a:Int) (kk:AK):Kt:=fin TT con_qcj Tryz.f30.results.toList [.c (.sl .iii),.c .sc] [.c (.ro .int b),.c (vi a)] kk
def V_qcj (vs:List A1) (kk:AK):Prop:=ev TT cs_qcj 42 an_qcj (Tryz.f30.body.getD .skip) (st0 con_qcj vs) (fin TT con_qcj Tryz.f30.results.toList [.c (.sl .iii),.c .sc] vs kk)
def kt0_qcj (kf:Kt):Kt:=blockK 0 (seqK (evF TT cs_qcj 42 an_qcj Tryz.f30 [1,1,1,1,1]) (kf))
def I0_qcj (b:LI) (a:Int) (kk:AK):Nat→St→Prop:=iter (evF TT cs_qcj 42 an_qcj Tryz.f30 [1,1,1,1,0,1,0,0]) nm0_qcj (kt0_qcj (fin_qcj b a kk))
theorem r0_qcj (e:LI) (a:Int) (kk:AK) (n:Nat) (c d:Int) (b:List (Int×Int×Int)) :
  I0_qcj e a kk (n+1) (can0_qcj a e c d b)=T0_qcj a e c d b (K_qcj kk) (fun c d b=>I0_qcj e a kk n (can0_qcj a e c d b)):=by kernel_rfl
theorem l0_qcj (e:LI) (b:Int) (kk:AK):∀ (n:Nat) (c d:Int) (a:List (Int×Int×Int)),I0_qcj e b kk n (can0_qcj b e c d a)=L0_qcj b e (K_qcj kk) n c d a:=by
 intro n
 induction n with
 | zero=>intros; rfl
 | succ n ih=>
  intro c d a
  rw [r0_qcj e b kk n c d a]
  simp only [ih] <;> rfl
theorem g_qcj (b:LI) (a:Int) (kk:AK) :
  V_qcj [.c (.ro .int b),.c (vi a)] kk=G_qcj b a (K_qcj kk) (fun a b e f d=>∃ j,I0_qcj b a kk j (can0_qcj a b e f d)):=by kernel_rfl
theorem e_qcj (d:LI) (a:Int) (kk:AK) :
  V_qcj [.c (.ro .int d),.c (vi a)] kk=S_qcj d a (K_qcj kk):=by
 rw [g_qcj]
 have hi0:(fun a d e f b=>∃ j,I0_qcj d a kk j (can0_qcj a d e f b))=(fun a d e f b=>∃ j,L0_qcj a d (K_qcj kk) j e f b):=by
  funext a d e f b
  refine congrArg Exists (funext fun j=>?_)
  rw [l0_qcj d a kk j e f b]
 rw [hi0]
 rfl
theorem clok_qcj:ConOK Tryz.prog cl_qcj:=consCons h_qdv (pf (by kernel_rfl)) (consCons h_qdc (pf (by kernel_rfl)) (consCons h_qds (pf (by kernel_rfl)) (consCons h_qdj (pf (by kernel_rfl)) (consNil))))
theorem cok_qcj:ConsOK Tryz.prog 42 cs_qcj:=⟨clok_qcj,inlNil,ovNil⟩
theorem i_qcj {vs:List A1} {kk:AK} {motive:List A1→Prop} (h:con_qcj.F vs kk) (H:∀ (b:LI) (a:Int),F_qcj b a (K_qcj kk)→motive [.c (.ro .int b),.c (vi a)]):motive vs:=by
 unfold con_qcj at h
 dsimp only at h
 split at h
 ·exact H _ _ h
 ·exact h.elim
theorem h_qcj:Holds Tryz.prog 30 con_qcj:=by
 refine holds_of_ev (rt:=[.c (.sl .iii),.c .sc]) (T:=TT) (Γ:=cs_qcj) (an:=an_qcj) (N:=42) (c:=Tryz.f30.body.getD .skip) Tryz.func30 (by kernel_rfl) Tryz.ntmps30 (by decide) (by decide) mixed tabOK cok_qcj (by kernel_rfl) ?_
 intro vs kk _ hF
 exact i_qcj (motive:=fun vs=>Goes (V_qcj vs kk)) hF (fun b a hF=>goes_of (e_qcj b a kk) (F_qcj_S hF))
def K_qcu (kk:AK):Int→Int→LI→LI→LI→LI→Prop:=(fun a b c d e f=>kk (.one (.agg [vi a,vi b,.ro .int c,.ro .int d,.ro .int e,.ro .int f])) [])
def con_qcu:Con:=⟨[.rd],true,[.agg [.sc,.sc,.sl .int,.sl .int,.sl .int,.sl .int]],fun vs k=>match vs with
  | [.agg [.v (.int .i64 e),.v (.int .i64 c),.ro .int f,.ro .int d,.ro .int b,.ro .int a]]=>F_qcu e c f d b a (K_qcu k)
  | _=>False,false⟩
def cl_qcu:List (FuncId×Con):=[(46,con_qct)]
def an_qcu:Ann:=⟨[(1,.take 0 (.take 1 (.take 2 (.take 3 (.take 4 (.take 5 (.take 7 (.take 8 (.take 10 (.take 11 (.take 13 (.take 14 (.alt 6 (.alt 9 (.alt 12 (.alt 15 (.take 16 (.alt 17 (.done) (.none))) (.none)) (.none)) (.none)) (.none))))))))))))),[16])],[],[],[]⟩
def cs_qcu:Cons:=⟨cl_qcu,[],0,[],[],[]⟩
def fin_qcu (e c:Int) (f d:LI) (b a:LI) (kk:AK):Kt:=fin TT con_qcu Tryz.f53.results.toList [.agg [.sc,.sc,.sl .int,.sl .int,.sl .int,.sl .int]] [.agg [vi e,vi c,.ro .int f,.ro .int d,.ro .int b,.ro .int a]] kk
def V_qcu (vs:List A1) (kk:AK):Prop:=ev TT cs_qcu 20 an_qcu (Tryz.f53.body.getD .skip) (st0 con_qcu vs) (fin TT con_qcu Tryz.f53.results.toList [.agg [.sc,.sc,.sl .int,.sl .int,.sl .int,.sl .int]] vs kk)
theorem g_qcu (e c:Int) (f d:LI) (b a:LI) (kk:AK) :
  V_qcu [.agg [vi e,vi c,.ro .int f,.ro .int d,.ro .int b,.ro .int a]] kk=G_qcu e c f d b a (K_qcu kk):=by kernel_rfl
theorem e_qcu (e c:Int) (f d:LI) (b a:LI) (kk:AK) :
  V_qcu [.agg [vi e,vi c,.ro .int f,.ro .int d,.ro .int b,.ro .int a]] kk=S_qcu e c f d b a (K_qcu kk):=by
 rw [g_qcu]
 rw [G_qcu_eq]
 rfl
theorem clok_qcu:ConOK Tryz.prog cl_qcu:=consCons h_qct (pf (by kernel_rfl)) (consNil)
theorem cok_qcu:ConsOK Tryz.prog 20 cs_qcu:=⟨clok_qcu,inlNil,ovNil⟩
theorem i_qcu {vs:List A1} {kk:AK} {motive:List A1→Prop} (h:con_qcu.F vs kk) (H:∀ (e c:Int) (f d:LI) (b a:LI),F_qcu e c f d b a (K_qcu kk)→motive [.agg [vi e,vi c,.ro .int f,.ro .int d,.ro .int b,.ro .int a]]):motive vs:=by
 unfold con_qcu at h
 dsimp only at h
 split at h
 ·exact H _ _ _ _ _ _ h
 ·exact h.elim
theorem h_qcu:Holds Tryz.prog 53 con_qcu:=by
 refine holds_of_ev (rt:=[.agg [.sc,.sc,.sl .int,.sl .int,.sl .int,.sl .int]]) (T:=TT) (Γ:=cs_qcu) (an:=an_qcu) (N:=20) (c:=Tryz.f53.body.getD .skip) Tryz.func53 (by kernel_rfl) Tryz.ntmps53 (by decide) (by decide) mixed tabOK cok_qcu (by kernel_rfl) ?_
 intro vs kk _ hF
 exact i_qcu (motive:=fun vs=>Goes (V_qcu vs kk)) hF (fun f d g e b a hF=>goes_of (e_qcu f d g e b a kk) (F_qcu_S hF))
def K_qdb (kk:AK):LI→Prop:=(fun a=>kk (.one (.c (.ro .int a))) [])
def con_qdb:Con:=⟨[.rd,.rd],true,[.c (.sl .int),.c (.sc)],fun vs k=>match vs with
  | [.c (.ro .int a),.c (.v (.int .i64 b))]=>F_qdb a b (K_qdb k)
  | _=>False,false⟩
def cl_qdb:List (FuncId×Con):=[]
def an_qdb:Ann:=⟨[],[],[],[]⟩
def cs_qdb:Cons:=⟨cl_qdb,[],0,[],[],[]⟩
def fin_qdb (a:LI) (b:Int) (kk:AK):Kt:=fin TT con_qdb Tryz.f76.results.toList [.c (.sl .int)] [.c (.ro .int a),.c (vi b)] kk
def V_qdb (vs:List A1) (kk:AK):Prop:=ev TT cs_qdb 9 an_qdb (Tryz.f76.body.getD .skip) (st0 con_qdb vs) (fin TT con_qdb Tryz.f76.results.toList [.c (.sl .int)] vs kk)
theorem g_qdb (a:LI) (b:Int) (kk:AK) :
  V_qdb [.c (.ro .int a),.c (vi b)] kk=G_qdb a b (K_qdb kk):=by kernel_rfl
theorem e_qdb (a:LI) (b:Int) (kk:AK) :
  V_qdb [.c (.ro .int a),.c (vi b)] kk=S_qdb a b (K_qdb kk):=by
 rw [g_qdb]
 rfl
theorem clok_qdb:ConOK Tryz.prog cl_qdb:=consNil
theorem cok_qdb:ConsOK Tryz.prog 9 cs_qdb:=⟨clok_qdb,inlNil,ovNil⟩
theorem i_qdb {vs:List A1} {kk:AK} {motive:List A1→Prop} (h:con_qdb.F vs kk) (H:∀ (a:LI) (b:Int),F_qdb a b (K_qdb kk)→motive [.c (.ro .int a),.c (vi b)]):motive vs:=by
 unfold con_qdb at h
 dsimp only at h
 split at h
 ·exact H _ _ h
 ·exact h.elim
theorem h_qdb:Holds Tryz.prog 76 con_qdb:=by
 refine holds_of_ev (rt:=[.c (.sl .int)]) (T:=TT) (Γ:=cs_qdb) (an:=an_qdb) (N:=9) (c:=Tryz.f76.body.getD .skip) Tryz.func76 (by kernel_rfl) Tryz.ntmps76 (by decide) (by decide) mixed tabOK cok_qdb (by kernel_rfl) ?_
 intro vs kk _ hF
 exact i_qdb (motive:=fun vs=>Goes (V_qdb vs kk)) hF (fun a b hF=>goes_of (e_qdb a b kk) (F_qdb_S hF))
def K_qdd (kk:AK):Bool→Prop:=(fun a=>kk (.one (.c (.v (.bool a)))) [])
def con_qdd:Con:=⟨[.rd],true,[.agg [.sc,.sc,.sl .int,.sl .int,.sl .int,.sl .int]],fun vs k=>match vs with
  | [.agg [.v (.int .i64 e),.v (.int .i64 c),.ro .int f,.ro .int d,.ro .int b,.ro .int a]]=>F_qdd e c f d b a (K_qdd k)
  | _=>False,false⟩
def cl_qdd:List (FuncId×Con):=[]
def an_qdd:Ann:=⟨[],[],[],[]⟩
def cs_qdd:Cons:=⟨cl_qdd,[],0,[],[],[]⟩
def fin_qdd (f d:Int) (g e:LI) (b a:LI) (kk:AK):Kt:=fin TT con_qdd Tryz.f77.results.toList [.c .sc] [.agg [vi f,vi d,.ro .int g,.ro .int e,.ro .int b,.ro .int a]] kk
def V_qdd (vs:List A1) (kk:AK):Prop:=ev TT cs_qdd 13 an_qdd (Tryz.f77.body.getD .skip) (st0 con_qdd vs) (fin TT con_qdd Tryz.f77.results.toList [.c .sc] vs kk)
theorem g_qdd (e c:Int) (f d:LI) (b a:LI) (kk:AK) :
  V_qdd [.agg [vi e,vi c,.ro .int f,.ro .int d,.ro .int b,.ro .int a]] kk=G_qdd e c f d b a (K_qdd kk):=by kernel_rfl
theorem e_qdd (e c:Int) (f d:LI) (b a:LI) (kk:AK) :
  V_qdd [.agg [vi e,vi c,.ro .int f,.ro .int d,.ro .int b,.ro .int a]] kk=S_qdd e c f d b a (K_qdd kk):=by
 rw [g_qdd]
 rfl
theorem clok_qdd:ConOK Tryz.prog cl_qdd:=consNil
theorem cok_qdd:ConsOK Tryz.prog 13 cs_qdd:=⟨clok_qdd,inlNil,ovNil⟩
theorem i_qdd {vs:List A1} {kk:AK} {motive:List A1→Prop} (h:con_qdd.F vs kk) (H:∀ (e c:Int) (f d:LI) (b a:LI),F_qdd e c f d b a (K_qdd kk)→motive [.agg [vi e,vi c,.ro .int f,.ro .int d,.ro .int b,.ro .int a]]):motive vs:=by
 unfold con_qdd at h
 dsimp only at h
 split at h
 ·exact H _ _ _ _ _ _ h
 ·exact h.elim
theorem h_qdd:Holds Tryz.prog 77 con_qdd:=by
 refine holds_of_ev (rt:=[.c .sc]) (T:=TT) (Γ:=cs_qdd) (an:=an_qdd) (N:=13) (c:=Tryz.f77.body.getD .skip) Tryz.func77 (by kernel_rfl) Tryz.ntmps77 (by decide) (by decide) mixed tabOK cok_qdd (by kernel_rfl) ?_
 intro vs kk _ hF
 exact i_qdd (motive:=fun vs=>Goes (V_qdd vs kk)) hF (fun f d g e b a hF=>goes_of (e_qdd f d g e b a kk) (F_qdd_S hF))
def K_qdg (kk:AK):Int→Int→LI→LI→LI→LI→Prop:=(fun a b c d e f=>kk (.one (.agg [vi a,vi b,.ro .int c,.ro .int d,.ro .int e,.ro .int f])) [])
def con_qdg:Con:=⟨[.rd,.rd],false,[.agg [.sc,.sc,.sl .int,.sl .int,.sl .int,.sl .int],.c (.sc)],fun vs k=>match vs with
  | [.agg [.v (.int .i64 f),.v (.int .i64 d),.ro .int g,.ro .int e,.ro .int b,.ro .int a],.c (.v (.bool h))]=>F_qdg f d g e b a h (K_qdg k)
  | _=>False,false⟩
def cl_qdg:List (FuncId×Con):=[(76,con_qdb)]
def an_qdg:Ann:=⟨[(3,.take 0 (.take 2 (.take 4 (.take 5 (.alt 1 (.alt 3 (.take 6 (.take 7 (.alt 8 (.take 9 (.alt 10 (.done) (.none))) (.none)))) (.none)) (.alt 3 (.take 6 (.take 7 (.alt 1 (.alt 8 (.take 9 (.alt 10 (.done) (.none))) (.none)) (.none)))) (.none)))))),[]),(7,.take 0 (.take 2 (.take 4 (.take 5 (.alt 1 (.alt 3 (.take 6 (.take 7 (.alt 8 (.take 9 (.alt 10 (.done) (.none))) (.none)))) (.none)) (.alt 3 (.take 6 (.take 7 (.alt 1 (.alt 8 (.take 9 (.alt 10 (.done) (.none))) (.none)) (.none)))) (.none)))))),[])],[],[],[]⟩
def cs_qdg:Cons:=⟨cl_qdg,[],0,[],[],[]⟩
def fin_qdg (f d:Int) (g e:LI) (b a:LI) (h:Bool) (kk:AK):Kt:=fin TT con_qdg Tryz.f78.results.toList [.agg [.sc,.sc,.sl .int,.sl .int,.sl .int,.sl .int]] [.agg [vi f,vi d,.ro .int g,.ro .int e,.ro .int b,.ro .int a],.c (.v (.bool h))] kk
def V_qdg (vs:List A1) (kk:AK):Prop:=ev TT cs_qdg 69 an_qdg (Tryz.f78.body.getD .skip) (st0 con_qdg vs) (fin TT con_qdg Tryz.f78.results.toList [.agg [.sc,.sc,.sl .int,.sl .int,.sl .int,.sl .int]] vs kk)
theorem g_qdg (f d:Int) (g e:LI) (b a:LI) (h:Bool) (kk:AK) :
  V_qdg [.agg [vi f,vi d,.ro .int g,.ro .int e,.ro .int b,.ro .int a],.c (.v (.bool h))] kk=G_qdg f d g e b a h (K_qdg kk):=by kernel_rfl
theorem e_qdg (f d:Int) (g e:LI) (b a:LI) (h:Bool) (kk:AK) :
  V_qdg [.agg [vi f,vi d,.ro .int g,.ro .int e,.ro .int b,.ro .int a],.c (.v (.bool h))] kk=S_qdg f d g e b a h (K_qdg kk):=by
 rw [g_qdg]
 rw [G_qdg_eq]
 rfl
theorem clok_qdg:ConOK Tryz.prog cl_qdg:=consCons h_qdb (pf (by kernel_rfl)) (consNil)
theorem cok_qdg:ConsOK Tryz.prog 69 cs_qdg:=⟨clok_qdg,inlNil,ovNil⟩
theorem i_qdg {vs:List A1} {kk:AK} {motive:List A1→Prop} (h:con_qdg.F vs kk) (H:∀ (f d:Int) (g e:LI) (b a:LI) (i:Bool),F_qdg f d g e b a i (K_qdg kk)→motive [.agg [vi f,vi d,.ro .int g,.ro .int e,.ro .int b,.ro .int a],.c (.v (.bool i))]):motive vs:=by
 unfold con_qdg at h
 dsimp only at h
 split at h
 ·exact H _ _ _ _ _ _ _ h
 ·exact h.elim
theorem h_qdg:Holds Tryz.prog 78 con_qdg:=by
 refine holds_of_ev (rt:=[.agg [.sc,.sc,.sl .int,.sl .int,.sl .int,.sl .int]]) (T:=TT) (Γ:=cs_qdg) (an:=an_qdg) (N:=69) (c:=Tryz.f78.body.getD .skip) Tryz.func78 (by kernel_rfl) Tryz.ntmps78 (by decide) (by decide) mixed tabOK cok_qdg (by kernel_rfl) ?_
 intro vs kk _ hF
 exact i_qdg (motive:=fun vs=>Goes (V_qdg vs kk)) hF (fun f d g e b a h hF=>goes_of (e_qdg f d g e b a h kk) (F_qdg_S hF))
def K_qda (kk:AK):Int→Int→LI→LI→LI→LI→Prop:=(fun a b c d e f=>kk (.one (.agg [vi a,vi b,.ro .int c,.ro .int d,.ro .int e,.ro .int f])) [])
def con_qda:Con:=⟨[.rd,.rd],false,[.agg [.sc,.sc,.sl .int,.sl .int,.sl .int,.sl .int],.c (.sc)],fun vs k=>match vs with
  | [.agg [.v (.int .i64 f),.v (.int .i64 d),.ro .int g,.ro .int e,.ro .int b,.ro .int a],.c (.v (.int .i64 h))]=>F_qda f d g e b a h (K_qda k)
  | _=>False,false⟩
def cl_qda:List (FuncId×Con):=[(76,con_qdb),(77,con_qdd),(78,con_qdg)]
def an_qda:Ann:=⟨[],[],[],[]⟩
def cs_qda:Cons:=⟨cl_qda,[],0,[],[],[]⟩
def fin_qda (f d:Int) (g e:LI) (b a:LI) (h:Int) (kk:AK):Kt:=fin TT con_qda Tryz.f79.results.toList [.agg [.sc,.sc,.sl .int,.sl .int,.sl .int,.sl .int]] [.agg [vi f,vi d,.ro .int g,.ro .int e,.ro .int b,.ro .int a],.c (vi h)] kk
def V_qda (vs:List A1) (kk:AK):Prop:=ev TT cs_qda 80 an_qda (Tryz.f79.body.getD .skip) (st0 con_qda vs) (fin TT con_qda Tryz.f79.results.toList [.agg [.sc,.sc,.sl .int,.sl .int,.sl .int,.sl .int]] vs kk)
theorem g_qda (f d:Int) (g e:LI) (b a:LI) (h:Int) (kk:AK) :
  V_qda [.agg [vi f,vi d,.ro .int g,.ro .int e,.ro .int b,.ro .int a],.c (vi h)] kk=G_qda f d g e b a h (K_qda kk):=by kernel_rfl
theorem e_qda (f d:Int) (g e:LI) (b a:LI) (h:Int) (kk:AK) :
  V_qda [.agg [vi f,vi d,.ro .int g,.ro .int e,.ro .int b,.ro .int a],.c (vi h)] kk=S_qda f d g e b a h (K_qda kk):=by
 rw [g_qda]
 rfl
theorem clok_qda:ConOK Tryz.prog cl_qda:=consCons h_qdb (pf (by kernel_rfl)) (consCons h_qdd (pf (by kernel_rfl)) (consCons h_qdg (pf (by kernel_rfl)) (consNil)))
theorem cok_qda:ConsOK Tryz.prog 80 cs_qda:=⟨clok_qda,inlNil,ovNil⟩
theorem i_qda {vs:List A1} {kk:AK} {motive:List A1→Prop} (h:con_qda.F vs kk) (H:∀ (f d:Int) (g e:LI) (b a:LI) (i:Int),F_qda f d g e b a i (K_qda kk)→motive [.agg [vi f,vi d,.ro .int g,.ro .int e,.ro .int b,.ro .int a],.c (vi i)]):motive vs:=by
 unfold con_qda at h
 dsimp only at h
 split at h
 ·exact H _ _ _ _ _ _ _ h
 ·exact h.elim
theorem h_qda:Holds Tryz.prog 79 con_qda:=by
 refine holds_of_ev (rt:=[.agg [.sc,.sc,.sl .int,.sl .int,.sl .int,.sl .int]]) (T:=TT) (Γ:=cs_qda) (an:=an_qda) (N:=80) (c:=Tryz.f79.body.getD .skip) Tryz.func79 (by kernel_rfl) Tryz.ntmps79 (by decide) (by decide) mixed tabOK cok_qda (by kernel_rfl) ?_
 intro vs kk _ hF
 exact i_qda (motive:=fun vs=>Goes (V_qda vs kk)) hF (fun f d g e b a h hF=>goes_of (e_qda f d g e b a h kk) (F_qda_S hF))
def K_qco (kk:AK):Int→Int→LI→LI→LI→LI→Bool→Prop:=(fun a b d e f g h=>kk (.tup [.agg [vi a,vi b,.ro .int d,.ro .int e,.ro .int f,.ro .int g],.c (.v (.bool h))]) [])
def con_qco:Con:=⟨[.rd,.rd],false,[.agg [.sc,.sc,.sl .int,.sl .int,.sl .int,.sl .int],.c (.sc)],fun vs k=>match vs with
  | [.agg [.v (.int .i64 f),.v (.int .i64 d),.ro .int g,.ro .int e,.ro .int b,.ro .int a],.c (.v (.int .i64 h))]=>F_qco f d g e b a h (K_qco k)
  | _=>False,false⟩
def cl_qco:List (FuncId×Con):=[(53,con_qcu),(71,con_qdl),(72,con_qdw),(73,con_qde),(76,con_qdb),(77,con_qdd),(78,con_qdg),(79,con_qda)]
def an_qco:Ann:=⟨[(3,.take 0 (.take 2 (.take 4 (.alt 1 (.alt 3 (.alt 5 (.alt 6 (.take 7 (.alt 8 (.done) (.none))) (.none)) (.none)) (.none)) (.alt 3 (.alt 1 (.alt 5 (.alt 6 (.take 7 (.alt 8 (.done) (.none))) (.none)) (.none)) (.alt 5 (.alt 1 (.alt 6 (.take 7 (.alt 8 (.done) (.none))) (.none)) (.none)) (.none))) (.none))))),[]),(7,.take 0 (.take 2 (.take 4 (.take 7 (.alt 1 (.alt 3 (.alt 5 (.alt 6 (.alt 8 (.take 9 (.alt 10 (.done) (.none))) (.none)) (.none)) (.none)) (.none)) (.alt 3 (.alt 1 (.alt 5 (.alt 6 (.alt 8 (.take 9 (.alt 10 (.done) (.none))) (.none)) (.none)) (.none)) (.alt 5 (.alt 1 (.alt 6 (.alt 8 (.take 9 (.alt 10 (.done) (.none))) (.none)) (.none)) (.none)) (.none))) (.none)))))),[]),(10,.take 0 (.take 2 (.take 4 (.take 7 (.alt 1 (.alt 3 (.alt 5 (.take 6 (.alt 8 (.take 9 (.take 10 (.take 11 (.take 12 (.take 13 (.take 14 (.alt 15 (.done) (.none)))))))) (.none))) (.alt 8 (.take 9 (.alt 5 (.take 6 (.take 10 (.take 11 (.take 12 (.take 13 (.take 14 (.alt 15 (.done) (.none)))))))) (.none))) (.none))) (.alt 5 (.take 6 (.alt 3 (.alt 8 (.take 9 (.take 10 (.take 11 (.take 12 (.take 13 (.take 14 (.alt 15 (.done) (.none)))))))) (.none)) (.alt 8 (.take 9 (.take 10 (.take 11 (.alt 3 (.take 12 (.take 13 (.take 14 (.alt 15 (.done) (.none))))) (.none))))) (.none)))) (.alt 8 (.take 9 (.alt 3 (.alt 5 (.take 6 (.take 10 (.take 11 (.take 12 (.take 13 (.take 14 (.alt 15 (.done) (.none)))))))) (.none)) (.alt 5 (.take 6 (.take 10 (.take 11 (.alt 3 (.take 12 (.take 13 (.take 14 (.alt 15 (.done) (.none))))) (.none))))) (.none)))) (.none)))) (.alt 3 (.alt 1 (.alt 5 (.take 6 (.alt 8 (.take 9 (.take 10 (.take 11 (.take 12 (.take 13 (.take 14 (.alt 15 (.done) (.none)))))))) (.none))) (.alt 8 (.take 9 (.alt 5 (.take 6 (.take 10 (.take 11 (.take 12 (.take 13 (.take 14 (.alt 15 (.done) (.none)))))))) (.none))) (.none))) (.alt 5 (.take 6 (.alt 1 (.alt 8 (.take 9 (.take 10 (.take 11 (.take 12 (.take 13 (.take 14 (.alt 15 (.done) (.none)))))))) (.none)) (.alt 8 (.take 9 (.take 10 (.take 11 (.take 12 (.alt 1 (.take 13 (.take 14 (.alt 15 (.done) (.none)))) (.none)))))) (.none)))) (.alt 8 (.take 9 (.alt 1 (.alt 5 (.take 6 (.take 10 (.take 11 (.take 12 (.take 13 (.take 14 (.alt 15 (.done) (.none)))))))) (.none)) (.alt 5 (.take 6 (.take 10 (.take 11 (.take 12 (.alt 1 (.take 13 (.take 14 (.alt 15 (.done) (.none)))) (.none)))))) (.none)))) (.none)))) (.alt 5 (.take 6 (.alt 1 (.alt 3 (.alt 8 (.take 9 (.take 10 (.take 11 (.take 12 (.take 13 (.take 14 (.alt 15 (.done) (.none)))))))) (.none)) (.alt 8 (.take 9 (.take 10 (.take 11 (.alt 3 (.take 12 (.take 13 (.take 14 (.alt 15 (.done) (.none))))) (.none))))) (.none))) (.alt 3 (.alt 1 (.alt 8 (.take 9 (.take 10 (.take 11 (.take 12 (.take 13 (.take 14 (.alt 15 (.done) (.none)))))))) (.none)) (.alt 8 (.take 9 (.take 10 (.take 11 (.take 12 (.alt 1 (.take 13 (.take 14 (.alt 15 (.done) (.none)))) (.none)))))) (.none))) (.alt 8 (.take 9 (.take 10 (.take 11 (.alt 1 (.alt 3 (.take 12 (.take 13 (.take 14 (.alt 15 (.done) (.none))))) (.none)) (.alt 3 (.take 12 (.alt 1 (.take 13 (.take 14 (.alt 15 (.done) (.none)))) (.none))) (.none)))))) (.none))))) (.alt 8 (.take 9 (.alt 1 (.alt 3 (.alt 5 (.take 6 (.take 10 (.take 11 (.take 12 (.take 13 (.take 14 (.alt 15 (.done) (.none)))))))) (.none)) (.alt 5 (.take 6 (.take 10 (.take 11 (.alt 3 (.take 12 (.take 13 (.take 14 (.alt 15 (.done) (.none))))) (.none))))) (.none))) (.alt 3 (.alt 1 (.alt 5 (.take 6 (.take 10 (.take 11 (.take 12 (.take 13 (.take 14 (.alt 15 (.done) (.none)))))))) (.none)) (.alt 5 (.take 6 (.take 10 (.take 11 (.take 12 (.alt 1 (.take 13 (.take 14 (.alt 15 (.done) (.none)))) (.none)))))) (.none))) (.alt 5 (.take 6 (.take 10 (.take 11 (.alt 1 (.alt 3 (.take 12 (.take 13 (.take 14 (.alt 15 (.done) (.none))))) (.none)) (.alt 3 (.take 12 (.alt 1 (.take 13 (.take 14 (.alt 15 (.done) (.none)))) (.none))) (.none)))))) (.none))))) (.none)))))))),[]),(11,.take 0 (.take 2 (.take 4 (.alt 1 (.alt 3 (.alt 5 (.alt 6 (.take 7 (.alt 8 (.done) (.none))) (.none)) (.none)) (.none)) (.alt 3 (.alt 1 (.alt 5 (.alt 6 (.take 7 (.alt 8 (.done) (.none))) (.none)) (.none)) (.alt 5 (.alt 1 (.alt 6 (.take 7 (.alt 8 (.done) (.none))) (.none)) (.none)) (.none))) (.none))))),[]),(17,.take 0 (.take 2 (.take 5 (.alt 1 (.alt 3 (.take 4 (.alt 6 (.take 7 (.take 8 (.take 9 (.take 10 (.take 11 (.take 12 (.alt 13 (.done) (.none)))))))) (.none))) (.alt 6 (.take 7 (.alt 3 (.take 4 (.take 8 (.take 9 (.take 10 (.take 11 (.take 12 (.alt 13 (.done) (.none)))))))) (.none))) (.none))) (.alt 3 (.take 4 (.alt 1 (.alt 6 (.take 7 (.take 8 (.take 9 (.take 10 (.take 11 (.take 12 (.alt 13 (.done) (.none)))))))) (.none)) (.alt 6 (.take 7 (.take 8 (.take 9 (.alt 1 (.take 10 (.take 11 (.take 12 (.alt 13 (.done) (.none))))) (.none))))) (.none)))) (.alt 6 (.take 7 (.alt 1 (.alt 3 (.take 4 (.take 8 (.take 9 (.take 10 (.take 11 (.take 12 (.alt 13 (.done) (.none)))))))) (.none)) (.alt 3 (.take 4 (.take 8 (.take 9 (.alt 1 (.take 10 (.take 11 (.take 12 (.alt 13 (.done) (.none))))) (.none))))) (.none)))) (.none)))))),[]),(18,.take 0 (.take 2 (.take 4 (.alt 1 (.alt 3 (.alt 5 (.alt 6 (.take 7 (.alt 8 (.done) (.none))) (.none)) (.none)) (.none)) (.alt 3 (.alt 1 (.alt 5 (.alt 6 (.take 7 (.alt 8 (.done) (.none))) (.none)) (.none)) (.alt 5 (.alt 1 (.alt 6 (.take 7 (.alt 8 (.done) (.none))) (.none)) (.none)) (.none))) (.none))))),[])],[],[],[]⟩
def cs_qco:Cons:=⟨cl_qco,[],0,[],[],[]⟩
def fin_qco (f d:Int) (g e:LI) (b a:LI) (h:Int) (kk:AK):Kt:=fin TT con_qco Tryz.f52.results.toList [.agg [.sc,.sc,.sl .int,.sl .int,.sl .int,.sl .int],.c .sc] [.agg [vi f,vi d,.ro .int g,.ro .int e,.ro .int b,.ro .int a],.c (vi h)] kk
def V_qco (vs:List A1) (kk:AK):Prop:=ev TT cs_qco 121 an_qco (Tryz.f52.body.getD .skip) (st0 con_qco vs) (fin TT con_qco Tryz.f52.results.toList [.agg [.sc,.sc,.sl .int,.sl .int,.sl .int,.sl .int],.c .sc] vs kk)
theorem g_qco (f d:Int) (g e:LI) (b a:LI) (h:Int) (kk:AK) :
  V_qco [.agg [vi f,vi d,.ro .int g,.ro .int e,.ro .int b,.ro .int a],.c (vi h)] kk=G_qco f d g e b a h (K_qco kk):=by kernel_rfl
theorem e_qco (f d:Int) (g e:LI) (b a:LI) (h:Int) (kk:AK) :
  V_qco [.agg [vi f,vi d,.ro .int g,.ro .int e,.ro .int b,.ro .int a],.c (vi h)] kk=S_qco f d g e b a h (K_qco kk):=by
 rw [g_qco]
 rw [G_qco_eq]
 rfl
theorem clok_qco:ConOK Tryz.prog cl_qco:=consCons h_qcu (pf (by kernel_rfl)) (consCons h_qdl (pf (by kernel_rfl)) (consCons h_qdw (pf (by kernel_rfl)) (consCons h_qde (pf (by kernel_rfl)) (consCons h_qdb (pf (by kernel_rfl)) (consCons h_qdd (pf (by kernel_rfl)) (consCons h_qdg (pf (by kernel_rfl)) (consCons h_qda (pf (by kernel_rfl)) (consNil))))))))
theorem cok_qco:ConsOK Tryz.prog 121 cs_qco:=⟨clok_qco,inlNil,ovNil⟩
theorem i_qco {vs:List A1} {kk:AK} {motive:List A1→Prop} (h:con_qco.F vs kk) (H:∀ (f d:Int) (g e:LI) (b a:LI) (i:Int),F_qco f d g e b a i (K_qco kk)→motive [.agg [vi f,vi d,.ro .int g,.ro .int e,.ro .int b,.ro .int a],.c (vi i)]):motive vs:=by
 unfold con_qco at h
 dsimp only at h
 split at h
 ·exact H _ _ _ _ _ _ _ h
 ·exact h.elim
theorem h_qco:Holds Tryz.prog 52 con_qco:=by
 refine holds_of_ev (rt:=[.agg [.sc,.sc,.sl .int,.sl .int,.sl .int,.sl .int],.c .sc]) (T:=TT) (Γ:=cs_qco) (an:=an_qco) (N:=121) (c:=Tryz.f52.body.getD .skip) Tryz.func52 (by kernel_rfl) Tryz.ntmps52 (by decide) (by decide) mixed tabOK cok_qco (by kernel_rfl) ?_
 intro vs kk _ hF
 exact i_qco (motive:=fun vs=>Goes (V_qco vs kk)) hF (fun f d g e b a h hF=>goes_of (e_qco f d g e b a h kk) (F_qco_S hF))
def K_qci (kk:AK):Int→Int→LI→LI→LI→LI→Int→Prop:=(fun a b d e f g h=>kk (.tup [.agg [vi a,vi b,.ro .int d,.ro .int e,.ro .int f,.ro .int g],.c (vi h)]) [])
def con_qci:Con:=⟨[.rd,.rd],true,[.c (.sl .int),.c (.sc)],fun vs k=>match vs with
  | [.c (.ro .int b),.c (.v (.int .i64 a))]=>F_qci b a (K_qci k)
  | _=>False,false⟩
def cl_qci:List (FuncId×Con):=[(33,con_qdv),(44,con_qdc),(48,con_qds),(52,con_qco),(53,con_qcu)]
def nm0_qci:List NStep:=[.frzc 96 2 .int,.frzc 96 3 .int,.frzc 96 4 .int,.frzc 96 5 .int,.keep [0,4,6,7,8] [64,96]]
def an_qci:Ann:=⟨[(9,.take 1 (.take 2 (.take 3 (.take 4 (.alt 0 (.alt 5 (.take 6 (.take 7 (.take 8 (.alt 9 (.take 10 (.done)) (.none))))) (.none)) (.none))))),[])],[(6,nm0_qci)],[],[]⟩
def cs_qci:Cons:=⟨cl_qci,[],0,[],[],[]⟩
def can0_qci (j:LI) (h i:Int) (a b:Int) (d e:LI) (f g:LI):St:=⟨[(0,.one (.c (.ro .int j))),(4,.one (.c (.pb 64 0))),(6,.one (.c (.pb 96 0))),(7,.one (.c (vi h))),(8,.one (.c (vi i)))],[(64,.box [vi 0,vi 0,.nil,.nil,.nil,.nil]),(96,.box [vi a,vi b,.ro .int d,.ro .int e,.ro .int f,.ro .int g])]⟩
def fin_qci (b:LI) (a:Int) (kk:AK):Kt:=fin TT con_qci Tryz.f31.results.toList [.agg [.sc,.sc,.sl .int,.sl .int,.sl .int,.sl .int],.c .sc] [.c (.ro .int b),.c (vi a)] kk
def V_qci (vs:List A1) (kk:AK):Prop:=ev TT cs_qci 47 an_qci (Tryz.f31.body.getD .skip) (st0 con_qci vs) (fin TT con_qci Tryz.f31.results.toList [.agg [.sc,.sc,.sl .int,.sl .int,.sl .int,.sl .int],.c .sc] vs kk)
def kt0_qci (kf:Kt):Kt:=blockK 0 (seqK (evF TT cs_qci 47 an_qci Tryz.f31 [1,1,1,1,1]) (kf))
def I0_qci (b:LI) (a:Int) (kk:AK):Nat→St→Prop:=iter (evF TT cs_qci 47 an_qci Tryz.f31 [1,1,1,1,0,1,0,0]) nm0_qci (kt0_qci (fin_qci b a kk))
theorem r0_qci (j:LI) (g:Int) (kk:AK) (n:Nat) (h i:Int) (a b:Int) (c d:LI) (e f:LI) :
  I0_qci j g kk (n+1) (can0_qci j h i a b c d e f)=T0_qci j h i a b c d e f (K_qci kk) (fun h i a b c d e f=>I0_qci j g kk n (can0_qci j h i a b c d e f)):=by kernel_rfl
theorem l0_qci (j:LI) (i:Int) (kk:AK):∀ (n:Nat) (g h:Int) (a b:Int) (c d:LI) (e f:LI),I0_qci j i kk n (can0_qci j g h a b c d e f)=L0_qci j (K_qci kk) n g h a b c d e f:=by
 intro n
 induction n with
 | zero=>intros; rfl
 | succ n ih=>
  intro g h a b c d e f
  rw [r0_qci j i kk n g h a b c d e f]
  have hb:(fun g h a b c d e f=>I0_qci j i kk n (can0_qci j g h a b c d e f))=L0_qci j (K_qci kk) n:=by
   funext g h a b c d e f; exact ih g h a b c d e f
  rw [hb]
  rw [T0_qci_eq]
  rfl
theorem g_qci (b:LI) (a:Int) (kk:AK) :
  V_qci [.c (.ro .int b),.c (vi a)] kk=G_qci b a (K_qci kk) (fun b l m d e f g h i=>∃ j,I0_qci b a kk j (can0_qci b l m d e f g h i)):=by kernel_rfl
theorem e_qci (i:LI) (h:Int) (kk:AK) :
  V_qci [.c (.ro .int i),.c (vi h)] kk=S_qci i h (K_qci kk):=by
 rw [g_qci]
 have hi0:(fun i l m a b d e f g=>∃ j,I0_qci i h kk j (can0_qci i l m a b d e f g))=(fun i l m a b d e f g=>∃ j,L0_qci i (K_qci kk) j l m a b d e f g):=by
  funext i l m a b d e f g
  refine congrArg Exists (funext fun j=>?_)
  rw [l0_qci i h kk j l m a b d e f g]
 rw [hi0]
 rfl
theorem clok_qci:ConOK Tryz.prog cl_qci:=consCons h_qdv (pf (by kernel_rfl)) (consCons h_qdc (pf (by kernel_rfl)) (consCons h_qds (pf (by kernel_rfl)) (consCons h_qco (pf (by kernel_rfl)) (consCons h_qcu (pf (by kernel_rfl)) (consNil)))))
theorem cok_qci:ConsOK Tryz.prog 47 cs_qci:=⟨clok_qci,inlNil,ovNil⟩
theorem i_qci {vs:List A1} {kk:AK} {motive:List A1→Prop} (h:con_qci.F vs kk) (H:∀ (b:LI) (a:Int),F_qci b a (K_qci kk)→motive [.c (.ro .int b),.c (vi a)]):motive vs:=by
 unfold con_qci at h
 dsimp only at h
 split at h
 ·exact H _ _ h
 ·exact h.elim
theorem h_qci:Holds Tryz.prog 31 con_qci:=by
 refine holds_of_ev (rt:=[.agg [.sc,.sc,.sl .int,.sl .int,.sl .int,.sl .int],.c .sc]) (T:=TT) (Γ:=cs_qci) (an:=an_qci) (N:=47) (c:=Tryz.f31.body.getD .skip) Tryz.func31 (by kernel_rfl) Tryz.ntmps31 (by decide) (by decide) mixed tabOK cok_qci (by kernel_rfl) ?_
 intro vs kk _ hF
 exact i_qci (motive:=fun vs=>Goes (V_qci vs kk)) hF (fun b a hF=>goes_of (e_qci b a kk) (F_qci_S hF))
def K_qdh (kk:AK):Int→Prop:=(fun a=>kk (.one (.c (vi a))) [])
def con_qdh:Con:=⟨[.rd,.rd,.rd],true,[.c (.sl .int),.c (.sc),.c (.sc)],fun vs k=>match vs with
  | [.c (.ro .int d),.c (.v (.int .i64 a)),.c (.v (.int .i64 b))]=>F_qdh d a b (K_qdh k)
  | _=>False,false⟩
def cl_qdh:List (FuncId×Con):=[]
def nm0_qdh:List NStep:=[.keep [0,2,7] []]
def an_qdh:Ann:=⟨[],[(2,nm0_qdh)],[],[]⟩
def cs_qdh:Cons:=⟨cl_qdh,[],0,[],[],[]⟩
def can0_qdh (a:Int) (d:LI) (b:Int):St:=⟨[(0,.one (.c (.ro .int d))),(2,.one (.c (vi a))),(7,.one (.c (vi b)))],[]⟩
def fin_qdh (d:LI) (a b:Int) (kk:AK):Kt:=fin TT con_qdh Tryz.f104.results.toList [.c .sc] [.c (.ro .int d),.c (vi a),.c (vi b)] kk
def V_qdh (vs:List A1) (kk:AK):Prop:=ev TT cs_qdh 24 an_qdh (Tryz.f104.body.getD .skip) (st0 con_qdh vs) (fin TT con_qdh Tryz.f104.results.toList [.c .sc] vs kk)
def kt0_qdh (kf:Kt):Kt:=blockK 0 (seqK (evF TT cs_qdh 24 an_qdh Tryz.f104 [1,1]) (kf))
def I0_qdh (c:LI) (a b:Int) (kk:AK):Nat→St→Prop:=iter (evF TT cs_qdh 24 an_qdh Tryz.f104 [1,0,1,0,0]) nm0_qdh (kt0_qdh (fin_qdh c a b kk))
theorem r0_qdh (d:LI) (b a:Int) (kk:AK) (n:Nat) (c:Int) :
  I0_qdh d b a kk (n+1) (can0_qdh a d c)=T0_qdh a d c (K_qdh kk) (fun c=>I0_qdh d b a kk n (can0_qdh a d c)):=by kernel_rfl
theorem l0_qdh (d:LI) (c a:Int) (kk:AK):∀ (n:Nat) (b:Int),I0_qdh d c a kk n (can0_qdh a d b)=L0_qdh a d (K_qdh kk) n b:=by
 intro n
 induction n with
 | zero=>intros; rfl
 | succ n ih=>
  intro b
  rw [r0_qdh d c a kk n b]
  simp only [ih] <;> rfl
theorem g_qdh (d:LI) (b a:Int) (kk:AK) :
  V_qdh [.c (.ro .int d),.c (vi b),.c (vi a)] kk=G_qdh d b a (fun a d e=>∃ j,I0_qdh d b a kk j (can0_qdh a d e)):=by kernel_rfl
theorem e_qdh (d:LI) (b a:Int) (kk:AK) :
  V_qdh [.c (.ro .int d),.c (vi b),.c (vi a)] kk=S_qdh d b a (K_qdh kk):=by
 rw [g_qdh]
 have hi0:(fun a d e=>∃ j,I0_qdh d b a kk j (can0_qdh a d e))=(fun a d e=>∃ j,L0_qdh a d (K_qdh kk) j e):=by
  funext a d e
  refine congrArg Exists (funext fun j=>?_)
  rw [l0_qdh d b a kk j e]
 rw [hi0]
 rfl
theorem clok_qdh:ConOK Tryz.prog cl_qdh:=consNil
theorem cok_qdh:ConsOK Tryz.prog 24 cs_qdh:=⟨clok_qdh,inlNil,ovNil⟩
theorem i_qdh {vs:List A1} {kk:AK} {motive:List A1→Prop} (h:con_qdh.F vs kk) (H:∀ (d:LI) (a b:Int),F_qdh d a b (K_qdh kk)→motive [.c (.ro .int d),.c (vi a),.c (vi b)]):motive vs:=by
 unfold con_qdh at h
 dsimp only at h
 split at h
 ·exact H _ _ _ h
 ·exact h.elim
theorem h_qdh:Holds Tryz.prog 104 con_qdh:=by
 refine holds_of_ev (rt:=[.c .sc]) (T:=TT) (Γ:=cs_qdh) (an:=an_qdh) (N:=24) (c:=Tryz.f104.body.getD .skip) Tryz.func104 (by kernel_rfl) Tryz.ntmps104 (by decide) (by decide) mixed tabOK cok_qdh (by kernel_rfl) ?_
 intro vs kk _ hF
 exact i_qdh (motive:=fun vs=>Goes (V_qdh vs kk)) hF (fun d a b hF=>goes_of (e_qdh d a b kk) (F_qdh_S hF))
def K_qcx (kk:AK):Int→Prop:=(fun a=>kk (.one (.c (vi a))) [])
def con_qcx:Con:=⟨[.rd,.rd,.rd],true,[.c (.sl .int),.c (.sc),.c (.sl .int)],fun vs k=>match vs with
  | [.c (.ro .int d),.c (.v (.int .i64 a)),.c (.ro .int b)]=>F_qcx d a b (K_qcx k)
  | _=>False,false⟩
def cl_qcx:List (FuncId×Con):=[(104,con_qdh)]
def nm0_qcx:List NStep:=[.keep [0,1,2,7,8] []]
def an_qcx:Ann:=⟨[(5,.take 0 (.take 1 (.take 2 (.take 3 (.take 4 (.take 5 (.take 7 (.take 8 (.take 9 (.take 10 (.take 11 (.take 12 (.alt 6 (.alt 13 (.take 14 (.done)) (.none)) (.none))))))))))))),[])],[(3,nm0_qcx)],[],[]⟩
def cs_qcx:Cons:=⟨cl_qcx,[],0,[],[],[]⟩
def can0_qcx (a:Int) (b f:LI) (d e:Int):St:=⟨[(0,.one (.c (.ro .int f))),(1,.one (.c (vi a))),(2,.one (.c (.ro .int b))),(7,.one (.c (vi d))),(8,.one (.c (vi e)))],[]⟩
def fin_qcx (d:LI) (a:Int) (b:LI) (kk:AK):Kt:=fin TT con_qcx Tryz.f80.results.toList [.c .sc] [.c (.ro .int d),.c (vi a),.c (.ro .int b)] kk
def V_qcx (vs:List A1) (kk:AK):Prop:=ev TT cs_qcx 32 an_qcx (Tryz.f80.body.getD .skip) (st0 con_qcx vs) (fin TT con_qcx Tryz.f80.results.toList [.c .sc] vs kk)
def kt0_qcx (kf:Kt):Kt:=blockK 0 (seqK (evF TT cs_qcx 32 an_qcx Tryz.f80 [1,1,1]) (kf))
def I0_qcx (c:LI) (a:Int) (b:LI) (kk:AK):Nat→St→Prop:=iter (evF TT cs_qcx 32 an_qcx Tryz.f80 [1,1,0,1,0,0]) nm0_qcx (kt0_qcx (fin_qcx c a b kk))
theorem r0_qcx (e:LI) (a:Int) (b:LI) (kk:AK) (n:Nat) (c d:Int) :
  I0_qcx e a b kk (n+1) (can0_qcx a b e c d)=T0_qcx a b e c d (K_qcx kk) (fun c d=>I0_qcx e a b kk n (can0_qcx a b e c d)):=by kernel_rfl
theorem l0_qcx (e:LI) (a:Int) (b:LI) (kk:AK):∀ (n:Nat) (c d:Int),I0_qcx e a b kk n (can0_qcx a b e c d)=L0_qcx a b e (K_qcx kk) n c d:=by
 intro n
 induction n with
 | zero=>intros; rfl
 | succ n ih=>
  intro c d
  rw [r0_qcx e a b kk n c d]
  have hb:(fun c d=>I0_qcx e a b kk n (can0_qcx a b e c d))=L0_qcx a b e (K_qcx kk) n:=by
   funext c d; exact ih c d
  rw [hb]
  rw [T0_qcx_eq]
  rfl
theorem g_qcx (d:LI) (a:Int) (b:LI) (kk:AK) :
  V_qcx [.c (.ro .int d),.c (vi a),.c (.ro .int b)] kk=G_qcx d a b (fun a b d e f=>∃ j,I0_qcx d a b kk j (can0_qcx a b d e f)):=by kernel_rfl
theorem e_qcx (e:LI) (a:Int) (b:LI) (kk:AK) :
  V_qcx [.c (.ro .int e),.c (vi a),.c (.ro .int b)] kk=S_qcx e a b (K_qcx kk):=by
 rw [g_qcx]
 have hi0:(fun a b e d f=>∃ j,I0_qcx e a b kk j (can0_qcx a b e d f))=(fun a b e d f=>∃ j,L0_qcx a b e (K_qcx kk) j d f):=by
  funext a b e d f
  refine congrArg Exists (funext fun j=>?_)
  rw [l0_qcx e a b kk j d f]
 rw [hi0]
 rfl
theorem clok_qcx:ConOK Tryz.prog cl_qcx:=consCons h_qdh (pf (by kernel_rfl)) (consNil)
theorem cok_qcx:ConsOK Tryz.prog 32 cs_qcx:=⟨clok_qcx,inlNil,ovNil⟩
theorem i_qcx {vs:List A1} {kk:AK} {motive:List A1→Prop} (h:con_qcx.F vs kk) (H:∀ (d:LI) (a:Int) (b:LI),F_qcx d a b (K_qcx kk)→motive [.c (.ro .int d),.c (vi a),.c (.ro .int b)]):motive vs:=by
 unfold con_qcx at h
 dsimp only at h
 split at h
 ·exact H _ _ _ h
 ·exact h.elim
theorem h_qcx:Holds Tryz.prog 80 con_qcx:=by
 refine holds_of_ev (rt:=[.c .sc]) (T:=TT) (Γ:=cs_qcx) (an:=an_qcx) (N:=32) (c:=Tryz.f80.body.getD .skip) Tryz.func80 (by kernel_rfl) Tryz.ntmps80 (by decide) (by decide) mixed tabOK cok_qcx (by kernel_rfl) ?_
 intro vs kk _ hF
 exact i_qcx (motive:=fun vs=>Goes (V_qcx vs kk)) hF (fun d a b hF=>goes_of (e_qcx d a b kk) (F_qcx_S hF))
def K_qcq (kk:AK):Int→Prop:=(fun a=>kk (.one (.c (vi a))) [])
def con_qcq:Con:=⟨[.rd,.rd],true,[.c (.sl .int),.c (.sc)],fun vs k=>match vs with
  | [.c (.ro .int b),.c (.v (.int .i64 a))]=>F_qcq b a (K_qcq k)
  | _=>False,false⟩
def cl_qcq:List (FuncId×Con):=[(46,con_qct),(72,con_qdw),(73,con_qde),(80,con_qcx)]
def nm0_qcq:List NStep:=[.own 5 .int 90000,.keep [0,1,5,6,7] [90000]]
def an_qcq:Ann:=⟨[(10,.take 0 (.take 2 (.take 3 (.take 4 (.take 5 (.alt 1 (.alt 6 (.alt 7 (.take 8 (.done)) (.none)) (.none)) (.alt 6 (.alt 1 (.alt 7 (.take 8 (.done)) (.none)) (.none)) (.none))))))),[])],[(4,nm0_qcq)],[],[]⟩
def cs_qcq:Cons:=⟨cl_qcq,[],0,[],[],[]⟩
def can0_qcq (b:Int) (f:LI) (d e:Int) (a:LI):St:=⟨[(0,.one (.c (.ro .int f))),(1,.one (.c (vi b))),(5,.one (.c (.ow 90000))),(6,.one (.c (vi d))),(7,.one (.c (vi e)))],[(90000,.row .int a)]⟩
def fin_qcq (b:LI) (a:Int) (kk:AK):Kt:=fin TT con_qcq Tryz.f54.results.toList [.c .sc] [.c (.ro .int b),.c (vi a)] kk
def V_qcq (vs:List A1) (kk:AK):Prop:=ev TT cs_qcq 43 an_qcq (Tryz.f54.body.getD .skip) (st0 con_qcq vs) (fin TT con_qcq Tryz.f54.results.toList [.c .sc] vs kk)
def kt0_qcq (kf:Kt):Kt:=blockK 0 (seqK (evF TT cs_qcq 43 an_qcq Tryz.f54 [1,1,1,1]) (kf))
def I0_qcq (b:LI) (a:Int) (kk:AK):Nat→St→Prop:=iter (evF TT cs_qcq 43 an_qcq Tryz.f54 [1,1,1,0,1,0,0]) nm0_qcq (kt0_qcq (fin_qcq b a kk))
theorem r0_qcq (e:LI) (a:Int) (kk:AK) (n:Nat) (c d:Int) (b:LI) :
  I0_qcq e a kk (n+1) (can0_qcq a e c d b)=T0_qcq a e c d b (K_qcq kk) (fun c d b=>I0_qcq e a kk n (can0_qcq a e c d b)):=by kernel_rfl
theorem l0_qcq (e:LI) (b:Int) (kk:AK):∀ (n:Nat) (c d:Int) (a:LI),I0_qcq e b kk n (can0_qcq b e c d a)=L0_qcq b e (K_qcq kk) n c d a:=by
 intro n
 induction n with
 | zero=>intros; rfl
 | succ n ih=>
  intro c d a
  rw [r0_qcq e b kk n c d a]
  have hb:(fun c d a=>I0_qcq e b kk n (can0_qcq b e c d a))=L0_qcq b e (K_qcq kk) n:=by
   funext c d a; exact ih c d a
  rw [hb]
  rw [T0_qcq_eq]
  rfl
theorem g_qcq (b:LI) (a:Int) (kk:AK) :
  V_qcq [.c (.ro .int b),.c (vi a)] kk=G_qcq b a (fun a b e f d=>∃ j,I0_qcq b a kk j (can0_qcq a b e f d)):=by kernel_rfl
theorem e_qcq (d:LI) (a:Int) (kk:AK) :
  V_qcq [.c (.ro .int d),.c (vi a)] kk=S_qcq d a (K_qcq kk):=by
 rw [g_qcq]
 have hi0:(fun a d e f b=>∃ j,I0_qcq d a kk j (can0_qcq a d e f b))=(fun a d e f b=>∃ j,L0_qcq a d (K_qcq kk) j e f b):=by
  funext a d e f b
  refine congrArg Exists (funext fun j=>?_)
  rw [l0_qcq d a kk j e f b]
 rw [hi0]
 rfl
theorem clok_qcq:ConOK Tryz.prog cl_qcq:=consCons h_qct (pf (by kernel_rfl)) (consCons h_qdw (pf (by kernel_rfl)) (consCons h_qde (pf (by kernel_rfl)) (consCons h_qcx (pf (by kernel_rfl)) (consNil))))
theorem cok_qcq:ConsOK Tryz.prog 43 cs_qcq:=⟨clok_qcq,inlNil,ovNil⟩
theorem i_qcq {vs:List A1} {kk:AK} {motive:List A1→Prop} (h:con_qcq.F vs kk) (H:∀ (b:LI) (a:Int),F_qcq b a (K_qcq kk)→motive [.c (.ro .int b),.c (vi a)]):motive vs:=by
 unfold con_qcq at h
 dsimp only at h
 split at h
 ·exact H _ _ h
 ·exact h.elim
theorem h_qcq:Holds Tryz.prog 54 con_qcq:=by
 refine holds_of_ev (rt:=[.c .sc]) (T:=TT) (Γ:=cs_qcq) (an:=an_qcq) (N:=43) (c:=Tryz.f54.body.getD .skip) Tryz.func54 (by kernel_rfl) Tryz.ntmps54 (by decide) (by decide) mixed tabOK cok_qcq (by kernel_rfl) ?_
 intro vs kk _ hF
 exact i_qcq (motive:=fun vs=>Goes (V_qcq vs kk)) hF (fun b a hF=>goes_of (e_qcq b a kk) (F_qcq_S hF))
def K_qcb (kk:AK):Int→Prop:=(fun a=>kk (.one (.c (vi a))) [])
def con_qcb:Con:=⟨[.rd,.rd],true,[.c (.sl .int),.c (.sc)],fun vs k=>match vs with
  | [.c (.ro .int b),.c (.v (.int .i64 a))]=>F_qcb b a (K_qcb k)
  | _=>False,false⟩
def cl_qcb:List (FuncId×Con):=[(33,con_qdv),(44,con_qdc),(54,con_qcq)]
def an_qcb:Ann:=⟨[],[],[],[]⟩
def cs_qcb:Cons:=⟨cl_qcb,[],0,[],[],[]⟩
def fin_qcb (b:LI) (a:Int) (kk:AK):Kt:=fin TT con_qcb Tryz.f32.results.toList [.c .sc] [.c (.ro .int b),.c (vi a)] kk
def V_qcb (vs:List A1) (kk:AK):Prop:=ev TT cs_qcb 16 an_qcb (Tryz.f32.body.getD .skip) (st0 con_qcb vs) (fin TT con_qcb Tryz.f32.results.toList [.c .sc] vs kk)
theorem g_qcb (b:LI) (a:Int) (kk:AK) :
  V_qcb [.c (.ro .int b),.c (vi a)] kk=G_qcb b a (K_qcb kk):=by kernel_rfl
theorem e_qcb (b:LI) (a:Int) (kk:AK) :
  V_qcb [.c (.ro .int b),.c (vi a)] kk=S_qcb b a (K_qcb kk):=by
 rw [g_qcb]
 rfl
theorem clok_qcb:ConOK Tryz.prog cl_qcb:=consCons h_qdv (pf (by kernel_rfl)) (consCons h_qdc (pf (by kernel_rfl)) (consCons h_qcq (pf (by kernel_rfl)) (consNil)))
theorem cok_qcb:ConsOK Tryz.prog 16 cs_qcb:=⟨clok_qcb,inlNil,ovNil⟩
theorem i_qcb {vs:List A1} {kk:AK} {motive:List A1→Prop} (h:con_qcb.F vs kk) (H:∀ (b:LI) (a:Int),F_qcb b a (K_qcb kk)→motive [.c (.ro .int b),.c (vi a)]):motive vs:=by
 unfold con_qcb at h
 dsimp only at h
 split at h
 ·exact H _ _ h
 ·exact h.elim
theorem h_qcb:Holds Tryz.prog 32 con_qcb:=by
 refine holds_of_ev (rt:=[.c .sc]) (T:=TT) (Γ:=cs_qcb) (an:=an_qcb) (N:=16) (c:=Tryz.f32.body.getD .skip) Tryz.func32 (by kernel_rfl) Tryz.ntmps32 (by decide) (by decide) mixed tabOK cok_qcb (by kernel_rfl) ?_
 intro vs kk _ hF
 exact i_qcb (motive:=fun vs=>Goes (V_qcb vs kk)) hF (fun b a hF=>goes_of (e_qcb b a kk) (F_qcb_S hF))
def K_qdp (kk:AK):Int→Prop:=(fun a=>kk (.one (.c (vi a))) [])
def con_qdp:Con:=⟨[.rd,.rd],true,[.c (.sl .int),.c (.sc)],fun vs k=>match vs with
  | [.c (.ro .int b),.c (.v (.int .i64 a))]=>F_qdp b a (K_qdp k)
  | _=>False,false⟩
def cl_qdp:List (FuncId×Con):=[]
def nm0_qdp:List NStep:=[.keep [0,1,5] []]
def an_qdp:Ann:=⟨[(2,.take 0 (.take 1 (.take 2 (.take 3 (.take 4 (.take 5 (.take 6 (.take 7 (.take 8 (.take 9 (.take 10 (.take 11 (.take 12 (.take 13 (.take 14 (.take 15 (.take 16 (.take 17 (.take 18 (.done))))))))))))))))))),[])],[(2,nm0_qdp)],[],[]⟩
def cs_qdp:Cons:=⟨cl_qdp,[],0,[],[],[]⟩
def can0_qdp (a:Int) (d:LI) (b:Int):St:=⟨[(0,.one (.c (.ro .int d))),(1,.one (.c (vi a))),(5,.one (.c (vi b)))],[]⟩
def fin_qdp (b:LI) (a:Int) (kk:AK):Kt:=fin TT con_qdp Tryz.f34.results.toList [.c .sc] [.c (.ro .int b),.c (vi a)] kk
def V_qdp (vs:List A1) (kk:AK):Prop:=ev TT cs_qdp 28 an_qdp (Tryz.f34.body.getD .skip) (st0 con_qdp vs) (fin TT con_qdp Tryz.f34.results.toList [.c .sc] vs kk)
def kt0_qdp (kf:Kt):Kt:=blockK 0 (seqK (evF TT cs_qdp 28 an_qdp Tryz.f34 [1,1,1]) (kf))
def I0_qdp (b:LI) (a:Int) (kk:AK):Nat→St→Prop:=iter (evF TT cs_qdp 28 an_qdp Tryz.f34 [1,1,0,0,0]) nm0_qdp (kt0_qdp (fin_qdp b a kk))
theorem r0_qdp (c:LI) (a:Int) (kk:AK) (n:Nat) (b:Int) :
  I0_qdp c a kk (n+1) (can0_qdp a c b)=T0_qdp a c b (K_qdp kk) (fun b=>I0_qdp c a kk n (can0_qdp a c b)):=by kernel_rfl
theorem l0_qdp (c:LI) (b:Int) (kk:AK):∀ (n:Nat) (a:Int),I0_qdp c b kk n (can0_qdp b c a)=L0_qdp b c (K_qdp kk) n a:=by
 intro n
 induction n with
 | zero=>intros; rfl
 | succ n ih=>
  intro a
  rw [r0_qdp c b kk n a]
  simp only [ih] <;> rfl
theorem g_qdp (b:LI) (a:Int) (kk:AK) :
  V_qdp [.c (.ro .int b),.c (vi a)] kk=G_qdp b a (fun a b d=>∃ j,I0_qdp b a kk j (can0_qdp a b d)):=by kernel_rfl
theorem e_qdp (b:LI) (a:Int) (kk:AK) :
  V_qdp [.c (.ro .int b),.c (vi a)] kk=S_qdp b a (K_qdp kk):=by
 rw [g_qdp]
 have hi0:(fun a b d=>∃ j,I0_qdp b a kk j (can0_qdp a b d))=(fun a b d=>∃ j,L0_qdp a b (K_qdp kk) j d):=by
  funext a b d
  refine congrArg Exists (funext fun j=>?_)
  rw [l0_qdp b a kk j d]
 rw [hi0]
 rfl
theorem clok_qdp:ConOK Tryz.prog cl_qdp:=consNil
theorem cok_qdp:ConsOK Tryz.prog 28 cs_qdp:=⟨clok_qdp,inlNil,ovNil⟩
theorem i_qdp {vs:List A1} {kk:AK} {motive:List A1→Prop} (h:con_qdp.F vs kk) (H:∀ (b:LI) (a:Int),F_qdp b a (K_qdp kk)→motive [.c (.ro .int b),.c (vi a)]):motive vs:=by
 unfold con_qdp at h
 dsimp only at h
 split at h
 ·exact H _ _ h
 ·exact h.elim
theorem h_qdp:Holds Tryz.prog 34 con_qdp:=by
 refine holds_of_ev (rt:=[.c .sc]) (T:=TT) (Γ:=cs_qdp) (an:=an_qdp) (N:=28) (c:=Tryz.f34.body.getD .skip) Tryz.func34 (by kernel_rfl) Tryz.ntmps34 (by decide) (by decide) mixed tabOK cok_qdp (by kernel_rfl) ?_
 intro vs kk _ hF
 exact i_qdp (motive:=fun vs=>Goes (V_qdp vs kk)) hF (fun b a hF=>goes_of (e_qdp b a kk) (F_qdp_S hF))
def K_qcz (kk:AK):ByteArray→Prop:=(fun a=>kk (.one (.c (.v (.string a)))) [])
def con_qcz:Con:=⟨[.rd],true,[.c (.sl .int)],fun vs k=>match vs with
  | [.c (.ro .int a)]=>F_qcz a (K_qcz k)
  | _=>False,false⟩
def cl_qcz:List (FuncId×Con):=[(24,con_qcw),(34,con_qdp)]
def nm0_qcz:List NStep:=[.keep [0,3,4] []]
def an_qcz:Ann:=⟨[],[(3,nm0_qcz)],[],[]⟩
def cs_qcz:Cons:=⟨cl_qcz,[],0,[],[],[]⟩
def can0_qcz (d:LI) (a:ByteArray) (b:Int):St:=⟨[(0,.one (.c (.ro .int d))),(3,.one (.c (.v (.string a)))),(4,.one (.c (vi b)))],[]⟩
def fin_qcz (a:LI) (kk:AK):Kt:=fin TT con_qcz Tryz.f17.results.toList [.c .sc] [.c (.ro .int a)] kk
def V_qcz (vs:List A1) (kk:AK):Prop:=ev TT cs_qcz 37 an_qcz (Tryz.f17.body.getD .skip) (st0 con_qcz vs) (fin TT con_qcz Tryz.f17.results.toList [.c .sc] vs kk)
def kt0_qcz (kf:Kt):Kt:=blockK 0 (seqK (evF TT cs_qcz 37 an_qcz Tryz.f17 [1,1,1]) (kf))
def I0_qcz (a:LI) (kk:AK):Nat→St→Prop:=iter (evF TT cs_qcz 37 an_qcz Tryz.f17 [1,1,0,1,0,0]) nm0_qcz (kt0_qcz (fin_qcz a kk))
theorem r0_qcz (c:LI) (kk:AK) (n:Nat) (a:ByteArray) (b:Int) :
  I0_qcz c kk (n+1) (can0_qcz c a b)=T0_qcz c a b (K_qcz kk) (fun a b=>I0_qcz c kk n (can0_qcz c a b)):=by kernel_rfl
theorem l0_qcz (c:LI) (kk:AK):∀ (n:Nat) (a:ByteArray) (b:Int),I0_qcz c kk n (can0_qcz c a b)=L0_qcz c (K_qcz kk) n a b:=by
 intro n
 induction n with
 | zero=>intros; rfl
 | succ n ih=>
  intro a b
  rw [r0_qcz c kk n a b]
  simp only [ih] <;> rfl
theorem g_qcz (a:LI) (kk:AK) :
  V_qcz [.c (.ro .int a)] kk=G_qcz a (fun a b d=>∃ j,I0_qcz a kk j (can0_qcz a b d)):=by kernel_rfl
theorem e_qcz (b:LI) (kk:AK) :
  V_qcz [.c (.ro .int b)] kk=S_qcz b (K_qcz kk):=by
 rw [g_qcz]
 have hi0:(fun b a d=>∃ j,I0_qcz b kk j (can0_qcz b a d))=(fun b a d=>∃ j,L0_qcz b (K_qcz kk) j a d):=by
  funext b a d
  refine congrArg Exists (funext fun j=>?_)
  rw [l0_qcz b kk j a d]
 rw [hi0]
 rfl
theorem clok_qcz:ConOK Tryz.prog cl_qcz:=consCons h_qcw (pf (by kernel_rfl)) (consCons h_qdp (pf (by kernel_rfl)) (consNil))
theorem cok_qcz:ConsOK Tryz.prog 37 cs_qcz:=⟨clok_qcz,inlNil,ovNil⟩
theorem i_qcz {vs:List A1} {kk:AK} {motive:List A1→Prop} (h:con_qcz.F vs kk) (H:∀ (a:LI),F_qcz a (K_qcz kk)→motive [.c (.ro .int a)]):motive vs:=by
 unfold con_qcz at h
 dsimp only at h
 split at h
 ·exact H _ h
 ·exact h.elim
theorem h_qcz:Holds Tryz.prog 17 con_qcz:=by
 refine holds_of_ev (rt:=[.c .sc]) (T:=TT) (Γ:=cs_qcz) (an:=an_qcz) (N:=37) (c:=Tryz.f17.body.getD .skip) Tryz.func17 (by kernel_rfl) Tryz.ntmps17 (by decide) (by decide) mixed tabOK cok_qcz (by kernel_rfl) ?_
 intro vs kk _ hF
 exact i_qcz (motive:=fun vs=>Goes (V_qcz vs kk)) hF (fun a hF=>goes_of (e_qcz a kk) (F_qcz_S hF))
def K_qce (kk:AK):ByteArray→Prop:=(fun a=>kk (.one (.c (.v (.string a)))) [])
def con_qce:Con:=⟨[.rd],true,[.c (.sl .int)],fun vs k=>match vs with
  | [.c (.ro .int a)]=>F_qce a (K_qce k)
  | _=>False,false⟩
def cl_qce:List (FuncId×Con):=[(17,con_qcz),(33,con_qdv)]
def an_qce:Ann:=⟨[],[],[],[]⟩
def cs_qce:Cons:=⟨cl_qce,[],0,[],[],[]⟩
def fin_qce (a:LI) (kk:AK):Kt:=fin TT con_qce Tryz.f16.results.toList [.c .sc] [.c (.ro .int a)] kk
def V_qce (vs:List A1) (kk:AK):Prop:=ev TT cs_qce 8 an_qce (Tryz.f16.body.getD .skip) (st0 con_qce vs) (fin TT con_qce Tryz.f16.results.toList [.c .sc] vs kk)
theorem g_qce (a:LI) (kk:AK) :
  V_qce [.c (.ro .int a)] kk=G_qce a (K_qce kk):=by kernel_rfl
theorem e_qce (a:LI) (kk:AK) :
  V_qce [.c (.ro .int a)] kk=S_qce a (K_qce kk):=by
 rw [g_qce]
 rfl
theorem clok_qce:ConOK Tryz.prog cl_qce:=consCons h_qcz (pf (by kernel_rfl)) (consCons h_qdv (pf (by kernel_rfl)) (consNil))
theorem cok_qce:ConsOK Tryz.prog 8 cs_qce:=⟨clok_qce,inlNil,ovNil⟩
theorem i_qce {vs:List A1} {kk:AK} {motive:List A1→Prop} (h:con_qce.F vs kk) (H:∀ (a:LI),F_qce a (K_qce kk)→motive [.c (.ro .int a)]):motive vs:=by
 unfold con_qce at h
 dsimp only at h
 split at h
 ·exact H _ h
 ·exact h.elim
theorem h_qce:Holds Tryz.prog 16 con_qce:=by
 refine holds_of_ev (rt:=[.c .sc]) (T:=TT) (Γ:=cs_qce) (an:=an_qce) (N:=8) (c:=Tryz.f16.body.getD .skip) Tryz.func16 (by kernel_rfl) Tryz.ntmps16 (by decide) (by decide) mixed tabOK cok_qce (by kernel_rfl) ?_
 intro vs kk _ hF
 exact i_qce (motive:=fun vs=>Goes (V_qce vs kk)) hF (fun a hF=>goes_of (e_qce a kk) (F_qce_S hF))
def K_qcc (kk:AK):LI→Prop:=(fun a=>kk (.one (.c (.ro .int a))) [])
def con_qcc:Con:=⟨[.rd],true,[.agg [.sl .int,.sl .iib,.sc]],fun vs k=>match vs with
  | [.agg [.ro .int a,.ro .iib b,.v (.int .i64 c)]]=>F_qcc a b c (K_qcc k)
  | _=>False,false⟩
def cl_qcc:List (FuncId×Con):=[(35,con_qdu)]
def nm0_qcc:List NStep:=[.own 3 .int 90000,.keep [1,3,4] [16,90000]]
def an_qcc:Ann:=⟨[],[(5,nm0_qcc)],[],[]⟩
def cs_qcc:Cons:=⟨cl_qcc,[],0,[],[],[]⟩
def can0_qcc (a:LT) (d:Int) (b:LI) (f:Int) (e:LI):St:=⟨[(1,.one (.c (.pb 16 0))),(3,.one (.c (.ow 90000))),(4,.one (.c (vi f)))],[(16,.box [.ro .int b,.ro .iib a,vi d]),(90000,.row .int e)]⟩
def fin_qcc (a:LI) (b:LT) (d:Int) (kk:AK):Kt:=fin TT con_qcc Tryz.f18.results.toList [.c (.sl .int)] [.agg [.ro .int a,.ro .iib b,vi d]] kk
def V_qcc (vs:List A1) (kk:AK):Prop:=ev TT cs_qcc 32 an_qcc (Tryz.f18.body.getD .skip) (st0 con_qcc vs) (fin TT con_qcc Tryz.f18.results.toList [.c (.sl .int)] vs kk)
def kt0_qcc (kf:Kt):Kt:=blockK 0 (seqK (evF TT cs_qcc 32 an_qcc Tryz.f18 [1,1,1,1]) (kf))
def I0_qcc (a:LI) (b:LT) (c:Int) (kk:AK):Nat→St→Prop:=iter (evF TT cs_qcc 32 an_qcc Tryz.f18 [1,1,1,0,1,0,0]) nm0_qcc (kt0_qcc (fin_qcc a b c kk))
theorem r0_qcc (a:LI) (b:LT) (c:Int) (kk:AK) (n:Nat) (e:Int) (d:LI) :
  I0_qcc a b c kk (n+1) (can0_qcc b c a e d)=T0_qcc b c a e d (K_qcc kk) (fun e d=>I0_qcc a b c kk n (can0_qcc b c a e d)):=by kernel_rfl
theorem l0_qcc (a:LI) (b:LT) (c:Int) (kk:AK):∀ (n:Nat) (e:Int) (d:LI),I0_qcc a b c kk n (can0_qcc b c a e d)=L0_qcc b c a (K_qcc kk) n e d:=by
 intro n
 induction n with
 | zero=>intros; rfl
 | succ n ih=>
  intro e d
  rw [r0_qcc a b c kk n e d]
  simp only [ih] <;> rfl
theorem g_qcc (a:LI) (b:LT) (c:Int) (kk:AK) :
  V_qcc [.agg [.ro .int a,.ro .iib b,vi c]] kk=G_qcc a b c (K_qcc kk) (fun b c a e d=>∃ j,I0_qcc a b c kk j (can0_qcc b c a e d)):=by kernel_rfl
theorem e_qcc (a:LI) (b:LT) (c:Int) (kk:AK) :
  V_qcc [.agg [.ro .int a,.ro .iib b,vi c]] kk=S_qcc a b c (K_qcc kk):=by
 rw [g_qcc]
 have hi0:(fun b c a e d=>∃ j,I0_qcc a b c kk j (can0_qcc b c a e d))=(fun b c a e d=>∃ j,L0_qcc b c a (K_qcc kk) j e d):=by
  funext b c a e d
  refine congrArg Exists (funext fun j=>?_)
  rw [l0_qcc a b c kk j e d]
 rw [hi0]
 rfl
theorem clok_qcc:ConOK Tryz.prog cl_qcc:=consCons h_qdu (pf (by kernel_rfl)) (consNil)
theorem cok_qcc:ConsOK Tryz.prog 32 cs_qcc:=⟨clok_qcc,inlNil,ovNil⟩
theorem i_qcc {vs:List A1} {kk:AK} {motive:List A1→Prop} (h:con_qcc.F vs kk) (H:∀ (a:LI) (b:LT) (c:Int),F_qcc a b c (K_qcc kk)→motive [.agg [.ro .int a,.ro .iib b,vi c]]):motive vs:=by
 unfold con_qcc at h
 dsimp only at h
 split at h
 ·exact H _ _ _ h
 ·exact h.elim
theorem h_qcc:Holds Tryz.prog 18 con_qcc:=by
 refine holds_of_ev (rt:=[.c (.sl .int)]) (T:=TT) (Γ:=cs_qcc) (an:=an_qcc) (N:=32) (c:=Tryz.f18.body.getD .skip) Tryz.func18 (by kernel_rfl) Tryz.ntmps18 (by decide) (by decide) mixed tabOK cok_qcc (by kernel_rfl) ?_
 intro vs kk _ hF
 exact i_qcc (motive:=fun vs=>Goes (V_qcc vs kk)) hF (fun a b d hF=>goes_of (e_qcc a b d kk) (F_qcc_S hF))
def K_qcd (kk:AK):LI→LT→Int→Bool→Prop:=(fun a b d e=>kk (.tup [.agg [.ro .int a,.ro .iib b,vi d],.c (.v (.bool e))]) [])
def con_qcd:Con:=⟨[.rd],true,[.agg [.sl .int,.sl .iib,.sc]],fun vs k=>match vs with
  | [.agg [.ro .int a,.ro .iib b,.v (.int .i64 c)]]=>F_qcd a b c (K_qcd k)
  | _=>False,false⟩
def cl_qcd:List (FuncId×Con):=[(35,con_qdu),(36,con_qcv)]
def nm0_qcd:List NStep:=[.keep [2,4,5] [32,64,176,177]]
def an_qcd:Ann:=⟨[(7,.take 0 (.take 1 (.take 2 (.take 3 (.take 4 (.take 5 (.take 6 (.take 7 (.take 8 (.take 9 (.take 10 (.take 11 (.take 12 (.take 13 (.take 14 (.alt 15 (.done) (.none)))))))))))))))),[64,177])],[(5,nm0_qcd)],[],[]⟩
def cs_qcd:Cons:=⟨cl_qcd,[],0,[],[],[]⟩
def can0_qcd (a e:Int) (d:LI) (b:LT):St:=⟨[(2,.one (.c (.pb 32 0))),(4,.one (.c (.pb 64 0))),(5,.one (.c (vi e)))],[(32,.box [.nil,.nil,vi 0]),(64,.box [.ow 176,.ow 177,vi a]),(176,.row .int d),(177,.row .iib b)]⟩
def fin_qcd (a:LI) (b:LT) (d:Int) (kk:AK):Kt:=fin TT con_qcd Tryz.f19.results.toList [.agg [.sl .int,.sl .iib,.sc],.c .sc] [.agg [.ro .int a,.ro .iib b,vi d]] kk
def V_qcd (vs:List A1) (kk:AK):Prop:=ev TT cs_qcd 40 an_qcd (Tryz.f19.body.getD .skip) (st0 con_qcd vs) (fin TT con_qcd Tryz.f19.results.toList [.agg [.sl .int,.sl .iib,.sc],.c .sc] vs kk)
def kt0_qcd (kf:Kt):Kt:=blockK 0 (seqK (evF TT cs_qcd 40 an_qcd Tryz.f19 [1,1,1,1]) (kf))
def I0_qcd (a:LI) (b:LT) (c:Int) (kk:AK):Nat→St→Prop:=iter (evF TT cs_qcd 40 an_qcd Tryz.f19 [1,1,1,0,1,0,0]) nm0_qcd (kt0_qcd (fin_qcd a b c kk))
theorem r0_qcd (c:LI) (d:LT) (f a:Int) (kk:AK) (n:Nat) (g:Int) (e:LI) (b:LT) :
  I0_qcd c d f kk (n+1) (can0_qcd a g e b)=T0_qcd a g e b (K_qcd kk) (fun g e b=>I0_qcd c d f kk n (can0_qcd a g e b)):=by kernel_rfl
theorem l0_qcd (d:LI) (e:LT) (g a:Int) (kk:AK):∀ (n:Nat) (f:Int) (c:LI) (b:LT),I0_qcd d e g kk n (can0_qcd a f c b)=L0_qcd a (K_qcd kk) n f c b:=by
 intro n
 induction n with
 | zero=>intros; rfl
 | succ n ih=>
  intro f c b
  rw [r0_qcd d e g a kk n f c b]
  have hb:(fun f c b=>I0_qcd d e g kk n (can0_qcd a f c b))=L0_qcd a (K_qcd kk) n:=by
   funext f c b; exact ih f c b
  rw [hb]
  rw [T0_qcd_eq]
  rfl
theorem g_qcd (b:LI) (c:LT) (d:Int) (kk:AK) :
  V_qcd [.agg [.ro .int b,.ro .iib c,vi d]] kk=G_qcd b c d (K_qcd kk) (fun a g f e=>∃ j,I0_qcd b c d kk j (can0_qcd a g f e)):=by kernel_rfl
theorem e_qcd (b:LI) (c:LT) (d:Int) (kk:AK) :
  V_qcd [.agg [.ro .int b,.ro .iib c,vi d]] kk=S_qcd b c d (K_qcd kk):=by
 rw [g_qcd]
 have hi0:(fun a g f e=>∃ j,I0_qcd b c d kk j (can0_qcd a g f e))=(fun a g f e=>∃ j,L0_qcd a (K_qcd kk) j g f e):=by
  funext a g f e
  refine congrArg Exists (funext fun j=>?_)
  rw [l0_qcd b c d a kk j g f e]
 rw [hi0]
 rfl
theorem clok_qcd:ConOK Tryz.prog cl_qcd:=consCons h_qdu (pf (by kernel_rfl)) (consCons h_qcv (pf (by kernel_rfl)) (consNil))
theorem cok_qcd:ConsOK Tryz.prog 40 cs_qcd:=⟨clok_qcd,inlNil,ovNil⟩
theorem i_qcd {vs:List A1} {kk:AK} {motive:List A1→Prop} (h:con_qcd.F vs kk) (H:∀ (a:LI) (b:LT) (c:Int),F_qcd a b c (K_qcd kk)→motive [.agg [.ro .int a,.ro .iib b,vi c]]):motive vs:=by
 unfold con_qcd at h
 dsimp only at h
 split at h
 ·exact H _ _ _ h
 ·exact h.elim
theorem h_qcd:Holds Tryz.prog 19 con_qcd:=by
 refine holds_of_ev (rt:=[.agg [.sl .int,.sl .iib,.sc],.c .sc]) (T:=TT) (Γ:=cs_qcd) (an:=an_qcd) (N:=40) (c:=Tryz.f19.body.getD .skip) Tryz.func19 (by kernel_rfl) Tryz.ntmps19 (by decide) (by decide) mixed tabOK cok_qcd (by kernel_rfl) ?_
 intro vs kk _ hF
 exact i_qcd (motive:=fun vs=>Goes (V_qcd vs kk)) hF (fun a b d hF=>goes_of (e_qcd a b d kk) (F_qcd_S hF))
def K_qcl (kk:AK):ByteArray→Prop:=(fun a=>kk (.one (.c (.v (.string a)))) [])
def con_qcl:Con:=⟨[.rd],true,[.c (.sl .str)],fun vs k=>match vs with
  | [.c (.ro .str a)]=>F_qcl a (K_qcl k)
  | _=>False,false⟩
def cl_qcl:List (FuncId×Con):=[(11,con_qdq),(13,con_qdi),(16,con_qce),(17,con_qcz),(18,con_qcc),(19,con_qcd),(22,con_qcf),(24,con_qcw),(25,con_qdk),(26,con_qcm),(27,con_qck),(28,con_qch),(29,con_qcg),(30,con_qcj),(31,con_qci),(32,con_qcb),(46,con_qct)]
def nm0_qcl:List NStep:=[.ownc 176 0 .int 90000,.ownc 176 1 .iib 90001,.ownc 176 3 .int 90002,.keep [0,3,4,5] [176,90000,90001,90002]]
def an_qcl_i6:Ann:=⟨[],[],[],[]⟩
def cs_qcl_i6:Cons:=⟨cl_qcl,[],4176,[],[],[]⟩
def an_qcl_i5:Ann:=⟨[(1,.take 0 (.take 1 (.take 2 (.take 3 (.take 5 (.take 6 (.take 7 (.alt 4 (.alt 8 (.take 9 (.take 10 (.take 11 (.take 12 (.alt 13 (.take 14 (.take 15 (.alt 16 (.done) (.none)))) (.none)))))) (.none)) (.alt 8 (.take 9 (.take 10 (.take 11 (.alt 4 (.take 12 (.alt 13 (.take 14 (.take 15 (.alt 16 (.done) (.none)))) (.none))) (.none))))) (.none))))))))),[])],[],[],[]⟩
def cs_qcl_i5:Cons:=⟨cl_qcl,[],3664,[],[],[]⟩
def an_qcl_i4:Ann:=⟨[],[],[],[]⟩
def cs_qcl_i4:Cons:=⟨cl_qcl,[(38,⟨23,inlG TT cs_qcl_i5 39 31 an_qcl_i5 (Tryz.f23.body.getD .skip) Tryz.f23.results.toList⟩)],3024,[],[],[]⟩
def an_qcl_i3:Ann:=⟨[(1,.take 0 (.take 1 (.take 2 (.take 3 (.take 5 (.take 6 (.take 7 (.alt 4 (.alt 8 (.take 9 (.take 10 (.take 11 (.take 12 (.alt 13 (.take 14 (.take 15 (.alt 16 (.done) (.none)))) (.none)))))) (.none)) (.alt 8 (.take 9 (.take 10 (.take 11 (.alt 4 (.take 12 (.alt 13 (.take 14 (.take 15 (.alt 16 (.done) (.none)))) (.none))) (.none))))) (.none))))))))),[])],[],[],[]⟩
def cs_qcl_i3:Cons:=⟨cl_qcl,[],2512,[],[],[]⟩
def an_qcl_i2:Ann:=⟨[],[],[],[]⟩
def cs_qcl_i2:Cons:=⟨cl_qcl,[(26,⟨23,inlG TT cs_qcl_i3 29 31 an_qcl_i3 (Tryz.f23.body.getD .skip) Tryz.f23.results.toList⟩)],2032,[],[],[]⟩
def an_qcl_i1:Ann:=⟨[(5,.take 0 (.take 1 (.take 2 (.take 5 (.take 6 (.alt 3 (.alt 4 (.alt 7 (.alt 8 (.take 9 (.done)) (.none)) (.none)) (.alt 7 (.alt 4 (.alt 8 (.take 9 (.done)) (.none)) (.none)) (.none))) (.alt 7 (.alt 3 (.alt 4 (.alt 8 (.take 9 (.done)) (.none)) (.none)) (.none)) (.none))))))),[]),(7,.take 0 (.take 1 (.take 2 (.take 4 (.take 5 (.alt 3 (.alt 6 (.alt 7 (.alt 8 (.take 9 (.done)) (.none)) (.none)) (.none)) (.alt 6 (.alt 3 (.alt 7 (.alt 8 (.take 9 (.done)) (.none)) (.none)) (.alt 7 (.alt 3 (.alt 8 (.take 9 (.done)) (.none)) (.none)) (.none))) (.none))))))),[])],[],[],[]⟩
def cs_qcl_i1:Cons:=⟨cl_qcl,[(23,⟨12,inlG TT cs_qcl_i2 93 29 an_qcl_i2 (Tryz.f12.body.getD .skip) Tryz.f12.results.toList⟩),(42,⟨14,inlG TT cs_qcl_i4 93 39 an_qcl_i4 (Tryz.f14.body.getD .skip) Tryz.f14.results.toList⟩),(61,⟨15,inlG TT cs_qcl_i6 93 76 an_qcl_i6 (Tryz.f15.body.getD .skip) Tryz.f15.results.toList⟩)],528,[],[],[]⟩
def an_qcl:Ann:=⟨[],[(4,nm0_qcl)],[],[]⟩
def cs_qcl:Cons:=⟨cl_qcl,[(28,⟨9,inlG TT cs_qcl_i1 32 93 an_qcl_i1 (Tryz.f9.body.getD .skip) Tryz.f9.results.toList⟩)],0,[],[],[]⟩
def can0_qcl (a:LB) (g:ByteArray) (h b:Int) (d:LI) (e:LT) (f:LI):St:=⟨[(0,.one (.c (.ro .str a))),(3,.one (.c (.pb 176 0))),(4,.one (.c (.v (.string g)))),(5,.one (.c (vi h)))],[(176,.box [.ow 90000,.ow 90001,vi b,.ow 90002]),(90000,.row .int d),(90001,.row .iib e),(90002,.row .int f)]⟩
def fin_qcl (a:LB) (kk:AK):Kt:=fin TT con_qcl Tryz.f5.results.toList [.c .sc] [.c (.ro .str a)] kk
def V_qcl (vs:List A1) (kk:AK):Prop:=ev TT cs_qcl 32 an_qcl (Tryz.f5.body.getD .skip) (st0 con_qcl vs) (fin TT con_qcl Tryz.f5.results.toList [.c .sc] vs kk)
def kt0_qcl (kf:Kt):Kt:=blockK 0 (seqK (evF TT cs_qcl 32 an_qcl Tryz.f5 [1,1,1,1]) (kf))
def I0_qcl (a:LB) (kk:AK):Nat→St→Prop:=iter (evF TT cs_qcl 32 an_qcl Tryz.f5 [1,1,1,0,1,0,0]) nm0_qcl (kt0_qcl (fin_qcl a kk))
theorem r0_qcl (a:LB) (kk:AK) (n:Nat) (f:ByteArray) (g b:Int) (c:LI) (d:LT) (e:LI) :
  I0_qcl a kk (n+1) (can0_qcl a f g b c d e)=T0_qcl a f g b c d e (K_qcl kk) (fun f g b c d e=>I0_qcl a kk n (can0_qcl a f g b c d e)):=by kernel_rfl
theorem l0_qcl (e:LB) (kk:AK):∀ (n:Nat) (f:ByteArray) (g a:Int) (b:LI) (c:LT) (d:LI),I0_qcl e kk n (can0_qcl e f g a b c d)=L0_qcl e (K_qcl kk) n f g a b c d:=by
 intro n
 induction n with
 | zero=>intros; rfl
 | succ n ih=>
  intro f g a b c d
  rw [r0_qcl e kk n f g a b c d]
  have hb:(fun f g a b c d=>I0_qcl e kk n (can0_qcl e f g a b c d))=L0_qcl e (K_qcl kk) n:=by
   funext f g a b c d; exact ih f g a b c d
  rw [hb]
  rw [T0_qcl_eq]
  rfl
theorem g_qcl (a:LB) (kk:AK) :
  V_qcl [.c (.ro .str a)] kk=G_qcl a (fun a g h b d e f=>∃ j,I0_qcl a kk j (can0_qcl a g h b d e f)):=by kernel_rfl
theorem e_qcl (a:LB) (kk:AK) :
  V_qcl [.c (.ro .str a)] kk=S_qcl a (K_qcl kk):=by
 rw [g_qcl]
 have hi0:(fun a g h b d e f=>∃ j,I0_qcl a kk j (can0_qcl a g h b d e f))=(fun a g h b d e f=>∃ j,L0_qcl a (K_qcl kk) j g h b d e f):=by
  funext a g h b d e f
  refine congrArg Exists (funext fun j=>?_)
  rw [l0_qcl a kk j g h b d e f]
 rw [hi0]
 rfl
theorem clok_qcl:ConOK Tryz.prog cl_qcl:=consCons h_qdq (pf (by kernel_rfl)) (consCons h_qdi (pf (by kernel_rfl)) (consCons h_qce (pf (by kernel_rfl)) (consCons h_qcz (pf (by kernel_rfl)) (consCons h_qcc (pf (by kernel_rfl)) (consCons h_qcd (pf (by kernel_rfl)) (consCons h_qcf (pf (by kernel_rfl)) (consCons h_qcw (pf (by kernel_rfl)) (consCons h_qdk (pf (by kernel_rfl)) (consCons h_qcm (pf (by kernel_rfl)) (consCons h_qck (pf (by kernel_rfl)) (consCons h_qch (pf (by kernel_rfl)) (consCons h_qcg (pf (by kernel_rfl)) (consCons h_qcj (pf (by kernel_rfl)) (consCons h_qci (pf (by kernel_rfl)) (consCons h_qcb (pf (by kernel_rfl)) (consCons h_qct (pf (by kernel_rfl)) (consNil)))))))))))))))))
theorem cok_qcl_i6:ConsOK Tryz.prog 76 cs_qcl_i6:=⟨clok_qcl,inlNil,ovNil⟩
theorem cok_qcl_i5:ConsOK Tryz.prog 31 cs_qcl_i5:=⟨clok_qcl,inlNil,ovNil⟩
theorem cok_qcl_i4:ConsOK Tryz.prog 39 cs_qcl_i4:=⟨clok_qcl,inlCons (inl_ok Tryz.func23 (by kernel_rfl) (ne_of_beq (by kernel_rfl)) Tryz.ntmps23 (by decide) mixed tabOK cok_qcl_i5 (by kernel_rfl)) (inlNil),ovNil⟩
theorem cok_qcl_i3:ConsOK Tryz.prog 31 cs_qcl_i3:=⟨clok_qcl,inlNil,ovNil⟩
theorem cok_qcl_i2:ConsOK Tryz.prog 29 cs_qcl_i2:=⟨clok_qcl,inlCons (inl_ok Tryz.func23 (by kernel_rfl) (ne_of_beq (by kernel_rfl)) Tryz.ntmps23 (by decide) mixed tabOK cok_qcl_i3 (by kernel_rfl)) (inlNil),ovNil⟩
theorem cok_qcl_i1:ConsOK Tryz.prog 93 cs_qcl_i1:=⟨clok_qcl,inlCons (inl_ok Tryz.func12 (by kernel_rfl) (ne_of_beq (by kernel_rfl)) Tryz.ntmps12 (by decide) mixed tabOK cok_qcl_i2 (by kernel_rfl)) (inlCons (inl_ok Tryz.func14 (by kernel_rfl) (ne_of_beq (by kernel_rfl)) Tryz.ntmps14 (by decide) mixed tabOK cok_qcl_i4 (by kernel_rfl)) (inlCons (inl_ok Tryz.func15 (by kernel_rfl) (ne_of_beq (by kernel_rfl)) Tryz.ntmps15 (by decide) mixed tabOK cok_qcl_i6 (by kernel_rfl)) (inlNil))),ovNil⟩
theorem cok_qcl:ConsOK Tryz.prog 32 cs_qcl:=⟨clok_qcl,inlCons (inl_ok Tryz.func9 (by kernel_rfl) (ne_of_beq (by kernel_rfl)) Tryz.ntmps9 (by decide) mixed tabOK cok_qcl_i1 (by kernel_rfl)) (inlNil),ovNil⟩
theorem i_qcl {vs:List A1} {kk:AK} {motive:List A1→Prop} (h:con_qcl.F vs kk) (H:∀ (a:LB),F_qcl a (K_qcl kk)→motive [.c (.ro .str a)]):motive vs:=by
 unfold con_qcl at h
 dsimp only at h
 split at h
 ·exact H _ h
 ·exact h.elim
theorem h_qcl:Holds Tryz.prog 5 con_qcl:=by
 refine holds_of_ev (rt:=[.c .sc]) (T:=TT) (Γ:=cs_qcl) (an:=an_qcl) (N:=32) (c:=Tryz.f5.body.getD .skip) Tryz.func5 (by kernel_rfl) Tryz.ntmps5 (by decide) (by decide) mixed tabOK cok_qcl (by kernel_rfl) ?_
 intro vs kk _ hF
 exact i_qcl (motive:=fun vs=>Goes (V_qcl vs kk)) hF (fun a hF=>goes_of (e_qcl a kk) (F_qcl_S hF))
def con_qed:Con:=⟨[.rd,.rd],true,[.c (.sc),.c (.sc)],fun vs k=>match vs with
  | [.c (.v (.string a)),.c (.v (.int .i64 b))]=>F_qed a b (fun d=>k (.one (.c (.ro .str d))) [])
  | _=>False,false⟩
theorem h_qed:Holds Tryz.prog 58 con_qed:=by
 intro vs kk hF
 unfold con_qed at hF
 dsimp only at hF
 split at hF
 ·exact (hF:False).elim
 ·exact hF.elim
def con_qdz:Con:=⟨[.rd,.rd],true,[.c (.sc),.c (.sc)],fun vs k=>match vs with
  | [.c (.v (.string a)),.c (.v (.string b))]=>F_qdz a b (fun d=>k (.one (.c (.v (.int .i64 d)))) [])
  | _=>False,false⟩
theorem count_byte {c : Int} (hc : 0 ≤ c ∧ c ≤ 255) : ∀ {a : List Int}, BS a → (a.map (fun x => UInt8.ofNat x.toNat)).count (UInt8.ofNat c.toNat) = a.count c
 | [], _ => rfl
 | x :: a, h => by
  have ih := count_byte hc (a := a) fun y hy => h y (List.mem_cons_of_mem _ hy)
  rw [List.map_cons, List.count_cons, List.count_cons, ih]
  by_cases e : x = c
  ·subst e; rw [beq_self_eq_true, beq_self_eq_true]
  ·rw [beq_eq_false_iff_ne.2 e, beq_eq_false_iff_ne.2 fun q => e (u8_inj (h x List.mem_cons_self) hc q)]
theorem h_qdz : Holds Tryz.prog 59 con_qdz := by
 refine holds_plain rfl fun vs kk hF w vals S μ hlen hG hv => ?_
 clear hlen
 unfold con_qdz at hF
 dsimp only at hF
 split at hF
 ·rename_i s sep
  obtain ⟨a, c, ⟨hb, rfl⟩, ⟨hc, rfl⟩, hk⟩ := hF
  match vals, hv with
  | [y, z], hv =>
   obtain ⟨hy, hz, _⟩ := hv
   have hy : y = .string (strOfNums a) := hy
   have hz : z = .string (strOfNums [c]) := hz
   subst hy; subst hz
   refine (Tryz.strings_Count_one (strOfNums a) (UInt8.ofNat c.toNat) w).mono ?_
   rintro e w' ⟨rfl, rfl⟩
   refine ⟨_, _, hk, rfl, Fr.refl _ _, fun _ => rfl, fun _ _ _ => ?_⟩
   show Value.int .i64 ((List.count (UInt8.ofNat c.toNat) (strOfNums a).data.toList : Nat) : Int) = _
   rw [str_data, show ((a.map fun n => UInt8.ofNat n.toNat).toArray.toList) = a.map fun n => UInt8.ofNat n.toNat from rfl, count_byte hc hb]
 ·exact hF.elim
def con_qbl:Con:=⟨[.rd,.rd],true,[.c (.sc),.c (.sc)],fun vs k=>match vs with
  | [.c (.v (.string a)),.c (.v (.string b))]=>F_qbl a b (fun d=>k (.one (.c (.v (.int .i64 d)))) [])
  | _=>False,false⟩
theorem str_listI (a : List Int) : (strOfNums a).data.toList = a.map (fun x => UInt8.ofNat x.toNat) := by rw [str_data]
theorem find_byte {c : Int} (hc : 0 ≤ c ∧ c ≤ 255) : ∀ {a : List Int}, BS a → Lib.indexByte (a.map (fun x => UInt8.ofNat x.toNat)) (UInt8.ofNat c.toNat) = findB c a
 | [], _ => rfl
 | x :: a, h => by
  have ih := find_byte hc (a := a) fun y hy => h y (List.mem_cons_of_mem _ hy)
  rw [List.map_cons, Lib.indexByte, findB, ih]
  by_cases e : x = c
  ·subst e; rw [if_pos rfl, if_pos (by simp)]
  ·rw [if_neg e, if_neg (fun q => e (u8_inj (h x List.mem_cons_self) hc (by simpa using q)))]
   by_cases f : findB c a = -1
   ·rw [if_pos f, if_pos (by simp [f])]
   ·rw [if_neg f, if_neg (by simp [f])]
theorem h_qbl : Holds Tryz.prog 84 con_qbl := by
 refine holds_plain rfl fun vs kk hF w vals S μ hlen hG hv => ?_
 clear hlen
 unfold con_qbl at hF
 dsimp only at hF
 split at hF
 ·rename_i s sep
  obtain ⟨a, c, ⟨hb, rfl⟩, ⟨hc, rfl⟩, hk⟩ := hF
  match vals, hv with
  | [y, z], hv =>
   obtain ⟨hy, hz, _⟩ := hv
   have hy : y = .string (strOfNums a) := hy
   have hz : z = .string (strOfNums [c]) := hz
   subst hy; subst hz
   refine (Tryz.stringslite_Index_one (strOfNums a) (UInt8.ofNat c.toNat) w).mono ?_
   rintro e w' ⟨rfl, rfl⟩
   refine ⟨_, _, hk, rfl, Fr.refl _ _, fun _ => rfl, fun _ _ _ => ?_⟩
   show Value.int .i64 _ = _
   rw [str_listI, find_byte hc hb]
 ·exact hF.elim
def K_qea (kk:AK):Int→Prop:=(fun a=>kk (.one (.c (vi a))) [])
def con_qea:Con:=⟨[.rd,.rd],true,[.c (.sc),.c (.sc)],fun vs k=>match vs with
  | [.c (.v (.string b)),.c (.v (.string a))]=>F_qea b a (K_qea k)
  | _=>False,false⟩
def cl_qea:List (FuncId×Con):=[(84,con_qbl)]
def an_qea:Ann:=⟨[],[],[],[]⟩
def cs_qea:Cons:=⟨cl_qea,[],0,[],[],[]⟩
def fin_qea (b a:ByteArray) (kk:AK):Kt:=fin TT con_qea Tryz.f60.results.toList [.c .sc] [.c (.v (.string b)),.c (.v (.string a))] kk
def V_qea (vs:List A1) (kk:AK):Prop:=ev TT cs_qea 8 an_qea (Tryz.f60.body.getD .skip) (st0 con_qea vs) (fin TT con_qea Tryz.f60.results.toList [.c .sc] vs kk)
theorem g_qea (b a:ByteArray) (kk:AK) :
  V_qea [.c (.v (.string b)),.c (.v (.string a))] kk=G_qea b a (K_qea kk):=by kernel_rfl
theorem e_qea (b a:ByteArray) (kk:AK) :
  V_qea [.c (.v (.string b)),.c (.v (.string a))] kk=S_qea b a (K_qea kk):=by
 rw [g_qea]
 rfl
theorem clok_qea:ConOK Tryz.prog cl_qea:=consCons h_qbl (pf (by kernel_rfl)) (consNil)
theorem cok_qea:ConsOK Tryz.prog 8 cs_qea:=⟨clok_qea,inlNil,ovNil⟩
theorem i_qea {vs:List A1} {kk:AK} {motive:List A1→Prop} (h:con_qea.F vs kk) (H:∀ (b a:ByteArray),F_qea b a (K_qea kk)→motive [.c (.v (.string b)),.c (.v (.string a))]):motive vs:=by
 unfold con_qea at h
 dsimp only at h
 split at h
 ·exact H _ _ h
 ·exact h.elim
theorem h_qea:Holds Tryz.prog 60 con_qea:=by
 refine holds_of_ev (rt:=[.c .sc]) (T:=TT) (Γ:=cs_qea) (an:=an_qea) (N:=8) (c:=Tryz.f60.body.getD .skip) Tryz.func60 (by kernel_rfl) Tryz.ntmps60 (by decide) (by decide) mixed tabOK cok_qea (by kernel_rfl) ?_
 intro vs kk _ hF
 exact i_qea (motive:=fun vs=>Goes (V_qea vs kk)) hF (fun b a hF=>goes_of (e_qea b a kk) (F_qea_S hF))
def K_qee (kk:AK):LB→Prop:=(fun a=>kk (.one (.c (.ro .str a))) [])
def con_qee:Con:=⟨[.rd,.rd,.rd,.rd],true,[.c (.sc),.c (.sc),.c (.sc),.c (.sc)],fun vs k=>match vs with
  | [.c (.v (.string d)),.c (.v (.string b)),.c (.v (.int .i64 a)),.c (.v (.int .i64 e))]=>F_qee d b a e (K_qee k)
  | _=>False,false⟩
def cl_qee:List (FuncId×Con):=[(58,con_qed),(59,con_qdz),(60,con_qea)]
def nm0_qee:List NStep:=[.keep [0,1,2,3,9,10] [496]]
def an_qee:Ann:=⟨[],[(11,nm0_qee)],[],[]⟩
def cs_qee:Cons:=⟨cl_qee,[],0,[],[],[]⟩
def can0_qee (b:ByteArray) (a:Int) (f:ByteArray) (g d:Int) (e:LB):St:=⟨[(0,.one (.c (.v (.string f)))),(1,.one (.c (.v (.string b)))),(2,.one (.c (vi a))),(3,.one (.c (vi g))),(9,.one (.c (.ow 496))),(10,.one (.c (vi d)))],[(496,.row .str e)]⟩
def fin_qee (d b:ByteArray) (a e:Int) (kk:AK):Kt:=fin TT con_qee Tryz.f37.results.toList [.c (.sl .str)] [.c (.v (.string d)),.c (.v (.string b)),.c (vi a),.c (vi e)] kk
def V_qee (vs:List A1) (kk:AK):Prop:=ev TT cs_qee 66 an_qee (Tryz.f37.body.getD .skip) (st0 con_qee vs) (fin TT con_qee Tryz.f37.results.toList [.c (.sl .str)] vs kk)
def kt0_qee (kf:Kt):Kt:=blockK 0 (seqK (evF TT cs_qee 66 an_qee Tryz.f37 [1,1,1,1,1,1,1,1,1]) (kf))
def I0_qee (c b:ByteArray) (a d:Int) (kk:AK):Nat→St→Prop:=iter (evF TT cs_qee 66 an_qee Tryz.f37 [1,1,1,1,1,1,1,1,0,0,0]) nm0_qee (kt0_qee (fin_qee c b a d kk))
theorem r0_qee (g b:ByteArray) (a h:Int) (kk:AK) (n:Nat) (e:ByteArray) (f c:Int) (d:LB) :
  I0_qee g b a h kk (n+1) (can0_qee b a e f c d)=T0_qee b a e f c d (K_qee kk) (fun e f c d=>I0_qee g b a h kk n (can0_qee b a e f c d)):=by kernel_rfl
theorem l0_qee (g d:ByteArray) (a h:Int) (kk:AK):∀ (n:Nat) (e:ByteArray) (f b:Int) (c:LB),I0_qee g d a h kk n (can0_qee d a e f b c)=L0_qee d a (K_qee kk) n e f b c:=by
 intro n
 induction n with
 | zero=>intros; rfl
 | succ n ih=>
  intro e f b c
  rw [r0_qee g d a h kk n e f b c]
  simp only [ih] <;> rfl
theorem g_qee (d b:ByteArray) (a e:Int) (kk:AK) :
  V_qee [.c (.v (.string d)),.c (.v (.string b)),.c (vi a),.c (vi e)] kk=G_qee d b a e (K_qee kk) (fun b a h i f g=>∃ j,I0_qee d b a e kk j (can0_qee b a h i f g)):=by kernel_rfl
theorem e_qee (h b:ByteArray) (a i:Int) (kk:AK) :
  V_qee [.c (.v (.string h)),.c (.v (.string b)),.c (vi a),.c (vi i)] kk=S_qee h b a i (K_qee kk):=by
 rw [g_qee]
 have hi0:(fun b a f g d e=>∃ j,I0_qee h b a i kk j (can0_qee b a f g d e))=(fun b a f g d e=>∃ j,L0_qee b a (K_qee kk) j f g d e):=by
  funext b a f g d e
  refine congrArg Exists (funext fun j=>?_)
  rw [l0_qee h b a i kk j f g d e]
 rw [hi0]
 rfl
theorem clok_qee:ConOK Tryz.prog cl_qee:=consCons h_qed (pf (by kernel_rfl)) (consCons h_qdz (pf (by kernel_rfl)) (consCons h_qea (pf (by kernel_rfl)) (consNil)))
theorem cok_qee:ConsOK Tryz.prog 66 cs_qee:=⟨clok_qee,inlNil,ovNil⟩
theorem i_qee {vs:List A1} {kk:AK} {motive:List A1→Prop} (h:con_qee.F vs kk) (H:∀ (d b:ByteArray) (a e:Int),F_qee d b a e (K_qee kk)→motive [.c (.v (.string d)),.c (.v (.string b)),.c (vi a),.c (vi e)]):motive vs:=by
 unfold con_qee at h
 dsimp only at h
 split at h
 ·exact H _ _ _ _ h
 ·exact h.elim
theorem h_qee:Holds Tryz.prog 37 con_qee:=by
 refine holds_of_ev (rt:=[.c (.sl .str)]) (T:=TT) (Γ:=cs_qee) (an:=an_qee) (N:=66) (c:=Tryz.f37.body.getD .skip) Tryz.func37 (by kernel_rfl) Tryz.ntmps37 (by decide) (by decide) mixed tabOK cok_qee (by kernel_rfl) ?_
 intro vs kk _ hF
 exact i_qee (motive:=fun vs=>Goes (V_qee vs kk)) hF (fun d b a e hF=>goes_of (e_qee d b a e kk) (F_qee_S hF))
def K_qec (kk:AK):LB→Prop:=(fun a=>kk (.one (.c (.ro .str a))) [])
def con_qec:Con:=⟨[.rd,.rd],true,[.c (.sc),.c (.sc)],fun vs k=>match vs with
  | [.c (.v (.string b)),.c (.v (.string a))]=>F_qec b a (K_qec k)
  | _=>False,false⟩
def cl_qec:List (FuncId×Con):=[(37,con_qee)]
def an_qec:Ann:=⟨[],[],[],[]⟩
def cs_qec:Cons:=⟨cl_qec,[],0,[],[],[]⟩
def fin_qec (b a:ByteArray) (kk:AK):Kt:=fin TT con_qec Tryz.f20.results.toList [.c (.sl .str)] [.c (.v (.string b)),.c (.v (.string a))] kk
def V_qec (vs:List A1) (kk:AK):Prop:=ev TT cs_qec 8 an_qec (Tryz.f20.body.getD .skip) (st0 con_qec vs) (fin TT con_qec Tryz.f20.results.toList [.c (.sl .str)] vs kk)
theorem g_qec (b a:ByteArray) (kk:AK) :
  V_qec [.c (.v (.string b)),.c (.v (.string a))] kk=G_qec b a (K_qec kk):=by kernel_rfl
theorem e_qec (b a:ByteArray) (kk:AK) :
  V_qec [.c (.v (.string b)),.c (.v (.string a))] kk=S_qec b a (K_qec kk):=by
 rw [g_qec]
 rfl
theorem clok_qec:ConOK Tryz.prog cl_qec:=consCons h_qee (pf (by kernel_rfl)) (consNil)
theorem cok_qec:ConsOK Tryz.prog 8 cs_qec:=⟨clok_qec,inlNil,ovNil⟩
theorem i_qec {vs:List A1} {kk:AK} {motive:List A1→Prop} (h:con_qec.F vs kk) (H:∀ (b a:ByteArray),F_qec b a (K_qec kk)→motive [.c (.v (.string b)),.c (.v (.string a))]):motive vs:=by
 unfold con_qec at h
 dsimp only at h
 split at h
 ·exact H _ _ h
 ·exact h.elim
theorem h_qec:Holds Tryz.prog 20 con_qec:=by
 refine holds_of_ev (rt:=[.c (.sl .str)]) (T:=TT) (Γ:=cs_qec) (an:=an_qec) (N:=8) (c:=Tryz.f20.body.getD .skip) Tryz.func20 (by kernel_rfl) Tryz.ntmps20 (by decide) (by decide) mixed tabOK cok_qec (by kernel_rfl) ?_
 intro vs kk _ hF
 exact i_qec (motive:=fun vs=>Goes (V_qec vs kk)) hF (fun b a hF=>goes_of (e_qec b a kk) (F_qec_S hF))
def con_qdx:Con:=⟨[.rd],true,[.c (.sc)],fun vs k=>match vs with
  | [.c (.v (.string a))]=>F_qdx a (fun b d=>k (.tup [.c (.v (.int .i64 b)),.c (.v d)]) [])
  | _=>False,false⟩
theorem str_listA (a : List Int) : (strOfNums a).data.toList = a.map (fun x => UInt8.ofNat x.toNat) := by rw [str_data]
theorem from_snoc (b : UInt8) (d : Nat) (hb : Lib.digitVal b = some d) : ∀ (l : List UInt8) (acc m : Nat), Lib.decFrom acc l = some m → Lib.decFrom acc (l ++ [b]) = some (m * 10 + d)
 | [], acc, m, h => by
  injection h with h; subst h
  rw [List.nil_append, Lib.decFrom, hb]; rfl
 | x :: l, acc, m, h => by
  rw [List.cons_append, Lib.decFrom]
  rw [Lib.decFrom] at h
  cases hx : Lib.digitVal x with
  | none => rw [hx] at h; cases h
  | some y => rw [hx] at h; exact from_snoc b d hb l _ m h
theorem dig_val {x : Int} (h : 0 ≤ x ∧ x ≤ 9) : Lib.digitVal (UInt8.ofNat (48 + x).toNat) = some x.toNat := by
 have e : (UInt8.ofNat (48 + x).toNat).toNat = (48 + x).toNat := by
  rw [UInt8.toNat_ofNat']; omega
 unfold Lib.digitVal
 rw [e, if_pos ⟨by omega, by omega⟩]
 congr 1; omega
theorem from_dec : ∀ {f : Nat} {n : Int}, 0 ≤ n → n < (10 ^ f : Nat) → 1 ≤ f → Lib.decFrom 0 ((decF f n).map (fun x => UInt8.ofNat x.toNat)) = some n.toNat
 | 0, n, _, _, h => by omega
 | f + 1, n, h0, h, _ => by
  rw [decF]; split
  ·rw [List.map_singleton, Lib.decFrom, dig_val ⟨h0, by omega⟩]
   show some (0 * 10 + n.toNat) = _
   congr 1; omega
  ·rw [List.map_append, List.map_singleton]
   have e : (10 ^ (f + 1) : Nat) = 10 * 10 ^ f := by rw [Nat.pow_succ, Nat.mul_comm]
   by_cases hf : f = 0
   ·subst hf; have : n < 10 := h; omega
   ·rw [from_snoc _ _ (dig_val (x := n % 10) ⟨by omega, by omega⟩) _ _ _ (from_dec (f := f) (n := n / 10) (by omega) (by omega) (by omega))]
    congr 1; omega
theorem nat_dec {n : Int} (h : 0 ≤ n ∧ n ≤ 9999) : Lib.decNat ((decF 5 n).map (fun x => UInt8.ofNat x.toNat)) = some n.toNat := by
 unfold Lib.decNat
 rw [if_neg (by
  have := decF_ne (f := 5) (n := n) (by omega)
  cases e : decF 5 n with
  | nil => exact absurd e this
  | cons _ _ => simp)]
 exact from_dec h.1 (by have : ((10 ^ 5 : Nat) : Int) = 100000 := rfl; omega) (by omega)
theorem atoi_num {a : List Int} {n : Int} (h : NumB a n) : Lib.atoiAll (strOfNums a).data.toList = .ok n := by
 obtain ⟨hn, he, hl⟩ := h
 rw [str_listA, Lib.atoiAll_short _ (by rw [List.length_map]; omega)]
 subst he
 have key : Lib.atoi ((decB n).map (fun x => UInt8.ofNat x.toNat)) = some n := by
  rw [decB]
  split
  ·rename_i c
   rw [List.map_cons, show UInt8.ofNat (45 : Int).toNat = 45 from rfl, Lib.atoi, if_pos (by decide), nat_dec ⟨by omega, by omega⟩, Option.map_some]
   congr 1; omega
  ·rename_i c
   have hk := nat_dec (n := n) ⟨by omega, by omega⟩
   cases e : decF 5 n with
   | nil => exact absurd e (decF_ne (by omega))
   | cons x r =>
    have hx := decF_digits (f := 5) (n := n) (x := x) (by omega) (by rw [e]; exact List.mem_cons_self)
    rw [e] at hk
    have n1 : (UInt8.ofNat x.toNat == 45) = false := beq_eq_false_iff_ne.2 fun q => by
     have := u8_inj (x := x) (y := 45) (by omega) (by omega) q; omega
    have n2 : (UInt8.ofNat x.toNat == 43) = false := beq_eq_false_iff_ne.2 fun q => by
     have := u8_inj (x := x) (y := 43) (by omega) (by omega) q; omega
    rw [List.map_cons] at hk ⊢
    rw [Lib.atoi, n1, n2]
    simp only [Bool.false_eq_true, if_false]
    rw [hk, Option.map_some]
    congr 1; omega
 rw [key]; rfl
theorem nat_small {l : List UInt8} {m : Nat} (hl : l.length ≤ 4) (h : Lib.decNat l = some m) : m ≤ 9999 := by
 have hd : Lib.decFrom 0 l = some m := by
  unfold Lib.decNat at h
  split at h
  ·cases h
  ·exact h
 have h1 := Lib.decFrom_lt l 0 m hd
 have hp : 10 ^ l.length ≤ 10 ^ 4 := Nat.pow_le_pow_right (by decide) hl
 have e4 : (10 : Nat) ^ 4 = 10000 := by decide
 omega
theorem atoi_small {a : List Int} {v : Int} (h : Lib.atoiAll (strOfNums a).data.toList = .ok v) (hl : a.length ≤ 4) : -9999 ≤ v ∧ v ≤ 9999 := by
 rw [str_listA, Lib.atoiAll_short _ (by rw [List.length_map]; omega)] at h
 have hl2 : (a.map (fun x => UInt8.ofNat x.toNat)).length ≤ 4 := by rw [List.length_map]; exact hl
 generalize a.map (fun x => UInt8.ofNat x.toNat) = l at *
 cases l with
 | nil => cases h
 | cons b r =>
  rw [List.length_cons] at hl2
  have one : ∀ {l : List UInt8} {g : Nat → Int}, l.length ≤ 4 → (∀ m : Nat, m ≤ 9999 → -9999 ≤ g m ∧ g m ≤ 9999) → Lib.NumEnd.ofOption ((Lib.decNat l).map g) = .ok v → -9999 ≤ v ∧ v ≤ 9999 := fun {l g} h1 hg h2 => by
   cases e : Lib.decNat l with
   | none => rw [e] at h2; cases h2
   | some m =>
    rw [e] at h2
    injection h2 with h2
    have := hg m (nat_small h1 e)
    rw [← h2]; exact this
  rw [Lib.atoi] at h
  split at h
  ·exact one (by omega) (fun m hm => by omega) h
  ·split at h
   ·exact one (by omega) (fun m hm => by omega) h
   ·exact one (by rw [List.length_cons]; omega) (fun m hm => by omega) h
theorem h_qdx : Holds Tryz.prog 85 con_qdx := by
 refine holds_plain rfl fun vs kk hF w vals S μ hlen hG hv => ?_
 clear hlen
 unfold con_qdx at hF
 dsimp only at hF
 split at hF
 ·rename_i s
  obtain ⟨a, ⟨hb, rfl, hl⟩, hk⟩ := hF
  match vals, hv with
  | [y], hv =>
   obtain ⟨hy, _⟩ := hv
   have hy : y = .string (strOfNums a) := hy
   subst hy
   have hsz : (strOfNums a).size ≤ 1000000000 := by rw [str_size]; exact hl
   obtain ⟨e3, hc3, he3⟩ := hG.err (g := 3) (by simp [globs])
   obtain ⟨e4, hc4, he4⟩ := hG.err (g := 4) (by simp [globs])
   have hin : ∀ n, n = 0 ∨ n = Lib.atoiSat (strOfNums a).data.toList → InR n := fun n h => by
    have := Lib.atoiSat_bounds (strOfNums a).data.toList
    rcases h with rfl | rfl
    ·exact inR (by omega) (by omega)
    ·exact inR this.1 this.2
   rcases hc : Lib.atoiAll (strOfNums a).data.toList with v | _ | _
   ·refine (Tryz.strconv_Atoi_ok (strOfNums a) (by omega) v hc w).mono ?_
    rintro e w' ⟨rfl, hw⟩
    have hvb := Lib.atoiAll_bounds hc
    refine ⟨_, _, hk v .nilIface (inR hvb.1 hvb.2) rfl (fun _ h4 => atoi_small hc h4) (fun n hn => ⟨rfl, by have := atoi_num hn; rw [hc] at this; injection this⟩), rfl, ?_, fun _ => rfl, fun _ _ _ => ⟨_, rfl, rfl, rfl, trivial⟩⟩
    rcases hw with rfl | ⟨t, rfl⟩
    ·exact Fr.refl _ _
    ·exact Fr.of_below (Lib.bytesWorld_below _ _ _)
   ·refine Calls.mono (show Calls Tryz.prog 85 #[.string (strOfNums a)] w _ from Any.strconv_Atoi_syntax Tryz.laysC172 (strOfNums a) (by omega) hc e3 w hc3 he3) ?_
    rintro e w' ⟨N, rfl, _, _, hbel⟩
    exact ⟨_, _, hk 0 _ (hin _ (.inl rfl)) rfl (fun h => by cases h) (fun n hn => by have := atoi_num hn; rw [hc] at this; cases this), rfl, Fr.of_below hbel, fun _ => rfl, fun _ _ _ => ⟨_, rfl, rfl, rfl, trivial⟩⟩
   ·refine Calls.mono (show Calls Tryz.prog 85 #[.string (strOfNums a)] w _ from Any.strconv_Atoi_range Tryz.laysC172 (strOfNums a) (by omega) hc e4 w hc4 he4) ?_
    rintro e w' ⟨N, rfl, _, _, hbel⟩
    exact ⟨_, _, hk _ _ (hin _ (.inr rfl)) rfl (fun h => by cases h) (fun n hn => by have := atoi_num hn; rw [hc] at this; cases this), rfl, Fr.of_below hbel, fun _ => rfl, fun _ _ _ => ⟨_, rfl, rfl, rfl, trivial⟩⟩
 ·exact hF.elim
def con_qdy:Con:=⟨[.rd],true,[.c (.sc)],fun vs k=>match vs with
  | [.c (.v (.int .i64 a))]=>F_qdy a (fun b=>k (.one (.c (.v (.string b)))) [])
  | _=>False,false⟩
theorem dig_dec : ∀ (f n : Nat), n < f → n ≤ 9999 → Lib.decDigits n = (decB (n : Int)).map (fun x => UInt8.ofNat x.toNat)
 | 0, n, h, _ => by omega
 | f + 1, n, h, h2 => by
  rw [Lib.decDigits]
  split
  ·rename_i c
   rw [decB_small (by omega) (by omega), List.map_singleton, show (48 + (n : Int)).toNat = 48 + n by omega]
  ·rename_i c
   rw [decB_big (by omega) (by omega), List.map_append, List.map_singleton, show (n : Int) / 10 = ((n / 10 : Nat) : Int) by omega, ← dig_dec f (n / 10) (by omega) (by omega)]
   congr 3
theorem itoa_dec {n : Int} (h : -9999 ≤ n ∧ n ≤ 9999) : (⟨(Lib.itoa n).toArray⟩ : ByteArray) = strOfNums (decB n) := by
 have e : Lib.itoa n = (decB n).map (fun x => UInt8.ofNat x.toNat) := by
  unfold Lib.itoa
  split
  ·rename_i c
   obtain ⟨i, hi⟩ : ∃ i : Nat, (0 - n) = i := ⟨(0 - n).toNat, by omega⟩
   rw [show n.natAbs = i by omega, dig_dec (i + 1) i (by omega) (by omega), decB, decB, if_pos c, if_neg (by omega), hi, List.map_cons]
   rfl
  ·obtain ⟨i, rfl⟩ : ∃ i : Nat, n = i := ⟨n.toNat, by omega⟩
   rw [Int.toNat_natCast, dig_dec (i + 1) i (by omega) (by omega)]
 rw [e]; rfl
theorem pow_tab : ((List.range 20).map fun i => Value.int .u64 ((10 : Int) ^ i)).toArray = (Lib.pow10Tab.map fun z => Value.int .u64 z).toArray := by
 unfold Lib.pow10Tab
 rw [List.map_map]
 congr 1
theorem tab_at {w : World} (hG : GLm (fun _ => False) w) {name : String} (h : Tryz.prog.globalNamed name = some 5) : Lib.TabIs Tryz.prog w name .u64 Lib.pow10Tab := by
 obtain ⟨_, _, w1, h1, cs, ty, fz, h2, h3⟩ := hG (5, GlT 5) (by simp [globs])
 unfold Lib.TabIs World.var?
 rw [h, Option.bind_some, h1, h2, h3, pow_tab]
theorem h_qdy : Holds Tryz.prog 64 con_qdy := by
 refine holds_plain rfl fun vs kk hF w vals S μ hlen hG hv => ?_
 clear hlen
 unfold con_qdy at hF
 dsimp only at hF
 split at hF
 ·rename_i n
  obtain ⟨h0, hk⟩ := hF
  match vals, hv with
  | [y], hv =>
   obtain ⟨hy, _⟩ := hv
   have hy : y = .int .i64 n := hy
   subst hy
   refine Calls.mono (show Calls Tryz.prog 64 #[.int .i64 n] w _ from Any.strconv_Itoa Tryz.laysM171 n (by omega) (by omega) w (tab_at hG (by kernel_rfl))) ?_
   rintro e w' ⟨rfl, kd, os, rfl⟩
   refine ⟨_, _, hk, rfl, Fr.of_below ⟨rfl, rfl, rfl, ?_, fun j hj => ?_⟩, fun _ => rfl, fun _ _ _ => ?_⟩
   ·show w.heap.size ≤ (w.heap ++ os).size
    rw [Array.size_append]; omega
   ·show (w.heap ++ os)[j]? = w.heap[j]?
    exact Array.getElem?_append_left hj
   ·show Value.string _ = _
    rw [itoa_dec h0]
 ·exact hF.elim
theorem glT_of {P : Program} {W : World} {name : String} {g : Nat} (hg : P.globalNamed name = some g) (h : Lib.TabIs P W name .u64 Lib.pow10Tab) : GlT g W ∧ g < W.heap.size := by
 unfold Lib.TabIs World.var? at h
 rw [hg, Option.bind_some] at h
 split at h
 ·rename_i cs ty fz e
  injection h with h
  exact ⟨⟨cs, ty, fz, e, by rw [pow_tab]; exact h⟩, (Array.getElem?_eq_some_iff.1 e).1⟩
 ·cases h
def K_qaj (kk:AK):Int→Bool→Prop:=(fun a b=>kk (.tup [.c (vi a),.c (.v (.bool b))]) [])
def con_qaj:Con:=⟨[.rd],true,[.c (.sc)],fun vs k=>match vs with
  | [.c (.v (.string a))]=>F_qaj a (K_qaj k)
  | _=>False,false⟩
def cl_qaj:List (FuncId×Con):=[(64,con_qdy),(85,con_qdx)]
def an_qaj:Ann:=⟨[],[],[],[]⟩
def cs_qaj:Cons:=⟨cl_qaj,[],0,[],[],[]⟩
def fin_qaj (a:ByteArray) (kk:AK):Kt:=fin TT con_qaj Tryz.f61.results.toList [.c .sc,.c .sc] [.c (.v (.string a))] kk
def V_qaj (vs:List A1) (kk:AK):Prop:=ev TT cs_qaj 25 an_qaj (Tryz.f61.body.getD .skip) (st0 con_qaj vs) (fin TT con_qaj Tryz.f61.results.toList [.c .sc,.c .sc] vs kk)
theorem g_qaj (a:ByteArray) (kk:AK) :
  V_qaj [.c (.v (.string a))] kk=G_qaj a (K_qaj kk):=by kernel_rfl
theorem e_qaj (a:ByteArray) (kk:AK) :
  V_qaj [.c (.v (.string a))] kk=S_qaj a (K_qaj kk):=by
 rw [g_qaj]
 rfl
theorem clok_qaj:ConOK Tryz.prog cl_qaj:=consCons h_qdy (pf (by kernel_rfl)) (consCons h_qdx (pf (by kernel_rfl)) (consNil))
theorem cok_qaj:ConsOK Tryz.prog 25 cs_qaj:=⟨clok_qaj,inlNil,ovNil⟩
theorem i_qaj {vs:List A1} {kk:AK} {motive:List A1→Prop} (h:con_qaj.F vs kk) (H:∀ (a:ByteArray),F_qaj a (K_qaj kk)→motive [.c (.v (.string a))]):motive vs:=by
 unfold con_qaj at h
 dsimp only at h
 split at h
 ·exact H _ h
 ·exact h.elim
theorem h_qaj:Holds Tryz.prog 61 con_qaj:=by
 refine holds_of_ev (rt:=[.c .sc,.c .sc]) (T:=TT) (Γ:=cs_qaj) (an:=an_qaj) (N:=25) (c:=Tryz.f61.body.getD .skip) Tryz.func61 (by kernel_rfl) Tryz.ntmps61 (by decide) (by decide) mixed tabOK cok_qaj (by kernel_rfl) ?_
 intro vs kk _ hF
 exact i_qaj (motive:=fun vs=>Goes (V_qaj vs kk)) hF (fun a hF=>goes_of (e_qaj a kk) (F_qaj_S hF))
def K_qbi (kk:AK):Bool→Prop:=(fun a=>kk (.one (.c (.v (.bool a)))) [])
def con_qbi:Con:=⟨[.rd],true,[.c (.sc)],fun vs k=>match vs with
  | [.c (.v (.int .i64 a))]=>F_qbi a (K_qbi k)
  | _=>False,false⟩
def cl_qbi:List (FuncId×Con):=[]
def an_qbi:Ann:=⟨[],[],[],[]⟩
def cs_qbi:Cons:=⟨cl_qbi,[],0,[],[],[]⟩
def fin_qbi (a:Int) (kk:AK):Kt:=fin TT con_qbi Tryz.f91.results.toList [.c .sc] [.c (vi a)] kk
def V_qbi (vs:List A1) (kk:AK):Prop:=ev TT cs_qbi 9 an_qbi (Tryz.f91.body.getD .skip) (st0 con_qbi vs) (fin TT con_qbi Tryz.f91.results.toList [.c .sc] vs kk)
theorem g_qbi (a:Int) (kk:AK) :
  V_qbi [.c (vi a)] kk=G_qbi a (K_qbi kk):=by kernel_rfl
theorem e_qbi (a:Int) (kk:AK) :
  V_qbi [.c (vi a)] kk=S_qbi a (K_qbi kk):=by
 rw [g_qbi]
 rfl
theorem clok_qbi:ConOK Tryz.prog cl_qbi:=consNil
theorem cok_qbi:ConsOK Tryz.prog 9 cs_qbi:=⟨clok_qbi,inlNil,ovNil⟩
theorem i_qbi {vs:List A1} {kk:AK} {motive:List A1→Prop} (h:con_qbi.F vs kk) (H:∀ (a:Int),F_qbi a (K_qbi kk)→motive [.c (vi a)]):motive vs:=by
 unfold con_qbi at h
 dsimp only at h
 split at h
 ·exact H _ h
 ·exact h.elim
theorem h_qbi:Holds Tryz.prog 91 con_qbi:=by
 refine holds_of_ev (rt:=[.c .sc]) (T:=TT) (Γ:=cs_qbi) (an:=an_qbi) (N:=9) (c:=Tryz.f91.body.getD .skip) Tryz.func91 (by kernel_rfl) Tryz.ntmps91 (by decide) (by decide) mixed tabOK cok_qbi (by kernel_rfl) ?_
 intro vs kk _ hF
 exact i_qbi (motive:=fun vs=>Goes (V_qbi vs kk)) hF (fun a hF=>goes_of (e_qbi a kk) (F_qbi_S hF))
def K_qbg (kk:AK):Bool→Prop:=(fun a=>kk (.one (.c (.v (.bool a)))) [])
def con_qbg:Con:=⟨[.rd],true,[.c (.sl .int)],fun vs k=>match vs with
  | [.c (.ro .int a)]=>F_qbg a (K_qbg k)
  | _=>False,false⟩
def cl_qbg:List (FuncId×Con):=[(91,con_qbi)]
def nm0_qbg:List NStep:=[.keep [8,9,10] []]
def an_qbg:Ann:=⟨[],[(4,nm0_qbg)],[],[]⟩
def cs_qbg:Cons:=⟨cl_qbg,[],0,[],[],[]⟩
def can0_qbg (a:LI) (d b:Int):St:=⟨[(8,.one (.c (.ro .int a))),(9,.one (.c (vi d))),(10,.one (.c (vi b)))],[]⟩
def fin_qbg (a:LI) (kk:AK):Kt:=fin TT con_qbg Tryz.f112.results.toList [.c .sc] [.c (.ro .int a)] kk
def V_qbg (vs:List A1) (kk:AK):Prop:=ev TT cs_qbg 18 an_qbg (Tryz.f112.body.getD .skip) (st0 con_qbg vs) (fin TT con_qbg Tryz.f112.results.toList [.c .sc] vs kk)
def kt0_qbg (kf:Kt):Kt:=blockK 0 (seqK (evF TT cs_qbg 18 an_qbg Tryz.f112 [1,1,1]) (kf))
def I0_qbg (a:LI) (kk:AK):Nat→St→Prop:=iter (evF TT cs_qbg 18 an_qbg Tryz.f112 [1,1,0,1,0,0]) nm0_qbg (kt0_qbg (fin_qbg a kk))
theorem r0_qbg (a:LI) (c:Int) (kk:AK) (n:Nat) (b:Int) :
  I0_qbg a kk (n+1) (can0_qbg a c b)=T0_qbg a c b (K_qbg kk) (fun b=>I0_qbg a kk n (can0_qbg a c b)):=by kernel_rfl
theorem l0_qbg (a:LI) (c:Int) (kk:AK):∀ (n:Nat) (b:Int),I0_qbg a kk n (can0_qbg a c b)=L0_qbg a c (K_qbg kk) n b:=by
 intro n
 induction n with
 | zero=>intros; rfl
 | succ n ih=>
  intro b
  rw [r0_qbg a c kk n b]
  simp only [ih] <;> rfl
theorem g_qbg (a:LI) (kk:AK) :
  V_qbg [.c (.ro .int a)] kk=G_qbg a (K_qbg kk) (fun a d b=>∃ j,I0_qbg a kk j (can0_qbg a d b)):=by kernel_rfl
theorem e_qbg (a:LI) (kk:AK) :
  V_qbg [.c (.ro .int a)] kk=S_qbg a (K_qbg kk):=by
 rw [g_qbg]
 have hi0:(fun a d b=>∃ j,I0_qbg a kk j (can0_qbg a d b))=(fun a d b=>∃ j,L0_qbg a d (K_qbg kk) j b):=by
  funext a d b
  refine congrArg Exists (funext fun j=>?_)
  rw [l0_qbg a d kk j b]
 rw [hi0]
 rfl
theorem clok_qbg:ConOK Tryz.prog cl_qbg:=consCons h_qbi (pf (by kernel_rfl)) (consNil)
theorem cok_qbg:ConsOK Tryz.prog 18 cs_qbg:=⟨clok_qbg,inlNil,ovNil⟩
theorem i_qbg {vs:List A1} {kk:AK} {motive:List A1→Prop} (h:con_qbg.F vs kk) (H:∀ (a:LI),F_qbg a (K_qbg kk)→motive [.c (.ro .int a)]):motive vs:=by
 unfold con_qbg at h
 dsimp only at h
 split at h
 ·exact H _ h
 ·exact h.elim
theorem h_qbg:Holds Tryz.prog 112 con_qbg:=by
 refine holds_of_ev (rt:=[.c .sc]) (T:=TT) (Γ:=cs_qbg) (an:=an_qbg) (N:=18) (c:=Tryz.f112.body.getD .skip) Tryz.func112 (by kernel_rfl) Tryz.ntmps112 (by decide) (by decide) mixed tabOK cok_qbg (by kernel_rfl) ?_
 intro vs kk _ hF
 exact i_qbg (motive:=fun vs=>Goes (V_qbg vs kk)) hF (fun a hF=>goes_of (e_qbg a kk) (F_qbg_S hF))
def K_qaf (kk:AK):LI→Prop:=(fun a=>kk (.one (.c (.ro .int a))) [])
def con_qaf:Con:=⟨[.rd],true,[.c (.sl .iib)],fun vs k=>match vs with
  | [.c (.ro .iib a)]=>F_qaf a (K_qaf k)
  | _=>False,false⟩
def cl_qaf:List (FuncId×Con):=[]
def nm0_qaf:List NStep:=[.own 3 .int 90000,.keep [3,7,8,9] [90000]]
def an_qaf:Ann:=⟨[],[(3,nm0_qaf)],[],[]⟩
def cs_qaf:Cons:=⟨cl_qaf,[],0,[],[],[]⟩
def can0_qaf (a:LT) (d e:Int) (b:LI):St:=⟨[(3,.one (.c (.ow 90000))),(7,.one (.c (.ro .iib a))),(8,.one (.c (vi d))),(9,.one (.c (vi e)))],[(90000,.row .int b)]⟩
def fin_qaf (a:LT) (kk:AK):Kt:=fin TT con_qaf Tryz.f114.results.toList [.c (.sl .int)] [.c (.ro .iib a)] kk
def V_qaf (vs:List A1) (kk:AK):Prop:=ev TT cs_qaf 20 an_qaf (Tryz.f114.body.getD .skip) (st0 con_qaf vs) (fin TT con_qaf Tryz.f114.results.toList [.c (.sl .int)] vs kk)
def kt0_qaf (kf:Kt):Kt:=blockK 0 (seqK (evF TT cs_qaf 20 an_qaf Tryz.f114 [1,1,1]) (kf))
def I0_qaf (a:LT) (kk:AK):Nat→St→Prop:=iter (evF TT cs_qaf 20 an_qaf Tryz.f114 [1,1,0,1,0,0]) nm0_qaf (kt0_qaf (fin_qaf a kk))
theorem r0_qaf (a:LT) (d:Int) (kk:AK) (n:Nat) (c:Int) (b:LI) :
  I0_qaf a kk (n+1) (can0_qaf a d c b)=T0_qaf a d c b (K_qaf kk) (fun c b=>I0_qaf a kk n (can0_qaf a d c b)):=by kernel_rfl
theorem l0_qaf (a:LT) (d:Int) (kk:AK):∀ (n:Nat) (c:Int) (b:LI),I0_qaf a kk n (can0_qaf a d c b)=L0_qaf a d (K_qaf kk) n c b:=by
 intro n
 induction n with
 | zero=>intros; rfl
 | succ n ih=>
  intro c b
  rw [r0_qaf a d kk n c b]
  simp only [ih] <;> rfl
theorem g_qaf (a:LT) (kk:AK) :
  V_qaf [.c (.ro .iib a)] kk=G_qaf a (fun a d e b=>∃ j,I0_qaf a kk j (can0_qaf a d e b)):=by kernel_rfl
theorem e_qaf (a:LT) (kk:AK) :
  V_qaf [.c (.ro .iib a)] kk=S_qaf a (K_qaf kk):=by
 rw [g_qaf]
 have hi0:(fun a d e b=>∃ j,I0_qaf a kk j (can0_qaf a d e b))=(fun a d e b=>∃ j,L0_qaf a d (K_qaf kk) j e b):=by
  funext a d e b
  refine congrArg Exists (funext fun j=>?_)
  rw [l0_qaf a d kk j e b]
 rw [hi0]
 rfl
theorem clok_qaf:ConOK Tryz.prog cl_qaf:=consNil
theorem cok_qaf:ConsOK Tryz.prog 20 cs_qaf:=⟨clok_qaf,inlNil,ovNil⟩
theorem i_qaf {vs:List A1} {kk:AK} {motive:List A1→Prop} (h:con_qaf.F vs kk) (H:∀ (a:LT),F_qaf a (K_qaf kk)→motive [.c (.ro .iib a)]):motive vs:=by
 unfold con_qaf at h
 dsimp only at h
 split at h
 ·exact H _ h
 ·exact h.elim
theorem h_qaf:Holds Tryz.prog 114 con_qaf:=by
 refine holds_of_ev (rt:=[.c (.sl .int)]) (T:=TT) (Γ:=cs_qaf) (an:=an_qaf) (N:=20) (c:=Tryz.f114.body.getD .skip) Tryz.func114 (by kernel_rfl) Tryz.ntmps114 (by decide) (by decide) mixed tabOK cok_qaf (by kernel_rfl) ?_
 intro vs kk _ hF
 exact i_qaf (motive:=fun vs=>Goes (V_qaf vs kk)) hF (fun a hF=>goes_of (e_qaf a kk) (F_qaf_S hF))
def K_qbf (kk:AK):Bool→Prop:=(fun a=>kk (.one (.c (.v (.bool a)))) [])
def con_qbf:Con:=⟨[.rd],true,[.c (.sc)],fun vs k=>match vs with
  | [.c (.v (.int .i64 a))]=>F_qbf a (K_qbf k)
  | _=>False,false⟩
def cl_qbf:List (FuncId×Con):=[]
def an_qbf:Ann:=⟨[],[],[],[]⟩
def cs_qbf:Cons:=⟨cl_qbf,[],0,[],[],[]⟩
def fin_qbf (a:Int) (kk:AK):Kt:=fin TT con_qbf Tryz.f120.results.toList [.c .sc] [.c (vi a)] kk
def V_qbf (vs:List A1) (kk:AK):Prop:=ev TT cs_qbf 9 an_qbf (Tryz.f120.body.getD .skip) (st0 con_qbf vs) (fin TT con_qbf Tryz.f120.results.toList [.c .sc] vs kk)
theorem g_qbf (a:Int) (kk:AK) :
  V_qbf [.c (vi a)] kk=G_qbf a (K_qbf kk):=by kernel_rfl
theorem e_qbf (a:Int) (kk:AK) :
  V_qbf [.c (vi a)] kk=S_qbf a (K_qbf kk):=by
 rw [g_qbf]
 rfl
theorem clok_qbf:ConOK Tryz.prog cl_qbf:=consNil
theorem cok_qbf:ConsOK Tryz.prog 9 cs_qbf:=⟨clok_qbf,inlNil,ovNil⟩
theorem i_qbf {vs:List A1} {kk:AK} {motive:List A1→Prop} (h:con_qbf.F vs kk) (H:∀ (a:Int),F_qbf a (K_qbf kk)→motive [.c (vi a)]):motive vs:=by
 unfold con_qbf at h
 dsimp only at h
 split at h
 ·exact H _ h
 ·exact h.elim
theorem h_qbf:Holds Tryz.prog 120 con_qbf:=by
 refine holds_of_ev (rt:=[.c .sc]) (T:=TT) (Γ:=cs_qbf) (an:=an_qbf) (N:=9) (c:=Tryz.f120.body.getD .skip) Tryz.func120 (by kernel_rfl) Tryz.ntmps120 (by decide) (by decide) mixed tabOK cok_qbf (by kernel_rfl) ?_
 intro vs kk _ hF
 exact i_qbf (motive:=fun vs=>Goes (V_qbf vs kk)) hF (fun a hF=>goes_of (e_qbf a kk) (F_qbf_S hF))
def K_qbd (kk:AK):Bool→Prop:=(fun a=>kk (.one (.c (.v (.bool a)))) [])
def con_qbd:Con:=⟨[.rd],true,[.c (.sc)],fun vs k=>match vs with
  | [.c (.v (.int .i64 a))]=>F_qbd a (K_qbd k)
  | _=>False,false⟩
def cl_qbd:List (FuncId×Con):=[]
def an_qbd:Ann:=⟨[],[],[],[]⟩
def cs_qbd:Cons:=⟨cl_qbd,[],0,[],[],[]⟩
def fin_qbd (a:Int) (kk:AK):Kt:=fin TT con_qbd Tryz.f87.results.toList [.c .sc] [.c (vi a)] kk
def V_qbd (vs:List A1) (kk:AK):Prop:=ev TT cs_qbd 9 an_qbd (Tryz.f87.body.getD .skip) (st0 con_qbd vs) (fin TT con_qbd Tryz.f87.results.toList [.c .sc] vs kk)
theorem g_qbd (a:Int) (kk:AK) :
  V_qbd [.c (vi a)] kk=G_qbd a (K_qbd kk):=by kernel_rfl
theorem e_qbd (a:Int) (kk:AK) :
  V_qbd [.c (vi a)] kk=S_qbd a (K_qbd kk):=by
 rw [g_qbd]
 rfl
theorem clok_qbd:ConOK Tryz.prog cl_qbd:=consNil
theorem cok_qbd:ConsOK Tryz.prog 9 cs_qbd:=⟨clok_qbd,inlNil,ovNil⟩
theorem i_qbd {vs:List A1} {kk:AK} {motive:List A1→Prop} (h:con_qbd.F vs kk) (H:∀ (a:Int),F_qbd a (K_qbd kk)→motive [.c (vi a)]):motive vs:=by
 unfold con_qbd at h
 dsimp only at h
 split at h
 ·exact H _ h
 ·exact h.elim
theorem h_qbd:Holds Tryz.prog 87 con_qbd:=by
 refine holds_of_ev (rt:=[.c .sc]) (T:=TT) (Γ:=cs_qbd) (an:=an_qbd) (N:=9) (c:=Tryz.f87.body.getD .skip) Tryz.func87 (by kernel_rfl) Tryz.ntmps87 (by decide) (by decide) mixed tabOK cok_qbd (by kernel_rfl) ?_
 intro vs kk _ hF
 exact i_qbd (motive:=fun vs=>Goes (V_qbd vs kk)) hF (fun a hF=>goes_of (e_qbd a kk) (F_qbd_S hF))
def K_qby (kk:AK):Int→Prop:=(fun a=>kk (.one (.c (vi a))) [])
def con_qby:Con:=⟨[.rd,.rd],true,[.c (.sl .int),.c (.sc)],fun vs k=>match vs with
  | [.c (.ro .int a),.c (.v (.int .i64 b))]=>F_qby a b (K_qby k)
  | _=>False,false⟩
def cl_qby:List (FuncId×Con):=[]
def nm0_qby:List NStep:=[.keep [0,1,7,8] []]
def an_qby:Ann:=⟨[],[(2,nm0_qby)],[],[]⟩
def cs_qby:Cons:=⟨cl_qby,[],0,[],[],[]⟩
def can0_qby (d:LI) (e a b:Int):St:=⟨[(0,.one (.c (.ro .int d))),(1,.one (.c (vi e))),(7,.one (.c (vi a))),(8,.one (.c (vi b)))],[]⟩
def fin_qby (a:LI) (b:Int) (kk:AK):Kt:=fin TT con_qby Tryz.f150.results.toList [.c .sc] [.c (.ro .int a),.c (vi b)] kk
def V_qby (vs:List A1) (kk:AK):Prop:=ev TT cs_qby 19 an_qby (Tryz.f150.body.getD .skip) (st0 con_qby vs) (fin TT con_qby Tryz.f150.results.toList [.c .sc] vs kk)
def kt0_qby (kf:Kt):Kt:=blockK 0 (seqK (evF TT cs_qby 19 an_qby Tryz.f150 [1,1]) (kf))
def I0_qby (a:LI) (b:Int) (kk:AK):Nat→St→Prop:=iter (evF TT cs_qby 19 an_qby Tryz.f150 [1,0,1,0,0]) nm0_qby (kt0_qby (fin_qby a b kk))
theorem r0_qby (b:LI) (c d:Int) (kk:AK) (n:Nat) (a:Int) :
  I0_qby b c kk (n+1) (can0_qby b c d a)=T0_qby b c d a (K_qby kk) (fun a=>I0_qby b c kk n (can0_qby b c d a)):=by kernel_rfl
theorem l0_qby (c:LI) (d b:Int) (kk:AK):∀ (n:Nat) (a:Int),I0_qby c d kk n (can0_qby c d b a)=L0_qby c d b (K_qby kk) n a:=by
 intro n
 induction n with
 | zero=>intros; rfl
 | succ n ih=>
  intro a
  rw [r0_qby c d b kk n a]
  simp only [ih] <;> rfl
theorem g_qby (a:LI) (b:Int) (kk:AK) :
  V_qby [.c (.ro .int a),.c (vi b)] kk=G_qby a b (fun a b d e=>∃ j,I0_qby a b kk j (can0_qby a b d e)):=by kernel_rfl
theorem e_qby (a:LI) (b:Int) (kk:AK) :
  V_qby [.c (.ro .int a),.c (vi b)] kk=S_qby a b (K_qby kk):=by
 rw [g_qby]
 have hi0:(fun a b d e=>∃ j,I0_qby a b kk j (can0_qby a b d e))=(fun a b d e=>∃ j,L0_qby a b d (K_qby kk) j e):=by
  funext a b d e
  refine congrArg Exists (funext fun j=>?_)
  rw [l0_qby a b d kk j e]
 rw [hi0]
 rfl
theorem clok_qby:ConOK Tryz.prog cl_qby:=consNil
theorem cok_qby:ConsOK Tryz.prog 19 cs_qby:=⟨clok_qby,inlNil,ovNil⟩
theorem i_qby {vs:List A1} {kk:AK} {motive:List A1→Prop} (h:con_qby.F vs kk) (H:∀ (a:LI) (b:Int),F_qby a b (K_qby kk)→motive [.c (.ro .int a),.c (vi b)]):motive vs:=by
 unfold con_qby at h
 dsimp only at h
 split at h
 ·exact H _ _ h
 ·exact h.elim
theorem h_qby:Holds Tryz.prog 150 con_qby:=by
 refine holds_of_ev (rt:=[.c .sc]) (T:=TT) (Γ:=cs_qby) (an:=an_qby) (N:=19) (c:=Tryz.f150.body.getD .skip) Tryz.func150 (by kernel_rfl) Tryz.ntmps150 (by decide) (by decide) mixed tabOK cok_qby (by kernel_rfl) ?_
 intro vs kk _ hF
 exact i_qby (motive:=fun vs=>Goes (V_qby vs kk)) hF (fun a b hF=>goes_of (e_qby a b kk) (F_qby_S hF))
def K_qbt (kk:AK):Bool→Prop:=(fun a=>kk (.one (.c (.v (.bool a)))) [])
def con_qbt:Con:=⟨[.rd,.rd],true,[.c (.sl .int),.c (.sc)],fun vs k=>match vs with
  | [.c (.ro .int a),.c (.v (.int .i64 b))]=>F_qbt a b (K_qbt k)
  | _=>False,false⟩
def cl_qbt:List (FuncId×Con):=[(150,con_qby)]
def an_qbt:Ann:=⟨[],[],[],[]⟩
def cs_qbt:Cons:=⟨cl_qbt,[],0,[],[],[]⟩
def fin_qbt (a:LI) (b:Int) (kk:AK):Kt:=fin TT con_qbt Tryz.f128.results.toList [.c .sc] [.c (.ro .int a),.c (vi b)] kk
def V_qbt (vs:List A1) (kk:AK):Prop:=ev TT cs_qbt 9 an_qbt (Tryz.f128.body.getD .skip) (st0 con_qbt vs) (fin TT con_qbt Tryz.f128.results.toList [.c .sc] vs kk)
theorem g_qbt (a:LI) (b:Int) (kk:AK) :
  V_qbt [.c (.ro .int a),.c (vi b)] kk=G_qbt a b (K_qbt kk):=by kernel_rfl
theorem e_qbt (a:LI) (b:Int) (kk:AK) :
  V_qbt [.c (.ro .int a),.c (vi b)] kk=S_qbt a b (K_qbt kk):=by
 rw [g_qbt]
 rfl
theorem clok_qbt:ConOK Tryz.prog cl_qbt:=consCons h_qby (pf (by kernel_rfl)) (consNil)
theorem cok_qbt:ConsOK Tryz.prog 9 cs_qbt:=⟨clok_qbt,inlNil,ovNil⟩
theorem i_qbt {vs:List A1} {kk:AK} {motive:List A1→Prop} (h:con_qbt.F vs kk) (H:∀ (a:LI) (b:Int),F_qbt a b (K_qbt kk)→motive [.c (.ro .int a),.c (vi b)]):motive vs:=by
 unfold con_qbt at h
 dsimp only at h
 split at h
 ·exact H _ _ h
 ·exact h.elim
theorem h_qbt:Holds Tryz.prog 128 con_qbt:=by
 refine holds_of_ev (rt:=[.c .sc]) (T:=TT) (Γ:=cs_qbt) (an:=an_qbt) (N:=9) (c:=Tryz.f128.body.getD .skip) Tryz.func128 (by kernel_rfl) Tryz.ntmps128 (by decide) (by decide) mixed tabOK cok_qbt (by kernel_rfl) ?_
 intro vs kk _ hF
 exact i_qbt (motive:=fun vs=>Goes (V_qbt vs kk)) hF (fun a b hF=>goes_of (e_qbt a b kk) (F_qbt_S hF))
def K_qac (kk:AK):Bool→Prop:=(fun a=>kk (.one (.c (.v (.bool a)))) [])
def con_qac:Con:=⟨[.rd],true,[.c (.sl .int)],fun vs k=>match vs with
  | [.c (.ro .int a)]=>F_qac a (K_qac k)
  | _=>False,false⟩
def cl_qac:List (FuncId×Con):=[(87,con_qbd),(128,con_qbt)]
def nm0_qac:List NStep:=[.keep [0,5,6,7] []]
def an_qac:Ann:=⟨[],[(2,nm0_qac)],[],[]⟩
def cs_qac:Cons:=⟨cl_qac,[],0,[],[],[]⟩
def can0_qac (a:LI) (b d:Int):St:=⟨[(0,.one (.c (.ro .int a))),(5,.one (.c (.ro .int a))),(6,.one (.c (vi b))),(7,.one (.c (vi d)))],[]⟩
def fin_qac (a:LI) (kk:AK):Kt:=fin TT con_qac Tryz.f141.results.toList [.c .sc] [.c (.ro .int a)] kk
def V_qac (vs:List A1) (kk:AK):Prop:=ev TT cs_qac 23 an_qac (Tryz.f141.body.getD .skip) (st0 con_qac vs) (fin TT con_qac Tryz.f141.results.toList [.c .sc] vs kk)
def kt0_qac (kf:Kt):Kt:=blockK 0 (seqK (evF TT cs_qac 23 an_qac Tryz.f141 [1,1]) (kf))
def I0_qac (a:LI) (kk:AK):Nat→St→Prop:=iter (evF TT cs_qac 23 an_qac Tryz.f141 [1,0,1,0,0]) nm0_qac (kt0_qac (fin_qac a kk))
theorem r0_qac (a:LI) (c:Int) (kk:AK) (n:Nat) (b:Int) :
  I0_qac a kk (n+1) (can0_qac a c b)=T0_qac a c b (K_qac kk) (fun b=>I0_qac a kk n (can0_qac a c b)):=by kernel_rfl
theorem l0_qac (a:LI) (c:Int) (kk:AK):∀ (n:Nat) (b:Int),I0_qac a kk n (can0_qac a c b)=L0_qac a c (K_qac kk) n b:=by
 intro n
 induction n with
 | zero=>intros; rfl
 | succ n ih=>
  intro b
  rw [r0_qac a c kk n b]
  simp only [ih] <;> rfl
theorem g_qac (a:LI) (kk:AK) :
  V_qac [.c (.ro .int a)] kk=G_qac a (fun a b d=>∃ j,I0_qac a kk j (can0_qac a b d)):=by kernel_rfl
theorem e_qac (a:LI) (kk:AK) :
  V_qac [.c (.ro .int a)] kk=S_qac a (K_qac kk):=by
 rw [g_qac]
 have hi0:(fun a b d=>∃ j,I0_qac a kk j (can0_qac a b d))=(fun a b d=>∃ j,L0_qac a b (K_qac kk) j d):=by
  funext a b d
  refine congrArg Exists (funext fun j=>?_)
  rw [l0_qac a b kk j d]
 rw [hi0]
 rfl
theorem clok_qac:ConOK Tryz.prog cl_qac:=consCons h_qbd (pf (by kernel_rfl)) (consCons h_qbt (pf (by kernel_rfl)) (consNil))
theorem cok_qac:ConsOK Tryz.prog 23 cs_qac:=⟨clok_qac,inlNil,ovNil⟩
theorem i_qac {vs:List A1} {kk:AK} {motive:List A1→Prop} (h:con_qac.F vs kk) (H:∀ (a:LI),F_qac a (K_qac kk)→motive [.c (.ro .int a)]):motive vs:=by
 unfold con_qac at h
 dsimp only at h
 split at h
 ·exact H _ h
 ·exact h.elim
theorem h_qac:Holds Tryz.prog 141 con_qac:=by
 refine holds_of_ev (rt:=[.c .sc]) (T:=TT) (Γ:=cs_qac) (an:=an_qac) (N:=23) (c:=Tryz.f141.body.getD .skip) Tryz.func141 (by kernel_rfl) Tryz.ntmps141 (by decide) (by decide) mixed tabOK cok_qac (by kernel_rfl) ?_
 intro vs kk _ hF
 exact i_qac (motive:=fun vs=>Goes (V_qac vs kk)) hF (fun a hF=>goes_of (e_qac a kk) (F_qac_S hF))
def K_qx (kk:AK):Bool→Prop:=(fun a=>kk (.one (.c (.v (.bool a)))) [])
def con_qx:Con:=⟨[.rd,.rd],true,[.c (.sl .int),.c (.sc)],fun vs k=>match vs with
  | [.c (.ro .int a),.c (.v (.int .i64 b))]=>F_qx a b (K_qx k)
  | _=>False,false⟩
def cl_qx:List (FuncId×Con):=[(120,con_qbf),(141,con_qac)]
def an_qx:Ann:=⟨[],[],[],[]⟩
def cs_qx:Cons:=⟨cl_qx,[],0,[],[],[]⟩
def fin_qx (a:LI) (b:Int) (kk:AK):Kt:=fin TT con_qx Tryz.f113.results.toList [.c .sc] [.c (.ro .int a),.c (vi b)] kk
def V_qx (vs:List A1) (kk:AK):Prop:=ev TT cs_qx 17 an_qx (Tryz.f113.body.getD .skip) (st0 con_qx vs) (fin TT con_qx Tryz.f113.results.toList [.c .sc] vs kk)
theorem g_qx (a:LI) (b:Int) (kk:AK) :
  V_qx [.c (.ro .int a),.c (vi b)] kk=G_qx a b (K_qx kk):=by kernel_rfl
theorem e_qx (a:LI) (b:Int) (kk:AK) :
  V_qx [.c (.ro .int a),.c (vi b)] kk=S_qx a b (K_qx kk):=by
 rw [g_qx]
 rfl
theorem clok_qx:ConOK Tryz.prog cl_qx:=consCons h_qbf (pf (by kernel_rfl)) (consCons h_qac (pf (by kernel_rfl)) (consNil))
theorem cok_qx:ConsOK Tryz.prog 17 cs_qx:=⟨clok_qx,inlNil,ovNil⟩
theorem i_qx {vs:List A1} {kk:AK} {motive:List A1→Prop} (h:con_qx.F vs kk) (H:∀ (a:LI) (b:Int),F_qx a b (K_qx kk)→motive [.c (.ro .int a),.c (vi b)]):motive vs:=by
 unfold con_qx at h
 dsimp only at h
 split at h
 ·exact H _ _ h
 ·exact h.elim
theorem h_qx:Holds Tryz.prog 113 con_qx:=by
 refine holds_of_ev (rt:=[.c .sc]) (T:=TT) (Γ:=cs_qx) (an:=an_qx) (N:=17) (c:=Tryz.f113.body.getD .skip) Tryz.func113 (by kernel_rfl) Tryz.ntmps113 (by decide) (by decide) mixed tabOK cok_qx (by kernel_rfl) ?_
 intro vs kk _ hF
 exact i_qx (motive:=fun vs=>Goes (V_qx vs kk)) hF (fun a b hF=>goes_of (e_qx a b kk) (F_qx_S hF))
def K_qz (kk:AK):Bool→Prop:=(fun a=>kk (.one (.c (.v (.bool a)))) [])
def con_qz:Con:=⟨[.rd],true,[.agg [.sl .int,.sl .iib,.sc]],fun vs k=>match vs with
  | [.agg [.ro .int a,.ro .iib b,.v (.int .i64 c)]]=>F_qz a b c (K_qz k)
  | _=>False,false⟩
def cl_qz:List (FuncId×Con):=[(91,con_qbi),(112,con_qbg),(113,con_qx),(114,con_qaf)]
def nm0_qz:List NStep:=[.keep [1,19,20,21] [16]]
def an_qz:Ann:=⟨[(1,.take 0 (.take 1 (.alt 2 (.take 3 (.take 4 (.take 5 (.take 6 (.take 8 (.take 9 (.alt 7 (.alt 10 (.take 11 (.take 12 (.done))) (.none)) (.none)))))))) (.none))),[16]),(6,.take 0 (.take 1 (.alt 2 (.take 3 (.take 4 (.take 5 (.take 6 (.take 7 (.take 8 (.take 9 (.take 10 (.take 11 (.take 12 (.take 13 (.take 14 (.take 15 (.take 16 (.take 17 (.take 18 (.take 19 (.done)))))))))))))))))) (.none))),[16,64])],[(4,nm0_qz)],[],[]⟩
def cs_qz:Cons:=⟨cl_qz,[],0,[],[],[]⟩
def can0_qz (a:LT) (d:Int) (b:LI) (e f:Int):St:=⟨[(1,.one (.c (.pb 16 0))),(19,.one (.c (.ro .iib a))),(20,.one (.c (vi e))),(21,.one (.c (vi f)))],[(16,.box [.ro .int b,.ro .iib a,vi d])]⟩
def fin_qz (a:LI) (b:LT) (d:Int) (kk:AK):Kt:=fin TT con_qz Tryz.f86.results.toList [.c .sc] [.agg [.ro .int a,.ro .iib b,vi d]] kk
def V_qz (vs:List A1) (kk:AK):Prop:=ev TT cs_qz 46 an_qz (Tryz.f86.body.getD .skip) (st0 con_qz vs) (fin TT con_qz Tryz.f86.results.toList [.c .sc] vs kk)
def kt0_qz (kf:Kt):Kt:=blockK 0 (seqK (evF TT cs_qz 46 an_qz Tryz.f86 [1,1,1]) (kf))
def I0_qz (a:LI) (b:LT) (c:Int) (kk:AK):Nat→St→Prop:=iter (evF TT cs_qz 46 an_qz Tryz.f86 [1,1,0,1,0,0]) nm0_qz (kt0_qz (fin_qz a b c kk))
theorem r0_qz (a:LI) (b:LT) (c e:Int) (kk:AK) (n:Nat) (d:Int) :
  I0_qz a b c kk (n+1) (can0_qz b c a e d)=T0_qz b c a e d (K_qz kk) (fun d=>I0_qz a b c kk n (can0_qz b c a e d)):=by kernel_rfl
theorem l0_qz (a:LI) (b:LT) (c e:Int) (kk:AK):∀ (n:Nat) (d:Int),I0_qz a b c kk n (can0_qz b c a e d)=L0_qz b c a e (K_qz kk) n d:=by
 intro n
 induction n with
 | zero=>intros; rfl
 | succ n ih=>
  intro d
  rw [r0_qz a b c e kk n d]
  have hb:(fun d=>I0_qz a b c kk n (can0_qz b c a e d))=L0_qz b c a e (K_qz kk) n:=by
   funext d; exact ih d
  rw [hb]
  rw [T0_qz_eq]
  rfl
theorem g_qz (a:LI) (b:LT) (c:Int) (kk:AK) :
  V_qz [.agg [.ro .int a,.ro .iib b,vi c]] kk=G_qz a b c (K_qz kk) (fun b c a d e=>∃ j,I0_qz a b c kk j (can0_qz b c a d e)):=by kernel_rfl
theorem e_qz (a:LI) (b:LT) (c:Int) (kk:AK) :
  V_qz [.agg [.ro .int a,.ro .iib b,vi c]] kk=S_qz a b c (K_qz kk):=by
 rw [g_qz]
 have hi0:(fun b c a d e=>∃ j,I0_qz a b c kk j (can0_qz b c a d e))=(fun b c a d e=>∃ j,L0_qz b c a d (K_qz kk) j e):=by
  funext b c a d e
  refine congrArg Exists (funext fun j=>?_)
  rw [l0_qz a b c d kk j e]
 rw [hi0]
 rw [G_qz_eq]
 rfl
theorem clok_qz:ConOK Tryz.prog cl_qz:=consCons h_qbi (pf (by kernel_rfl)) (consCons h_qbg (pf (by kernel_rfl)) (consCons h_qx (pf (by kernel_rfl)) (consCons h_qaf (pf (by kernel_rfl)) (consNil))))
theorem cok_qz:ConsOK Tryz.prog 46 cs_qz:=⟨clok_qz,inlNil,ovNil⟩
theorem i_qz {vs:List A1} {kk:AK} {motive:List A1→Prop} (h:con_qz.F vs kk) (H:∀ (a:LI) (b:LT) (c:Int),F_qz a b c (K_qz kk)→motive [.agg [.ro .int a,.ro .iib b,vi c]]):motive vs:=by
 unfold con_qz at h
 dsimp only at h
 split at h
 ·exact H _ _ _ h
 ·exact h.elim
theorem h_qz:Holds Tryz.prog 86 con_qz:=by
 refine holds_of_ev (rt:=[.c .sc]) (T:=TT) (Γ:=cs_qz) (an:=an_qz) (N:=46) (c:=Tryz.f86.body.getD .skip) Tryz.func86 (by kernel_rfl) Tryz.ntmps86 (by decide) (by decide) mixed tabOK cok_qz (by kernel_rfl) ?_
 intro vs kk _ hF
 exact i_qz (motive:=fun vs=>Goes (V_qz vs kk)) hF (fun a b d hF=>goes_of (e_qz a b d kk) (F_qz_S hF))
def K_qag (kk:AK):Int→Int→Bool→Prop:=(fun a b c=>kk (.one (.agg [vi a,vi b,.v (.bool c)])) [])
def con_qag:Con:=⟨[.rd,.rd],true,[.agg [.sl .int,.sl .iib,.sc],.c (.sc)],fun vs k=>match vs with
  | [.agg [.ro .int a,.ro .iib b,.v (.int .i64 d)],.c (.v (.int .i64 e))]=>F_qag a b d e (K_qag k)
  | _=>False,false⟩
def cl_qag:List (FuncId×Con):=[]
def nm0_qag:List NStep:=[.keep [1,2,4,8,9,10] [32,64]]
def an_qag:Ann:=⟨[],[(2,nm0_qag)],[],[]⟩
def cs_qag:Cons:=⟨cl_qag,[],0,[],[],[]⟩
def can0_qag (e:Int) (a:LT) (d:Int) (b:LI) (g f:Int):St:=⟨[(1,.one (.c (vi e))),(2,.one (.c (.pb 32 0))),(4,.one (.c (.pb 64 0))),(8,.one (.c (.ro .iib a))),(9,.one (.c (vi g))),(10,.one (.c (vi f)))],[(32,.box [.ro .int b,.ro .iib a,vi d]),(64,.box [vi 0,vi 0,.v (.bool false)])]⟩
def fin_qag (a:LI) (b:LT) (d e:Int) (kk:AK):Kt:=fin TT con_qag Tryz.f88.results.toList [.agg [.sc,.sc,.sc]] [.agg [.ro .int a,.ro .iib b,vi d],.c (vi e)] kk
def V_qag (vs:List A1) (kk:AK):Prop:=ev TT cs_qag 27 an_qag (Tryz.f88.body.getD .skip) (st0 con_qag vs) (fin TT con_qag Tryz.f88.results.toList [.agg [.sc,.sc,.sc]] vs kk)
def kt0_qag (kf:Kt):Kt:=blockK 0 (seqK (evF TT cs_qag 27 an_qag Tryz.f88 [1,1]) (kf))
def I0_qag (a:LI) (b:LT) (c d:Int) (kk:AK):Nat→St→Prop:=iter (evF TT cs_qag 27 an_qag Tryz.f88 [1,0,1,0,0]) nm0_qag (kt0_qag (fin_qag a b c d kk))
theorem r0_qag (a:LI) (b:LT) (c d f:Int) (kk:AK) (n:Nat) (e:Int) :
  I0_qag a b c d kk (n+1) (can0_qag d b c a f e)=T0_qag d b c a f e (K_qag kk) (fun e=>I0_qag a b c d kk n (can0_qag d b c a f e)):=by kernel_rfl
theorem l0_qag (a:LI) (b:LT) (c e f:Int) (kk:AK):∀ (n:Nat) (d:Int),I0_qag a b c e kk n (can0_qag e b c a f d)=L0_qag e b c a f (K_qag kk) n d:=by
 intro n
 induction n with
 | zero=>intros; rfl
 | succ n ih=>
  intro d
  rw [r0_qag a b c e f kk n d]
  simp only [ih] <;> rfl
theorem g_qag (a:LI) (b:LT) (d e:Int) (kk:AK) :
  V_qag [.agg [.ro .int a,.ro .iib b,vi d],.c (vi e)] kk=G_qag a b d e (fun e b d a g f=>∃ j,I0_qag a b d e kk j (can0_qag e b d a g f)):=by kernel_rfl
theorem e_qag (a:LI) (b:LT) (d e:Int) (kk:AK) :
  V_qag [.agg [.ro .int a,.ro .iib b,vi d],.c (vi e)] kk=S_qag a b d e (K_qag kk):=by
 rw [g_qag]
 have hi0:(fun e b d a g f=>∃ j,I0_qag a b d e kk j (can0_qag e b d a g f))=(fun e b d a g f=>∃ j,L0_qag e b d a g (K_qag kk) j f):=by
  funext e b d a g f
  refine congrArg Exists (funext fun j=>?_)
  rw [l0_qag a b d e g kk j f]
 rw [hi0]
 rfl
theorem clok_qag:ConOK Tryz.prog cl_qag:=consNil
theorem cok_qag:ConsOK Tryz.prog 27 cs_qag:=⟨clok_qag,inlNil,ovNil⟩
theorem i_qag {vs:List A1} {kk:AK} {motive:List A1→Prop} (h:con_qag.F vs kk) (H:∀ (a:LI) (b:LT) (d e:Int),F_qag a b d e (K_qag kk)→motive [.agg [.ro .int a,.ro .iib b,vi d],.c (vi e)]):motive vs:=by
 unfold con_qag at h
 dsimp only at h
 split at h
 ·exact H _ _ _ _ h
 ·exact h.elim
theorem h_qag:Holds Tryz.prog 88 con_qag:=by
 refine holds_of_ev (rt:=[.agg [.sc,.sc,.sc]]) (T:=TT) (Γ:=cs_qag) (an:=an_qag) (N:=27) (c:=Tryz.f88.body.getD .skip) Tryz.func88 (by kernel_rfl) Tryz.ntmps88 (by decide) (by decide) mixed tabOK cok_qag (by kernel_rfl) ?_
 intro vs kk _ hF
 exact i_qag (motive:=fun vs=>Goes (V_qag vs kk)) hF (fun a b d e hF=>goes_of (e_qag a b d e kk) (F_qag_S hF))
def K_qbp (kk:AK):LI→Prop:=(fun a=>kk (.one (.c (.ro .int a))) [])
def con_qbp:Con:=⟨[.rd],true,[.c (.sl .int)],fun vs k=>match vs with
  | [.c (.ro .int a)]=>F_qbp a (K_qbp k)
  | _=>False,false⟩
def cl_qbp:List (FuncId×Con):=[]
def an_qbp:Ann:=⟨[],[],[],[]⟩
def cs_qbp:Cons:=⟨cl_qbp,[],0,[],[],[]⟩
def fin_qbp (a:LI) (kk:AK):Kt:=fin TT con_qbp Tryz.f102.results.toList [.c (.sl .int)] [.c (.ro .int a)] kk
def V_qbp (vs:List A1) (kk:AK):Prop:=ev TT cs_qbp 8 an_qbp (Tryz.f102.body.getD .skip) (st0 con_qbp vs) (fin TT con_qbp Tryz.f102.results.toList [.c (.sl .int)] vs kk)
theorem g_qbp (a:LI) (kk:AK) :
  V_qbp [.c (.ro .int a)] kk=G_qbp a (K_qbp kk):=by kernel_rfl
theorem e_qbp (a:LI) (kk:AK) :
  V_qbp [.c (.ro .int a)] kk=S_qbp a (K_qbp kk):=by
 rw [g_qbp]
 rfl
theorem clok_qbp:ConOK Tryz.prog cl_qbp:=consNil
theorem cok_qbp:ConsOK Tryz.prog 8 cs_qbp:=⟨clok_qbp,inlNil,ovNil⟩
theorem i_qbp {vs:List A1} {kk:AK} {motive:List A1→Prop} (h:con_qbp.F vs kk) (H:∀ (a:LI),F_qbp a (K_qbp kk)→motive [.c (.ro .int a)]):motive vs:=by
 unfold con_qbp at h
 dsimp only at h
 split at h
 ·exact H _ h
 ·exact h.elim
theorem h_qbp:Holds Tryz.prog 102 con_qbp:=by
 refine holds_of_ev (rt:=[.c (.sl .int)]) (T:=TT) (Γ:=cs_qbp) (an:=an_qbp) (N:=8) (c:=Tryz.f102.body.getD .skip) Tryz.func102 (by kernel_rfl) Tryz.ntmps102 (by decide) (by decide) mixed tabOK cok_qbp (by kernel_rfl) ?_
 intro vs kk _ hF
 exact i_qbp (motive:=fun vs=>Goes (V_qbp vs kk)) hF (fun a hF=>goes_of (e_qbp a kk) (F_qbp_S hF))
def K_qbj (kk:AK):LI→LT→Int→Prop:=(fun a b c=>kk (.one (.agg [.ro .int a,.ro .iib b,vi c])) [])
def con_qbj:Con:=⟨[.rd,.rd],true,[.agg [.sl .int,.sl .iib,.sc],.agg [.sc,.sc,.sc]],fun vs k=>match vs with
  | [.agg [.ro .int d,.ro .iib e,.v (.int .i64 f)],.agg [.v (.int .i64 c),.v (.int .i64 a),.v (.bool b)]]=>F_qbj d e f c a b (K_qbj k)
  | _=>False,false⟩
def cl_qbj:List (FuncId×Con):=[(102,con_qbp)]
def nm0_qbj:List NStep:=[.ownc 80 1 .iib 90000,.keep [3,4,5,18,19,20] [48,64,80,176,90000]]
def an_qbj_i1:Ann:=⟨[],[],[],[]⟩
def cs_qbj_i1:Cons:=⟨cl_qbj,[],976,[],[],[]⟩
def an_qbj:Ann:=⟨[(1,.take 0 (.take 1 (.take 3 (.take 5 (.take 6 (.alt 2 (.alt 4 (.take 7 (.alt 8 (.alt 9 (.done) (.none)) (.none))) (.alt 8 (.alt 4 (.take 7 (.alt 9 (.done) (.none))) (.none)) (.none))) (.alt 4 (.alt 2 (.take 7 (.alt 8 (.alt 9 (.done) (.none)) (.none))) (.alt 8 (.alt 2 (.take 7 (.alt 9 (.done) (.none))) (.none)) (.none))) (.alt 8 (.alt 2 (.alt 4 (.take 7 (.alt 9 (.done) (.none))) (.none)) (.alt 4 (.alt 2 (.take 7 (.alt 9 (.done) (.none))) (.none)) (.none))) (.none)))))))),[32,48])],[(3,nm0_qbj)],[],[]⟩
def cs_qbj:Cons:=⟨cl_qbj,[(57,⟨115,inlG TT cs_qbj_i1 60 8 an_qbj_i1 (Tryz.f115.body.getD .skip) Tryz.f115.results.toList⟩)],0,[],[],[]⟩
def can0_qbj (e:LI) (a:Bool) (d b:Int) (f:LT) (g i j:Int) (h:LT):St:=⟨[(3,.one (.c (.pb 48 0))),(4,.one (.c (.pb 64 0))),(5,.one (.c (.pb 80 0))),(18,.one (.c (.ro .iib f))),(19,.one (.c (vi i))),(20,.one (.c (vi j)))],[(48,.box [vi d,vi b,.v (.bool a)]),(64,.box [.nil,.nil,vi 0]),(80,.box [.ow 176,.ow 90000,vi g]),(176,.row .int e),(90000,.row .iib h)]⟩
def fin_qbj (d:LI) (e:LT) (f c a:Int) (b:Bool) (kk:AK):Kt:=fin TT con_qbj Tryz.f89.results.toList [.agg [.sl .int,.sl .iib,.sc]] [.agg [.ro .int d,.ro .iib e,vi f],.agg [vi c,vi a,.v (.bool b)]] kk
def V_qbj (vs:List A1) (kk:AK):Prop:=ev TT cs_qbj 60 an_qbj (Tryz.f89.body.getD .skip) (st0 con_qbj vs) (fin TT con_qbj Tryz.f89.results.toList [.agg [.sl .int,.sl .iib,.sc]] vs kk)
def kt0_qbj (kf:Kt):Kt:=blockK 0 (seqK (evF TT cs_qbj 60 an_qbj Tryz.f89 [1,1,1]) (kf))
def I0_qbj (d:LI) (e:LT) (f c a:Int) (b:Bool) (kk:AK):Nat→St→Prop:=iter (evF TT cs_qbj 60 an_qbj Tryz.f89 [1,1,0,1,0,0]) nm0_qbj (kt0_qbj (fin_qbj d e f c a b kk))
theorem r0_qbj (h:LI) (d:LT) (e c a:Int) (b:Bool) (f:LI) (kk:AK) (n:Nat) (i j:Int) (g:LT) :
  I0_qbj h d e c a b kk (n+1) (can0_qbj f b c a d e i j g)=T0_qbj f b c a d e i j g (K_qbj kk) (fun i j g=>I0_qbj h d e c a b kk n (can0_qbj f b c a d e i j g)):=by kernel_rfl
theorem l0_qbj (j:LI) (d:LT) (e c a:Int) (b:Bool) (g:LI) (kk:AK):∀ (n:Nat) (h i:Int) (f:LT),I0_qbj j d e c a b kk n (can0_qbj g b c a d e h i f)=L0_qbj g b c a d e (K_qbj kk) n h i f:=by
 intro n
 induction n with
 | zero=>intros; rfl
 | succ n ih=>
  intro h i f
  rw [r0_qbj j d e c a b g kk n h i f]
  simp only [ih] <;> rfl
theorem g_qbj (f:LI) (d:LT) (e c a:Int) (b:Bool) (kk:AK) :
  V_qbj [.agg [.ro .int f,.ro .iib d,vi e],.agg [vi c,vi a,.v (.bool b)]] kk=G_qbj f d e c a b (fun g b c a d e i l h=>∃ j,I0_qbj f d e c a b kk j (can0_qbj g b c a d e i l h)):=by kernel_rfl
theorem e_qbj (g:LI) (d:LT) (e c a:Int) (b:Bool) (kk:AK) :
  V_qbj [.agg [.ro .int g,.ro .iib d,vi e],.agg [vi c,vi a,.v (.bool b)]] kk=S_qbj g d e c a b (K_qbj kk):=by
 rw [g_qbj]
 have hi0:(fun f b c a d e i l h=>∃ j,I0_qbj g d e c a b kk j (can0_qbj f b c a d e i l h))=(fun f b c a d e i l h=>∃ j,L0_qbj f b c a d e (K_qbj kk) j i l h):=by
  funext f b c a d e i l h
  refine congrArg Exists (funext fun j=>?_)
  rw [l0_qbj g d e c a b f kk j i l h]
 rw [hi0]
 rw [G_qbj_eq]
 rfl
theorem clok_qbj:ConOK Tryz.prog cl_qbj:=consCons h_qbp (pf (by kernel_rfl)) (consNil)
theorem cok_qbj_i1:ConsOK Tryz.prog 8 cs_qbj_i1:=⟨clok_qbj,inlNil,ovNil⟩
theorem cok_qbj:ConsOK Tryz.prog 60 cs_qbj:=⟨clok_qbj,inlCons (inl_ok Tryz.func115 (by kernel_rfl) (ne_of_beq (by kernel_rfl)) Tryz.ntmps115 (by decide) mixed tabOK cok_qbj_i1 (by kernel_rfl)) (inlNil),ovNil⟩
theorem i_qbj {vs:List A1} {kk:AK} {motive:List A1→Prop} (h:con_qbj.F vs kk) (H:∀ (d:LI) (e:LT) (f c a:Int) (b:Bool),F_qbj d e f c a b (K_qbj kk)→motive [.agg [.ro .int d,.ro .iib e,vi f],.agg [vi c,vi a,.v (.bool b)]]):motive vs:=by
 unfold con_qbj at h
 dsimp only at h
 split at h
 ·exact H _ _ _ _ _ _ h
 ·exact h.elim
theorem h_qbj:Holds Tryz.prog 89 con_qbj:=by
 refine holds_of_ev (rt:=[.agg [.sl .int,.sl .iib,.sc]]) (T:=TT) (Γ:=cs_qbj) (an:=an_qbj) (N:=60) (c:=Tryz.f89.body.getD .skip) Tryz.func89 (by kernel_rfl) Tryz.ntmps89 (by decide) (by decide) mixed tabOK cok_qbj (by kernel_rfl) ?_
 intro vs kk _ hF
 exact i_qbj (motive:=fun vs=>Goes (V_qbj vs kk)) hF (fun e f g d a b hF=>goes_of (e_qbj e f g d a b kk) (F_qbj_S hF))
def K_qj (kk:AK):LI→LT→Int→Int→Bool→Prop:=(fun a b d e f=>kk (.tup [.agg [.ro .int a,.ro .iib b,vi d],.c (vi e),.c (.v (.bool f))]) [])
def con_qj:Con:=⟨[.rd,.rd],true,[.agg [.sl .int,.sl .iib,.sc],.c (.sc)],fun vs k=>match vs with
  | [.agg [.ro .int a,.ro .iib b,.v (.int .i64 d)],.c (.v (.int .i64 e))]=>F_qj a b d e (K_qj k)
  | _=>False,false⟩
def cl_qj:List (FuncId×Con):=[(86,con_qz),(87,con_qbd),(88,con_qag),(89,con_qbj)]
def an_qj:Ann:=⟨[(4,.take 0 (.take 1 (.take 3 (.take 4 (.alt 2 (.alt 5 (.take 6 (.take 7 (.done))) (.none)) (.none))))),[32,112])],[],[],[]⟩
def cs_qj:Cons:=⟨cl_qj,[],0,[],[],[]⟩
def fin_qj (a:LI) (b:LT) (d e:Int) (kk:AK):Kt:=fin TT con_qj Tryz.f62.results.toList [.agg [.sl .int,.sl .iib,.sc],.c .sc,.c .sc] [.agg [.ro .int a,.ro .iib b,vi d],.c (vi e)] kk
def V_qj (vs:List A1) (kk:AK):Prop:=ev TT cs_qj 25 an_qj (Tryz.f62.body.getD .skip) (st0 con_qj vs) (fin TT con_qj Tryz.f62.results.toList [.agg [.sl .int,.sl .iib,.sc],.c .sc,.c .sc] vs kk)
theorem g_qj (a:LI) (b:LT) (d e:Int) (kk:AK) :
  V_qj [.agg [.ro .int a,.ro .iib b,vi d],.c (vi e)] kk=G_qj a b d e (K_qj kk):=by kernel_rfl
theorem e_qj (a:LI) (b:LT) (d e:Int) (kk:AK) :
  V_qj [.agg [.ro .int a,.ro .iib b,vi d],.c (vi e)] kk=S_qj a b d e (K_qj kk):=by
 rw [g_qj]
 rw [G_qj_eq]
 rfl
theorem clok_qj:ConOK Tryz.prog cl_qj:=consCons h_qz (pf (by kernel_rfl)) (consCons h_qbd (pf (by kernel_rfl)) (consCons h_qag (pf (by kernel_rfl)) (consCons h_qbj (pf (by kernel_rfl)) (consNil))))
theorem cok_qj:ConsOK Tryz.prog 25 cs_qj:=⟨clok_qj,inlNil,ovNil⟩
theorem i_qj {vs:List A1} {kk:AK} {motive:List A1→Prop} (h:con_qj.F vs kk) (H:∀ (a:LI) (b:LT) (d e:Int),F_qj a b d e (K_qj kk)→motive [.agg [.ro .int a,.ro .iib b,vi d],.c (vi e)]):motive vs:=by
 unfold con_qj at h
 dsimp only at h
 split at h
 ·exact H _ _ _ _ h
 ·exact h.elim
theorem h_qj:Holds Tryz.prog 62 con_qj:=by
 refine holds_of_ev (rt:=[.agg [.sl .int,.sl .iib,.sc],.c .sc,.c .sc]) (T:=TT) (Γ:=cs_qj) (an:=an_qj) (N:=25) (c:=Tryz.f62.body.getD .skip) Tryz.func62 (by kernel_rfl) Tryz.ntmps62 (by decide) (by decide) mixed tabOK cok_qj (by kernel_rfl) ?_
 intro vs kk _ hF
 exact i_qj (motive:=fun vs=>Goes (V_qj vs kk)) hF (fun a b d e hF=>goes_of (e_qj a b d e kk) (F_qj_S hF))
def K_qab (kk:AK):LI→LT→Int→Bool→Prop:=(fun a b d e=>kk (.tup [.agg [.ro .int a,.ro .iib b,vi d],.c (.v (.bool e))]) [])
def con_qab:Con:=⟨[.rd,.rd,.rd],true,[.agg [.sl .int,.sl .iib,.sc],.c (.sc),.c (.sc)],fun vs k=>match vs with
  | [.agg [.ro .int a,.ro .iib b,.v (.int .i64 d)],.c (.v (.int .i64 f)),.c (.v (.int .i64 e))]=>F_qab a b d f e (K_qab k)
  | _=>False,false⟩
def cl_qab:List (FuncId×Con):=[(86,con_qz),(87,con_qbd),(89,con_qbj),(91,con_qbi)]
def an_qab:Ann:=⟨[],[],[],[]⟩
def cs_qab:Cons:=⟨cl_qab,[],0,[],[],[]⟩
def fin_qab (a:LI) (b:LT) (d f e:Int) (kk:AK):Kt:=fin TT con_qab Tryz.f65.results.toList [.agg [.sl .int,.sl .iib,.sc],.c .sc] [.agg [.ro .int a,.ro .iib b,vi d],.c (vi f),.c (vi e)] kk
def V_qab (vs:List A1) (kk:AK):Prop:=ev TT cs_qab 27 an_qab (Tryz.f65.body.getD .skip) (st0 con_qab vs) (fin TT con_qab Tryz.f65.results.toList [.agg [.sl .int,.sl .iib,.sc],.c .sc] vs kk)
theorem g_qab (a:LI) (b:LT) (d f e:Int) (kk:AK) :
  V_qab [.agg [.ro .int a,.ro .iib b,vi d],.c (vi f),.c (vi e)] kk=G_qab a b d f e (K_qab kk):=by kernel_rfl
theorem e_qab (a:LI) (b:LT) (d f e:Int) (kk:AK) :
  V_qab [.agg [.ro .int a,.ro .iib b,vi d],.c (vi f),.c (vi e)] kk=S_qab a b d f e (K_qab kk):=by
 rw [g_qab]
 rfl
theorem clok_qab:ConOK Tryz.prog cl_qab:=consCons h_qz (pf (by kernel_rfl)) (consCons h_qbd (pf (by kernel_rfl)) (consCons h_qbj (pf (by kernel_rfl)) (consCons h_qbi (pf (by kernel_rfl)) (consNil))))
theorem cok_qab:ConsOK Tryz.prog 27 cs_qab:=⟨clok_qab,inlNil,ovNil⟩
theorem i_qab {vs:List A1} {kk:AK} {motive:List A1→Prop} (h:con_qab.F vs kk) (H:∀ (a:LI) (b:LT) (d f e:Int),F_qab a b d f e (K_qab kk)→motive [.agg [.ro .int a,.ro .iib b,vi d],.c (vi f),.c (vi e)]):motive vs:=by
 unfold con_qab at h
 dsimp only at h
 split at h
 ·exact H _ _ _ _ _ h
 ·exact h.elim
theorem h_qab:Holds Tryz.prog 65 con_qab:=by
 refine holds_of_ev (rt:=[.agg [.sl .int,.sl .iib,.sc],.c .sc]) (T:=TT) (Γ:=cs_qab) (an:=an_qab) (N:=27) (c:=Tryz.f65.body.getD .skip) Tryz.func65 (by kernel_rfl) Tryz.ntmps65 (by decide) (by decide) mixed tabOK cok_qab (by kernel_rfl) ?_
 intro vs kk _ hF
 exact i_qab (motive:=fun vs=>Goes (V_qab vs kk)) hF (fun a b d f e hF=>goes_of (e_qab a b d f e kk) (F_qab_S hF))
def K_qaa (kk:AK):Bool→Prop:=(fun a=>kk (.one (.c (.v (.bool a)))) [])
def con_qaa:Con:=⟨[.rd],true,[.c (.sl .int)],fun vs k=>match vs with
  | [.c (.ro .int a)]=>F_qaa a (K_qaa k)
  | _=>False,false⟩
def cl_qaa:List (FuncId×Con):=[(87,con_qbd)]
def nm0_qaa:List NStep:=[.keep [8,9,10] []]
def an_qaa:Ann:=⟨[],[(4,nm0_qaa)],[],[]⟩
def cs_qaa:Cons:=⟨cl_qaa,[],0,[],[],[]⟩
def can0_qaa (d:LI) (b a:Int):St:=⟨[(8,.one (.c (.ro .int d))),(9,.one (.c (vi b))),(10,.one (.c (vi a)))],[]⟩
def fin_qaa (a:LI) (kk:AK):Kt:=fin TT con_qaa Tryz.f98.results.toList [.c .sc] [.c (.ro .int a)] kk
def V_qaa (vs:List A1) (kk:AK):Prop:=ev TT cs_qaa 18 an_qaa (Tryz.f98.body.getD .skip) (st0 con_qaa vs) (fin TT con_qaa Tryz.f98.results.toList [.c .sc] vs kk)
def kt0_qaa (kf:Kt):Kt:=blockK 0 (seqK (evF TT cs_qaa 18 an_qaa Tryz.f98 [1,1,1]) (kf))
def I0_qaa (a:LI) (kk:AK):Nat→St→Prop:=iter (evF TT cs_qaa 18 an_qaa Tryz.f98 [1,1,0,1,0,0]) nm0_qaa (kt0_qaa (fin_qaa a kk))
theorem r0_qaa (b:LI) (c:Int) (kk:AK) (n:Nat) (a:Int) :
  I0_qaa b kk (n+1) (can0_qaa b c a)=T0_qaa b c a (K_qaa kk) (fun a=>I0_qaa b kk n (can0_qaa b c a)):=by kernel_rfl
theorem l0_qaa (c:LI) (b:Int) (kk:AK):∀ (n:Nat) (a:Int),I0_qaa c kk n (can0_qaa c b a)=L0_qaa c b (K_qaa kk) n a:=by
 intro n
 induction n with
 | zero=>intros; rfl
 | succ n ih=>
  intro a
  rw [r0_qaa c b kk n a]
  simp only [ih] <;> rfl
theorem g_qaa (a:LI) (kk:AK) :
  V_qaa [.c (.ro .int a)] kk=G_qaa a (K_qaa kk) (fun a d b=>∃ j,I0_qaa a kk j (can0_qaa a d b)):=by kernel_rfl
theorem e_qaa (b:LI) (kk:AK) :
  V_qaa [.c (.ro .int b)] kk=S_qaa b (K_qaa kk):=by
 rw [g_qaa]
 have hi0:(fun b d a=>∃ j,I0_qaa b kk j (can0_qaa b d a))=(fun b d a=>∃ j,L0_qaa b d (K_qaa kk) j a):=by
  funext b d a
  refine congrArg Exists (funext fun j=>?_)
  rw [l0_qaa b d kk j a]
 rw [hi0]
 rfl
theorem clok_qaa:ConOK Tryz.prog cl_qaa:=consCons h_qbd (pf (by kernel_rfl)) (consNil)
theorem cok_qaa:ConsOK Tryz.prog 18 cs_qaa:=⟨clok_qaa,inlNil,ovNil⟩
theorem i_qaa {vs:List A1} {kk:AK} {motive:List A1→Prop} (h:con_qaa.F vs kk) (H:∀ (a:LI),F_qaa a (K_qaa kk)→motive [.c (.ro .int a)]):motive vs:=by
 unfold con_qaa at h
 dsimp only at h
 split at h
 ·exact H _ h
 ·exact h.elim
theorem h_qaa:Holds Tryz.prog 98 con_qaa:=by
 refine holds_of_ev (rt:=[.c .sc]) (T:=TT) (Γ:=cs_qaa) (an:=an_qaa) (N:=18) (c:=Tryz.f98.body.getD .skip) Tryz.func98 (by kernel_rfl) Tryz.ntmps98 (by decide) (by decide) mixed tabOK cok_qaa (by kernel_rfl) ?_
 intro vs kk _ hF
 exact i_qaa (motive:=fun vs=>Goes (V_qaa vs kk)) hF (fun a hF=>goes_of (e_qaa a kk) (F_qaa_S hF))
def K_qbk (kk:AK):LI→Prop:=(fun a=>kk (.one (.c (.ro .int a))) [])
def con_qbk:Con:=⟨[.rd,.rd],true,[.c (.sl .int),.c (.sc)],fun vs k=>match vs with
  | [.c (.ro .int a),.c (.v (.int .i64 b))]=>F_qbk a b (K_qbk k)
  | _=>False,false⟩
def cl_qbk:List (FuncId×Con):=[]
def nm0_qbk:List NStep:=[.own 5 .int 90000,.keep [1,5,9,10,11] [90000]]
def an_qbk:Ann:=⟨[],[(3,nm0_qbk)],[],[]⟩
def cs_qbk:Cons:=⟨cl_qbk,[],0,[],[],[]⟩
def can0_qbk (d:Int) (a:LI) (e f:Int) (b:LI):St:=⟨[(1,.one (.c (vi d))),(5,.one (.c (.ow 90000))),(9,.one (.c (.ro .int a))),(10,.one (.c (vi e))),(11,.one (.c (vi f)))],[(90000,.row .int b)]⟩
def fin_qbk (a:LI) (b:Int) (kk:AK):Kt:=fin TT con_qbk Tryz.f129.results.toList [.c (.sl .int)] [.c (.ro .int a),.c (vi b)] kk
def V_qbk (vs:List A1) (kk:AK):Prop:=ev TT cs_qbk 24 an_qbk (Tryz.f129.body.getD .skip) (st0 con_qbk vs) (fin TT con_qbk Tryz.f129.results.toList [.c (.sl .int)] vs kk)
def kt0_qbk (kf:Kt):Kt:=blockK 0 (seqK (evF TT cs_qbk 24 an_qbk Tryz.f129 [1,1,1]) (kf))
def I0_qbk (a:LI) (b:Int) (kk:AK):Nat→St→Prop:=iter (evF TT cs_qbk 24 an_qbk Tryz.f129 [1,1,0,1,0,0]) nm0_qbk (kt0_qbk (fin_qbk a b kk))
theorem r0_qbk (a:LI) (c e:Int) (kk:AK) (n:Nat) (d:Int) (b:LI) :
  I0_qbk a c kk (n+1) (can0_qbk c a e d b)=T0_qbk c a e d b (K_qbk kk) (fun d b=>I0_qbk a c kk n (can0_qbk c a e d b)):=by kernel_rfl
theorem l0_qbk (b:LI) (d e:Int) (kk:AK):∀ (n:Nat) (c:Int) (a:LI),I0_qbk b d kk n (can0_qbk d b e c a)=L0_qbk d b e (K_qbk kk) n c a:=by
 intro n
 induction n with
 | zero=>intros; rfl
 | succ n ih=>
  intro c a
  rw [r0_qbk b d e kk n c a]
  simp only [ih] <;> rfl
theorem g_qbk (a:LI) (b:Int) (kk:AK) :
  V_qbk [.c (.ro .int a),.c (vi b)] kk=G_qbk a b (fun b a e f d=>∃ j,I0_qbk a b kk j (can0_qbk b a e f d)):=by kernel_rfl
theorem e_qbk (a:LI) (b:Int) (kk:AK) :
  V_qbk [.c (.ro .int a),.c (vi b)] kk=S_qbk a b (K_qbk kk):=by
 rw [g_qbk]
 have hi0:(fun b a e f d=>∃ j,I0_qbk a b kk j (can0_qbk b a e f d))=(fun b a e f d=>∃ j,L0_qbk b a e (K_qbk kk) j f d):=by
  funext b a e f d
  refine congrArg Exists (funext fun j=>?_)
  rw [l0_qbk a b e kk j f d]
 rw [hi0]
 rfl
theorem clok_qbk:ConOK Tryz.prog cl_qbk:=consNil
theorem cok_qbk:ConsOK Tryz.prog 24 cs_qbk:=⟨clok_qbk,inlNil,ovNil⟩
theorem i_qbk {vs:List A1} {kk:AK} {motive:List A1→Prop} (h:con_qbk.F vs kk) (H:∀ (a:LI) (b:Int),F_qbk a b (K_qbk kk)→motive [.c (.ro .int a),.c (vi b)]):motive vs:=by
 unfold con_qbk at h
 dsimp only at h
 split at h
 ·exact H _ _ h
 ·exact h.elim
theorem h_qbk:Holds Tryz.prog 129 con_qbk:=by
 refine holds_of_ev (rt:=[.c (.sl .int)]) (T:=TT) (Γ:=cs_qbk) (an:=an_qbk) (N:=24) (c:=Tryz.f129.body.getD .skip) Tryz.func129 (by kernel_rfl) Tryz.ntmps129 (by decide) (by decide) mixed tabOK cok_qbk (by kernel_rfl) ?_
 intro vs kk _ hF
 exact i_qbk (motive:=fun vs=>Goes (V_qbk vs kk)) hF (fun a b hF=>goes_of (e_qbk a b kk) (F_qbk_S hF))
def K_qal (kk:AK):LI→Prop:=(fun a=>kk (.one (.c (.ro .int a))) [])
def con_qal:Con:=⟨[.rd,.rd],true,[.c (.sl .int),.c (.sc)],fun vs k=>match vs with
  | [.c (.ro .int a),.c (.v (.int .i64 b))]=>F_qal a b (K_qal k)
  | _=>False,false⟩
def cl_qal:List (FuncId×Con):=[]
def an_qal:Ann:=⟨[],[],[],[]⟩
def cs_qal:Cons:=⟨cl_qal,[],0,[],[],[]⟩
def fin_qal (a:LI) (b:Int) (kk:AK):Kt:=fin TT con_qal Tryz.f148.results.toList [.c (.sl .int)] [.c (.ro .int a),.c (vi b)] kk
def V_qal (vs:List A1) (kk:AK):Prop:=ev TT cs_qal 9 an_qal (Tryz.f148.body.getD .skip) (st0 con_qal vs) (fin TT con_qal Tryz.f148.results.toList [.c (.sl .int)] vs kk)
theorem g_qal (a:LI) (b:Int) (kk:AK) :
  V_qal [.c (.ro .int a),.c (vi b)] kk=G_qal a b (K_qal kk):=by kernel_rfl
theorem e_qal (a:LI) (b:Int) (kk:AK) :
  V_qal [.c (.ro .int a),.c (vi b)] kk=S_qal a b (K_qal kk):=by
 rw [g_qal]
 rfl
theorem clok_qal:ConOK Tryz.prog cl_qal:=consNil
theorem cok_qal:ConsOK Tryz.prog 9 cs_qal:=⟨clok_qal,inlNil,ovNil⟩
theorem i_qal {vs:List A1} {kk:AK} {motive:List A1→Prop} (h:con_qal.F vs kk) (H:∀ (a:LI) (b:Int),F_qal a b (K_qal kk)→motive [.c (.ro .int a),.c (vi b)]):motive vs:=by
 unfold con_qal at h
 dsimp only at h
 split at h
 ·exact H _ _ h
 ·exact h.elim
theorem h_qal:Holds Tryz.prog 148 con_qal:=by
 refine holds_of_ev (rt:=[.c (.sl .int)]) (T:=TT) (Γ:=cs_qal) (an:=an_qal) (N:=9) (c:=Tryz.f148.body.getD .skip) Tryz.func148 (by kernel_rfl) Tryz.ntmps148 (by decide) (by decide) mixed tabOK cok_qal (by kernel_rfl) ?_
 intro vs kk _ hF
 exact i_qal (motive:=fun vs=>Goes (V_qal vs kk)) hF (fun a b hF=>goes_of (e_qal a b kk) (F_qal_S hF))
def K_qu (kk:AK):LI→Bool→Prop:=(fun a b=>kk (.tup [.c (.ro .int a),.c (.v (.bool b))]) [])
def con_qu:Con:=⟨[.rd,.rd,.rd],true,[.c (.sl .int),.c (.sc),.c (.sc)],fun vs k=>match vs with
  | [.c (.ro .int a),.c (.v (.int .i64 b)),.c (.v (.int .i64 d))]=>F_qu a b d (K_qu k)
  | _=>False,false⟩
def cl_qu:List (FuncId×Con):=[(87,con_qbd),(113,con_qx),(128,con_qbt),(129,con_qbk),(148,con_qal)]
def an_qu:Ann:=⟨[(4,.take 0 (.take 1 (.take 2 (.take 3 (.take 4 (.take 5 (.take 6 (.take 7 (.alt 8 (.take 9 (.take 10 (.done))) (.none))))))))),[])],[],[],[]⟩
def cs_qu:Cons:=⟨cl_qu,[],0,[],[],[]⟩
def fin_qu (a:LI) (b d:Int) (kk:AK):Kt:=fin TT con_qu Tryz.f118.results.toList [.c (.sl .int),.c .sc] [.c (.ro .int a),.c (vi b),.c (vi d)] kk
def V_qu (vs:List A1) (kk:AK):Prop:=ev TT cs_qu 32 an_qu (Tryz.f118.body.getD .skip) (st0 con_qu vs) (fin TT con_qu Tryz.f118.results.toList [.c (.sl .int),.c .sc] vs kk)
theorem g_qu (a:LI) (b d:Int) (kk:AK) :
  V_qu [.c (.ro .int a),.c (vi b),.c (vi d)] kk=G_qu a b d (K_qu kk):=by kernel_rfl
theorem e_qu (a:LI) (b d:Int) (kk:AK) :
  V_qu [.c (.ro .int a),.c (vi b),.c (vi d)] kk=S_qu a b d (K_qu kk):=by
 rw [g_qu]
 rw [G_qu_eq]
 rfl
theorem clok_qu:ConOK Tryz.prog cl_qu:=consCons h_qbd (pf (by kernel_rfl)) (consCons h_qx (pf (by kernel_rfl)) (consCons h_qbt (pf (by kernel_rfl)) (consCons h_qbk (pf (by kernel_rfl)) (consCons h_qal (pf (by kernel_rfl)) (consNil)))))
theorem cok_qu:ConsOK Tryz.prog 32 cs_qu:=⟨clok_qu,inlNil,ovNil⟩
theorem i_qu {vs:List A1} {kk:AK} {motive:List A1→Prop} (h:con_qu.F vs kk) (H:∀ (a:LI) (b d:Int),F_qu a b d (K_qu kk)→motive [.c (.ro .int a),.c (vi b),.c (vi d)]):motive vs:=by
 unfold con_qu at h
 dsimp only at h
 split at h
 ·exact H _ _ _ h
 ·exact h.elim
theorem h_qu:Holds Tryz.prog 118 con_qu:=by
 refine holds_of_ev (rt:=[.c (.sl .int),.c .sc]) (T:=TT) (Γ:=cs_qu) (an:=an_qu) (N:=32) (c:=Tryz.f118.body.getD .skip) Tryz.func118 (by kernel_rfl) Tryz.ntmps118 (by decide) (by decide) mixed tabOK cok_qu (by kernel_rfl) ?_
 intro vs kk _ hF
 exact i_qu (motive:=fun vs=>Goes (V_qu vs kk)) hF (fun a b d hF=>goes_of (e_qu a b d kk) (F_qu_S hF))
def K_qr (kk:AK):LI→Bool→Prop:=(fun a b=>kk (.tup [.c (.ro .int a),.c (.v (.bool b))]) [])
def con_qr:Con:=⟨[.rd,.rd,.rd],true,[.c (.sl .int),.c (.sc),.c (.sc)],fun vs k=>match vs with
  | [.c (.ro .int a),.c (.v (.int .i64 b)),.c (.v (.int .i64 d))]=>F_qr a b d (K_qr k)
  | _=>False,false⟩
def cl_qr:List (FuncId×Con):=[(87,con_qbd),(113,con_qx),(128,con_qbt)]
def an_qr:Ann:=⟨[],[],[],[]⟩
def cs_qr:Cons:=⟨cl_qr,[],0,[],[],[]⟩
def fin_qr (a:LI) (b d:Int) (kk:AK):Kt:=fin TT con_qr Tryz.f119.results.toList [.c (.sl .int),.c .sc] [.c (.ro .int a),.c (vi b),.c (vi d)] kk
def V_qr (vs:List A1) (kk:AK):Prop:=ev TT cs_qr 36 an_qr (Tryz.f119.body.getD .skip) (st0 con_qr vs) (fin TT con_qr Tryz.f119.results.toList [.c (.sl .int),.c .sc] vs kk)
theorem g_qr (a:LI) (b d:Int) (kk:AK) :
  V_qr [.c (.ro .int a),.c (vi b),.c (vi d)] kk=G_qr a b d (K_qr kk):=by kernel_rfl
theorem e_qr (a:LI) (b d:Int) (kk:AK) :
  V_qr [.c (.ro .int a),.c (vi b),.c (vi d)] kk=S_qr a b d (K_qr kk):=by
 rw [g_qr]
 rfl
theorem clok_qr:ConOK Tryz.prog cl_qr:=consCons h_qbd (pf (by kernel_rfl)) (consCons h_qx (pf (by kernel_rfl)) (consCons h_qbt (pf (by kernel_rfl)) (consNil)))
theorem cok_qr:ConsOK Tryz.prog 36 cs_qr:=⟨clok_qr,inlNil,ovNil⟩
theorem i_qr {vs:List A1} {kk:AK} {motive:List A1→Prop} (h:con_qr.F vs kk) (H:∀ (a:LI) (b d:Int),F_qr a b d (K_qr kk)→motive [.c (.ro .int a),.c (vi b),.c (vi d)]):motive vs:=by
 unfold con_qr at h
 dsimp only at h
 split at h
 ·exact H _ _ _ h
 ·exact h.elim
theorem h_qr:Holds Tryz.prog 119 con_qr:=by
 refine holds_of_ev (rt:=[.c (.sl .int),.c .sc]) (T:=TT) (Γ:=cs_qr) (an:=an_qr) (N:=36) (c:=Tryz.f119.body.getD .skip) Tryz.func119 (by kernel_rfl) Tryz.ntmps119 (by decide) (by decide) mixed tabOK cok_qr (by kernel_rfl) ?_
 intro vs kk _ hF
 exact i_qr (motive:=fun vs=>Goes (V_qr vs kk)) hF (fun a b d hF=>goes_of (e_qr a b d kk) (F_qr_S hF))
def con_qap:Con:=⟨[.rd,.rd,.rd,.rd],true,[.c (.sl .int),.c (.sc),.c (.pe),.c (.pe)],fun vs k=>match vs with
  | [.c (.ro .int a),.c (.v (.int .i64 b)),.c (.pe [.func (.func 118) ⟨[]⟩ ⟨[]⟩] 0),.c (.pe [.int .i64 d] 0)]=>F_qar a b d (fun e f=>k (.tup [.c (.ro .int e),.c (.v (.bool f))]) [])
  | [.c (.ro .int a),.c (.v (.int .i64 b)),.c (.pe [.func (.func 119) ⟨[]⟩ ⟨[]⟩] 0),.c (.pe [.int .i64 d] 0)]=>F_qaq a b d (fun e f=>k (.tup [.c (.ro .int e),.c (.v (.bool f))]) [])
  | _=>False,false⟩
def K_qar (kk:AK):LI→Bool→Prop:=(fun a b=>kk (.tup [.c (.ro .int a),.c (.v (.bool b))]) [])
def con_qar:Con:={ con_qap with F:=fun vs k=>match vs with
  | [.c (.ro .int a),.c (.v (.int .i64 b)),.c (.pe [.func (.func 118) ⟨[]⟩ ⟨[]⟩] 0),.c (.pe [.int .i64 d] 0)]=>F_qar a b d (K_qar k)
  | _=>False }
def K_qaq (kk:AK):LI→Bool→Prop:=(fun a b=>kk (.tup [.c (.ro .int a),.c (.v (.bool b))]) [])
def con_qaq:Con:={ con_qap with F:=fun vs k=>match vs with
  | [.c (.ro .int a),.c (.v (.int .i64 b)),.c (.pe [.func (.func 119) ⟨[]⟩ ⟨[]⟩] 0),.c (.pe [.int .i64 d] 0)]=>F_qaq a b d (K_qaq k)
  | _=>False }
def cl_qar:List (FuncId×Con):=[(118,con_qu)]
def an_qar:Ann:=⟨[],[],[],[]⟩
def cs_qar:Cons:=⟨cl_qar,[],0,[],[],[]⟩
def fin_qar (a:LI) (b d:Int) (kk:AK):Kt:=fin TT con_qar Tryz.f147.results.toList [.c (.sl .int),.c .sc] [.c (.ro .int a),.c (vi b),.c (.pe [.func (.func 118) ⟨[]⟩ ⟨[]⟩] 0),.c (.pe [.int .i64 d] 0)] kk
def V_qar (vs:List A1) (kk:AK):Prop:=ev TT cs_qar 15 an_qar (Tryz.f147.body.getD .skip) (st0 con_qar vs) (fin TT con_qar Tryz.f147.results.toList [.c (.sl .int),.c .sc] vs kk)
theorem g_qar (a:LI) (b d:Int) (kk:AK) :
  V_qar [.c (.ro .int a),.c (vi b),.c (.pe [.func (.func 118) ⟨[]⟩ ⟨[]⟩] 0),.c (.pe [.int .i64 d] 0)] kk=G_qar a b d (K_qar kk):=by kernel_rfl
theorem e_qar (a:LI) (b d:Int) (kk:AK) :
  V_qar [.c (.ro .int a),.c (vi b),.c (.pe [.func (.func 118) ⟨[]⟩ ⟨[]⟩] 0),.c (.pe [.int .i64 d] 0)] kk=S_qar a b d (K_qar kk):=by
 rw [g_qar]
 rfl
theorem clok_qar:ConOK Tryz.prog cl_qar:=consCons h_qu (pf (by kernel_rfl)) (consNil)
theorem cok_qar:ConsOK Tryz.prog 15 cs_qar:=⟨clok_qar,inlNil,ovNil⟩
def cl_qaq:List (FuncId×Con):=[(119,con_qr)]
def an_qaq:Ann:=⟨[],[],[],[]⟩
def cs_qaq:Cons:=⟨cl_qaq,[],0,[],[],[]⟩
def fin_qaq (a:LI) (b d:Int) (kk:AK):Kt:=fin TT con_qaq Tryz.f147.results.toList [.c (.sl .int),.c .sc] [.c (.ro .int a),.c (vi b),.c (.pe [.func (.func 119) ⟨[]⟩ ⟨[]⟩] 0),.c (.pe [.int .i64 d] 0)] kk
def V_qaq (vs:List A1) (kk:AK):Prop:=ev TT cs_qaq 15 an_qaq (Tryz.f147.body.getD .skip) (st0 con_qaq vs) (fin TT con_qaq Tryz.f147.results.toList [.c (.sl .int),.c .sc] vs kk)
theorem g_qaq (a:LI) (b d:Int) (kk:AK) :
  V_qaq [.c (.ro .int a),.c (vi b),.c (.pe [.func (.func 119) ⟨[]⟩ ⟨[]⟩] 0),.c (.pe [.int .i64 d] 0)] kk=G_qaq a b d (K_qaq kk):=by kernel_rfl
theorem e_qaq (a:LI) (b d:Int) (kk:AK) :
  V_qaq [.c (.ro .int a),.c (vi b),.c (.pe [.func (.func 119) ⟨[]⟩ ⟨[]⟩] 0),.c (.pe [.int .i64 d] 0)] kk=S_qaq a b d (K_qaq kk):=by
 rw [g_qaq]
 rfl
theorem clok_qaq:ConOK Tryz.prog cl_qaq:=consCons h_qr (pf (by kernel_rfl)) (consNil)
theorem cok_qaq:ConsOK Tryz.prog 15 cs_qaq:=⟨clok_qaq,inlNil,ovNil⟩
theorem i_qar {vs:List A1} {kk:AK} {motive:List A1→Prop} (h:con_qar.F vs kk) (H:∀ (a:LI) (b d:Int),F_qar a b d (K_qar kk)→motive [.c (.ro .int a),.c (vi b),.c (.pe [.func (.func 118) ⟨[]⟩ ⟨[]⟩] 0),.c (.pe [.int .i64 d] 0)]):motive vs:=by
 unfold con_qar at h
 dsimp only at h
 split at h
 ·exact H _ _ _ h
 ·exact h.elim
theorem h_qar:Holds Tryz.prog 147 con_qar:=by
 refine holds_of_ev (rt:=[.c (.sl .int),.c .sc]) (T:=TT) (Γ:=cs_qar) (an:=an_qar) (N:=15) (c:=Tryz.f147.body.getD .skip) Tryz.func147 (by kernel_rfl) Tryz.ntmps147 (by decide) (by decide) mixed tabOK cok_qar (by kernel_rfl) ?_
 intro vs kk _ hF
 exact i_qar (motive:=fun vs=>Goes (V_qar vs kk)) hF (fun a b d hF=>goes_of (e_qar a b d kk) (F_qar_S hF))
theorem i_qaq {vs:List A1} {kk:AK} {motive:List A1→Prop} (h:con_qaq.F vs kk) (H:∀ (a:LI) (b d:Int),F_qaq a b d (K_qaq kk)→motive [.c (.ro .int a),.c (vi b),.c (.pe [.func (.func 119) ⟨[]⟩ ⟨[]⟩] 0),.c (.pe [.int .i64 d] 0)]):motive vs:=by
 unfold con_qaq at h
 dsimp only at h
 split at h
 ·exact H _ _ _ h
 ·exact h.elim
theorem h_qaq:Holds Tryz.prog 147 con_qaq:=by
 refine holds_of_ev (rt:=[.c (.sl .int),.c .sc]) (T:=TT) (Γ:=cs_qaq) (an:=an_qaq) (N:=15) (c:=Tryz.f147.body.getD .skip) Tryz.func147 (by kernel_rfl) Tryz.ntmps147 (by decide) (by decide) mixed tabOK cok_qaq (by kernel_rfl) ?_
 intro vs kk _ hF
 exact i_qaq (motive:=fun vs=>Goes (V_qaq vs kk)) hF (fun a b d hF=>goes_of (e_qaq a b d kk) (F_qaq_S hF))
theorem h_qap:Holds Tryz.prog 147 con_qap:=by
 refine holds_of_any fun vs kk h=>?_
 unfold con_qap at h
 dsimp only at h
 split at h
 ·exact ⟨con_qar.F,h_qar,h⟩
 ·exact ⟨con_qaq.F,h_qaq,h⟩
 ·exact h.elim
def con_qaz:Con:=⟨[.rd,.mv,.rd],true,[.c (.sl .int),.c (.sl .int),.c (.fn)],fun vs k=>match vs with
  | [.c (.ro .int d),.c (.ro .int a),.c (.cl 147 [.k (.func (.func 118) ⟨[]⟩ ⟨[]⟩),.k (.int .i64 b)])]=>F_qbb d a b (fun e f=>k (.tup [.c (.ro .int e),.c (.v (.int .i64 f))]) [])
  | [.c (.ro .int d),.c (.ro .int a),.c (.cl 147 [.k (.func (.func 119) ⟨[]⟩ ⟨[]⟩),.k (.int .i64 b)])]=>F_qba d a b (fun e f=>k (.tup [.c (.ro .int e),.c (.v (.int .i64 f))]) [])
  | _=>False,false⟩
def K_qbb (kk:AK):LI→Int→Prop:=(fun a b=>kk (.tup [.c (.ro .int a),.c (vi b)]) [])
def con_qbb:Con:={ con_qaz with F:=fun vs k=>match vs with
  | [.c (.ro .int d),.c (.ro .int a),.c (.cl 147 [.k (.func (.func 118) ⟨[]⟩ ⟨[]⟩),.k (.int .i64 b)])]=>F_qbb d a b (K_qbb k)
  | _=>False }
def K_qba (kk:AK):LI→Int→Prop:=(fun a b=>kk (.tup [.c (.ro .int a),.c (vi b)]) [])
def con_qba:Con:={ con_qaz with F:=fun vs k=>match vs with
  | [.c (.ro .int d),.c (.ro .int a),.c (.cl 147 [.k (.func (.func 119) ⟨[]⟩ ⟨[]⟩),.k (.int .i64 b)])]=>F_qba d a b (K_qba k)
  | _=>False }
def cl_qbb:List (FuncId×Con):=[(147,con_qap)]
def nm0_qbb:List NStep:=[.own 1 .int 90000,.keep [1,2,8,13,14,15] [90000]]
def an_qbb:Ann:=⟨[],[(3,nm0_qbb)],[],[]⟩
def cs_qbb:Cons:=⟨cl_qbb,[],0,[],[],[]⟩
def can0_qbb (g:LI) (b e:Int) (d f:Int) (a:LI):St:=⟨[(1,.one (.c (.ow 90000))),(2,.one (.c (.cl 147 [.k (.func (.func 118) ⟨[]⟩ ⟨[]⟩),.k (.int .i64 b)]))),(8,.one (.c (vi d))),(13,.one (.c (.ro .int g))),(14,.one (.c (vi e))),(15,.one (.c (vi f)))],[(90000,.row .int a)]⟩
def fin_qbb (d a:LI) (b:Int) (kk:AK):Kt:=fin TT con_qbb Tryz.f146.results.toList [.c (.sl .int),.c .sc] [.c (.ro .int d),.c (.ro .int a),.c (.cl 147 [.k (.func (.func 118) ⟨[]⟩ ⟨[]⟩),.k (.int .i64 b)])] kk
def V_qbb (vs:List A1) (kk:AK):Prop:=ev TT cs_qbb 33 an_qbb (Tryz.f146.body.getD .skip) (st0 con_qbb vs) (fin TT con_qbb Tryz.f146.results.toList [.c (.sl .int),.c .sc] vs kk)
def kt0_qbb (kf:Kt):Kt:=blockK 0 (seqK (evF TT cs_qbb 33 an_qbb Tryz.f146 [1,1,1]) (kf))
def I0_qbb (c a:LI) (b:Int) (kk:AK):Nat→St→Prop:=iter (evF TT cs_qbb 33 an_qbb Tryz.f146 [1,1,0,1,0,0]) nm0_qbb (kt0_qbb (fin_qbb c a b kk))
theorem r0_qbb (g e:LI) (a f:Int) (kk:AK) (n:Nat) (c d:Int) (b:LI) :
  I0_qbb g e a kk (n+1) (can0_qbb g a f c d b)=T0_qbb g a f c d b (K_qbb kk) (fun c d b=>I0_qbb g e a kk n (can0_qbb g a f c d b)):=by kernel_rfl
theorem l0_qbb (g e:LI) (c f:Int) (kk:AK):∀ (n:Nat) (b d:Int) (a:LI),I0_qbb g e c kk n (can0_qbb g c f b d a)=L0_qbb g c f (K_qbb kk) n b d a:=by
 intro n
 induction n with
 | zero=>intros; rfl
 | succ n ih=>
  intro b d a
  rw [r0_qbb g e c f kk n b d a]
  simp only [ih] <;> rfl
theorem g_qbb (e b:LI) (a:Int) (kk:AK) :
  V_qbb [.c (.ro .int e),.c (.ro .int b),.c (.cl 147 [.k (.func (.func 118) ⟨[]⟩ ⟨[]⟩),.k (.int .i64 a)])] kk=G_qbb e b a (fun e a g f h d=>∃ j,I0_qbb e b a kk j (can0_qbb e a g f h d)):=by kernel_rfl
theorem e_qbb (h e:LI) (a:Int) (kk:AK) :
  V_qbb [.c (.ro .int h),.c (.ro .int e),.c (.cl 147 [.k (.func (.func 118) ⟨[]⟩ ⟨[]⟩),.k (.int .i64 a)])] kk=S_qbb h e a (K_qbb kk):=by
 rw [g_qbb]
 have hi0:(fun h a f d g b=>∃ j,I0_qbb h e a kk j (can0_qbb h a f d g b))=(fun h a f d g b=>∃ j,L0_qbb h a f (K_qbb kk) j d g b):=by
  funext h a f d g b
  refine congrArg Exists (funext fun j=>?_)
  rw [l0_qbb h e a f kk j d g b]
 rw [hi0]
 rfl
theorem clok_qbb:ConOK Tryz.prog cl_qbb:=consCons h_qap (pf (by kernel_rfl)) (consNil)
theorem cok_qbb:ConsOK Tryz.prog 33 cs_qbb:=⟨clok_qbb,inlNil,ovNil⟩
def cl_qba:List (FuncId×Con):=[(147,con_qap)]
def nm0_qba:List NStep:=[.own 1 .int 90000,.keep [1,2,8,13,14,15] [90000]]
def an_qba:Ann:=⟨[],[(3,nm0_qba)],[],[]⟩
def cs_qba:Cons:=⟨cl_qba,[],0,[],[],[]⟩
def can0_qba (g:LI) (b e:Int) (d f:Int) (a:LI):St:=⟨[(1,.one (.c (.ow 90000))),(2,.one (.c (.cl 147 [.k (.func (.func 119) ⟨[]⟩ ⟨[]⟩),.k (.int .i64 b)]))),(8,.one (.c (vi d))),(13,.one (.c (.ro .int g))),(14,.one (.c (vi e))),(15,.one (.c (vi f)))],[(90000,.row .int a)]⟩
def fin_qba (d a:LI) (b:Int) (kk:AK):Kt:=fin TT con_qba Tryz.f146.results.toList [.c (.sl .int),.c .sc] [.c (.ro .int d),.c (.ro .int a),.c (.cl 147 [.k (.func (.func 119) ⟨[]⟩ ⟨[]⟩),.k (.int .i64 b)])] kk
def V_qba (vs:List A1) (kk:AK):Prop:=ev TT cs_qba 33 an_qba (Tryz.f146.body.getD .skip) (st0 con_qba vs) (fin TT con_qba Tryz.f146.results.toList [.c (.sl .int),.c .sc] vs kk)
def kt0_qba (kf:Kt):Kt:=blockK 0 (seqK (evF TT cs_qba 33 an_qba Tryz.f146 [1,1,1]) (kf))
def I0_qba (c a:LI) (b:Int) (kk:AK):Nat→St→Prop:=iter (evF TT cs_qba 33 an_qba Tryz.f146 [1,1,0,1,0,0]) nm0_qba (kt0_qba (fin_qba c a b kk))
theorem r0_qba (g e:LI) (a f:Int) (kk:AK) (n:Nat) (c d:Int) (b:LI) :
  I0_qba g e a kk (n+1) (can0_qba g a f c d b)=T0_qba g a f c d b (K_qba kk) (fun c d b=>I0_qba g e a kk n (can0_qba g a f c d b)):=by kernel_rfl
theorem l0_qba (g e:LI) (c f:Int) (kk:AK):∀ (n:Nat) (b d:Int) (a:LI),I0_qba g e c kk n (can0_qba g c f b d a)=L0_qba g c f (K_qba kk) n b d a:=by
 intro n
 induction n with
 | zero=>intros; rfl
 | succ n ih=>
  intro b d a
  rw [r0_qba g e c f kk n b d a]
  simp only [ih] <;> rfl
theorem g_qba (e b:LI) (a:Int) (kk:AK) :
  V_qba [.c (.ro .int e),.c (.ro .int b),.c (.cl 147 [.k (.func (.func 119) ⟨[]⟩ ⟨[]⟩),.k (.int .i64 a)])] kk=G_qba e b a (fun e a g f h d=>∃ j,I0_qba e b a kk j (can0_qba e a g f h d)):=by kernel_rfl
theorem e_qba (h e:LI) (a:Int) (kk:AK) :
  V_qba [.c (.ro .int h),.c (.ro .int e),.c (.cl 147 [.k (.func (.func 119) ⟨[]⟩ ⟨[]⟩),.k (.int .i64 a)])] kk=S_qba h e a (K_qba kk):=by
 rw [g_qba]
 have hi0:(fun h a f d g b=>∃ j,I0_qba h e a kk j (can0_qba h a f d g b))=(fun h a f d g b=>∃ j,L0_qba h a f (K_qba kk) j d g b):=by
  funext h a f d g b
  refine congrArg Exists (funext fun j=>?_)
  rw [l0_qba h e a f kk j d g b]
 rw [hi0]
 rfl
theorem clok_qba:ConOK Tryz.prog cl_qba:=consCons h_qap (pf (by kernel_rfl)) (consNil)
theorem cok_qba:ConsOK Tryz.prog 33 cs_qba:=⟨clok_qba,inlNil,ovNil⟩
theorem i_qbb {vs:List A1} {kk:AK} {motive:List A1→Prop} (h:con_qbb.F vs kk) (H:∀ (d a:LI) (b:Int),F_qbb d a b (K_qbb kk)→motive [.c (.ro .int d),.c (.ro .int a),.c (.cl 147 [.k (.func (.func 118) ⟨[]⟩ ⟨[]⟩),.k (.int .i64 b)])]):motive vs:=by
 unfold con_qbb at h
 dsimp only at h
 split at h
 ·exact H _ _ _ h
 ·exact h.elim
theorem h_qbb:Holds Tryz.prog 146 con_qbb:=by
 refine holds_of_ev (rt:=[.c (.sl .int),.c .sc]) (T:=TT) (Γ:=cs_qbb) (an:=an_qbb) (N:=33) (c:=Tryz.f146.body.getD .skip) Tryz.func146 (by kernel_rfl) Tryz.ntmps146 (by decide) (by decide) mixed tabOK cok_qbb (by kernel_rfl) ?_
 intro vs kk _ hF
 exact i_qbb (motive:=fun vs=>Goes (V_qbb vs kk)) hF (fun d a b hF=>goes_of (e_qbb d a b kk) (F_qbb_S hF))
theorem i_qba {vs:List A1} {kk:AK} {motive:List A1→Prop} (h:con_qba.F vs kk) (H:∀ (d a:LI) (b:Int),F_qba d a b (K_qba kk)→motive [.c (.ro .int d),.c (.ro .int a),.c (.cl 147 [.k (.func (.func 119) ⟨[]⟩ ⟨[]⟩),.k (.int .i64 b)])]):motive vs:=by
 unfold con_qba at h
 dsimp only at h
 split at h
 ·exact H _ _ _ h
 ·exact h.elim
theorem h_qba:Holds Tryz.prog 146 con_qba:=by
 refine holds_of_ev (rt:=[.c (.sl .int),.c .sc]) (T:=TT) (Γ:=cs_qba) (an:=an_qba) (N:=33) (c:=Tryz.f146.body.getD .skip) Tryz.func146 (by kernel_rfl) Tryz.ntmps146 (by decide) (by decide) mixed tabOK cok_qba (by kernel_rfl) ?_
 intro vs kk _ hF
 exact i_qba (motive:=fun vs=>Goes (V_qba vs kk)) hF (fun d a b hF=>goes_of (e_qba d a b kk) (F_qba_S hF))
theorem h_qaz:Holds Tryz.prog 146 con_qaz:=by
 refine holds_of_any fun vs kk h=>?_
 unfold con_qaz at h
 dsimp only at h
 split at h
 ·exact ⟨con_qbb.F,h_qbb,h⟩
 ·exact ⟨con_qba.F,h_qba,h⟩
 ·exact h.elim
def con_qao:Con:=⟨[.rd,.rd,.rd],true,[.c (.sl .int),.c (.sc),.c (.fn)],fun vs k=>match vs with
  | [.c (.ro .int b),.c (.v (.int .i64 a)),.c (.v (.func (.func 118) ⟨[]⟩ ⟨[]⟩))]=>F_qat b a (fun d e=>k (.tup [.c (.ro .int d),.c (.v (.int .i64 e))]) [])
  | [.c (.ro .int b),.c (.v (.int .i64 a)),.c (.v (.func (.func 119) ⟨[]⟩ ⟨[]⟩))]=>F_qas b a (fun d e=>k (.tup [.c (.ro .int d),.c (.v (.int .i64 e))]) [])
  | _=>False,false⟩
def K_qat (kk:AK):LI→Int→Prop:=(fun a b=>kk (.tup [.c (.ro .int a),.c (vi b)]) [])
def con_qat:Con:={ con_qao with F:=fun vs k=>match vs with
  | [.c (.ro .int b),.c (.v (.int .i64 a)),.c (.v (.func (.func 118) ⟨[]⟩ ⟨[]⟩))]=>F_qat b a (K_qat k)
  | _=>False }
def K_qas (kk:AK):LI→Int→Prop:=(fun a b=>kk (.tup [.c (.ro .int a),.c (vi b)]) [])
def con_qas:Con:={ con_qao with F:=fun vs k=>match vs with
  | [.c (.ro .int b),.c (.v (.int .i64 a)),.c (.v (.func (.func 119) ⟨[]⟩ ⟨[]⟩))]=>F_qas b a (K_qas k)
  | _=>False }
def cl_qat:List (FuncId×Con):=[(98,con_qaa),(120,con_qbf),(146,con_qaz)]
def an_qat:Ann:=⟨[],[],[],[]⟩
def cs_qat:Cons:=⟨cl_qat,[],0,[],[],[]⟩
def fin_qat (b:LI) (a:Int) (kk:AK):Kt:=fin TT con_qat Tryz.f117.results.toList [.c (.sl .int),.c .sc] [.c (.ro .int b),.c (vi a),.c (.v (.func (.func 118) ⟨[]⟩ ⟨[]⟩))] kk
def V_qat (vs:List A1) (kk:AK):Prop:=ev TT cs_qat 22 an_qat (Tryz.f117.body.getD .skip) (st0 con_qat vs) (fin TT con_qat Tryz.f117.results.toList [.c (.sl .int),.c .sc] vs kk)
theorem g_qat (b:LI) (a:Int) (kk:AK) :
  V_qat [.c (.ro .int b),.c (vi a),.c (.v (.func (.func 118) ⟨[]⟩ ⟨[]⟩))] kk=G_qat b a (K_qat kk):=by kernel_rfl
theorem e_qat (b:LI) (a:Int) (kk:AK) :
  V_qat [.c (.ro .int b),.c (vi a),.c (.v (.func (.func 118) ⟨[]⟩ ⟨[]⟩))] kk=S_qat b a (K_qat kk):=by
 rw [g_qat]
 rfl
theorem clok_qat:ConOK Tryz.prog cl_qat:=consCons h_qaa (pf (by kernel_rfl)) (consCons h_qbf (pf (by kernel_rfl)) (consCons h_qaz (pf (by kernel_rfl)) (consNil)))
theorem cok_qat:ConsOK Tryz.prog 22 cs_qat:=⟨clok_qat,inlNil,ovNil⟩
def cl_qas:List (FuncId×Con):=[(98,con_qaa),(120,con_qbf),(146,con_qaz)]
def an_qas:Ann:=⟨[],[],[],[]⟩
def cs_qas:Cons:=⟨cl_qas,[],0,[],[],[]⟩
def fin_qas (b:LI) (a:Int) (kk:AK):Kt:=fin TT con_qas Tryz.f117.results.toList [.c (.sl .int),.c .sc] [.c (.ro .int b),.c (vi a),.c (.v (.func (.func 119) ⟨[]⟩ ⟨[]⟩))] kk
def V_qas (vs:List A1) (kk:AK):Prop:=ev TT cs_qas 22 an_qas (Tryz.f117.body.getD .skip) (st0 con_qas vs) (fin TT con_qas Tryz.f117.results.toList [.c (.sl .int),.c .sc] vs kk)
theorem g_qas (b:LI) (a:Int) (kk:AK) :
  V_qas [.c (.ro .int b),.c (vi a),.c (.v (.func (.func 119) ⟨[]⟩ ⟨[]⟩))] kk=G_qas b a (K_qas kk):=by kernel_rfl
theorem e_qas (b:LI) (a:Int) (kk:AK) :
  V_qas [.c (.ro .int b),.c (vi a),.c (.v (.func (.func 119) ⟨[]⟩ ⟨[]⟩))] kk=S_qas b a (K_qas kk):=by
 rw [g_qas]
 rfl
theorem clok_qas:ConOK Tryz.prog cl_qas:=consCons h_qaa (pf (by kernel_rfl)) (consCons h_qbf (pf (by kernel_rfl)) (consCons h_qaz (pf (by kernel_rfl)) (consNil)))
theorem cok_qas:ConsOK Tryz.prog 22 cs_qas:=⟨clok_qas,inlNil,ovNil⟩
theorem i_qat {vs:List A1} {kk:AK} {motive:List A1→Prop} (h:con_qat.F vs kk) (H:∀ (b:LI) (a:Int),F_qat b a (K_qat kk)→motive [.c (.ro .int b),.c (vi a),.c (.v (.func (.func 118) ⟨[]⟩ ⟨[]⟩))]):motive vs:=by
 unfold con_qat at h
 dsimp only at h
 split at h
 ·exact H _ _ h
 ·exact h.elim
theorem h_qat:Holds Tryz.prog 117 con_qat:=by
 refine holds_of_ev (rt:=[.c (.sl .int),.c .sc]) (T:=TT) (Γ:=cs_qat) (an:=an_qat) (N:=22) (c:=Tryz.f117.body.getD .skip) Tryz.func117 (by kernel_rfl) Tryz.ntmps117 (by decide) (by decide) mixed tabOK cok_qat (by kernel_rfl) ?_
 intro vs kk _ hF
 exact i_qat (motive:=fun vs=>Goes (V_qat vs kk)) hF (fun b a hF=>goes_of (e_qat b a kk) (F_qat_S hF))
theorem i_qas {vs:List A1} {kk:AK} {motive:List A1→Prop} (h:con_qas.F vs kk) (H:∀ (b:LI) (a:Int),F_qas b a (K_qas kk)→motive [.c (.ro .int b),.c (vi a),.c (.v (.func (.func 119) ⟨[]⟩ ⟨[]⟩))]):motive vs:=by
 unfold con_qas at h
 dsimp only at h
 split at h
 ·exact H _ _ h
 ·exact h.elim
theorem h_qas:Holds Tryz.prog 117 con_qas:=by
 refine holds_of_ev (rt:=[.c (.sl .int),.c .sc]) (T:=TT) (Γ:=cs_qas) (an:=an_qas) (N:=22) (c:=Tryz.f117.body.getD .skip) Tryz.func117 (by kernel_rfl) Tryz.ntmps117 (by decide) (by decide) mixed tabOK cok_qas (by kernel_rfl) ?_
 intro vs kk _ hF
 exact i_qas (motive:=fun vs=>Goes (V_qas vs kk)) hF (fun b a hF=>goes_of (e_qas b a kk) (F_qas_S hF))
theorem h_qao:Holds Tryz.prog 117 con_qao:=by
 refine holds_of_any fun vs kk h=>?_
 unfold con_qao at h
 dsimp only at h
 split at h
 ·exact ⟨con_qat.F,h_qat,h⟩
 ·exact ⟨con_qas.F,h_qas,h⟩
 ·exact h.elim
def K_qo (kk:AK):LI→Int→Prop:=(fun a b=>kk (.tup [.c (.ro .int a),.c (vi b)]) [])
def con_qo:Con:=⟨[.rd,.rd],true,[.c (.sl .int),.c (.sc)],fun vs k=>match vs with
  | [.c (.ro .int b),.c (.v (.int .i64 a))]=>F_qo b a (K_qo k)
  | _=>False,false⟩
def cl_qo:List (FuncId×Con):=[(117,con_qao)]
def an_qo:Ann:=⟨[],[],[],[]⟩
def cs_qo:Cons:=⟨cl_qo,[],0,[],[],[]⟩
def fin_qo (b:LI) (a:Int) (kk:AK):Kt:=fin TT con_qo Tryz.f92.results.toList [.c (.sl .int),.c .sc] [.c (.ro .int b),.c (vi a)] kk
def V_qo (vs:List A1) (kk:AK):Prop:=ev TT cs_qo 11 an_qo (Tryz.f92.body.getD .skip) (st0 con_qo vs) (fin TT con_qo Tryz.f92.results.toList [.c (.sl .int),.c .sc] vs kk)
theorem g_qo (b:LI) (a:Int) (kk:AK) :
  V_qo [.c (.ro .int b),.c (vi a)] kk=G_qo b a (K_qo kk):=by kernel_rfl
theorem e_qo (b:LI) (a:Int) (kk:AK) :
  V_qo [.c (.ro .int b),.c (vi a)] kk=S_qo b a (K_qo kk):=by
 rw [g_qo]
 rfl
theorem clok_qo:ConOK Tryz.prog cl_qo:=consCons h_qao (pf (by kernel_rfl)) (consNil)
theorem cok_qo:ConsOK Tryz.prog 11 cs_qo:=⟨clok_qo,inlNil,ovNil⟩
theorem i_qo {vs:List A1} {kk:AK} {motive:List A1→Prop} (h:con_qo.F vs kk) (H:∀ (b:LI) (a:Int),F_qo b a (K_qo kk)→motive [.c (.ro .int b),.c (vi a)]):motive vs:=by
 unfold con_qo at h
 dsimp only at h
 split at h
 ·exact H _ _ h
 ·exact h.elim
end Go.Ev
