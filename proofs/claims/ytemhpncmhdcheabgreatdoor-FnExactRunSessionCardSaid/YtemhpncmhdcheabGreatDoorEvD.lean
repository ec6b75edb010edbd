/- Operations that only yield a value: what the evaluator says of them holds in the machine. No statement is proved here. -/
import Derived.Test.YtemhpncmhdcheabGreatDoorEvC
import Derived.ChangeKeysEq
namespace Go.Ev
set_option linter.unusedVariables false
set_option linter.unusedSimpArgs false
open Go
def aggD:TypeDesc→Bool
 | .struct _=>true
 | .array _ _=>true
 | _=>false
def EqFs (P:Program):List Field→Nat→List Ty→Prop
 | [],_,[]=>True
 | f :: fs,i,k :: ks=>f.name ≠ "_"∧f.offset=i∧(k=.int∧P.underlying f.type=some (.int .i64)∨k=.bool∧P.underlying f.type=some .bool)∧EqFs P fs (i+1) ks
 | _,_,_=>False
def InfOK (P:Program) (t:TypeId):Inf→Prop
 | .sc z=>∃ i d,P.info? t=some i∧i.size=1∧i.zero=some z∧okV z=true∧P.underlying t=some d∧aggD d=false∧
   (match z with
    | .bool _=>d=.bool
    | .int k _=>d=.int k
    | .string _=>d=.string
    | .nilIface=>∃ m,d=.interface m
    | _=>True)
 | .st fs z=>∃ i flds,P.info? t=some i∧i.size=z.length∧i.zero=some (.agg z.toArray)∧okVs z=true∧P.underlying t=some (.struct flds)∧flds.size=fs.length∧
   ∀ (n:Nat) (f:Field),flds[n]?=some f→∃ i',P.info? f.type=some i'∧fs[n]?=some (f.offset,i'.size)∧∃ d,P.underlying f.type=some d∧(i'.size=1→aggD d=false)
 | .sl e τ=>∃ i,P.underlying t=some (.slice e)∧P.info? e=some i∧i.size=τ.sz∧(∃ z,i.zero=some z∧z.cells.toList=τ.enc τ.zero)∧1≤i.bytes∧i.bytes≤100∧
   ∃ i',P.info? t=some i'∧i'.size=1∧i'.zero=some (.slice none 0 0)
 | .sl2 e τ=>∃ i,P.underlying t=some (.slice e)∧P.info? e=some i∧i.size=1∧i.zero=some (.slice none 0 0)∧(∃ f j,P.underlying e=some (.slice f)∧P.info? f=some j∧j.size=τ.sz)∧(1≤i.bytes∧i.bytes≤100)∧
   ∃ i',P.info? t=some i'∧i'.size=1∧i'.zero=some (.slice none 0 0)
 | .ar n m e=>∃ i ie,P.underlying t=some (.array n e)∧P.info? t=some i∧i.size=n*m∧i.zero=some (.agg (List.replicate (n*m) (Value.int .i64 0)).toArray)∧P.info? e=some ie∧ie.size=m
 | .mp kt et=>P.underlying t=some (.map kt et)∧P.underlying kt=some .string∧∃ i,P.info? et=some i∧i.zero=some (.agg #[.int .i64 0,.nilFunc])
 | .eq s ks=>P.underlying s=some (.struct (P.fieldsOf s))∧P.stoodInHeld s=false∧P.eqGuardType P.depth s=false∧EqFs P (P.fieldsOf s).toList 0 ks
def TabOK (P:Program) (T:Tab):Prop:=∀ t i,lkp T t=some i→InfOK P t i
def TabAll (P:Program):Tab→Prop
 | []=>True
 | (t,i) :: r=>InfOK P t i∧TabAll P r
theorem tabOK_of {P:Program}:∀ {T:Tab},TabAll P T→TabOK P T
 | [],_,t,i,h=>by simp [lkp] at h
 | (t',i') :: r,hA,t,i,h=>by
  rcases beq_cases t' t with ⟨rfl,_⟩ | ⟨hne,_⟩
  ·rw [lkp_cons_same] at h; injection h with h; subst h; exact hA.1
  ·rw [lkp_cons_ne _ _ hne] at h; exact tabOK_of hA.2 t i h
def PR.gives:PR→AV→Prop
 | .ok y,x=>y=x
 | .req c y,x=>c∧y=x
 | .no,_=>False
theorem run_size {P:Program} {t:TypeId} {i:TypeInfo} (h:P.info? t=some i) (w:World):(sizeOf t).run P w=.ok i.size w:=by
 simp [sizeOf,typeInfo,h]
theorem run_zero {P:Program} {t:TypeId} {i:TypeInfo} {z:Value} (h:P.info? t=some i) (hz:i.zero=some z) (w:World):(zeroValue t).run P w=.ok z w:=by
 simp [zeroValue,typeInfo,h,hz]
theorem run_agg {P:Program} {t:TypeId} {d:TypeDesc} (h:P.underlying t=some d) (w:World):(isAgg t).run P w=.ok (aggD d) w:=by
 unfold isAgg
 simp only [Sem.run_bind,run_underlying h,Result.andThen_ok]
 cases d <;> rfl
theorem wrap_in {x:Int} (h:InR x):IntKind.i64.wrap x=x:=IntWalk.i64_in _ ⟨by have:=h.1; omega,by have:=h.2; omega⟩
section
variable {P:Program} {T:Tab} {S:Sk} {μ:Mu} {w:World}
theorem RA.int {k:IntKind} {n:Int} {y:Value} (h:RA S μ w (.one (.c (.v (.int k n)))) y):y=.int k n:=h
theorem RA.v {x y:Value} (h:RA S μ w (.one (.c (.v x))) y):y=x:=h
theorem run_eqB {xt:TypeId} (hu:P.underlying xt=some .bool) (a b:Bool) (w':World):(Op.equal xt (.bool a) (.bool b)).run P w'=.ok (a==b) w':=by
 unfold Op.equal Op.maxDepth
 rw [show (10000:Nat)=9999+1 from rfl,Op.equalIn]
 simp [run_underlying hu]
theorem eqFields_run {xs ys:Array Value} {w':World} (d:Nat):∀ (ks:List Ty) (fs:List Field) (i:Nat) (l r:List C) (b:Bool),EqFs P fs i ks→RCs S μ w l (xs.toList.drop i)→RCs S μ w r (ys.toList.drop i)→eqCells ks l r=some b→
  (Op.eqFields (d+1) xs ys fs).run P w'=.ok b w':=by
 have hget:∀ {zs:Array Value} {i:Nat} {c:C} {l:List C},RCs S μ w (c :: l) (zs.toList.drop i)→∃ y,zs[i]?=some y∧RC S μ w c y∧RCs S μ w l (zs.toList.drop (i+1)):=by
  intro zs i c l h
  cases e:zs.toList.drop i with
  | nil=>rw [e] at h; exact h.elim
  | cons y r=>
   rw [e] at h
   have h1:(zs.toList.drop i)[0]?=some y:=by rw [e]; rfl
   have h2:zs.toList.drop (i+1)=r:=by rw [← List.drop_drop,e]; rfl
   exact ⟨y,by simpa using h1,h.1,by rw [h2]; exact h.2.2⟩
 have hstep:∀ (f:Field) (fs:List Field) (x y:Value) (p t:Bool),f.name ≠ "_"→P.plainKey f.type=true→xs[f.offset]?=some x→ys[f.offset]?=some y→(Op.equalIn (d+1) f.type x y).run P w'=.ok p w'→
   (p=true→(Op.eqFields (d+1) xs ys fs).run P w'=.ok t w')→(Op.eqFields (d+1) xs ys (f :: fs)).run P w'=.ok (p && t) w':=by
  intro f fs x y p t hn hp hx hy he ht
  simp only [Op.eqFields,hn,ne_eq,not_false_eq_true,if_true,Sem.run_bind,run_part_plain w' hp hx,run_part_plain w' hp hy,he,Result.andThen_ok]
  cases p
  ·simp
  ·simpa using ht rfl
 have hplain:∀ {t:TypeId} {k:Ty},(k=.int∧P.underlying t=some (.int .i64)∨k=.bool∧P.underlying t=some .bool)→P.plainKey t=true:=by
  rintro t k (⟨_,h⟩ | ⟨_,h⟩) <;> simp [Program.plainKey,h]
 intro ks
 induction ks with
 | nil=>intro fs i l r b _ _ _ h; simp [eqCells] at h
 | cons k ks ih=>
  intro fs i l r b hf hl hr h
  cases fs with
  | nil=>exact hf.elim
  | cons f fs=>
   obtain ⟨hn,ho,hk,hfs⟩:=hf
   have hend:∀ (p:Bool) (x y:Value),xs[i]?=some x→ys[i]?=some y→(Op.equalIn (d+1) f.type x y).run P w'=.ok p w'→ks=[]→(Op.eqFields (d+1) xs ys (f :: fs)).run P w'=.ok p w':=by
    intro p x y hx hy he hks
    subst hks
    cases fs with
    | cons _ _=>exact hfs.elim
    | nil=>
     have:=hstep f [] x y p true hn (hplain hk) (by rw [ho]; exact hx) (by rw [ho]; exact hy) he (fun _=>by simp [Op.eqFields])
     simpa using this
   unfold eqCells at h
   split at h
   ·rename_i a b' e1
    injection e1 with e1 e2; subst e1; subst e2
    injection h with h; subst h
    obtain ⟨x,x1,x2,_⟩:=hget hl
    obtain ⟨y,y1,y2,_⟩:=hget hr
    have x2:x=.int .i64 a:=x2
    have y2:y=.int .i64 b':=y2
    subst x2; subst y2
    have hu:=hk.resolve_right (fun h=>by cases h.1)
    exact hend _ _ _ x1 y1 (run_equalIn_int w' d f.type .i64 .i64 a b' hu.2) rfl
   ·rename_i a b' e1
    injection e1 with e1 e2; subst e1; subst e2
    injection h with h; subst h
    obtain ⟨x,x1,x2,_⟩:=hget hl
    obtain ⟨y,y1,y2,_⟩:=hget hr
    have x2:x=.bool a:=x2
    have y2:y=.bool b':=y2
    subst x2; subst y2
    have hu:=hk.resolve_left (fun h=>by cases h.1)
    exact hend _ _ _ x1 y1 (run_equalIn_bool w' d f.type a b' hu.2) rfl
   ·rename_i ks' a l' b' r' _ e1
    injection e1 with e1 e2; subst e1; subst e2
    split at h
    ·rename_i t ht
     injection h with h; subst h
     obtain ⟨x,x1,x2,x3⟩:=hget hl
     obtain ⟨y,y1,y2,y3⟩:=hget hr
     have x2:x=.int .i64 a:=x2
     have y2:y=.int .i64 b':=y2
     subst x2; subst y2
     have hu:=hk.resolve_right (fun h=>by cases h.1)
     exact hstep f fs _ _ _ t hn (hplain hk) (by rw [ho]; exact x1) (by rw [ho]; exact y1) (run_equalIn_int w' d f.type .i64 .i64 a b' hu.2) fun _=>ih fs (i+1) l' r' t hfs x3 y3 ht
    ·cases h
   ·rename_i ks' a l' b' r' _ e1
    injection e1 with e1 e2; subst e1; subst e2
    split at h
    ·rename_i t ht
     injection h with h; subst h
     obtain ⟨x,x1,x2,x3⟩:=hget hl
     obtain ⟨y,y1,y2,y3⟩:=hget hr
     have x2:x=.bool a:=x2
     have y2:y=.bool b':=y2
     subst x2; subst y2
     have hu:=hk.resolve_left (fun h=>by cases h.1)
     exact hstep f fs _ _ _ t hn (hplain hk) (by rw [ho]; exact x1) (by rw [ho]; exact y1) (run_equalIn_bool w' d f.type a b' hu.2) fun _=>ih fs (i+1) l' r' t hfs x3 y3 ht
    ·cases h
   ·cases h
set_option maxHeartbeats 1000000 in
theorem binA_ok (hT:TabOK P T) {op:BinOp} {xt:TypeId} {X Y z:AV} {x y:Value} (ox oy:Operand) (hx:RA S μ w X x) (hy:RA S μ w Y y) (h:(binA T op xt X Y).gives z) :
  ∃ v,RA S μ w z v∧∀ w',((do eqGuard op xt ox oy x y; binOp op xt x y):Sem Value).run P w'=.ok v w':=by
 unfold binA at h
 split at h
 ·obtain rfl:=hx.v
  obtain rfl:=hy.v
  rename_i k a k' b
  cases k <;> cases k' <;> simp only [PR.gives] at h <;> cases op <;> simp only at h
  all_goals first
   | exact h.elim
   | (subst h; refine ⟨_,rfl,fun w'=>?_⟩; simp [eqGuard,binOp,Op.intCmp,Op.intBits]; done)
   | (subst h; refine ⟨_,rfl,fun w'=>?_⟩; simp [eqGuard,binOp,Op.intBits]; rfl)
   | (obtain ⟨h1,rfl⟩:=h; refine ⟨_,rfl,fun w'=>?_⟩; simp [eqGuard,binOp,Op.intArith,wrap_in (show InR _ from h1)]; done)
   | (obtain ⟨⟨h0,h1⟩,rfl⟩:=h; refine ⟨_,rfl,fun w'=>?_⟩; simp [eqGuard,binOp,Op.intDiv,h0,wrap_in h1]; done)
   | (obtain ⟨h0,rfl⟩:=h; refine ⟨_,rfl,fun w'=>?_⟩; simp [eqGuard,binOp,Op.intDiv,h0]; done)
   | (obtain ⟨⟨h0,h1,h2⟩,rfl⟩:=h; refine ⟨_,rfl,fun w'=>?_⟩; simp only [eqGuard,binOp,Op.shift,if_neg (show ¬ b < 0 by omega),show min b.toNat IntKind.i64.bits=b.toNat from Nat.min_eq_left (by show b.toNat≤64; omega),wrap_in (show InR _ from h2)]; rfl)
   | (obtain ⟨⟨h0,h1⟩,rfl⟩:=h; refine ⟨_,rfl,fun w'=>?_⟩; simp only [eqGuard,binOp,Op.shift,if_neg (show ¬ b < 0 by omega),show min b.toNat IntKind.i64.bits=b.toNat from Nat.min_eq_left (by show b.toNat≤64; omega),Int.fdiv_eq_ediv_of_nonneg a (show (0:Int)≤2 ^ b.toNat from Int.pow_nonneg (by omega))]; rfl)
 ·obtain rfl:=hx.v
  obtain rfl:=hy.v
  rename_i a b
  cases hl:lkp T xt with
  | none=>simp [hl,PR.gives] at h
  | some inf=>
   cases inf with
   | sc zz=>
    cases zz with
    | bool b0=>
     obtain ⟨i,d,_,_,_,_,hu,_,rfl⟩:=hT _ _ hl
     simp only [hl] at h
     cases op <;> simp only [PR.gives] at h
     all_goals first
      | exact h.elim
      | (subst h; refine ⟨_,rfl,fun w'=>?_⟩; simp [eqGuard,binOp,run_eqB hu])
    | _=>simp [hl,PR.gives] at h
   | _=>simp [hl,PR.gives] at h
 ·obtain rfl:=hx.v
  obtain rfl:=hy.v
  rename_i a b
  cases op <;> simp only [PR.gives] at h
  all_goals first
   | exact h.elim
   | (subst h; refine ⟨_,rfl,fun w'=>?_⟩; simp [eqGuard,binOp,Op.stringOp]; done)
   | (obtain ⟨h0,rfl⟩:=h; refine ⟨_,rfl,fun w'=>?_⟩; simp [eqGuard,binOp,Op.stringOp]; omega)
 ·rename_i l r
  obtain ⟨xs,rfl,hxs⟩:=hx
  obtain ⟨ys,rfl,hys⟩:=hy
  split at h
  ·rename_i t ks hl
   split at h
   ·rename_i b hbt hb
    have hbt:=Nat.eq_of_beq_eq_true hbt
    subst hbt
    obtain ⟨h1,h2,h3,h4⟩:=hT _ _ hl
    have hrun:∀ w':World,(Op.equal t (.agg xs) (.agg ys)).run P w'=.ok b w':=fun w'=>by
     unfold Op.equal Op.maxDepth
     rw [show (10000:Nat)=9999+1 from rfl,run_equalIn_struct w' 9999 t xs ys h1 h2]
     exact eqFields_run (d:=9998) ks _ 0 l r b h4 (by simpa using hxs) (by simpa using hys) hb
    cases op <;> simp only [PR.gives] at h
    all_goals first
     | exact h.elim
     | (subst h; refine ⟨_,rfl,fun w'=>?_⟩; simp [eqGuard,h3,binOp,hrun w'])
   ·exact h.elim
  ·exact h.elim
 ·exact h.elim
theorem castL_ok2 {τ σ:Ty} {l:List σ.D} {r:List τ.D} (h:castL τ σ l=some r):∃ e:σ=τ,l=e.symm ▸ r:=by
 cases τ <;> cases σ <;> first | (cases h; done) | exact ⟨rfl,Option.some.inj h⟩
theorem okVs_RCs {S:Sk} {μ:Mu} {w:World}:∀ {l:List Value},okVs l=true→RCs S μ w (l.map cst1) l
 | [],_=>trivial
 | x :: r,h=>by
  unfold okVs at h
  split at h
  ·rename_i hx
   refine ⟨?_,hx,okVs_RCs h⟩
   unfold cst1; split <;> rfl
  ·cases h
theorem RA_cst (v:Value):RA S μ w (cst v) v:=by
 unfold cst
 split
 ·split
  ·rename_i h; exact ⟨_,rfl,okVs_RCs h⟩
  ·trivial
 ·show RC S μ w (cst1 v) v
  unfold cst1; split <;> rfl
theorem RA_ev {N:Nat} {w0:World} {M:Nat→Prop} {W:Wd} {lk:List Nat} {st:St} {a:Act} (hR:RepM N w0 M W lk μ st a w) (x:Operand):RA (skel st.o) μ w (st.ev x) (a.eval x):=by
 cases x with
 | tmp t=>exact hR.tmp t
 | const v=>exact RA_cst v
 | global g=>trivial
 | func f=>rfl
theorem RA_int {X:AV} {x:Value} {n:Int} (h:RA S μ w X x) (hi:intA X=some n):x=.int .i64 n:=by
 unfold intA at hi
 split at hi
 ·injection hi with hi; subst hi; exact h
 ·cases hi
theorem partC_ok (hT:TabOK P T) {t:TypeId} {l:List C} {ys:List Value} {j:Nat} {z:AV} (hl:RCs S μ w l ys) (h:(partC T t l j).gives z) :
  ∃ v,RA S μ w z v∧∃ i d,P.info? t=some i∧P.underlying t=some d∧
   ((aggD d=false∧i.size=1∧ys[j]?=some v∧okV v=true)∨(aggD d=true∧j+i.size≤ys.length∧v=.agg ((ys.drop j).take i.size).toArray)):=by
 unfold partC at h
 cases hl':lkp T t with
 | none=>simp [hl',PR.gives] at h
 | some inf=>
  simp only [hl'] at h
  have hi:=hT _ _ hl'
  cases inf with
  | ar n m e=>exact h.elim
  | mp a b=>exact h.elim
  | eq s ks=>exact h.elim
  | sc zz=>
   obtain ⟨i,d,h1,h2,h3,h4,h5,h6,_⟩:=hi
   simp only at h
   cases hj:l[j]? with
   | none=>simp [hj,PR.gives] at h
   | some c=>
    simp only [hj,PR.gives] at h
    subst h
    obtain ⟨y,e1,e2,e3⟩:=hl.get hj
    exact ⟨y,e2,i,d,h1,h5,.inl ⟨h6,h2,e1,e3⟩⟩
  | sl e τ=>
   obtain ⟨i,h1,h2,h3,h4,h5,h5',i',h6,h7,h8⟩:=hi
   simp only at h
   cases hj:l[j]? with
   | none=>simp [hj,PR.gives] at h
   | some c=>
    simp only [hj,PR.gives] at h
    subst h
    obtain ⟨y,e1,e2,e3⟩:=hl.get hj
    exact ⟨y,e2,i',_,h6,h1,.inl ⟨rfl,h7,e1,e3⟩⟩
  | sl2 e τ=>
   obtain ⟨i,h1,h2,h3,h4,h5,_,i',h6,h7,h8⟩:=hi
   simp only at h
   cases hj:l[j]? with
   | none=>simp [hj,PR.gives] at h
   | some c=>
    simp only [hj,PR.gives] at h
    subst h
    obtain ⟨y,e1,e2,e3⟩:=hl.get hj
    exact ⟨y,e2,i',_,h6,h1,.inl ⟨rfl,h7,e1,e3⟩⟩
  | st fs zz=>
   obtain ⟨i,flds,h1,h2,h3,h4,h5,h6,h7⟩:=hi
   simp only at h
   split at h
   ·rename_i hb
    have hle:j+zz.length≤l.length:=Nat.ble_eq.mp hb
    simp only [PR.gives] at h
    subst h
    refine ⟨.agg ((ys.drop j).take i.size).toArray,⟨_,rfl,?_⟩,i,_,h1,h5,.inr ⟨rfl,by rw [hl.len,h2]; exact hle,rfl⟩⟩
    simp only [h2]
    exact (hl.drop j).take _
   ·exact h.elim
theorem run_loadVar {t:TypeId} {i:TypeInfo} {d:TypeDesc} {w:World} {b o:Nat} {ys:List Value} {j:Nat} {v:Value} (hi:P.info? t=some i) (hu:P.underlying t=some d)
  (hc:∀ q x,ys[q]?=some x→w.cell? ⟨b,o+q,none⟩=some x)
  (h:(aggD d=false∧i.size=1∧ys[j]?=some v∧okV v=true)∨(aggD d=true∧j+i.size≤ys.length∧v=.agg ((ys.drop j).take i.size).toArray)) :
  (loadVar t ⟨b,o+j,none⟩).run P w=.ok v w:=by
 unfold loadVar
 simp only [Sem.run_bind,run_agg hu,Result.andThen_ok]
 rcases h with ⟨h1,h2,h3,h4⟩ | ⟨h1,h2,rfl⟩
 ·rw [h1]
  simp [hc j v h3]
 ·rw [h1]
  have hl:((ys.drop j).take i.size).length=i.size:=by simp; omega
  have:=run_loadCells_list (P:=P) (w:=w) ⟨b,o+j,none⟩ ((ys.drop j).take i.size) (fun q x hx=>by
   rw [Addr.add_lit,Nat.add_assoc]
   refine hc (j+q) x ?_
   have hq:q < i.size:=by have:=(List.getElem?_eq_some_iff.1 hx).1; omega
   rw [List.getElem?_take,if_pos hq,List.getElem?_drop] at hx
   exact hx)
  rw [hl] at this
  simp [run_size hi,this]
end
theorem eqb_true {a b:Ty} (h:a.eqb b=true):a=b:=by
 cases a <;> cases b <;> first | rfl | (cases h; done)
theorem RCs_v {S:Sk} {μ:Mu} {w:World}:∀ {ys:List Value},(∀ y∈ys,okV y=true)→RCs S μ w (ys.map C.v) ys
 | [],_=>trivial
 | y :: ys,h=>⟨rfl,h y (by simp),RCs_v fun z hz=>h z (by simp [hz])⟩
theorem cell_of_heap {w:World} {g q:Nat} {cur:Array Value} {t:TypeId} {fz:Nat×Nat} (h:w.heap[g]?=some (.cells cur t fz)):w.cell? ⟨g,q,none⟩=cur[q]?:=by
 simp [World.cell?,h]
def Same (lk:List Nat) (S:Sk) (μ:Mu) (w w':World):Prop:=
 ∀ b,b < w.heap.size→(∀ k p,S k≠none→μ k=some p→p.1=b→memN lk k=true)→w'.heap[b]?=w.heap[b]?
section
variable {P:Program} {T:Tab} {N:Nat} {w0:World} {M:Nat→Prop} {W:Wd} {lk:List Nat} {μ:Mu} {st:St} {a:Act} {w:World}
theorem stable_own (hR:RepM N w0 M W lk μ st a w) {w':World} {k:Nat} {p:Nat×Nat×Nat} (hk:skel st.o k≠none) (hm:μ k=some p) (hb:p.1 < w.heap.size)
  (hw:w'=w∨(memN lk k=true∧Same lk (skel st.o) μ w w')):w'.heap[p.1]?=w.heap[p.1]?:=by
 rcases hw with rfl | ⟨h1,h2⟩
 ·rfl
 ·refine h2 _ hb fun k' p' hk' hm' e=>?_
  have:=hR.inj k' k p' p hk' hk hm' hm e
  rw [this]; exact h1
theorem stable_free {w':World} {b:Nat} (hb:b < w.heap.size) (hno:¬ Own (skel st.o) μ b) (hw:w'=w∨Same lk (skel st.o) μ w w'):w'.heap[b]?=w.heap[b]?:=by
 rcases hw with rfl | h2
 ·rfl
 ·exact h2 _ hb fun k p hk hm e=>absurd (.inl ⟨k,p,hk,hm,e⟩) hno
theorem heap_lt {w:World} {g:Nat} {x:Obj} (h:w.heap[g]?=some x):g < w.heap.size:=(Array.getElem?_eq_some_iff.1 h).1
theorem RepM.row (hR:RepM N w0 M W lk μ st a w) {k:Nat} {τ:Ty} {l:List τ.D} (h:lkp st.o k=some (.row τ l)):skel st.o k=some (.row τ l.length):=skel_of h
theorem loadA_ok (hT:TabOK P T) (hR:RepM N w0 M W lk μ st a w) {t:TypeId} {A:AV} {y:Value} {z:AV} (hA:RA (skel st.o) μ w A y) (h:(loadA T t st.o A).gives z) :
  ∃ v,RA (skel st.o) μ w z v∧∀ w',(w'=w∨(steadyA lk A=true∧Same lk (skel st.o) μ w w'))→(Instr.loadAt t y).run P w'=.ok v w':=by
 unfold loadA at h
 split at h
 ·rename_i k j
  obtain ⟨g,o,s,hs,hm,rfl⟩:=hA
  cases hl:lkp st.o k with
  | none=>simp [hl,PR.gives] at h
  | some ob=>
   cases ob with
   | row τ l=>simp [hl,PR.gives] at h
   | box l=>
    simp only [hl] at h
    obtain ⟨g',o',s',cur,ty,hm',hh,hsz,hle,hr⟩:=hR.ob k _ hl
    rw [hm] at hm'
    injection hm' with hm'; injection hm' with e1 e2; injection e2 with e2 e3; subst e1; subst e2; subst e3
    obtain ⟨v,hv,i,d,hi,hu,hcase⟩:=partC_ok hT hr h
    refine ⟨v,hv,fun w' hw'=>?_⟩
    have hheap:=stable_own hR (skel_ne hl) hm (heap_lt hh) (w':=w') hw'
    have hh':w'.heap[g]?=some (.cells cur ty (0,0)):=hheap.trans hh
    show Sem.run P (do loadVar t (← Instr.sureAddr _)) w'=_
    simp only [Instr.sureAddr,Sem.run_bind,Sem.run_pure,Result.andThen_ok]
    refine run_loadVar hi hu (fun q x hx=>?_) hcase
    rw [cell_of_heap hh']
    rw [List.getElem?_take] at hx
    split at hx
    ·rw [List.getElem?_drop] at hx
     rw [← Array.getElem?_toList]; exact hx
    ·cases hx
 ·rename_i k i j
  obtain ⟨g,o,s,τ,n,hs,hi0,hm,rfl⟩:=hA
  cases har:loadAr T t st.o k i j with
  | some r=>
   rw [har] at h
   simp only at h
   unfold loadAr at har
   split at har
   rotate_left
   ·cases har
   rename_i na ma ea ht
   split at har
   rotate_left
   ·injection har with har; subst har; exact h.elim
   rename_i l hl
   split at har
   rotate_left
   ·injection har with har; subst har; exact h.elim
   rename_i hb1 hb2
   injection har with har; subst har
   obtain ⟨hlen,rfl⟩:=h
   obtain rfl:=Nat.eq_of_beq_eq_true hb1
   obtain rfl:=Nat.eq_of_beq_eq_true hb2
   have hsk:=skel_of hl
   rw [hs] at hsk
   injection hsk with hsk; injection hsk with e1 e2; subst e1; subst e2
   rcases hR.ob k _ hl with ⟨e,_⟩ | ⟨g',o',s',cur,ty,hm',hh,hsz,hle,hr⟩
   ·rw [hm] at e; cases e
   rw [hm] at hm'
   injection hm' with hm'; injection hm' with e1 e2; injection e2 with e2 e3; subst e1; subst e2; subst e3
   obtain ⟨inf,ie,hu,hinf,hsize,_⟩:=hT _ _ ht
   refine ⟨.agg (l.map (Value.int .i64)).toArray,rfl,fun w' hw'=>?_⟩
   have hheap:=stable_own hR (skel_ne hl) hm (heap_lt hh) (w':=w') hw'
   have hh':w'.heap[g]?=some (.cells cur ty (0,0)):=hheap.trans hh
   show Sem.run P (do loadVar t (← Instr.sureAddr _)) w'=_
   simp only [Instr.sureAddr,Sem.run_bind,Sem.run_pure,Result.andThen_ok]
   refine run_loadVar (ys:=l.map (Value.int .i64)) (o:=o) (j:=0) hinf hu (fun q x hx=>?_) (.inr ⟨rfl,by rw [List.length_map,hsize]; omega,by rw [List.drop_zero,List.take_of_length_le (by rw [List.length_map,hsize]; omega)]⟩)
   rw [cell_of_heap hh']
   rw [List.getElem?_map] at hx
   cases hq:l[q]? with
   | none=>rw [hq] at hx; cases hx
   | some v=>
    rw [hq] at hx
    injection hx with hx
    subst hx
    have:=hr q v hq 0 (.int .i64 v) rfl
    simpa [Ty.sz] using this
  | none=>
   rw [har] at h
   simp only at h
   cases hl:lkp st.o k with
   | none=>simp [hl,PR.gives] at h
   | some ob=>
    cases ob with
    | box l=>simp [hl,PR.gives] at h
    | row σ l=>
     simp only [hl] at h
     have hsk:=skel_of hl
     rw [hs] at hsk
     injection hsk with hsk; injection hsk with e1 e2; subst e1; subst e2
     rcases hR.ob k _ hl with ⟨e,_⟩ | ⟨g',o',s',cur,ty,hm',hh,hsz,hle,hr⟩
     ·rw [hm] at e; cases e
     rw [hm] at hm'
     injection hm' with hm'; injection hm' with e1 e2; injection e2 with e2 e3; subst e1; subst e2; subst e3
     obtain ⟨v,hv,i',d,hi,hu,hcase⟩:=partC_ok hT (RCs_v (S:=skel st.o) (μ:=μ) (w:=w) (enc_ok τ _)) h
     refine ⟨v,hv,fun w' hw'=>?_⟩
     have hheap:=stable_own hR (skel_ne hl) hm (heap_lt hh) (w':=w') hw'
     have hh':w'.heap[g]?=some (.cells cur ty (0,0)):=hheap.trans hh
     show Sem.run P (do loadVar t (← Instr.sureAddr _)) w'=_
     simp only [Instr.sureAddr,Sem.run_bind,Sem.run_pure,Result.andThen_ok]
     refine run_loadVar hi hu (fun q x hx=>?_) hcase
     rw [cell_of_heap hh']
     refine hr i _ (by rw [List.getElem?_eq_getElem hi0]) q x ?_
     rw [show l[i]=l.getD i τ.zero by simp [hi0]]
     exact hx
 ·rename_i cells j
  obtain ⟨b,o,rfl,hc,hlt,hno,hok⟩:=hA
  obtain ⟨v,hv,i',d,hi,hu,hcase⟩:=partC_ok hT (RCs_v (S:=skel st.o) (μ:=μ) (w:=w) hok) h
  refine ⟨v,hv,fun w' hw'=>?_⟩
  have hheap:=stable_free (lk:=lk) (w':=w') hlt hno (hw'.imp id And.right)
  show Sem.run P (do loadVar t (← Instr.sureAddr _)) w'=_
  simp only [Instr.sureAddr,Sem.run_bind,Sem.run_pure,Result.andThen_ok]
  exact run_loadVar hi hu (fun q x hx=>(cell_heap hheap).trans (hc q x hx)) hcase
 ·rename_i τ l
  obtain ⟨b,o,z0,rfl,hno,hlt,hc,hr⟩:=hA
  have hz:okV z0=true:=by obtain ⟨A,n,c,rfl,_⟩:=hr; rfl
  obtain ⟨v,hv,i',d,hi,hu,hcase⟩:=partC_ok hT (S:=skel st.o) (μ:=μ) (w:=w) (l:=[.ro τ l]) (ys:=[z0]) ⟨hr,hz,trivial⟩ h
  refine ⟨v,hv,fun w' hw'=>?_⟩
  have hheap:=stable_free (lk:=lk) (w':=w') hlt hno (hw'.imp id And.right)
  show Sem.run P (do loadVar t (← Instr.sureAddr _)) w'=_
  simp only [Instr.sureAddr,Sem.run_bind,Sem.run_pure,Result.andThen_ok]
  refine run_loadVar (o:=o) (j:=0) hi hu (fun q x hx=>?_) hcase
  cases q with
  | zero=>simp at hx; subst hx; exact (cell_heap hheap).trans hc
  | succ q=>simp at hx
 ·exact h.elim
theorem lenA_ok (hR:RepM N w0 M W lk μ st a w) {A:AV} {y:Value} {n:Nat} (hA:RA (skel st.o) μ w A y) (h:lenA st.o A=some n) :
  (isStr A=false∧∃ A' c,y=.slice A' n c)∨(isStr A=true∧∃ s,y=.string s∧n=s.size):=by
 unfold lenA at h
 split at h
 ·injection h with h; subst h; exact .inl ⟨rfl,none,0,hA⟩
 ·injection h with h; subst h
  obtain ⟨A,n,c,rfl,hr,_⟩:=hA
  exact .inl ⟨rfl,A,c,by rw [hr.1]⟩
 ·injection h with h; subst h
  obtain ⟨A,n,c,rfl,hr,_⟩:=hA
  exact .inl ⟨rfl,A,c,by rw [hr]⟩
 ·obtain ⟨A,n',c,τ,rfl,hs,_⟩:=hA
  unfold rowLen at h
  split at h
  ·rename_i l hl
   injection h with h; subst h
   have:=skel_of hl
   rw [hs] at this; injection this with this; injection this with e1 e2
   exact .inl ⟨rfl,A,c,by rw [e2]⟩
  ·cases h
 ·injection h with h; subst h
  obtain ⟨A,c,τ,n,rfl,hs,_⟩:=hA
  exact .inl ⟨rfl,A,c,rfl⟩
 ·injection h with h; subst h
  obtain ⟨A,τ,n,rfl,hs,_⟩:=hA
  exact .inl ⟨rfl,A,_,rfl⟩
 ·injection h with h; subst h
  obtain ⟨g,o,s,c,rfl,_⟩:=hA
  exact .inl ⟨rfl,_,c,rfl⟩
 ·injection h with h; subst h
  exact .inr ⟨rfl,_,hA,rfl⟩
 ·cases h
theorem run_slice {t e:TypeId} {i:TypeInfo} (hu:P.underlying t=some (.slice e)) (hi:P.info? e=some i) {A:Option Addr} {n c:Nat} {lo hi':Option Value} {l h:Nat}
  (hl:(lo=none∧l=0)∨lo=some (.int .i64 (l:Int))) (hh:(hi'=none∧h=n)∨hi'=some (.int .i64 (h:Int))) (hlh:l≤h) (b1:h≤c) (w:World) :
  (Instr.sliceAt t (.slice A n c) lo hi' none).run P w=.ok (.slice (if c=l then A else A.map (·.add (l*i.size))) (h - l) (c - l)) w:=by
 rcases hl with ⟨rfl,rfl⟩ | rfl <;> rcases hh with ⟨rfl,rfl⟩ | rfl <;>
  simp [Instr.sliceAt,Instr.slice,Instr.sliceBounds,Instr.sliceBound,run_underlying hu,run_size hi,asIntOf,b1,hlh] <;> (intros; omega)
theorem run_sliceStr {t:TypeId} (hu:P.underlying t=some .string) {s:ByteArray} {lo hi':Option Value} {l h:Nat}
  (hl:(lo=none∧l=0)∨lo=some (.int .i64 (l:Int))) (hh:(hi'=none∧h=s.size)∨hi'=some (.int .i64 (h:Int))) (hlh:l≤h) (hn:h≤s.size) (w:World) :
  (Instr.sliceAt t (.string s) lo hi' none).run P w=.ok (.string (s.extract l h)) w:=by
 rcases hl with ⟨rfl,rfl⟩ | rfl <;> rcases hh with ⟨rfl,rfl⟩ | rfl <;>
  simp [Instr.sliceAt,Instr.slice,Instr.sliceBounds,Instr.sliceBound,run_underlying hu,asIntOf,hn,hlh] <;> (intros; omega)
end
theorem Addr_add (g o m:Nat):(⟨g,o,none⟩:Addr).add m=⟨g,o+m,none⟩:=by
 unfold Addr.add; split
 ·simp [*]
 ·rfl
theorem Ro.cut {w:World} {A:Option Addr} {n c:Nat} {τ:Ty} {l:List τ.D} (h:Ro w A n c τ l) {i j:Nat} (hi:i≤j) (hj:j≤n) :
  Ro w (if c=i then A else A.map (·.add (i*τ.sz))) (j - i) (c - i) τ ((l.drop i).take (j - i)):=by
 obtain ⟨h1,h2,h3,h4⟩:=h
 refine ⟨by simp; omega,by omega,by omega,?_⟩
 rcases h4 with ⟨rfl,hc⟩ | ⟨a,rfl,ha⟩
 ·exact .inl ⟨by split <;> rfl,by omega⟩
 ·refine .inr ⟨if c=i then a else a.add (i*τ.sz),by split <;> rfl,fun hn=>?_⟩
  have hne:¬ c=i:=by omega
  obtain ⟨b,o,rfl,hc⟩:=ha (by omega)
  rw [if_neg hne]
  refine ⟨b,o+i*τ.sz,Addr_add _ _ _,fun q x hx q' y hy=>?_⟩
  rw [List.getElem?_take] at hx
  split at hx
  ·rw [List.getElem?_drop] at hx
   have:=hc _ _ hx _ _ hy
   rw [show o+i*τ.sz+q*τ.sz+q'=o+(i+q)*τ.sz+q' by rw [Nat.add_mul]; omega]
   exact this
  ·cases hx
theorem Hd.cut {μ:Mu} {k:Nat} {τ:Ty} {A:Option Addr} {off n c:Nat} (h:Hd μ k τ A off n c) {i j:Nat} (hi:i≤j) (hj:j≤c) :
  Hd μ k τ (if c=i then A else A.map (·.add (i*τ.sz))) (off+i) (j - i) (c - i):=by
 obtain ⟨h1,h2,h3⟩:=h
 refine ⟨by omega,by omega,?_⟩
 rcases h3 with ⟨rfl,hc⟩ | ⟨g,o,s,o',hm,rfl,hr,ho⟩
 ·exact .inl ⟨by split <;> rfl,by omega⟩
 ·by_cases e:c=i
  ·exact .inr ⟨g,o,s,o',hm,by rw [if_pos e],by subst e; simp; have:=Nat.zero_le (c*τ.sz); omega,fun hlt=>by omega⟩
  ·refine .inr ⟨g,o,s,o'+i*τ.sz,hm,by rw [if_neg e]; simp [Addr_add],?_,fun hlt=>?_⟩
   ·have:i*τ.sz+(c - i)*τ.sz=c*τ.sz:=by rw [← Nat.add_mul]; congr 1; omega
    omega
   ·rw [ho (by omega),Nat.add_mul]; omega
end Go.Ev
