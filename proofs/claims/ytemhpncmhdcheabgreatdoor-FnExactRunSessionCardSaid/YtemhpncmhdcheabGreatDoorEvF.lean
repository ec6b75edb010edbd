/- Every operation that only yields a value does in the machine what the evaluator says. No statement is proved here. -/
import Derived.Test.YtemhpncmhdcheabGreatDoorEvE
namespace Go.Ev
set_option linter.unusedVariables false
set_option linter.unusedSimpArgs false
open Go
section
variable {P:Program} {T:Tab} {N:Nat} {w0:World} {M:Nat→Prop} {W:Wd} {lk:List Nat} {μ:Mu} {st:St} {a:Act} {w:World}
theorem bnd_ok (hR:RepM N w0 M W lk μ st a w) {x:Option Operand} {b:Option Int} (h:bnd st x=some b):x.map a.eval=b.map (Value.int .i64):=by
 cases x with
 | none=>injection h with h; subst h; rfl
 | some x=>
  simp only [bnd] at h
  cases hn:intA (st.ev x) with
  | none=>rw [hn] at h; cases h
  | some n=>
   rw [hn] at h
   injection h with h; subst h
   simp [RA_int (RA_ev hR x) hn]
theorem und_of (hT:TabOK P T) {t:TypeId} {z:Value} (h:lkp T t=some (.sc z)):∃ d,P.underlying t=some d:=by
 obtain ⟨i,d,_,_,_,_,hu,_⟩:=hT _ _ h
 exact ⟨d,hu⟩
theorem wrap_u8 {n:Int} (h:0≤n∧n≤255):IntKind.u8.wrap n=n:=by
 simp [IntKind.wrap,IntKind.bits,IntKind.signed]; omega
theorem wrap_u64 {n:Int} (h:0≤n∧InR n):IntKind.u64.wrap n=n:=by
 have:=h.2.2
 simp [IntKind.wrap,IntKind.bits,IntKind.signed]; omega
def RAs (S:Sk) (μ:Mu) (w:World):List AV→List Value→Prop
 | [],[]=>True
 | x :: r,y :: ys=>RA S μ w x y∧RAs S μ w r ys
 | _,_=>False
theorem RAs_ev (hR:RepM N w0 M W lk μ st a w):∀ l:List Operand,RAs (skel st.o) μ w (l.map st.ev) (l.map a.eval)
 | []=>trivial
 | x :: r=>⟨RA_ev hR x,RAs_ev hR r⟩
theorem minA_ok {S:Sk} {l:List AV} {ys:List Value} {n:Int} (h:RAs S μ w l ys) (hm:minA l=some n) (ts:Array TypeId) (t:TypeId) (w':World):(Builtin.min_ ts t ys.toArray).run P w'=.ok (.int .i64 n) w':=by
 match l,ys,h,hm with
 | [x],[y],h,hm=>
  obtain rfl:=RA_int h.1 hm
  simp [Builtin.min_]
 | [x,y],[x',y'],h,hm=>
  simp only [minA] at hm
  split at hm
  ·rename_i p q hp hq
   obtain rfl:=RA_int h.1 hp
   obtain rfl:=RA_int h.2.1 hq
   injection hm with hm; subst hm
   simp [Builtin.min_,Builtin.min2]
  ·cases hm
 | [x,y,z],[x',y',z'],h,hm=>
  simp only [minA] at hm
  split at hm
  ·rename_i p q hp hq
   obtain rfl:=RA_int h.1 hp
   obtain rfl:=RA_int h.2.1 hq
   split at hm
   ·rename_i r hr
    obtain rfl:=RA_int h.2.2.1 hr
    injection hm with hm; subst hm
    simp [Builtin.min_,Builtin.min2]
   ·cases hm
  ·cases hm
 | x :: y :: z :: u :: l,_,h,hm=>
  simp only [minA] at hm
  split at hm <;> cases hm
theorem maxA_ok {S:Sk} {l:List AV} {ys:List Value} {n:Int} (h:RAs S μ w l ys) (hm:maxA l=some n) (ts:Array TypeId) (t:TypeId) (w':World):(Builtin.max_ ts t ys.toArray).run P w'=.ok (.int .i64 n) w':=by
 match l,ys,h,hm with
 | [x],[y],h,hm=>
  obtain rfl:=RA_int h.1 hm
  simp [Builtin.max_]
 | [x,y],[x',y'],h,hm=>
  simp only [maxA] at hm
  split at hm
  ·rename_i p q hp hq
   obtain rfl:=RA_int h.1 hp
   obtain rfl:=RA_int h.2.1 hq
   injection hm with hm; subst hm
   simp [Builtin.max_,Builtin.max2]
  ·cases hm
 | [x,y,z],[x',y',z'],h,hm=>
  simp only [maxA] at hm
  split at hm
  ·rename_i p q hp hq
   obtain rfl:=RA_int h.1 hp
   obtain rfl:=RA_int h.2.1 hq
   split at hm
   ·rename_i r hr
    obtain rfl:=RA_int h.2.2.1 hr
    injection hm with hm; subst hm
    simp [Builtin.max_,Builtin.max2]
   ·cases hm
  ·cases hm
 | x :: y :: z :: u :: l,_,h,hm=>
  simp only [maxA] at hm
  split at hm <;> cases hm
set_option maxHeartbeats 1000000 in
theorem pureOp_ok (hT:TabOK P T) (hR:RepM N w0 M W lk μ st a w) (o:Oper) {z:AV} (h:(pureOp T st o.op).gives z) :
  ∃ v,RA (skel st.o) μ w z v∧∀ w',(w'=w∨(steady lk st o.op=true∧Same lk (skel st.o) μ w w'))→(execOp a.eval o).run P w'=.ok (.value v) w':=by
 obtain ⟨dst,op,type,pos,after,guard⟩:=o
 cases op <;> simp only [pureOp] at h
 case move x=>subst h; exact ⟨_,RA_ev hR x,fun w' _=>rfl⟩
 case assign x=>subst h; exact ⟨_,RA_ev hR x,fun w' _=>rfl⟩
 case pick c x y=>
  have hc:=RA_ev hR c
  split at h
  ·rename_i e; rw [e] at hc
   simp only [PR.gives] at h; subst h
   exact ⟨_,RA_ev hR x,fun w' _=>by simp [execOp,hc.v,asBool]⟩
  ·rename_i e; rw [e] at hc
   simp only [PR.gives] at h; subst h
   exact ⟨_,RA_ev hR y,fun w' _=>by simp [execOp,hc.v,asBool]⟩
  ·exact h.elim
 case build t parts=>
  split at h
  ·rename_i fs zz hl
   split at h
   ·rename_i l hb
    simp only [PR.gives] at h; subst h
    obtain ⟨vs,h1,h2⟩:=build_ok (w:=w) (S:=skel st.o) (μ:=μ) (qs:=parts.map fun (i,x)=>(i,a.eval x)) hT hl (by simpa using parts_of hR parts.toList) hb
    exact ⟨_,⟨vs,rfl,h1⟩,fun w' _=>by simp [execOp,h2 w']⟩
   ·exact h.elim
  ·rename_i na ma ea ht
   split at h
   ·rename_i hp
    simp only [PR.gives] at h; subst h
    have ep:parts=#[]:=by apply Array.ext'; simpa using hp
    subst ep
    obtain ⟨i,ie,hu,hi,hsz,hz,hie,hes⟩:=hT _ _ ht
    refine ⟨.agg (List.replicate (na*ma) (Value.int .i64 0)).toArray,by show _=_; rw [List.map_replicate],fun w' _=>?_⟩
    simp [execOp,Instr.build,run_zero hi hz,run_underlying hu,run_size hie,Instr.fill,Value.cells]
   ·exact h.elim
  ·exact h.elim
 case load t x=>
  obtain ⟨v,h1,h2⟩:=loadA_ok hT hR (RA_ev hR x) h
  exact ⟨v,h1,fun w' hw'=>by simp [execOp,h2 w' hw']⟩
 case nilCheck x=>
  have hx:=RA_ev hR x
  split at h
  ·rename_i k j e
   simp only [PR.gives] at h; subst h
   rw [e] at hx
   have hx':=hx
   obtain ⟨g,o,s,_,_,e2⟩:=hx
   exact ⟨_,hx',fun w' _=>by simp [execOp,e2]⟩
  ·rename_i k i j e
   simp only [PR.gives] at h; subst h
   rw [e] at hx
   have hx':=hx
   obtain ⟨g,o,s,τ,n,_,_,_,e2⟩:=hx
   exact ⟨_,hx',fun w' _=>by simp [execOp,e2]⟩
  ·rename_i l j e
   simp only [PR.gives] at h; subst h
   rw [e] at hx
   have hx':=hx
   obtain ⟨b,o,e2,_⟩:=hx
   exact ⟨_,hx',fun w' _=>by simp [execOp,e2]⟩
  ·rename_i f x1 x2 e
   simp only [PR.gives] at h; subst h
   rw [e] at hx
   have hx':=hx
   have e2:=hx.v
   exact ⟨_,hx',fun w' _=>by simp [execOp,e2]⟩
  ·rename_i f cs e
   split at h
   ·rename_i hb
    simp only [PR.gives] at h; subst h
    rw [e] at hx
    have hx':=hx
    obtain ⟨ps,e2,_⟩:=hx
    refine ⟨_,hx',fun w' _=>?_⟩
    unfold ClIs at e2
    split at e2
    ·simp [execOp,e2]
    ·rw [hb] at e2
     simp [execOp,e2]
   ·exact h.elim
  ·rename_i τ l e
   simp only [PR.gives] at h; subst h
   rw [e] at hx
   have hx':=hx
   obtain ⟨b,o,z,e2,_⟩:=hx
   exact ⟨_,hx',fun w' _=>by simp [execOp,e2]⟩
  ·exact h.elim
 case binOp op xt x y yt=>
  split at h
  ·exact h.elim
  obtain ⟨v,h1,h2⟩:=binA_ok hT x y (RA_ev hR x) (RA_ev hR y) h
  refine ⟨v,h1,fun w' _=>?_⟩
  have:=h2 w'
  simp only [execOp,Sem.run_bind,Sem.run_pure] at this ⊢
  rw [this]; rfl
 case unOp op xt x=>
  have hx:=RA_ev hR x
  split at h
  ·rename_i b e
   simp only [PR.gives] at h; subst h
   rw [e] at hx
   exact ⟨_,rfl,fun w' _=>by simp [execOp,hx.v,Op.unary]⟩
  ·rename_i n e
   obtain ⟨h1,rfl⟩:=h
   rw [e] at hx
   have hw:=wrap_in h1
   refine ⟨_,rfl,fun w' _=>?_⟩
   simp only [execOp,hx.v,Op.unary,Op.intArith,hw,Sem.run_bind,Sem.run_pure,Result.andThen_ok]
  ·exact h.elim
 case convert src dst x=>
  have hx:=RA_ev hR x
  split at h
  ·rename_i x0 z0 k n hs hl e
   obtain ⟨h1,rfl⟩:=h
   rw [e] at hx
   obtain ⟨i,d,_,_,_,_,hu,_,hd⟩:=hT _ _ hl
   obtain ⟨d',hu'⟩:=und_of hT hs
   simp only at hd; subst hd
   exact ⟨_,rfl,fun w' _=>by simp [execOp,hx.v,convert,run_underlying hu,run_underlying hu',Conv.intToInt,wrap_in h1]⟩
  ·rename_i x0 z0 k n hs hl e
   obtain ⟨h1,rfl⟩:=h
   rw [e] at hx
   obtain ⟨i,d,_,_,_,_,hu,_,hd⟩:=hT _ _ hl
   obtain ⟨d',hu'⟩:=und_of hT hs
   simp only at hd; subst hd
   exact ⟨_,rfl,fun w' _=>by simp [execOp,hx.v,convert,run_underlying hu,run_underlying hu',Conv.intToInt,wrap_u8 h1]⟩
  ·rename_i x0 z0 k n hs hl e
   obtain ⟨h1,rfl⟩:=h
   rw [e] at hx
   obtain ⟨i,d,_,_,_,_,hu,_,hd⟩:=hT _ _ hl
   obtain ⟨d',hu'⟩:=und_of hT hs
   simp only at hd; subst hd
   exact ⟨_,rfl,fun w' _=>by simp [execOp,hx.v,convert,run_underlying hu,run_underlying hu',Conv.intToInt,wrap_u64 h1]⟩
  ·exact h.elim
 case slice t x lo hi mx=>
  cases mx with
  | some m=>
   cases lo with
   | none=>exact h.elim
   | some lo=>
    cases hi with
    | none=>exact h.elim
    | some hi=>
     simp only at h
     split at h
     ·rename_i x1 x2 x3 x4 a' b' m' e τ e1 e2 e3 hl
      split at h
      ·rename_i n hty hn
       obtain ⟨⟨b1,b2,b3,b4⟩,rfl⟩:=h
       obtain ⟨i,hu,hi',hsz,_⟩:=hT _ _ hl
       have hx:=RA_ev hR x
       have hcap:∃ A c,a.eval x=.slice A n c∧n≤c:=by
        generalize st.ev x=X at *
        unfold lenA at hn
        split at hn
        ·injection hn with hn; subst hn; exact ⟨none,0,hx,Nat.le_refl _⟩
        ·injection hn with hn; subst hn
         obtain ⟨A,n,c,e,hr,_⟩:=hx
         exact ⟨A,c,by rw [e,hr.1],by rw [← hr.1]; exact hr.2.1⟩
        ·simp [isTy] at hty
        ·obtain ⟨A,n',c,τ,e,hs,hd⟩:=hx
         unfold rowLen at hn
         split at hn
         ·rename_i l hl
          injection hn with hn; subst hn
          have:=skel_of hl
          rw [hs] at this; injection this with this; injection this with e1 e2
          exact ⟨A,c,by rw [e,e2],by rw [← e2]; exact hd.1⟩
         ·cases hn
        ·injection hn with hn; subst hn
         obtain ⟨A,c,τ,n,e,hs,_,_,hd⟩:=hx
         exact ⟨A,c,e,hd.1⟩
        ·injection hn with hn; subst hn
         obtain ⟨A,τ,n,e,hs,hd⟩:=hx
         exact ⟨A,_,e,hd.1⟩
        ·simp [isTy] at hty
        ·simp [isTy] at hty
        ·cases hn
       obtain ⟨A,c,ex,hc⟩:=hcap
       have e1:=RA_int (RA_ev hR lo) e1
       have e2:=RA_int (RA_ev hR hi) e2
       have e3:=RA_int (RA_ev hR m) e3
       obtain ⟨v,hv⟩:=run_slice3 (P:=P) hu hi' (A:=A) (l:=a'.toNat) (h:=b'.toNat) (m:=m'.toNat) (n:=n) (c:=c) (by omega) (by omega) (by omega) hc w
       rw [Int.toNat_of_nonneg b1,Int.toNat_of_nonneg (by omega),Int.toNat_of_nonneg (by omega)] at hv
       exact ⟨v,trivial,fun w' _=>by simp [execOp,e1,e2,e3,ex,hv w']⟩
      ·exact h.elim
     ·exact h.elim
  | none=>
   simp only at h
   split at h
   ·rename_i x1 x2 e τ e1 e2 hl
    split at h
    ·rename_i hty
     obtain ⟨i,hu,hi',hsz,_⟩:=hT _ _ hl
     obtain ⟨v,h1,h2⟩:=sliceA_ok hR hu hi' hsz (RA_ev hR x) hty (bnd_ok hR e1) (bnd_ok hR e2) h
     exact ⟨v,h1,fun w' _=>by simp [execOp,h2 w']⟩
    ·exact h.elim
   ·rename_i x1 x2 e1 e2 hl
    split at h
    ·rename_i hty
     obtain ⟨i,d,_,_,_,_,hu,_,hd⟩:=hT _ _ hl
     simp only at hd; subst hd
     obtain ⟨v,h1,h2⟩:=sliceStr_ok hu (RA_ev hR x) hty (bnd_ok hR e1) (bnd_ok hR e2) h
     exact ⟨v,h1,fun w' _=>by simp [execOp,h2 w']⟩
    ·exact h.elim
   ·exact h.elim
 case fieldAddr s x f=>
  split at h
  ·rename_i off hf
   obtain ⟨v,h1,h2⟩:=field_ok hT hf (RA_ev hR x) h
   exact ⟨v,h1,fun w' _=>by simp [execOp,h2 w']⟩
  ·exact h.elim
 case field s x f=>
  split at h
  ·rename_i fs zz l hl hx
   split at h
   ·rename_i off size hf
    split at h
    ·rename_i c hsz hc
     simp only [PR.gives] at h; subst h
     have hsz:=Nat.eq_of_beq_eq_true hsz
     obtain ⟨i,flds,h1,h2,h3,h4,h5,h6,h7⟩:=hT _ _ hl
     have hlt:f < flds.size:=by rw [h6]; exact (List.getElem?_eq_some_iff.1 hf).1
     obtain ⟨i',a1,a2,d,a3,a4⟩:=h7 f flds[f] (by simp [hlt])
     rw [hf] at a2
     injection a2 with a2; injection a2 with a2 a2'
     have hd:=a4 (by omega)
     have hx':=RA_ev hR x
     rw [hx] at hx'
     obtain ⟨vs,ex,hv⟩:=hx'
     obtain ⟨y,y1,y2,_⟩:=hv.get hc
     refine ⟨y,y2,fun w' _=>?_⟩
     have hy:vs[off]?=some y:=by simpa using y1
     simp [execOp,Instr.field,run_underlying h5,hlt,ex,asAgg,part,run_agg a3,hd,← a2,hy]
    ·exact h.elim
   ·exact h.elim
  ·exact h.elim
 case indexAddr t x i=>
  split at h
  ·rename_i e τ n hl hn
   split at h
   ·rename_i hty
    obtain ⟨i',hu,hi',hsz,_⟩:=hT _ _ hl
    obtain ⟨v,h1,h2⟩:=indexA_ok hR hu hi' hsz (RA_ev hR x) hty h
    have e2:=RA_int (RA_ev hR i) hn
    exact ⟨v,h1,fun w' _=>by simp [execOp,e2,h2 w']⟩
   ·exact h.elim
  ·rename_i e τ n hl hn
   split at h
   ·rename_i σ ls hx
    split at h
    ·rename_i hty
     obtain rfl:=eqb_true hty
     obtain ⟨⟨b1,b2⟩,rfl⟩:=h
     obtain ⟨i',hu,hi',hsz,_⟩:=hT _ _ hl
     have hx':=RA_ev hR x
     rw [hx] at hx'
     obtain ⟨v,h1,h2⟩:=indexL_ok hu hi' hsz hx' b1 b2
     have e2:=RA_int (RA_ev hR i) hn
     exact ⟨v,h1,fun w' _=>by simp [execOp,e2,h2 w']⟩
    ·exact h.elim
   ·rename_i k m hx
    obtain ⟨⟨b1,b2⟩,rfl⟩:=h
    obtain ⟨i',hu,hi',hsz,_⟩:=hT _ _ hl
    have hx':=RA_ev hR x
    rw [hx] at hx'
    obtain ⟨g,o,s,c,he,hs,hm,_⟩:=hx'
    have e2:=RA_int (RA_ev hR i) hn
    refine ⟨.pointer (some ⟨g,o+n.toNat,none⟩),⟨g,o,s,hs,hm,rfl⟩,fun w' _=>?_⟩
    have h2:(Instr.indexAt t (a.eval x) (.int .i64 n)).run P w'=.ok (.pointer (some ⟨g,o+n.toNat,none⟩)) w':=by
     rw [he,run_index hu hi' b1 b2,hsz,Addr_add,Nat.mul_one]
    simp [execOp,e2,h2]
   ·exact h.elim
  ·rename_i na ma ea q ht hn
   split at h
   ·rename_i k b j hx
    split at h
    ·rename_i l hj hl
     obtain ⟨⟨⟨b1,b2⟩,b3⟩,rfl⟩:=h
     obtain rfl:=Nat.eq_of_beq_eq_true hj
     obtain ⟨i',ie,hu,hi',hsz,hz,hie,hes⟩:=hT _ _ ht
     have hx':=RA_ev hR x
     rw [hx] at hx'
     obtain ⟨g,o,s,τ,n,hs,hi0,hm,he⟩:=hx'
     have hsk:=skel_of hl
     rw [hs] at hsk
     injection hsk with hsk; injection hsk with e1 e2; subst e1; subst e2
     have e2:=RA_int (RA_ev hR i) hn
     refine ⟨.pointer (some ⟨g,o+(b+q.toNat*ma)*Ty.int.sz+0,none⟩),⟨g,o,s,.int,l.length,hs,?_,hm,rfl⟩,fun w' _=>?_⟩
     ·rcases Nat.eq_zero_or_pos ma with h0 | h0
      ·subst h0; simpa using hi0
      ·omega
     ·have h2:(Instr.indexAt t (a.eval x) (.int .i64 q)).run P w'=.ok (.pointer (some ⟨g,o+(b+q.toNat*ma)*Ty.int.sz+0,none⟩)) w':=by
       rw [he,run_indexAr hu hie b1 b2,hes,Addr_add,show o+b*Ty.int.sz+0+q.toNat*ma=o+(b+q.toNat*ma)*Ty.int.sz+0 by simp only [Ty.sz]; omega]
      simp [execOp,e2,h2]
    ·exact h.elim
   ·exact h.elim
  ·exact h.elim
 case index t x i=>
  split at h
  ·rename_i s n z0 e hn hl
   obtain ⟨⟨b1,b2⟩,rfl⟩:=h
   have hx:=RA_ev hR x
   rw [e] at hx
   have e2:=RA_int (RA_ev hR i) hn
   obtain ⟨_,d,_,_,_,_,hu,_,hd⟩:=hT _ _ hl
   simp only at hd; subst hd
   have hlt:n.toNat < s.size:=by omega
   have hb:s[n.toNat]?=some (s.data.getD n.toNat 0):=by
    have:n.toNat < s.data.size:=hlt
    rw [getElem?_pos s n.toNat hlt]
    congr 1
    unfold Array.getD
    rw [dif_pos this]; rfl
   exact ⟨_,rfl,fun w' _=>by simp [execOp,hx.v,e2,Instr.index,asIntOf,run_underlying hu,b1,hb]⟩
  ·exact h.elim
 case extract x i=>
  split at h
  ·rename_i l e
   split at h
   ·rename_i y hy
    simp only [PR.gives] at h; subst h
    have hx:=RA_ev hR x
    rw [e] at hx
    obtain ⟨vs,e2,h1⟩:=hx
    obtain ⟨v,h2,h3⟩:=h1.get hy
    have h2':vs[i]?=some v:=by simpa using h2
    exact ⟨v,h3,fun w' _=>by simp [execOp,e2,Instr.extract,h2']⟩
   ·exact h.elim
  ·exact h.elim
 case makeFunc fn first caps=>
  split at h
  ·rename_i f x1 x2 h1 h2
   simp only [PR.gives] at h; subst h
   have e1:=vals_of hR h1
   have e2:=vals_of hR h2
   refine ⟨_,rfl,fun w' _=>?_⟩
   simp only [execOp,Instr.makeFunc,Sem.run_bind,Sem.run_pure,Result.andThen_ok]
   rw [← e1,← e2]
   simp only [Result.ok.injEq,Next.value.injEq,Value.func.injEq,true_and,and_true]
   constructor <;> apply Array.ext' <;> simp
  ·rename_i f h1 h2
   split at h
   ·rename_i l hl hbl
    simp only [PR.gives] at h; subst h
    have e1:=vals_of hR h1
    obtain ⟨p1,p2⟩:=pes_of hR hl
    have e0:first=#[]:=by
     apply Array.ext'
     simpa using e1
    subst e0
    refine ⟨.func (.func f) #[] (caps.toList.map a.eval).toArray,⟨_,ClIs.of hbl,p1,p2⟩,fun w' _=>?_⟩
    simp only [execOp,Instr.makeFunc,Sem.run_bind,Sem.run_pure,Result.andThen_ok]
    simp only [Result.ok.injEq,Next.value.injEq,Value.func.injEq,true_and,and_true]
    constructor <;> apply Array.ext' <;> simp
   ·exact h.elim
  ·exact h.elim
 case call c=>
  obtain ⟨callee,args,argTypes⟩:=c
  cases callee with
  | value f=>exact h.elim
  | invoke r m=>exact h.elim
  | builtin b=>
   simp only at h
   cases b
   case len=>
    simp only at h
    split at h
    ·rename_i x t ts e1 e2
     have e1':args=#[x]:=by apply Array.ext'; simpa using e1
     subst e1'
     have e3:argTypes[0]?=some t:=by rw [← Array.getElem?_toList,e2]; rfl
     have hx:=RA_ev hR x
     split at h
     ·rename_i e τ hl
      obtain ⟨i,hu,_⟩:=hT _ _ hl
      split at h
      ·rename_i n e4 e5
       simp only [PR.gives] at h; subst h
       rcases lenA_ok hR hx e5 with ⟨_,A',c,e6⟩ | ⟨e6,_⟩
       ·exact ⟨_,rfl,fun w' _=>by simp [execOp,resolve,invoke,builtin,Builtin.len_,e3,run_underlying hu,e6,goInt]⟩
       ·rw [e4] at e6; cases e6
      ·exact h.elim
     ·rename_i e τ hl
      obtain ⟨i,hu,_⟩:=hT _ _ hl
      split at h
      ·rename_i n e4 e5
       simp only [PR.gives] at h; subst h
       rcases lenA_ok hR hx e5 with ⟨_,A',c,e6⟩ | ⟨e6,_⟩
       ·exact ⟨_,rfl,fun w' _=>by simp [execOp,resolve,invoke,builtin,Builtin.len_,e3,run_underlying hu,e6,goInt]⟩
       ·rw [e4] at e6; cases e6
      ·exact h.elim
     ·rename_i z0 hl
      obtain ⟨i,d,_,_,_,_,hu,_,hd⟩:=hT _ _ hl
      simp only at hd; subst hd
      split at h
      ·rename_i n e4 e5
       simp only [PR.gives] at h; subst h
       rcases lenA_ok hR hx e5 with ⟨e6,_⟩ | ⟨_,s,e6,rfl⟩
       ·rw [e4] at e6; cases e6
       ·exact ⟨_,rfl,fun w' _=>by simp [execOp,resolve,invoke,builtin,Builtin.len_,e3,run_underlying hu,e6,goInt]⟩
      ·exact h.elim
     ·exact h.elim
    ·exact h.elim
   case cap=>
    simp only at h
    split at h
    ·rename_i x t ts e1 e2
     have e1':args=#[x]:=by apply Array.ext'; simpa using e1
     subst e1'
     have e3:argTypes[0]?=some t:=by rw [← Array.getElem?_toList,e2]; rfl
     have hx:=RA_ev hR x
     split at h
     ·rename_i e τ hl he
      obtain ⟨i,hu,_⟩:=hT _ _ hl
      simp only [PR.gives] at h; subst h
      rw [he] at hx
      have hx:a.eval x=.slice none 0 0:=hx
      exact ⟨_,rfl,fun w' _=>by simp [execOp,resolve,invoke,builtin,Builtin.cap_,e3,run_underlying hu,hx,goInt]⟩
     ·rename_i e τ k off n c hl he
      obtain ⟨i,hu,_⟩:=hT _ _ hl
      simp only [PR.gives] at h; subst h
      rw [he] at hx
      obtain ⟨A,σ,m,hx,_⟩:=hx
      exact ⟨_,rfl,fun w' _=>by simp [execOp,resolve,invoke,builtin,Builtin.cap_,e3,run_underlying hu,hx,goInt]⟩
     ·exact h.elim
    ·exact h.elim
   case min=>
    simp only at h
    split at h
    ·rename_i n hm
     simp only [PR.gives] at h; subst h
     refine ⟨_,rfl,fun w' _=>?_⟩
     have:=minA_ok (P:=P) (RAs_ev hR args.toList) hm argTypes type w'
     have e:args.map a.eval=(args.toList.map a.eval).toArray:=by apply Array.ext'; simp
     simp [execOp,resolve,invoke,builtin,e,this]
    ·exact h.elim
   case max=>
    simp only at h
    split at h
    ·rename_i n hm
     simp only [PR.gives] at h; subst h
     refine ⟨_,rfl,fun w' _=>?_⟩
     have:=maxA_ok (P:=P) (RAs_ev hR args.toList) hm argTypes type w'
     have e:args.map a.eval=(args.toList.map a.eval).toArray:=by apply Array.ext'; simp
     simp [execOp,resolve,invoke,builtin,e,this]
    ·exact h.elim
   all_goals exact h.elim
 all_goals exact h.elim
end
end Go.Ev
