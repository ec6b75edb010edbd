/- Memory: literals,make,copy,stores,new variables. No statement is proved here. -/
import Derived.Test.YtemhpncmhdcheabGreatDoorEvG
import Derived.Lib.AppendZeros
namespace Go.Ev
set_option linter.unusedVariables false
set_option linter.unusedSimpArgs false
open Go
theorem dec_enc {τ:Ty} {vs:List Value} {e:τ.D} (h:τ.dec vs=some e):τ.enc e=vs:=by
 unfold Ty.dec at h
 split at h <;> first | (injection h with h; subst h; rfl) | (cases h; done)
section
variable {P:Program} {T:Tab} {S:Sk} {μ:Mu} {w:World}
theorem elemA_ok {τ:Ty} {X:AV} {x:Value} {e:τ.D} (hX:RA S μ w X x) (h:elemA τ X=some e):x.cells.toList=τ.enc e:=by
 unfold elemA at h
 split at h
 ·rename_i l hl
  split at h
  ·rename_i vs hvs
   rw [dec_enc h]
   exact cvals_ok (cellsA_ok hX hl) hvs
  ·cases h
 ·cases h
theorem setsL_append {α:Type}:∀ (xs ys l:List α) (o:Nat),setsL l o (xs++ys)=setsL (setsL l o xs) (o+xs.length) ys
 | [],ys,l,o=>rfl
 | x :: xs,ys,l,o=>by
  rw [List.cons_append,setsL,setsL_append xs ys,setsL,List.length_cons]
  congr 1; omega
theorem setsL_len {α:Type}:∀ (xs l:List α) (o:Nat),(setsL l o xs).length=l.length
 | [],l,o=>rfl
 | x :: xs,l,o=>by rw [setsL,setsL_len xs]; simp
theorem fillRow {τ:Ty}:∀ {ps:List (Nat×AV)} {qs:List (Nat×Value)} {k:Nat} {l:List τ.D} {cells:Array Value},rowA τ k ps=some l→Parts S μ w ps qs→(k+l.length)*τ.sz≤cells.size→
  ∃ cells',Instr.fill (fun i=>some (i*τ.sz,τ.sz)) cells qs=some cells'∧cells'.toList=setsL cells.toList (k*τ.sz) (flat τ l)
 | [],[],k,l,cells,h,_,_=>by injection h with h; subst h; exact ⟨cells,rfl,rfl⟩
 | (i,x) :: ps,(j,y) :: qs,k,l,cells,h,hq,hsz=>by
  obtain ⟨rfl,hx,hq⟩:=hq
  unfold rowA at h
  split at h
  ·rename_i hb
   have hik:i=k:=Nat.eq_of_beq_eq_true hb
   subst hik
   split at h
   ·rename_i e he
    split at h
    ·rename_i l' hl'
     injection h with h; subst h
     simp only [List.length_cons] at hsz
     have hy:=elemA_ok hx he
     have hys:y.cells.size=τ.sz:=by
      have:y.cells.toList.length=τ.sz:=by rw [hy,enc_len]
      simpa using this
     have hfit:i*τ.sz+τ.sz≤cells.size:=by
      have h2:(i+1)*τ.sz≤(i+(l'.length+1))*τ.sz:=Nat.mul_le_mul_right _ (by omega)
      rw [Nat.add_mul,Nat.one_mul] at h2
      omega
     have e1:(Array.foldl (fun cs (x:Value×Nat)=>cs.setIfInBounds (i*τ.sz+x.2) x.1) cells y.cells.zipIdx).toList=setsL cells.toList (i*τ.sz) (τ.enc e):=by
      rw [← Array.foldl_toList,Array.toList_zipIdx,← hy]
      simpa using fold_sets y.cells.toList 0 cells (i*τ.sz)
     have hsz2:(Array.foldl (fun cs (x:Value×Nat)=>cs.setIfInBounds (i*τ.sz+x.2) x.1) cells y.cells.zipIdx).size=cells.size:=by
      have:=congrArg List.length e1
      rw [setsL_len] at this
      simpa using this
     obtain ⟨cells',h1,h2⟩:=fillRow (k:=i+1) (cells:=Array.foldl (fun cs (x:Value×Nat)=>cs.setIfInBounds (i*τ.sz+x.2) x.1) cells y.cells.zipIdx) hl' hq (by rw [hsz2]; rw [show i+1+l'.length=i+(l'.length+1) by omega]; exact hsz)
     refine ⟨cells',?_,?_⟩
     ·unfold Instr.fill
      simp only []
      rw [if_neg (by simp; omega)]
      exact h1
     ·rw [h2,e1,flat,setsL_append,enc_len,Nat.add_mul,Nat.one_mul]
    ·cases h
   ·cases h
  ·cases h
 | [],_ :: _,_,_,_,_,hq,_=>hq.elim
 | _ :: _,[],_,_,_,_,hq,_=>hq.elim
theorem lit_run {t e:TypeId} {i:TypeInfo} {τ:Ty} (hu:P.underlying t=some (.slice e)) (hi:P.info? e=some i) (hsz:i.size=τ.sz) {z:Value} (hz:i.zero=some z)
  {ps:List (Nat×AV)} {qs:Array (Nat×Value)} {l:List τ.D} {len:Nat} (h:rowA τ 0 ps=some l) (hq:Parts S μ w ps qs.toList) (hl:l.length=len) (hlen:len≤1000) (w':World) :
  ∃ cells:Array Value,cells.toList=flat τ l∧(Instr.buildSlice t len qs).run P w'=.ok (.slice (some ⟨w'.heap.size,0,none⟩) len len) (w'.alloc (.cells cells e)):=by
 have hpos:=sz_pos τ
 have hsz3:τ.sz≤3:=by cases τ <;> simp [Ty.sz]
 have hbig:¬ len*i.size > 2 ^ 24:=by
  rw [hsz]
  have:len*τ.sz≤1000*3:=Nat.mul_le_mul hlen hsz3
  omega
 by_cases h0:len=0
 ·subst h0
  obtain rfl:l=[]:=List.eq_nil_of_length_eq_zero hl
  have hps:ps=[]:=by
   cases ps with
   | nil=>rfl
   | cons p ps=>
    obtain ⟨j,x⟩:=p
    unfold rowA at h
    split at h
    ·split at h
     ·split at h <;> cases h
     ·cases h
    ·cases h
  subst hps
  have hqs:qs=#[]:=by
   cases hqq:qs.toList with
   | nil=>apply Array.ext'; simpa using hqq
   | cons a b=>rw [hqq] at hq; exact hq.elim
  subst hqs
  refine ⟨#[],rfl,?_⟩
  simp [Instr.buildSlice,run_underlying hu,sizeOf,typeInfo,hi,newRow,Instr.fill]
  congr 2
  apply Array.ext'; simp
 ·have hne:¬ len*i.size=0:=by
   rw [hsz]
   have:0 < len*τ.sz:=Nat.mul_pos (by omega) hpos
   omega
  obtain ⟨cells,h1,h2⟩:=fillRow (cells:=(Array.range (len*τ.sz)).map (z.cells[· % z.cells.size]!)) h hq (by simp [hl])
  have hlen2:((Array.range (len*τ.sz)).map (z.cells[· % z.cells.size]!)).toList.length=(flat τ l).length:=by rw [flat_len,hl]; simp
  refine ⟨cells,?_,run_buildSlice w' t e len qs cells i z hu hi hz hbig hne (by rw [hsz]; exact h1)⟩
  rw [h2,Nat.zero_mul,setsL_eq _ _ _ (by omega),List.take_zero,List.nil_append,Nat.zero_add,← hlen2,List.drop_length,List.append_nil]
theorem make_run {t e:TypeId} {i:TypeInfo} {τ:Ty} (hu:P.underlying t=some (.slice e)) (hi:P.info? e=some i) (hsz:i.size=τ.sz) {z:Value} (hz:i.zero=some z) (hz2:z.cells.toList=τ.enc τ.zero)
  (hb2:i.bytes≤100) {n:Nat} (hn:n≤1000000000) (w:World) :
  ∃ w' cur,(Instr.makeSlice t (.int .i64 (n:Int)) (.int .i64 (n:Int))).run P w=.ok (.slice (some ⟨w.heap.size,0,none⟩) n n) w'∧w.grownBy w' none∧
   w'.heap[w.heap.size]?=some (.cells cur e (0,0))∧cur.size=n*τ.sz∧RowIs cur 0 τ (List.replicate n τ.zero):=by
 have hpos:=sz_pos τ
 have hzs:z.cells.size=τ.sz:=by
  have:z.cells.toList.length=τ.sz:=by rw [hz2,enc_len]
  simpa using this
 obtain ⟨w',h1,⟨h2,h3⟩,h4⟩:=run_make_full (P:=P) w 0 t e i z i.size hu hi hz rfl .i64 .i64 n (by have:i.bytes*n≤100*1000000000:=Nat.mul_le_mul hb2 hn; omega) (by simp only [maxLen]; omega) (Nat.zero_le _)
 rcases h3 with ⟨h3,_⟩ | ⟨g,cap,cur,h3,_,hg,hcap,hmax,hcs,htk⟩
 ·cases h3
 ·injection h3 with h3 _ h5
  injection h3 with h3
  injection h3 with h3
  subst h3; subst h5
  rw [hsz] at hcs htk
  refine ⟨w',cur,h1,h4,hg,hcs,fun q x hx j y hy=>?_⟩
  have hq:q < n:=by have:=(List.getElem?_eq_some_iff.1 hx).1; simpa using this
  have hxz:x=τ.zero:=by
   rw [List.getElem?_replicate] at hx
   rw [if_pos hq] at hx
   injection hx with hx; exact hx.symm
  subst hxz
  have hj:j < τ.sz:=by have:=(List.getElem?_eq_some_iff.1 hy).1; rwa [enc_len] at this
  have hlt:q*τ.sz+j < n*τ.sz:=by
   have:(q+1)*τ.sz≤n*τ.sz:=Nat.mul_le_mul_right _ hq
   rw [Nat.add_mul,Nat.one_mul] at this
   omega
  have e1:(cur.toList.take (n*τ.sz))[q*τ.sz+j]?=(madeCells z.cells (n*τ.sz)).toList[q*τ.sz+j]?:=by rw [htk]
  rw [List.getElem?_take,if_pos hlt] at e1
  rw [Nat.zero_add,← Array.getElem?_toList,e1]
  have hmod:(q*τ.sz+j) % τ.sz=j:=by rw [Nat.mul_comm,Nat.mul_add_mod,Nat.mod_eq_of_lt hj]
  rw [← hz2] at hy
  have hy':z.cells[j]?=some y:=by simpa using hy
  have hj':j < z.cells.size:=by rw [hzs]; exact hj
  simp only [madeCells,Array.toList_map,List.getElem?_map,Array.getElem?_toList]
  rw [Array.getElem?_range,if_pos hlt]
  simp only [Option.map_some,hzs,hmod]
  rw [getElem!_pos z.cells j hj']
  rw [Array.getElem?_eq_getElem hj'] at hy'
  exact hy'
theorem store_run {t:TypeId} {i:TypeInfo} (hi:P.info? t=some i) {v:Value} (hs:v.cells.size=i.size) (hok:∀ y∈v.cells.toList,okV y=true) {g o:Nat} {cur:Array Value} {ty:TypeId} {w:World}
  (hg:w.heap[g]?=some (.cells cur ty (0,0))) (hfit:o+i.size≤cur.size) :
  (Instr.storeAt t (.pointer (some ⟨g,o,none⟩)) v).run P w=.ok () (w.setRow g (setsL cur.toList o v.cells.toList).toArray):=by
 have h:=run_storeCells_at P g o ty v.cells.toList 0 cur w hg (by simpa [hs] using hfit) (fun y hy=>okV_one.1 (hok y hy))
 rw [setsL_eq _ _ _ (by simpa [hs] using hfit)]
 simp only [Nat.add_zero] at h
 simp [Instr.storeAt,Instr.sureAddr,storeVar,run_size hi,hs,h]
theorem alloc_run {t:TypeId} {i:TypeInfo} {z:Value} (hi:P.info? t=some i) (hz:i.zero=some z) (w:World):(Instr.alloc t true (.tuple #[])).run P w=.ok (.pointer (some ⟨w.heap.size,0,none⟩)) (w.alloc (.cells z.cells t)):=by
 simp [Instr.alloc,run_zero hi hz,newVar,newRow]
theorem box_run (t:TypeId) (v:Value) (w:World):(Instr.box t v).run P w=.ok (.pointer (some ⟨w.heap.size,0,none⟩)) (w.alloc (.cells v.cells t)):=by
 simp [Instr.box,newVar,newRow]
theorem zeros_get {τ:Ty} {z:Array Value} (hz:z.toList=τ.enc τ.zero) (n q:Nat) (y:Value) (hy:(flat τ (List.replicate n τ.zero))[q]?=some y):(Builtin.zeroCells z n)[q]?=some y:=by
 have hzs:z.size=τ.sz:=by
  have:z.toList.length=τ.sz:=by rw [hz,enc_len]
  simpa using this
 have hpos:=sz_pos τ
 have hq:q < n*τ.sz:=by
  have:=(List.getElem?_eq_some_iff.1 hy).1
  rwa [flat_len,List.length_replicate] at this
 have hg:∀ (n q:Nat),q < n*τ.sz→(flat τ (List.replicate n τ.zero))[q]?=(τ.enc τ.zero)[q % τ.sz]?:=by
  intro n
  induction n with
  | zero=>intro q hq; omega
  | succ n ih=>
   intro q hq
   rw [List.replicate_succ,flat]
   by_cases h:q < (τ.enc τ.zero).length
   ·rw [List.getElem?_append_left h]
    rw [enc_len] at h
    rw [Nat.mod_eq_of_lt h]
   ·rw [List.getElem?_append_right (by omega)]
    rw [enc_len] at h ⊢
    rw [ih (q - τ.sz) (by rw [Nat.add_mul] at hq; omega)]
    congr 1
    rw [Nat.mod_eq_sub_mod (by omega:q≥τ.sz)]
 rw [hg n q hq] at hy
 have hm:q % τ.sz < τ.sz:=Nat.mod_lt _ hpos
 rw [← hz,Array.getElem?_toList] at hy
 simp only [Builtin.zeroCells,Array.getElem?_map,hzs]
 rw [Array.getElem?_range,if_pos hq]
 simp only [Option.map_some]
 have hm':q % τ.sz < z.size:=by rw [hzs]; exact hm
 rw [getElem!_pos z _ hm']
 rw [Array.getElem?_eq_getElem hm'] at hy
 exact hy
theorem size_zeros {τ:Ty} {z:Array Value} (hz:z.toList=τ.enc τ.zero) (n:Nat):(Builtin.zeroCells z n).size=n*τ.sz:=by
 have hzs:z.size=τ.sz:=by
  have:z.toList.length=τ.sz:=by rw [hz,enc_len]
  simpa using this
 rw [size_zeroCells,hzs]
theorem zeros_flat {τ:Ty} {z:Array Value} (hz:z.toList=τ.enc τ.zero) (n:Nat):(Builtin.zeroCells z n).toList=flat τ (List.replicate n τ.zero):=by
 apply List.ext_getElem?
 intro q
 by_cases hq:q < n*τ.sz
 ·have hlt:q < (flat τ (List.replicate n τ.zero)).length:=by rw [flat_len,List.length_replicate]; exact hq
  have e:(flat τ (List.replicate n τ.zero))[q]?=some ((flat τ (List.replicate n τ.zero))[q]):=List.getElem?_eq_getElem hlt
  rw [e,Array.getElem?_toList]
  exact zeros_get hz n q _ e
 ·rw [List.getElem?_eq_none (by simp [size_zeros hz]; omega),List.getElem?_eq_none (by rw [flat_len,List.length_replicate]; omega)]
theorem appZ_run {t t' e ty:TypeId} {i:TypeInfo} {τ:Ty} (hu:P.underlying t=some (.slice e)) (hu':P.underlying t'=some (.int .i64)) (hi:P.info? e=some i) (hsz:i.size=τ.sz) {z:Value} (hz:i.zero=some z) (hz2:z.cells.toList=τ.enc τ.zero)
  (hb2:i.bytes≤100) {n:Nat} (hn:n≤1000000000) (w:World) :
  ∃ A c w',(Builtin.append_ #[t,t'] ty #[.slice none 0 0,.int .i64 n]).run P w=.ok (.slice A n c) w'∧n≤c∧c≤maxLen∧Fr (fun _=>False) w w'∧
   ((A=none∧c=0∧n=0)∨∃ g cur,w'.heap[g]?=some (.cells cur e (0,0))∧A=some ⟨g,0,none⟩∧c*τ.sz≤cur.size∧RowIs cur 0 τ (List.replicate n τ.zero)∧w.heap.size≤g):=by
 rcases Nat.eq_zero_or_pos n with rfl | hpos
 ·refine ⟨none,0,w,?_,Nat.le_refl _,Nat.zero_le _,⟨rfl,rfl,rfl,Nat.le_refl _,fun _ _ _=>rfl⟩,.inl ⟨rfl,rfl,rfl⟩⟩
  have hw:IntKind.i64.wrap (0:Int)=0:=by rw [IntKind.wrap_i64]; omega
  simp [Builtin.append_,run_underlying hu,run_underlying hu',sizeOf,typeInfo,hi,asInt,asIntOf,hw]
 ·have hby:n*i.bytes≤281474976710656:=by
   calc n*i.bytes≤1000000000*100:=Nat.mul_le_mul hn hb2
    _≤281474976710656:=by decide
  have hrun:=Lib.run_append_nil_zeros (P:=P) w t t' ty e i z .i64 .i64 hu hu' hi hz n hpos (by rw [hsz]; exact sz_pos τ) (by omega) hby
  have hge:=grownCap_ge w n 0 e
  refine ⟨_,_,_,hrun,hge,grownCap_le_maxLen w n 0 e (by simp only [maxLen]; omega),⟨rfl,rfl,rfl,by show w.heap.size≤(w.heap.push _).size; rw [Array.size_push]; omega,fun b hb _=>?_⟩,.inr ⟨w.heap.size,Builtin.zeroCells z.cells n++Builtin.zeroCells z.cells (grownCap w n 0 e - n),?_,rfl,?_,rowIs_of fun q y hy=>?_,Nat.le_refl _⟩⟩
  ·show (w.heap.push _)[b]?=_
   rw [Array.getElem?_push,if_neg (by omega)]
  ·show (w.heap.push _)[w.heap.size]?=_
   rw [Array.getElem?_push,if_pos rfl]
  ·rw [Array.size_append,size_zeros hz2,size_zeros hz2,← Nat.add_mul]
   refine Nat.mul_le_mul_right _ ?_
   omega
  ·rw [Nat.zero_add]
   have hlt:q < (Builtin.zeroCells z.cells n).size:=by
    rw [size_zeros hz2]
    have:=(List.getElem?_eq_some_iff.1 hy).1
    rwa [flat_len,List.length_replicate] at this
   rw [Array.getElem?_append_left hlt]
   exact zeros_get hz2 n q y hy
theorem mid_len {α:Type} {l r:List α} {i:Nat} (h:i+r.length≤l.length):(midA l i r).length=l.length:=by
 simp [midA]; omega
theorem rowIs_mid {cur:Array Value} {o:Nat} {τ:Ty} {l r:List τ.D} {i:Nat} (h:RowIs cur o τ l) (hi:i+r.length≤l.length) (hfit:o+l.length*τ.sz≤cur.size) :
  RowIs (cur.toList.take (o+i*τ.sz)++flat τ r++cur.toList.drop (o+i*τ.sz+(flat τ r).length)).toArray o τ (midA l i r):=by
 intro q x hx j y hy
 have hj:j < τ.sz:=by have:=(List.getElem?_eq_some_iff.1 hy).1; rwa [enc_len] at this
 have hql:q < l.length:=by
  have:=(List.getElem?_eq_some_iff.1 hx).1
  rwa [mid_len hi] at this
 have hil:i*τ.sz≤l.length*τ.sz:=Nat.mul_le_mul_right _ (by omega)
 have hirl:(i+r.length)*τ.sz≤l.length*τ.sz:=Nat.mul_le_mul_right _ hi
 rw [Nat.add_mul] at hirl
 have htl:(cur.toList.take (o+i*τ.sz)).length=o+i*τ.sz:=by simp; omega
 rw [List.getElem?_toArray,List.append_assoc]
 by_cases h1:q < i
 ·have hx':l[q]?=some x:=by
   rw [midA,List.getElem?_append_left (by simp; omega),List.getElem?_take,if_pos h1] at hx
   exact hx
  have:(q+1)*τ.sz≤i*τ.sz:=Nat.mul_le_mul_right _ h1
  rw [Nat.add_mul,Nat.one_mul] at this
  rw [List.getElem?_append_left (by omega),List.getElem?_take,if_pos (by omega),Array.getElem?_toList]
  exact h q x hx' j y hy
 ·have hle:i*τ.sz≤q*τ.sz:=Nat.mul_le_mul_right _ (by omega)
  have hti:(l.take i).length=i:=by simp; omega
  rw [midA,List.getElem?_append_right (by omega),hti] at hx
  rw [List.getElem?_append_right (by omega),htl]
  by_cases h2:q < i+r.length
  ·rw [List.getElem?_append_left (by omega)] at hx
   have hfg:=flat_get τ hx hy
   have hlt:=(List.getElem?_eq_some_iff.1 hfg).1
   have e:o+q*τ.sz+j - (o+i*τ.sz)=(q - i)*τ.sz+j:=by
    rw [Nat.sub_mul]; omega
   rw [e,List.getElem?_append_left hlt]
   exact hfg
  ·rw [List.getElem?_append_right (by omega),List.getElem?_drop] at hx
   have hx':l[q]?=some x:=by rw [← hx]; congr 1; omega
   have hle2:(i+r.length)*τ.sz≤q*τ.sz:=Nat.mul_le_mul_right _ (by omega)
   rw [Nat.add_mul] at hle2
   have hfl:=flat_len τ r
   rw [List.getElem?_append_right (by omega),List.getElem?_drop,Array.getElem?_toList]
   rw [show o+i*τ.sz+(flat τ r).length+(o+q*τ.sz+j - (o+i*τ.sz) - (flat τ r).length)=o+q*τ.sz+j by omega]
   exact h q x hx' j y hy
theorem appR_run {t e ty:TypeId} {i:TypeInfo} {τ:Ty} (hu:P.underlying t=some (.slice e)) (hi:P.info? e=some i) (hsz:i.size=τ.sz) {w:World} {g o':Nat} {cur:Array Value} {ty':TypeId} (hg:w.heap[g]?=some (.cells cur ty' (0,0))) {n c:Nat} {r:List τ.D}
  {A2:Option Addr} {c2:Nat} (hr:Src w A2 τ r) (hr2:r.length≤c2) (hroom:n+r.length≤c) (hfit:o'+c*τ.sz≤cur.size) :
  (Builtin.append_ #[t,t] ty #[.slice (some ⟨g,o',none⟩) n c,.slice A2 r.length c2]).run P w=.ok (.slice (some ⟨g,o',none⟩) (n+r.length) c) (w.setRow g (cur.toList.take (o'+n*τ.sz)++flat τ r++cur.toList.drop (o'+n*τ.sz+(flat τ r).length)).toArray):=by
 have hone:∀ u∈flat τ r,u.oneCell'=true:=fun u hu=>okV_one.1 (flat_ok τ r u hu)
 have h2:(n+r.length)*τ.sz≤c*τ.sz:=Nat.mul_le_mul_right _ hroom
 rw [Nat.add_mul] at h2
 rcases hr with ⟨rfl,rfl⟩ | ⟨a2,rfl,hnews⟩
 ·have hs:w.setRow g (cur.toList.take (o'+n*τ.sz)++flat τ []++cur.toList.drop (o'+n*τ.sz+(flat τ []).length)).toArray=w:=by
   rw [flat,List.append_nil,List.length_nil,Nat.add_zero,List.take_append_drop,Array.toArray_toList,setRow_self w g cur ty' (0,0) hg]
  rw [hs]
  have hn:n≤c:=by simpa using hroom
  simp [Builtin.append_,run_underlying hu,sizeOf,typeInfo,hi,Builtin.lenOf,Builtin.firstCells,hn,storeCells]
 ·have hnl:(flat τ r).length=r.length*i.size:=by rw [flat_len,hsz]
  have hin:∀ j,j < (flat τ r).length→o'+n*τ.sz+j < cur.size:=fun j hj=>by
   rw [flat_len] at hj; omega
  have hrun:=run_append_room_cells (P:=P) w t ty e i hu hi g o' n c a2 r.length c2 (flat τ r) hnl hnews hone hroom
   (fun j hj=>by rw [hsz,cell_of_heap hg]; have:=hin j hj; simp [this])
   (fun j hj=>by simp [World.frozen?,hg])
  rw [hsz] at hrun
  have hst:=run_storeCells_at P g (o'+n*τ.sz) ty' (flat τ r) 0 cur w hg (by rw [flat_len]; omega) hone
  have h1:=run_storeCells_cells (P:=P) g (o'+n*τ.sz) (flat τ r) 0 w (fun j hj=>by rw [Nat.add_zero,cell_of_heap hg]; have:=hin j hj; simp [this]) (fun j hj=>by simp [World.frozen?,hg]) hone
  rw [hst] at h1
  injection h1 with _ h1
  rw [hrun]
  congr 1
  simpa using h1.symm
theorem clear_run {t e ty:TypeId} {i:TypeInfo} {τ:Ty} (hu:P.underlying t=some (.slice e)) (hi:P.info? e=some i) (hsz:i.size=τ.sz) {z:Value} (hz:i.zero=some z) (hz2:z.cells.toList=τ.enc τ.zero) {w:World} {g o':Nat} {cur:Array Value} {ty':TypeId} (hg:w.heap[g]?=some (.cells cur ty' (0,0))) {n c:Nat} (hfit:o'+n*τ.sz≤cur.size) :
  (Builtin.clear_ #[t] ty #[.slice (some ⟨g,o',none⟩) n c]).run P w=.ok undef (w.setRow g (cur.toList.take o'++flat τ (List.replicate n τ.zero)++cur.toList.drop (o'+(flat τ (List.replicate n τ.zero)).length)).toArray):=by
 have hone:∀ u∈flat τ (List.replicate n τ.zero),u.oneCell'=true:=fun u hu=>okV_one.1 (flat_ok τ _ u hu)
 have hst:=run_storeCells_at P g o' ty' (flat τ (List.replicate n τ.zero)) 0 cur w hg (by rw [flat_len,List.length_replicate]; omega) hone
 simp only [Nat.add_zero] at hst
 cases n with
 | zero=>
  have hs:w.setRow g (cur.toList.take o'++flat τ (List.replicate 0 τ.zero)++cur.toList.drop (o'+(flat τ (List.replicate 0 τ.zero)).length)).toArray=w:=by
   rw [List.replicate_zero,flat,List.append_nil,List.length_nil,Nat.add_zero,List.take_append_drop,Array.toArray_toList,setRow_self w g cur ty' (0,0) hg]
  rw [hs]
  simp [Builtin.clear_,run_underlying hu,undef]
 | succ n=>
  have hzf:=zeros_flat (z:=z.cells) hz2 (n+1)
  simp [Builtin.clear_,run_underlying hu,zeroValue,typeInfo,hi,hz,hzf,hst,undef]
end
end Go.Ev
